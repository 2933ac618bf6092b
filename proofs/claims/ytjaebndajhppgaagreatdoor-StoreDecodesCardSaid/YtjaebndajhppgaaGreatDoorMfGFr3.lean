/-GFr3-/
import Derived.Test.YtjaebndajhppgaaGreatDoorMfHd1
import Derived.Test.YtjaebndajhppgaaGreatDoorMfGRe3
import Derived.Test.YtjaebndajhppgaaGreatDoorMfGRe2
import Derived.Test.YtjaebndajhppgaaGreatDoorMfGFr2
import Derived.Test.YtjaebndajhppgaaGreatDoorMfGRg2
set_option linter.unusedVariables false
set_option maxRecDepth 100000
set_option linter.unusedSimpArgs false
set_option maxHeartbeats 4000000
namespace Go.Proofs.YtjaebndajhppgaaGreatDoor
open Go.Proofs.Tryz
open Go Go.ChangeShapes Go.WideShapes Go.ChangeAt Go.RowKit
theorem ahh (a:Option Addr) (n cap:Nat) (W:World) (hn:300<n) (hm:n≤9223372036854775807) :
  Calls prog 58 #[.slice a n cap] W fun e W'=>e=.returned (.tuple #[.pointer none,.int .i64 1])∧W=W':=by
 go_enter func58,ntmps58;go_wp2;go_ret2
 exact ⟨rfl,rfl⟩
theorem ahi (a:Option Addr) (n cap k:Nat) (L:List (List UInt8)) (W:World) (hn:n≤300) (hk:k<n) (hb:¬ Fr.lF L k) (hg:∀ j,j<k→Fr.lF L j) (hlen:(Fr.at_ L k).length≤9223372036854775807) (hR:bM W a n fun i=>aA (L.getD i [])) :
  Calls prog 58 #[.slice a n cap] W fun e W'=>e=.returned (.tuple #[.pointer none,.int .i64 1])∧W=W':=by
 have HP:=aj (UJ hb hg);have HM:=aj hg;clear hb hg;go_enter func58,ntmps58;go_wp2;go_loop [11,4,5] (fun s11 s4 s5=>∃ i:Nat,i≤k∧s11=.int .i64 i) (fun s11 _ _=>k-(intOf s11).toNat)
 case atStart=>exact ⟨0,ak,rfl⟩
 case round=>
  obtain ⟨i,hin,rfl⟩:=hrel;have Bc:i<n:=ak;obtain ⟨b,off,rfl,hc⟩:=hR.get Bc;have c0:=hc i Bc;by_cases hlt:i<k
  · obtain ⟨h1,h2,h3⟩:=HM.out i hlt;unfold Fr.at_ at h1 h2 h3;obtain ⟨x,hx⟩:=aB (L.getD i []);rw [←hx] at c0 h1 h2 h3;have hx0:(x==[])=false:=beq_eq_false_iff_ne.2 (by intro e;rw [e] at h1;simp at h1);rcases Nat.eq_zero_or_pos i with h0 | h0
    · subst h0;rw [Nat.add_zero] at c0;clear hc hx h3;go_wp2;go_round
      (case rel=>exact ⟨1,ak,aN⟩);case measure=>simp [intOf];omega
    · have c1:=hc (i-1) ak;have h4:=h3 h0;obtain ⟨y,hy⟩:=aB (L.getD (i-1) []);rw [←hy] at c1 h4;have h4:Op.bytesLess y x=true:=h4;clear hc hx hy h3;go_wp2;go_round
      (case rel=>exact ⟨i+1,ak,aN⟩);case measure=>simp [intOf];omega
  · obtain rfl:i=k:=ak;have hp:=HP.out;unfold Fr.at_ at hp hlen;obtain ⟨x,hx⟩:=aB (L.getD i []);rw [←hx] at c0 hp hlen;rcases hp with h1 | ⟨h1,h2⟩ | ⟨h1,h2,h3,h4⟩
    · obtain rfl:x=[]:=List.eq_nil_of_length_eq_zero h1;rcases Nat.eq_zero_or_pos i with h0 | h0
      · subst h0;rw [Nat.add_zero] at c0;clear hc hx;go_wp2;go_ret2
        exact ⟨rfl,rfl⟩
      · clear hc hx;go_wp2;go_ret2
        exact ⟨rfl,rfl⟩
    · have hx0:(x==[])=false:=beq_eq_false_iff_ne.2 (by intro e;rw [e] at h1;simp at h1);rcases Nat.eq_zero_or_pos i with h0 | h0
      · subst h0;rw [Nat.add_zero] at c0;clear hc hx;go_wp2;go_ret2
        exact ⟨rfl,rfl⟩
      · clear hc hx;go_wp2;go_ret2
        exact ⟨rfl,rfl⟩
    · have hx0:(x==[])=false:=beq_eq_false_iff_ne.2 (by intro e;rw [e] at h1;simp at h1);have c1:=hc (i-1) ak;obtain ⟨y,hy⟩:=aB (L.getD (i-1) []);rw [←hy] at c1 h4;clear hc hx hy;go_wp2;go_ret2
      exact ⟨rfl,rfl⟩
theorem ahj (v:Value) (L:List (List UInt8)) (W:World) (h:fI W v L) (hl:∀ i,(L.getD i []).length≤140737488351232) (hm:¬ Fr.May L) :
  Calls prog 58 #[v] W fun e W'=>e=.returned (.tuple #[.pointer none,.int .i64 1])∧W=W':=by obtain ⟨a,cap,rfl,hc1,hc2,hc3,hR⟩:=h.open;have hlen:=h.len;by_cases h3:300<L.length;{exact ahh a _ cap W h3 (by unfold maxLen at hlen;omega)};{obtain ⟨k,hk,hb,hg⟩:=UL (n:=L.length) (p:=Fr.lF L) (fun h=>hm ⟨ak,h⟩);exact ahi a _ cap k L W ak hk hb hg (by have:=hl k;unfold Fr.at_;omega) hR}
theorem ahk {W:World} {a:Option Addr} {n r:Nat} {V:Nat→Value} (h:bM W a n V) (hr:r≤n):bM W (a.map fun x=>x.add r) (n-r) (fun i=>V (r+i)):=by rcases h with h0 | ⟨b,off,rfl,hc⟩;{exact Or.inl ak};{rcases Nat.eq_zero_or_pos (n-r) with h0 | h0;{exact Or.inl h0};{refine Or.inr ⟨b,off+r,?_,fun i hi=>?_⟩;{simp only [Option.map_some];rw [Addr.add_lit]};{rw [Nat.add_assoc];exact hc (r+i) ak}}}
end Go.Proofs.YtjaebndajhppgaaGreatDoor
namespace Go.Proofs.YtjaebndajhppgaaGreatDoor.Fr
open Go Go.ChangeShapes Go.WideShapes Go.ChangeAt Go.RowKit
theorem Bu {b:List Nat}:∀ {k:Nat} {L:List T} {x:T} {p:Nat},st b k=some (L,x,p)→L.length=k∧(2≤b.length→p≤b.length)∧2≤p
 | 0,L,x,p,h=>by
  simp only [st,Option.some.injEq,Prod.mk.injEq] at h
  obtain ⟨rfl,rfl,rfl⟩:=h
  exact ⟨rfl,fun h=>h,Nat.le_refl _⟩
 | k+1,L,x,p,h=>by
  rw [st] at h
  split at h
  · cases h
  · rename_i M y q h1
    obtain ⟨i1,i2,i3⟩:=Bu h1
    split at h
    · cases h
    · rename_i z r h2
      simp only [Option.some.injEq,Prod.mk.injEq] at h
      obtain ⟨rfl,rfl,rfl⟩:=h
      unfold ent at h2
      split at h2
      · cases h2
      · simp only [Option.some.injEq,Prod.mk.injEq] at h2
        obtain ⟨_,rfl⟩:=h2
        refine ⟨by simp [i1],fun _=>ak,ak⟩
theorem vK {b:List Nat} {k:Nat} (h:st b k=none):∀ {n},k≤n→st b n=none:=by
 intro n;induction n with
 | zero=>intro hk;rw [show k=0 by omega] at h;exact h
 | succ n ih=>intro hk;by_cases e:k=n+1;{rw [←e];exact h};{rw [st,ih ak]}
end Go.Proofs.YtjaebndajhppgaaGreatDoor.Fr
namespace Go.Proofs.YtjaebndajhppgaaGreatDoor
open Go.Proofs.Tryz
open Go.ChangeShapes Go.WideShapes Go.ChangeAt Go.RowKit
theorem VI {w:World} {B:Nat} {v:Value} {L:List (List UInt8)} {k:Nat} (h:w.ownsRow B 5 1 v (Fr.bf L k).length ((Fr.bf L k).map aM)):bN w v (Fr.bf L k):=bD.own h rfl
theorem Bv (a b:Nat) (ha:a<256) (hb:b<256):bits .or .i64 ((a:Int)*256) (b:Int)=((a*256+b:Nat):Int):=by have h:=Bn.zh (a*256) b ak ak;rw [Int.natCast_mul] at h;rw [show ((a:Int)*256)=(a:Int)*((256:Nat):Int) from rfl,h];congr 1;have:=Nat.two_pow_add_eq_or_of_lt (i:=8) (show b<2 ^ 8 by omega) a;rw [Nat.mul_comm a 256];exact this.symm
theorem Bw {W:World} {ab ao m k:Nat} {V:Nat→Value} (h:bM W (some ⟨ab,ao,none⟩) m V) (hk:k≤m):bM W (some ⟨ab,ao+k,none⟩) (m-k) (fun j=>V (k+j)):=by have:=ahk h hk;simp only [Option.map_some] at this;rwa [Addr.add_lit] at this
theorem VJ {W:World} {a:Option Addr} {m k:Nat} {V:Nat→Value} (h:bM W a m V) (hk:k≤m):bM W a k V:=by rcases h with h0 | ⟨b,off,e,hc⟩;{exact Or.inl ak};{exact Or.inr ⟨b,off,e,fun i hi=>hc i ak⟩}
theorem ahl {W:World} {ab ao m k p N c:Nat} {b:List Nat} (h:bM W (some ⟨ab,ao,none⟩) m fun j=>aM (b.getD (p+j) 0)) (hm:m=N-p) (hk:p+2+k≤N∧N-p≤c):bM W (if c-2=k then some ⟨ab,ao+2,none⟩ else some ⟨ab,ao+2+k,none⟩) (N-(p+2+k)) fun j=>aM (b.getD (p+2+k+j) 0):=by subst hm;by_cases e:c-2=k;{exact Or.inl ak};{rw [if_neg e];have h2:=Bw (Bw (k:=2) h ak) (show k≤N-p-2 by omega);rw [show N-p-2-k=N-(p+2+k) by omega] at h2;simpa only [Nat.add_assoc] using h2}
theorem K9 (a b:List UInt8):(⟨a.toArray⟩:ByteArray)++⟨b.toArray⟩=⟨(a++b).toArray⟩:=by apply ByteArray.ext;simp
theorem K_ {w:World} {a:Option Addr} {p k c:Nat} {b:List Nat} (hR:bM w a k fun j=>aM (b.getD (p+j) 0)) (hk:p+k≤b.length):(convert 32 9 (.slice a k c)).run prog w=.ok (aA (Fr.txt ((b.drop p).take k))) w:=by
 have hl:((b.drop p).take k).length=k:=by rw [List.length_take,List.length_drop];omega
 have:=x9 (P:=prog) w 32 5 9 underlying32 underlying5 underlying9 a k c ((b.drop p).take k) hl.symm (by
  rcases hR with h0 | ⟨bb,off,e,hc⟩;{exact Or.inl h0}
  · refine Or.inr ⟨bb,off,e,fun i hi=>?_⟩;rw [hc i hi];simp [aM,List.getD,List.getElem?_take,hi])
 rw [this];rfl
theorem VK (n:Nat):(madeCells #[.string ByteArray.empty] n).toList=List.replicate n (aA []):=by refine List.ext_getElem (by simp [madeCells]) fun i h1 h2=>?_;simp [madeCells,Nat.mod_one];rfl
theorem ahm {L:List (List UInt8)} {n:Nat} (y:List UInt8) (h:L.length<n):(L.map aA++List.replicate (n-L.length) (aA [])).set L.length (aA y)=(L++[y]).map aA++List.replicate (n-(L++[y]).length) (aA []):=by obtain ⟨r,hr⟩:∃ r,n-L.length=r+1:=⟨n-L.length-1,ak⟩;rw [hr,List.replicate_succ,show n-(L++[y]).length=r by rw [List.length_append,List.length_singleton];omega];rw [List.set_append_right _ _ aI];simp
theorem ahn (a:Option Addr) (N cap:Nat) (W:World) (hN:N<2):Calls prog 89 #[.slice a N cap] W fun e W'=>e=.returned (.tuple #[.slice none 0 0,.bool false])∧W=W':=by
 go_enter func89,ntmps89;go_wp2;go_ret2
 exact ⟨rfl,rfl⟩
theorem aho (a:Option Addr) (N cap:Nat) (b:List Nat) (W:World) (hN:2≤N) (hR:bM W a N fun i=>aM (b.getD i 0)) (hb:∀ i,b.getD i 0<256) (hc:300<Fr.cnt b):Calls prog 89 #[.slice a N cap] W fun e W'=>e=.returned (.tuple #[.slice none 0 0,.bool false])∧Below W.heap.size W W':=by
 obtain ⟨bb,off,rfl,hcc⟩:=hR.get (show 0<N by omega);have c0:=hcc 0 ak;have c1:=hcc 1 ak;rw [Nat.add_zero] at c0;have h0:=hb 0;have h1:=hb 1;unfold Fr.cnt at hc;obtain ⟨g0,e0⟩:=aB (b.getD 0 0);obtain ⟨g1,e1⟩:=aB (b.getD 1 0);rw [←e0] at c0 h0 hc;rw [←e1] at c1 h1 hc;have hor:=Bv g0 g1 h0 h1;obtain ⟨n,hn⟩:=aB (g0*256+g1);rw [←hn] at hor hc;unfold aM at c0 c1;clear hcc hR hb e0 e1 hn;go_enter func89,ntmps89;go_wp2;go_region
 go_wp2;go_ret2
 exact ⟨rfl,(Below.refl _ _).drew⟩
theorem ahp (a:Option Addr) (N cap n:Nat) (b:List Nat) (W:World) (hN:2≤N) (hNb:N=b.length) (hNc:N≤cap) (hcm:cap≤maxLen) (hR:bM W a N fun i=>aM (b.getD i 0)) (hb:∀ i,b.getD i 0<256) (hc:n=Fr.cnt b) (rM:n≤300) :
  Calls prog 89 #[.slice a N cap] W fun e W'=>∃ u ok,e=.returned (.tuple #[u,.bool ok])∧Below W.heap.size W W'∧((Fr.st b n=none∧ok=false)∨∃ L x p,Fr.st b n=some (L,x,p)∧ok=true∧fI W' u L):=by
 obtain ⟨i0,hi,hz0,hz1,hz2⟩:=info_parts Tryz.info9;have mk1:∀ W:World,(Instr.makeSlice 47 (.int .i64 (n:Int)) (.int .i64 (n:Int))).run prog W=_:=fun W=>run_make W 47 9 i0 _ underlying47 hi hz0 .i64 .i64 n n ak ak (by rw [hz2];omega) ak;obtain ⟨bb,off,rfl,hcc⟩:=hR.get (show 0<N by omega);have c0:=hcc 0 ak;have c1:=hcc 1 ak;rw [Nat.add_zero] at c0;have h0:=hb 0;have h1:=hb 1;have HR:=aj hR;have oQ:=aj hb;have fK:=aj hNb;have HB0:=aj (show Fr.st b 0=some ([],[],2) from rfl);unfold Fr.cnt at hc;obtain ⟨g0,e0⟩:=aB (b.getD 0 0);obtain ⟨g1,e1⟩:=aB (b.getD 1 0);rw [←e0] at c0 h0 hc;rw [←e1] at c1 h1 hc;have hor:=Bv g0 g1 h0 h1;rw [←hc] at hor;unfold aM at c0 c1;unfold maxLen at hcm;clear hcc hR hb e0 e1 hc hNb;go_enter func89,ntmps89;go_wp2;go_region
 by_cases hcap:cap=2
 · subst hcap;obtain rfl:N=2:=ak;(go_wp2_with fail);go_loopw [0,6,7,8,9,31] (fun s0 s6 s7 s8 s9 vL wr=>∃ (i:Nat) (L:List (List UInt8)) (x:List UInt8) (p:Nat) (a':Option Addr) (c':Nat),i≤n∧vL=.int .i64 i∧s6=aA x∧s0=.slice a' (2-p) c'∧p≤2∧2≤p∧2-p≤c'∧c'≤9223372036854775807∧x.length≤510∧Hid (Fr.st b i=some (L,x,p))∧Hid (bM W a' (2-p) fun j=>aM (b.getD (p+j) 0))∧Hid (aC wr W.heap.size (L.map aA++List.replicate (n-L.length) (aA [])) 9)∧Hid (Below W.heap.size W wr)∧W.heap.size<wr.heap.size) (fun _ _ _ _ _ vL _=>n-(intOf vL).toNat)
   (case atStart=>refine ⟨0,[],[],2,_,_,ak,rfl,rfl,rfl,ak,ak,ak,ak,aI,HB0.out,Or.inl ak,?_,?_,aI⟩;{exact (aC.new' (A:=List.replicate n (aA [])) rfl (VK n)).drew};{exact ((Below.refl _ _).alloc aF _).drew});case round=>
    obtain ⟨i,L,x,p,a',c',hin,rfl,rfl,rfl,VL,hp2,hc1,hc2,hxl,HS,lG,ig,HB,hz⟩:=hrel;obtain ⟨mM,_,_⟩:=Fr.Bu HS.out;by_cases hlt:i<n
    · by_cases hA:2-p<2
      · have fA:=aj (Fr.vK (k:=i+1) (by rw [Fr.mK HS.out];unfold Fr.ent;rw [if_pos (.inl (by rw [←fK.out];omega))]) (show i+1≤n by omega));go_wp2;go_ret2
        exact ⟨_,_,rfl,HB.out,.inl ⟨fA.out,rfl⟩⟩
      {exact absurd hA ak}
    · obtain rfl:i=n:=ak;go_wp2;go_ret2
      refine ⟨_,_,rfl,HB.out,.inr ⟨L,x,p,HS.out,rfl,?_⟩⟩;have hB:=ig.out;rw [mM,Nat.sub_self,List.replicate_zero,List.append_nil] at hB;exact bD.blk hB mM.symm (fun j hj=>by simp [List.getD,show j<L.length by omega]) i aF (by unfold maxLen;omega)
 · (go_wp2_with fail);go_loopw [0,6,7,8,9,31] (fun s0 s6 s7 s8 s9 vL wr=>∃ (i:Nat) (L:List (List UInt8)) (x:List UInt8) (p:Nat) (a':Option Addr) (c':Nat),i≤n∧vL=.int .i64 i∧s6=aA x∧s0=.slice a' (N-p) c'∧p≤N∧2≤p∧N-p≤c'∧c'≤9223372036854775807∧x.length≤510∧Hid (Fr.st b i=some (L,x,p))∧Hid (bM W a' (N-p) fun j=>aM (b.getD (p+j) 0))∧Hid (aC wr W.heap.size (L.map aA++List.replicate (n-L.length) (aA [])) 9)∧Hid (Below W.heap.size W wr)∧W.heap.size<wr.heap.size) (fun _ _ _ _ _ vL _=>n-(intOf vL).toNat)
   (case atStart=>refine ⟨0,[],[],2,_,_,ak,rfl,rfl,rfl,ak,ak,ak,ak,aI,HB0.out,Bw HR.out ak,?_,?_,aI⟩;{exact (aC.new' (A:=List.replicate n (aA [])) rfl (VK n)).drew};{exact ((Below.refl _ _).alloc aF _).drew});case round=>
    obtain ⟨i,L,x,p,a',c',hin,rfl,rfl,rfl,VL,hp2,hc1,hc2,hxl,HS,lG,ig,HB,hz⟩:=hrel;obtain ⟨mM,_,_⟩:=Fr.Bu HS.out;by_cases hlt:i<n
    · by_cases hA:N-p<2
      · have fA:=aj (Fr.vK (k:=i+1) (by rw [Fr.mK HS.out];unfold Fr.ent;rw [if_pos (.inl (by rw [←fK.out];omega))]) (show i+1≤n by omega));go_wp2;go_ret2
        exact ⟨_,_,rfl,HB.out,.inl ⟨fA.out,rfl⟩⟩
      · obtain ⟨ab,ao,rfl,hcc⟩:=(lG.out.keep HB.out).get (show 0<N-p by omega);have d0:=hcc 0 ak;have d1:=hcc 1 ak;rw [Nat.add_zero,Nat.add_zero] at d0;have l0:=oQ.out p;have l1:=oQ.out (p+1);obtain ⟨k0,e0⟩:=aB (b.getD p 0);obtain ⟨k1,e1⟩:=aB (b.getD (p+1) 0);have pV:=aj e0;have pW:=aj e1;rw [←e0] at d0 l0;rw [←e1] at d1 l1;unfold aM at d0 d1;have hbl:N=b.length:=fK.out;have VN:=aj (ig.out.cell (i:=i) (v:=aA []) (by rw [List.getElem?_append_right (by simp [mM]),List.length_map,mM,Nat.sub_self,List.getElem?_replicate,if_pos ak]));have VO:=aj (ig.out.free i);have Fh:=aj (fun y=>ahm (L:=L) (n:=n) y ak);clear hcc e0 e1;go_wp2;go_region
        by_cases hcp:c'=2
        · subst hcp;have hN2:N=p+2:=ak;by_cases f1:x.length<k0
          · have fA:=aj (Fr.vK (k:=i+1) (by rw [Fr.mK HS.out];unfold Fr.ent;rw [←pV.out,←pW.out,if_pos ak]) (show i+1≤n by omega));have eB:=aj (bn HB.out 1);go_wp2;go_ret2
            exact ⟨_,_,rfl,eB.out,.inl ⟨fA.out,rfl⟩⟩
          · by_cases f2:N<p+2+k1
            · have fA:=aj (Fr.vK (k:=i+1) (by rw [Fr.mK HS.out];unfold Fr.ent;rw [←pV.out,←pW.out,if_pos ak]) (show i+1≤n by omega));have eB:=aj (bn HB.out 1);go_wp2;go_ret2
              exact ⟨_,_,rfl,eB.out,.inl ⟨fA.out,rfl⟩⟩
            · have HRW:=aj (show bM W (some ⟨ab,ao,none⟩) k1 (fun j=>aM (b.getD (p+2+j) 0)) from Or.inl ak);have hcv:(convert 32 9 (.slice (some ⟨ab,ao,none⟩) k1 0)).run prog wr.drew.drew=.ok (aA (Fr.txt ((b.drop (p+2)).take k1))) wr.drew.drew:=K_ (HRW.out.keep HB.out.drew.drew) ak;have f3:k0≤x.length:=ak;have e1:=vS x k0;have hl1:(x.take k0).length=k0:=(by rw [List.length_take];omega);have hl2:(Fr.txt ((b.drop (p+2)).take k1)).length=k1:=(by unfold Fr.txt;rw [List.length_map,List.length_take,List.length_drop];omega);have e2:=K9 (x.take k0) (Fr.txt ((b.drop (p+2)).take k1));have HS2:=aj (show Fr.st b (i+1)=some (L++[x.take k0++Fr.txt ((b.drop (p+2)).take k1)],x.take k0++Fr.txt ((b.drop (p+2)).take k1),p+2+k1) by rw [Fr.mK HS.out];unfold Fr.ent;rw [←pV.out,←pW.out,if_neg ak]);have hyl:(x.take k0++Fr.txt ((b.drop (p+2)).take k1)).length≤510:=(by rw [List.length_append];omega);obtain ⟨y,hy⟩:=aB (x.take k0++Fr.txt ((b.drop (p+2)).take k1));rw [←hy] at e2 HS2 hyl;obtain ⟨y1,hy1⟩:=aB (x.take k0);rw [←hy1] at e1 e2 hl1;obtain ⟨y2,hy2⟩:=aB (Fr.txt ((b.drop (p+2)).take k1));rw [←hy2] at e2 hcv hl2;have kc:=VN.out;have kf:=VO.out;clear hy hy1 hy2;go_wp2;go_region
              go_wp2;go_roundw
              (case rel=>have hB:=ig.out.set L.length (aA y);rw [Fh.out y,mM] at hB;exact ⟨i+1,L++[y],y,p+2+k1,some ⟨ab,ao,none⟩,0,ak,aN,rfl,by rw [show b.length-p-2-k1=N-(p+2+k1) by omega],ak,ak,ak,ak,hyl,HS2.out,Or.inl ak,hB.drew.drew,(HB.out.setCell (p:=⟨W.heap.size,i,none⟩) aF _).drew.drew,by simpa using hz⟩);case measure=>simp [intOf];omega
        · by_cases f1:x.length<k0
          · have fA:=aj (Fr.vK (k:=i+1) (by rw [Fr.mK HS.out];unfold Fr.ent;rw [←pV.out,←pW.out,if_pos ak]) (show i+1≤n by omega));have eB:=aj (bn HB.out 1);go_wp2;go_ret2
            exact ⟨_,_,rfl,eB.out,.inl ⟨fA.out,rfl⟩⟩
          · by_cases f2:N<p+2+k1
            · have fA:=aj (Fr.vK (k:=i+1) (by rw [Fr.mK HS.out];unfold Fr.ent;rw [←pV.out,←pW.out,if_pos ak]) (show i+1≤n by omega));have eB:=aj (bn HB.out 1);go_wp2;go_ret2
              exact ⟨_,_,rfl,eB.out,.inl ⟨fA.out,rfl⟩⟩
            · have HRW:=aj (show bM W (some ⟨ab,ao+2,none⟩) k1 (fun j=>aM (b.getD (p+2+j) 0)) from by have h5:=VJ (Bw (k:=2) lG.out ak) (show k1≤N-p-2 by omega);simpa only [Nat.add_assoc] using h5);have hcv:(convert 32 9 (.slice (some ⟨ab,ao+2,none⟩) k1 (c'-2))).run prog wr.drew.drew=.ok (aA (Fr.txt ((b.drop (p+2)).take k1))) wr.drew.drew:=K_ (HRW.out.keep HB.out.drew.drew) ak;have f3:k0≤x.length:=ak;have e1:=vS x k0;have hl1:(x.take k0).length=k0:=(by rw [List.length_take];omega);have hl2:(Fr.txt ((b.drop (p+2)).take k1)).length=k1:=(by unfold Fr.txt;rw [List.length_map,List.length_take,List.length_drop];omega);have e2:=K9 (x.take k0) (Fr.txt ((b.drop (p+2)).take k1));have HS2:=aj (show Fr.st b (i+1)=some (L++[x.take k0++Fr.txt ((b.drop (p+2)).take k1)],x.take k0++Fr.txt ((b.drop (p+2)).take k1),p+2+k1) by rw [Fr.mK HS.out];unfold Fr.ent;rw [←pV.out,←pW.out,if_neg ak]);have hyl:(x.take k0++Fr.txt ((b.drop (p+2)).take k1)).length≤510:=(by rw [List.length_append];omega);obtain ⟨y,hy⟩:=aB (x.take k0++Fr.txt ((b.drop (p+2)).take k1));rw [←hy] at e2 HS2 hyl;obtain ⟨y1,hy1⟩:=aB (x.take k0);rw [←hy1] at e1 e2 hl1;obtain ⟨y2,hy2⟩:=aB (Fr.txt ((b.drop (p+2)).take k1));rw [←hy2] at e2 hcv hl2;have kc:=VN.out;have kf:=VO.out;clear hy hy1 hy2;go_wp2;go_region
              go_wp2;go_roundw
              (case rel=>have hB:=ig.out.set L.length (aA y);rw [Fh.out y,mM] at hB;exact ⟨i+1,L++[y],y,p+2+k1,(if c'-2=k1 then some ⟨ab,ao+2,none⟩ else some ⟨ab,ao+2+k1,none⟩),c'-2-k1,ak,aN,rfl,by rw [show b.length-p-2-k1=N-(p+2+k1) by omega],ak,ak,ak,ak,hyl,HS2.out,ahl (k:=k1) lG.out rfl ⟨ak,ak⟩,hB.drew.drew,(HB.out.setCell (p:=⟨W.heap.size,i,none⟩) aF _).drew.drew,by simpa using hz⟩);case measure=>simp [intOf];omega
    · obtain rfl:i=n:=ak;go_wp2;go_ret2
      refine ⟨_,_,rfl,HB.out,.inr ⟨L,x,p,HS.out,rfl,?_⟩⟩;have hB:=ig.out;rw [mM,Nat.sub_self,List.replicate_zero,List.append_nil] at hB;exact bD.blk hB mM.symm (fun j hj=>by simp [List.getD,show j<L.length by omega]) i aF (by unfold maxLen;omega)
theorem Fr.ahq {b:List Nat} (hb:∀ i,b.getD i 0<256) {x y:List UInt8} {p q:Nat} (h:Fr.ent b x p=some (y,q)):y.length≤510:=by unfold Fr.ent at h;split at h;{cases h};{simp only [Option.some.injEq,Prod.mk.injEq] at h;obtain ⟨rfl,_⟩:=h;have h0:=hb p;have h1:=hb (p+1);unfold Fr.txt;rw [List.length_append,List.length_take,List.length_map,List.length_take];omega}
theorem Fr.La {b:List Nat} (hb:∀ i,b.getD i 0<256):∀ {k:Nat} {L:List (List UInt8)} {x:List UInt8} {p:Nat},Fr.st b k=some (L,x,p)→∀ t∈L,t.length≤510
 | 0,L,x,p,h=>by
  simp only [Fr.st,Option.some.injEq,Prod.mk.injEq] at h
  obtain ⟨rfl,_⟩:=h
  intro t ht;cases ht
 | k+1,L,x,p,h=>by
  rw [Fr.st] at h
  split at h
  · cases h
  · rename_i M y q h1
    split at h
    · cases h
    · rename_i z r h2
      simp only [Option.some.injEq,Prod.mk.injEq] at h
      obtain ⟨rfl,_,_⟩:=h
      intro t ht
      rcases List.mem_append.1 ht with ht | ht
      · exact Fr.La hb h1 t ht
      · obtain rfl:t=z:=by simpa using ht
        exact Fr.ahq hb h2
theorem VP {L:List (List UInt8)} {m:Nat} (h:∀ t∈L,t.length≤m) (i:Nat):(L.getD i []).length≤m:=by
 simp only [List.getD];cases h1:L[i]? with
 | none=>simp
 | some t=>exact h t (List.mem_of_getElem? h1)
def Fr.vM (b:List Nat):Option (List (List UInt8)):=if b.length<2∨300<Fr.cnt b then none else (Fr.st b (Fr.cnt b)).map (·.1)
theorem ahr (v:Value) (b:List Nat) (W:World) (h:bN W v b) (hb:∀ i,b.getD i 0<256) :
  Calls prog 89 #[v] W fun e W'=>∃ u ok,e=.returned (.tuple #[u,.bool ok])∧Below W.heap.size W W'∧((Fr.vM b=none∧ok=false)∨∃ L,Fr.vM b=some L∧ok=true∧fI W' u L∧∀ i,(L.getD i []).length≤510):=by obtain ⟨a,cap,rfl,hc1,hc2,hc3,hR⟩:=h.open;unfold Fr.vM;by_cases h1:b.length<2;{rw [if_pos (.inl h1)];refine (ahn a _ cap W h1).mono ?_;rintro e w' ⟨rfl,rfl⟩;exact ⟨_,_,rfl,Below.refl _ _,.inl ⟨rfl,rfl⟩⟩};{by_cases h2:300<Fr.cnt b;{rw [if_pos (.inr h2)];refine (aho a _ cap b W ak hR hb h2).mono ?_;rintro e w' ⟨rfl,hbl⟩;exact ⟨_,_,rfl,hbl,.inl ⟨rfl,rfl⟩⟩};{rw [if_neg ak];refine (ahp a _ cap _ b W ak rfl hc1 hc2 hR hb rfl ak).mono ?_;rintro e w' ⟨u,ok,rfl,hbl,hr⟩;refine ⟨u,ok,rfl,hbl,?_⟩;rcases hr with ⟨h3,h4⟩ | ⟨L,x,p,h3,h4,h5⟩;{exact .inl ⟨by rw [h3];rfl,h4⟩};{exact .inr ⟨L,by rw [h3];rfl,h4,h5,VP (Fr.La hb h3)⟩}}}
theorem ahs {b:List Nat} (h:Fr.vM b=none):Fr.res b=none:=by
 unfold Fr.vM at h;unfold Fr.res Fr.rd;by_cases h1:b.length<2;{rw [if_pos h1]}
 · rw [if_neg h1];by_cases h2:300<Fr.cnt b
   · cases hs:Fr.st b (Fr.cnt b) with
     | none=>rfl
     | some s=>obtain ⟨L,x,p⟩:=s;obtain ⟨hl,_,_⟩:=Fr.Bu hs;show (if Fr.May L∧Fr.bf L L.length=b then some L else none)=none;rw [if_neg (fun hh=>by have:=hh.1.1;omega)]
   · rw [if_neg ak] at h;cases hs:Fr.st b (Fr.cnt b) with
     | none=>rfl
     | some s=>rw [hs] at h;cases h
theorem aht {b:List Nat} {L:List (List UInt8)} (h:Fr.vM b=some L):Fr.res b=if Fr.May L∧Fr.bf L L.length=b then some L else none:=by
 unfold Fr.vM at h;unfold Fr.res Fr.rd;split at h;{cases h}
 · rename_i hn;rw [if_neg ak];cases hs:Fr.st b (Fr.cnt b) with
   | none=>rw [hs] at h;cases h
   | some s=>rw [hs] at h;obtain rfl:s.1=L:=(by simpa using h);rfl
theorem VQ (l:List Nat):(strOf l).toList=l.map fun x=>UInt8.ofNat x:=by unfold strOf;rw [ByteArray.toList_eq]
theorem VU {k l:List Nat} (hk:∀ i,k.getD i 0<256) (hl:∀ i,l.getD i 0<256):((strOf k).toList==(strOf l).toList)=decide (k=l):=by by_cases h:k=l;{rw [h,decide_eq_true rfl];simp};{rw [decide_eq_false h];refine beq_eq_false_iff_ne.2 fun e=>h (KC hk hl ?_);rw [VQ,VQ] at e;unfold strOf;rw [e]}
theorem ahu (u v:Value) (k l:List Nat) (W:World) (hu:bN W u k) (hv:bN W v l) (hk:∀ i,k.getD i 0<256) (hl:∀ i,l.getD i 0<256) :
  Calls prog 50 #[u,v] W fun e W'=>e=.returned (.bool (decide (k=l)))∧W=W':=by have h1:=mP (P:=prog) underlying32 underlying5 underlying9 W u k hu;have h2:=mP (P:=prog) underlying32 underlying5 underlying9 W v l hv;have h3:=VU hk hl;obtain ⟨x,hx⟩:=aB (strOf k);obtain ⟨y,hy⟩:=aB (strOf l);rw [←hx] at h1 h3;rw [←hy] at h2 h3;have H3:=aj h3;clear hx hy h3;go_enter func50,ntmps50;go_wp2;go_ret;exact ⟨gF H3.out,rfl⟩
theorem VW {L:List (List UInt8)} (hm:Fr.May L) (i:Nat):(Fr.bf L L.length).getD i 0<256:=by
 simp only [List.getD];cases h:(Fr.bf L L.length)[i]? with
 | none=>simp
 | some x=>exact Fr.EO hm L.length aF x (List.mem_of_getElem? h)
theorem VX (v:Value) (b:List Nat) (W:World) (h:bN W v b) (hb:∀ i,b.getD i 0<256) :
  Calls prog 47 #[v] W fun e W'=>Below W.heap.size W W'∧((Fr.res b=none∧e=.returned (.tuple #[.pointer none,.int .i64 2]))∨∃ L p,Fr.res b=some L∧Fr.May L∧Fr.bf L L.length=b∧e=.returned (.tuple #[.pointer (some ⟨p,0,none⟩),.int .i64 0])∧mq W' p L):=by
 have RT:=aj (ahr v b W h hb);have HV:=aj h;clear h;go_enter func47,ntmps47;go_wp2_with fail
 refine RT.out.mono ?_;rintro e w1 ⟨u,ok,rfl,hb1,hr⟩;rcases hr with ⟨hr,rfl⟩ | ⟨L,hr,rfl,hT,hl⟩
 · have pX:=aj (ahs hr);clear hr;go_wp2;go_ret2
   exact ⟨hb1,.inl ⟨pX.out,rfl⟩⟩
 · have pX:=aj (aht hr);clear hr;by_cases hm:Fr.May L
   · have NW:=aj (Tw u L w1 hT hm);have HM:=aj hm;have HB1:=aj hb1;have BY:=aj (fun p w h=>Tz p L w h hm);clear hm hT hb1 hl;(go_wp2_with fail);refine NW.out.mono ?_;rintro e w2 ⟨p,rfl,hb2,hD,_,_⟩;have HB2:=aj (aJ HB1.out hb2);have HD:=aj hD;clear hb2 hD;(go_wp2_with fail);refine (BY.out p w2 HD.out).mono ?_;rintro e w3 ⟨v3,rfl,hb3,hown⟩;have HB3:=aj (aJ HB2.out hb3);have HD3:=aj (HD.out.keep hb3);have BE:=aj (ahu v3 v (Fr.bf L L.length) b w3 (VI hown) (HV.out.keep HB3.out) (VW HM.out) hb);clear hb3 hown;by_cases he:Fr.bf L L.length=b
     · rw [decide_eq_true he] at BE;have HE:=aj he;clear he;(go_wp2_with fail);refine BE.out.mono ?_;rintro e w' ⟨rfl,rfl⟩;go_wp2;go_ret2
       exact ⟨HB3.out,.inr ⟨L,p,by rw [pX.out,if_pos ⟨HM.out,HE.out⟩],HM.out,HE.out,rfl,HD3.out⟩⟩
     · rw [decide_eq_false he] at BE;have HE:=aj he;clear he;(go_wp2_with fail);refine BE.out.mono ?_;rintro e w' ⟨rfl,rfl⟩;go_wp2;go_ret2
       exact ⟨HB3.out,.inl ⟨by rw [pX.out,if_neg (fun h=>HE.out h.2)],rfl⟩⟩
   · have NW:=aj (ahj u L w1 hT (fun i=>Nat.le_trans (hl i) ak) hm);have HM:=aj hm;clear hm hT hl;(go_wp2_with fail);refine NW.out.mono ?_;rintro e w' ⟨rfl,rfl⟩;go_wp2;go_ret2
     exact ⟨hb1,.inl ⟨by rw [pX.out,if_neg (fun h=>HM.out h.1)],rfl⟩⟩
end Go.Proofs.YtjaebndajhppgaaGreatDoor
