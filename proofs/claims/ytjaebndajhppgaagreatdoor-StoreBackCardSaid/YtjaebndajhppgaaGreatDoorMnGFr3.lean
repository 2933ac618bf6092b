/-GFr3-/
import Derived.Test.YtjaebndajhppgaaGreatDoorMnGRe3
import Derived.Test.YtjaebndajhppgaaGreatDoorMnGRe2
import Derived.Test.YtjaebndajhppgaaGreatDoorMnSoDecM
import Derived.Test.YtjaebndajhppgaaGreatDoorMnGRg2
set_option linter.unusedVariables false
set_option maxRecDepth 100000
set_option linter.unusedSimpArgs false
set_option maxHeartbeats 4000000
namespace Go.Proofs.YtjaebndajhppgaaGreatDoor
open Go Go.ChangeShapes Go.WideShapes Go.ChangeAt Go.RowKit
theorem ae8 {n:Nat} {p:Nat→Prop} (h:¬ ∀ i,i<n→p i):∃ k,k<n∧¬ p k∧∀ j,j<k→p j:=by
 induction n with
 | zero=>exact absurd (fun i hi=>by omega) h
 | succ n ih=>by_cases hn:∀ i,i<n→p i;{refine ⟨n,by omega,fun hp=>h fun i hi=>?_,hn⟩;by_cases he:i=n;{rw [he];exact hp};{exact hn i (by omega)}};{obtain ⟨k,hk,h1,h2⟩:=ih hn;exact ⟨k,by omega,h1,h2⟩}
theorem ae9 {L:List (List UInt8)} {k:Nat} (h:¬ Fr.oO L k) (hk:∀ j,j<k→Fr.oO L j):(Fr.at_ L k).length=0∨(1≤(Fr.at_ L k).length∧250<(Fr.at_ L k).length)∨(1≤(Fr.at_ L k).length∧(Fr.at_ L k).length≤250∧0<k∧Op.bytesLess (Fr.at_ L (k-1)) (Fr.at_ L k)=false):=by
 unfold Fr.oO at h;by_cases h1:1≤(Fr.at_ L k).length
 · by_cases h2:(Fr.at_ L k).length≤250
   · by_cases h3:0<k
     · cases h4:Op.bytesLess (Fr.at_ L (k-1)) (Fr.at_ L k) with
       | false=>exact .inr (.inr ⟨h1,h2,h3,rfl⟩)
       | true=>exact absurd ⟨h1,h2,fun _=>h4⟩ h
     {exact absurd ⟨h1,h2,fun h=>absurd h h3⟩ h}
   {exact .inr (.inl ⟨h1,by omega⟩)}
 {exact .inl (by omega)}
theorem ae_ (a:Option Addr) (n cap:Nat) (W:World) (hn:300<n) (hm:n≤9223372036854775807) :
  Calls Tryz.prog 58 #[.slice a n cap] W fun e W'=>e=.returned (.tuple #[.pointer none,.int .i64 1])∧W=W':=by
 go_enter Tryz.func58,Tryz.ntmps58;go_wp2;go_ret2
 exact ⟨rfl,rfl⟩
theorem afa (a:Option Addr) (n cap k:Nat) (L:List (List UInt8)) (W:World) (hn:n≤300) (hk:k<n) (hb:¬ Fr.oO L k) (hg:∀ j,j<k→Fr.oO L j) (hlen:(Fr.at_ L k).length≤9223372036854775807) (hR:bW W a n fun i=>str (L.getD i [])) :
  Calls Tryz.prog 58 #[.slice a n cap] W fun e W'=>e=.returned (.tuple #[.pointer none,.int .i64 1])∧W=W':=by
 have HP:=hid (ae9 hb hg);have HM:=hid hg;clear hb hg;go_enter Tryz.func58,Tryz.ntmps58;go_wp2;go_loop [11,4,5] (fun s11 s4 s5=>∃ i:Nat,i≤k∧s11=.int .i64 i) (fun s11 _ _=>k-(intOf s11).toNat)
 case atStart=>exact ⟨0,by omega,rfl⟩
 case round=>
  obtain ⟨i,hin,rfl⟩:=hrel;have Ry:i<n:=by omega
  obtain ⟨b,off,rfl,hc⟩:=hR.get Ry;have c0:=hc i Ry;by_cases hlt:i<k
  · obtain ⟨h1,h2,h3⟩:=HM.out i hlt;unfold Fr.at_ at h1 h2 h3;obtain ⟨x,hx⟩:∃ x,x=L.getD i []:=⟨_,rfl⟩;rw [←hx] at c0 h1 h2 h3;have hx0:(x==[])=false:=beq_eq_false_iff_ne.2 (by intro e;rw [e] at h1;simp at h1);rcases Nat.eq_zero_or_pos i with h0 | h0
    · subst h0;rw [Nat.add_zero] at c0;clear hc hx h3;go_wp2;go_round
      (case rel=>exact ⟨1,by omega,by go_num⟩);case measure=>simp [intOf];omega
    · have c1:=hc (i-1) (by omega);have h4:=h3 h0;obtain ⟨y,hy⟩:∃ y,y=L.getD (i-1) []:=⟨_,rfl⟩;rw [←hy] at c1 h4;have h4:Op.bytesLess y x=true:=h4;clear hc hx hy h3;go_wp2;go_round
      (case rel=>exact ⟨i+1,by omega,by go_num⟩);case measure=>simp [intOf];omega
  · obtain rfl:i=k:=(by omega);have hp:=HP.out;unfold Fr.at_ at hp hlen;obtain ⟨x,hx⟩:∃ x,x=L.getD i []:=⟨_,rfl⟩;rw [←hx] at c0 hp hlen;rcases hp with h1 | ⟨h1,h2⟩ | ⟨h1,h2,h3,h4⟩
    · obtain rfl:x=[]:=List.eq_nil_of_length_eq_zero h1;rcases Nat.eq_zero_or_pos i with h0 | h0
      · subst h0;rw [Nat.add_zero] at c0;clear hc hx;go_wp2;go_ret2
        exact ⟨rfl,rfl⟩
      · clear hc hx;go_wp2;go_ret2
        exact ⟨rfl,rfl⟩
    · have hx0:(x==[])=false:=beq_eq_false_iff_ne.2 (by intro e;rw [e] at h1;simp at h1);rcases Nat.eq_zero_or_pos i with h0 | h0
      · subst h0;rw [Nat.add_zero] at c0;clear hc hx;go_wp2;go_ret2
        exact ⟨rfl,rfl⟩
      · clear hc hx;go_wp2;go_ret2
        exact ⟨rfl,rfl⟩
    · have hx0:(x==[])=false:=beq_eq_false_iff_ne.2 (by intro e;rw [e] at h1;simp at h1);have c1:=hc (i-1) (by omega);obtain ⟨y,hy⟩:∃ y,y=L.getD (i-1) []:=⟨_,rfl⟩;rw [←hy] at c1 h4;clear hc hx hy;go_wp2;go_ret2
      exact ⟨rfl,rfl⟩
theorem afb (v:Value) (L:List (List UInt8)) (W:World) (h:iR W v L) (hl:∀ i,(L.getD i []).length≤140737488351232) (hm:¬ Fr.May L) :
  Calls Tryz.prog 58 #[v] W fun e W'=>e=.returned (.tuple #[.pointer none,.int .i64 1])∧W=W':=by obtain ⟨a,cap,rfl,hc1,hc2,hc3,hR⟩:=h.open;have hlen:=h.len;by_cases h3:300<L.length;{exact ae_ a _ cap W h3 (by unfold maxLen at hlen;omega)};{obtain ⟨k,hk,hb,hg⟩:=ae8 (n:=L.length) (p:=Fr.oO L) (fun h=>hm ⟨by omega,h⟩);exact afa a _ cap k L W (by omega) hk hb hg (by have:=hl k;unfold Fr.at_;omega) hR}
theorem afc {W:World} {a:Option Addr} {n r:Nat} {V:Nat→Value} (h:bW W a n V) (hr:r≤n):bW W (a.map fun x=>x.add r) (n-r) (fun i=>V (r+i)):=by rcases h with h0 | ⟨b,off,rfl,hc⟩;{exact Or.inl (by omega)};{rcases Nat.eq_zero_or_pos (n-r) with h0 | h0;{exact Or.inl h0};{refine Or.inr ⟨b,off+r,?_,fun i hi=>?_⟩;{simp only [Option.map_some];rw [Addr.add_lit]};{rw [Nat.add_assoc];exact hc (r+i) (by omega)}}}
end Go.Proofs.YtjaebndajhppgaaGreatDoor
namespace Go.Proofs.YtjaebndajhppgaaGreatDoor.Fr
open Go Go.ChangeShapes Go.WideShapes Go.ChangeAt Go.RowKit
theorem Ct {b:List Nat}:∀ {k:Nat} {L:List T} {x:T} {p:Nat},st b k=some (L,x,p)→L.length=k∧(2≤b.length→p≤b.length)∧2≤p
 | 0,L,x,p,h=>by
  simp only [st,Option.some.injEq,Prod.mk.injEq] at h
  obtain ⟨rfl,rfl,rfl⟩:=h
  exact ⟨rfl,fun h=>h,Nat.le_refl _⟩
 | k+1,L,x,p,h=>by
  rw [st] at h
  split at h
  · cases h
  · rename_i M y q h1
    obtain ⟨i1,i2,i3⟩:=Ct h1
    split at h
    · cases h
    · rename_i z r h2
      simp only [Option.some.injEq,Prod.mk.injEq] at h
      obtain ⟨rfl,rfl,rfl⟩:=h
      unfold ent at h2
      split at h2
      · cases h2
      · simp only [Option.some.injEq,Prod.mk.injEq] at h2
        obtain ⟨_,rfl⟩:=h2
        refine ⟨by simp [i1],fun _=>by omega,by omega⟩
theorem vo {b:List Nat} {k:Nat} (h:st b k=none):∀ {n},k≤n→st b n=none:=by
 intro n;induction n with
 | zero=>intro hk;rw [show k=0 by omega] at h;exact h
 | succ n ih=>intro hk;by_cases e:k=n+1;{rw [←e];exact h};{rw [st,ih (by omega)]}
end Go.Proofs.YtjaebndajhppgaaGreatDoor.Fr
namespace Go.Proofs.YtjaebndajhppgaaGreatDoor
open Go.ChangeShapes Go.WideShapes Go.ChangeAt Go.RowKit
theorem afd {w:World} {B:Nat} {v:Value} {L:List (List UInt8)} {k:Nat} (h:w.ownsRow B 5 1 v (Fr.aS L k).length ((Fr.aS L k).map aF)):BytesAt w v (Fr.aS L k):=bf.own h rfl
theorem Rz (a b:Nat) (ha:a<256) (hb:b<256):bits .or .i64 ((a:Int)*256) (b:Int)=((a*256+b:Nat):Int):=by have h:=Bn.wD (a*256) b (by omega) (by omega);rw [Int.natCast_mul] at h;rw [show ((a:Int)*256)=(a:Int)*((256:Nat):Int) from rfl,h];congr 1;have:=Nat.two_pow_add_eq_or_of_lt (i:=8) (show b<2 ^ 8 by omega) a;rw [Nat.mul_comm a 256];exact this.symm
theorem Cu {W:World} {ab ao m k:Nat} {V:Nat→Value} (h:bW W (some ⟨ab,ao,none⟩) m V) (hk:k≤m):bW W (some ⟨ab,ao+k,none⟩) (m-k) (fun j=>V (k+j)):=by have:=afc h hk;simp only [Option.map_some] at this;rwa [Addr.add_lit] at this
theorem afe {W:World} {a:Option Addr} {m k:Nat} {V:Nat→Value} (h:bW W a m V) (hk:k≤m):bW W a k V:=by rcases h with h0 | ⟨b,off,e,hc⟩;{exact Or.inl (by omega)};{exact Or.inr ⟨b,off,e,fun i hi=>hc i (by omega)⟩}
theorem aff {W:World} {ab ao m k p N c:Nat} {b:List Nat} (h:bW W (some ⟨ab,ao,none⟩) m fun j=>aF (b.getD (p+j) 0)) (hm:m=N-p) (hk:p+2+k≤N∧N-p≤c):bW W (if c-2=k then some ⟨ab,ao+2,none⟩ else some ⟨ab,ao+2+k,none⟩) (N-(p+2+k)) fun j=>aF (b.getD (p+2+k+j) 0):=by subst hm;by_cases e:c-2=k;{exact Or.inl (by omega)};{rw [if_neg e];have h2:=Cu (Cu (k:=2) h (by omega)) (show k≤N-p-2 by omega);rw [show N-p-2-k=N-(p+2+k) by omega] at h2;simpa only [Nat.add_assoc] using h2}
theorem RA (a b:List UInt8):(⟨a.toArray⟩:ByteArray)++⟨b.toArray⟩=⟨(a++b).toArray⟩:=by apply ByteArray.ext;simp
theorem RF {w:World} {a:Option Addr} {p k c:Nat} {b:List Nat} (hR:bW w a k fun j=>aF (b.getD (p+j) 0)) (hk:p+k≤b.length):(convert 32 9 (.slice a k c)).run Tryz.prog w=.ok (str (Fr.txt ((b.drop p).take k))) w:=by
 have hl:((b.drop p).take k).length=k:=by rw [List.length_take,List.length_drop];omega
 have:=Jh (P:=Tryz.prog) w 32 5 9 Tryz.underlying32 Tryz.underlying5 Tryz.underlying9 a k c ((b.drop p).take k) hl.symm (by
  rcases hR with h0 | ⟨bb,off,e,hc⟩;{exact Or.inl h0}
  · refine Or.inr ⟨bb,off,e,fun i hi=>?_⟩;rw [hc i hi];simp [aF,List.getD,List.getElem?_take,hi])
 rw [this];rfl
theorem RG (n:Nat):(madeCells #[.string ByteArray.empty] n).toList=List.replicate n (str []):=by refine List.ext_getElem (by simp [madeCells]) fun i h1 h2=>?_;simp [madeCells,Nat.mod_one];rfl
theorem afg {L:List (List UInt8)} {n:Nat} (y:List UInt8) (h:L.length<n):(L.map str++List.replicate (n-L.length) (str [])).set L.length (str y)=(L++[y]).map str++List.replicate (n-(L++[y]).length) (str []):=by obtain ⟨r,hr⟩:∃ r,n-L.length=r+1:=⟨n-L.length-1,by omega⟩;rw [hr,List.replicate_succ,show n-(L++[y]).length=r by rw [List.length_append,List.length_singleton];omega];rw [List.set_append_right _ _ (by simp)];simp
theorem afh (a:Option Addr) (N cap:Nat) (W:World) (hN:N<2):Calls Tryz.prog 89 #[.slice a N cap] W fun e W'=>e=.returned (.tuple #[.slice none 0 0,.bool false])∧W=W':=by
 go_enter Tryz.func89,Tryz.ntmps89;go_wp2;go_ret2
 exact ⟨rfl,rfl⟩
theorem afi (a:Option Addr) (N cap:Nat) (b:List Nat) (W:World) (hN:2≤N) (hR:bW W a N fun i=>aF (b.getD i 0)) (hb:∀ i,b.getD i 0<256) (hc:300<Fr.cnt b):Calls Tryz.prog 89 #[.slice a N cap] W fun e W'=>e=.returned (.tuple #[.slice none 0 0,.bool false])∧Below W.heap.size W W':=by
 obtain ⟨bb,off,rfl,hcc⟩:=hR.get (show 0<N by omega);have c0:=hcc 0 (by omega);have c1:=hcc 1 (by omega);rw [Nat.add_zero] at c0;have h0:=hb 0;have h1:=hb 1;unfold Fr.cnt at hc;obtain ⟨g0,e0⟩:∃ g,g=b.getD 0 0:=⟨_,rfl⟩;obtain ⟨g1,e1⟩:∃ g,g=b.getD 1 0:=⟨_,rfl⟩;rw [←e0] at c0 h0 hc;rw [←e1] at c1 h1 hc;have hor:=Rz g0 g1 h0 h1;obtain ⟨n,hn⟩:∃ n,n=g0*256+g1:=⟨_,rfl⟩;rw [←hn] at hor hc;unfold aF at c0 c1;clear hcc hR hb e0 e1 hn;go_enter Tryz.func89,Tryz.ntmps89;go_wp2;go_region
 go_wp2;go_ret2
 exact ⟨rfl,(Below.refl _ _).drew⟩
theorem afj (a:Option Addr) (N cap n:Nat) (b:List Nat) (W:World) (hN:2≤N) (hNb:N=b.length) (hNc:N≤cap) (hcm:cap≤maxLen) (hR:bW W a N fun i=>aF (b.getD i 0)) (hb:∀ i,b.getD i 0<256) (hc:n=Fr.cnt b) (rY:n≤300) :
  Calls Tryz.prog 89 #[.slice a N cap] W fun e W'=>∃ u ok,e=.returned (.tuple #[u,.bool ok])∧Below W.heap.size W W'∧((Fr.st b n=none∧ok=false)∨∃ L x p,Fr.st b n=some (L,x,p)∧ok=true∧iR W' u L):=by
 obtain ⟨i0,hi,hz0,hz1,hz2⟩:=info_parts Tryz.info9;have mk1:∀ W:World,(Instr.makeSlice 47 (.int .i64 (n:Int)) (.int .i64 (n:Int))).run Tryz.prog W=_:=fun W=>run_make W 47 9 i0 _ Tryz.underlying47 hi hz0 .i64 .i64 n n (by omega) (by omega) (by rw [hz2];omega) (by omega);obtain ⟨bb,off,rfl,hcc⟩:=hR.get (show 0<N by omega);have c0:=hcc 0 (by omega);have c1:=hcc 1 (by omega);rw [Nat.add_zero] at c0;have h0:=hb 0;have h1:=hb 1;have HR:=hid hR;have wL:=hid hb;have jW:=hid hNb;have HB0:=hid (show Fr.st b 0=some ([],[],2) from rfl);unfold Fr.cnt at hc;obtain ⟨g0,e0⟩:∃ g,g=b.getD 0 0:=⟨_,rfl⟩;obtain ⟨g1,e1⟩:∃ g,g=b.getD 1 0:=⟨_,rfl⟩;rw [←e0] at c0 h0 hc;rw [←e1] at c1 h1 hc;have hor:=Rz g0 g1 h0 h1;rw [←hc] at hor;unfold aF at c0 c1;unfold maxLen at hcm;clear hcc hR hb e0 e1 hc hNb;go_enter Tryz.func89,Tryz.ntmps89;go_wp2;go_region
 by_cases hcap:cap=2
 · subst hcap;obtain rfl:N=2:=(by omega);(go_wp2_with fail);go_loopw [0,6,7,8,9,31] (fun s0 s6 s7 s8 s9 sK wr=>∃ (i:Nat) (L:List (List UInt8)) (x:List UInt8) (p:Nat) (a':Option Addr) (c':Nat),i≤n∧sK=.int .i64 i∧s6=str x∧s0=.slice a' (2-p) c'∧p≤2∧2≤p∧2-p≤c'∧c'≤9223372036854775807∧x.length≤510∧Hid (Fr.st b i=some (L,x,p))∧Hid (bW W a' (2-p) fun j=>aF (b.getD (p+j) 0))∧Hid (aj wr W.heap.size (L.map str++List.replicate (n-L.length) (str [])) 9)∧Hid (Below W.heap.size W wr)∧W.heap.size<wr.heap.size) (fun _ _ _ _ _ sK _=>n-(intOf sK).toNat)
   (case atStart=>refine ⟨0,[],[],2,_,_,by omega,rfl,rfl,rfl,by omega,by omega,by omega,by omega,by simp,HB0.out,Or.inl (by omega),?_,?_,by simp⟩;{exact (aj.new' (A:=List.replicate n (str [])) rfl (RG n)).drew};{exact ((Below.refl _ _).alloc (Nat.le_refl _) _).drew});case round=>
    obtain ⟨i,L,x,p,a',c',hin,rfl,rfl,rfl,hpN,hp2,hc1,hc2,hxl,HS,nJ,iY,HB,hz⟩:=hrel;obtain ⟨pq,_,_⟩:=Fr.Ct HS.out;by_cases hlt:i<n
    · by_cases hA:2-p<2
      · have gW:=hid (Fr.vo (k:=i+1) (by rw [Fr.o9 HS.out];unfold Fr.ent;rw [if_pos (.inl (by rw [←jW.out];omega))]) (show i+1≤n by omega));go_wp2;go_ret2
        exact ⟨_,_,rfl,HB.out,.inl ⟨gW.out,rfl⟩⟩
      {exact absurd hA (by omega)}
    · obtain rfl:i=n:=(by omega);go_wp2;go_ret2
      refine ⟨_,_,rfl,HB.out,.inr ⟨L,x,p,HS.out,rfl,?_⟩⟩;have hB:=iY.out;rw [pq,Nat.sub_self,List.replicate_zero,List.append_nil] at hB;exact bf.blk hB pq.symm (fun j hj=>by simp [List.getD,show j<L.length by omega]) i (Nat.le_refl _) (by unfold maxLen;omega)
 · (go_wp2_with fail);go_loopw [0,6,7,8,9,31] (fun s0 s6 s7 s8 s9 sK wr=>∃ (i:Nat) (L:List (List UInt8)) (x:List UInt8) (p:Nat) (a':Option Addr) (c':Nat),i≤n∧sK=.int .i64 i∧s6=str x∧s0=.slice a' (N-p) c'∧p≤N∧2≤p∧N-p≤c'∧c'≤9223372036854775807∧x.length≤510∧Hid (Fr.st b i=some (L,x,p))∧Hid (bW W a' (N-p) fun j=>aF (b.getD (p+j) 0))∧Hid (aj wr W.heap.size (L.map str++List.replicate (n-L.length) (str [])) 9)∧Hid (Below W.heap.size W wr)∧W.heap.size<wr.heap.size) (fun _ _ _ _ _ sK _=>n-(intOf sK).toNat)
   (case atStart=>refine ⟨0,[],[],2,_,_,by omega,rfl,rfl,rfl,by omega,by omega,by omega,by omega,by simp,HB0.out,Cu HR.out (by omega),?_,?_,by simp⟩;{exact (aj.new' (A:=List.replicate n (str [])) rfl (RG n)).drew};{exact ((Below.refl _ _).alloc (Nat.le_refl _) _).drew});case round=>
    obtain ⟨i,L,x,p,a',c',hin,rfl,rfl,rfl,hpN,hp2,hc1,hc2,hxl,HS,nJ,iY,HB,hz⟩:=hrel;obtain ⟨pq,_,_⟩:=Fr.Ct HS.out;by_cases hlt:i<n
    · by_cases hA:N-p<2
      · have gW:=hid (Fr.vo (k:=i+1) (by rw [Fr.o9 HS.out];unfold Fr.ent;rw [if_pos (.inl (by rw [←jW.out];omega))]) (show i+1≤n by omega));go_wp2;go_ret2
        exact ⟨_,_,rfl,HB.out,.inl ⟨gW.out,rfl⟩⟩
      · obtain ⟨ab,ao,rfl,hcc⟩:=(nJ.out.keep HB.out).get (show 0<N-p by omega);have d0:=hcc 0 (by omega);have d1:=hcc 1 (by omega);rw [Nat.add_zero,Nat.add_zero] at d0;have l0:=wL.out p;have l1:=wL.out (p+1);obtain ⟨k0,e0⟩:∃ g,g=b.getD p 0:=⟨_,rfl⟩;obtain ⟨k1,e1⟩:∃ g,g=b.getD (p+1) 0:=⟨_,rfl⟩;have vv:=hid e0;have vw:=hid e1;rw [←e0] at d0 l0;rw [←e1] at d1 l1;unfold aF at d0 d1;have hbl:N=b.length:=jW.out;have RH:=hid (iY.out.cell (i:=i) (v:=str []) (by rw [List.getElem?_append_right (by simp [pq]),List.length_map,pq,Nat.sub_self,List.getElem?_replicate,if_pos (by omega)]));have RJ:=hid (iY.out.free i);have Cg:=hid (fun y=>afg (L:=L) (n:=n) y (by omega));clear hcc e0 e1;go_wp2;go_region
        by_cases hcp:c'=2
        · subst hcp;have hN2:N=p+2:=(by omega);by_cases f1:x.length<k0
          · have gW:=hid (Fr.vo (k:=i+1) (by rw [Fr.o9 HS.out];unfold Fr.ent;rw [←vv.out,←vw.out,if_pos (by omega)]) (show i+1≤n by omega));have fV:=hid (aX HB.out 1);go_wp2;go_ret2
            exact ⟨_,_,rfl,fV.out,.inl ⟨gW.out,rfl⟩⟩
          · by_cases f2:N<p+2+k1
            · have gW:=hid (Fr.vo (k:=i+1) (by rw [Fr.o9 HS.out];unfold Fr.ent;rw [←vv.out,←vw.out,if_pos (by omega)]) (show i+1≤n by omega));have fV:=hid (aX HB.out 1);go_wp2;go_ret2
              exact ⟨_,_,rfl,fV.out,.inl ⟨gW.out,rfl⟩⟩
            · have HRW:=hid (show bW W (some ⟨ab,ao,none⟩) k1 (fun j=>aF (b.getD (p+2+j) 0)) from Or.inl (by omega));have hcv:(convert 32 9 (.slice (some ⟨ab,ao,none⟩) k1 0)).run Tryz.prog wr.drew.drew=.ok (str (Fr.txt ((b.drop (p+2)).take k1))) wr.drew.drew:=RF (HRW.out.keep HB.out.drew.drew) (by omega);have f3:k0≤x.length:=(by omega);have e1:=CJ x k0;have hl1:(x.take k0).length=k0:=(by rw [List.length_take];omega);have hl2:(Fr.txt ((b.drop (p+2)).take k1)).length=k1:=(by unfold Fr.txt;rw [List.length_map,List.length_take,List.length_drop];omega);have e2:=RA (x.take k0) (Fr.txt ((b.drop (p+2)).take k1));have HS2:=hid (show Fr.st b (i+1)=some (L++[x.take k0++Fr.txt ((b.drop (p+2)).take k1)],x.take k0++Fr.txt ((b.drop (p+2)).take k1),p+2+k1) by rw [Fr.o9 HS.out];unfold Fr.ent;rw [←vv.out,←vw.out,if_neg (by omega)]);have hyl:(x.take k0++Fr.txt ((b.drop (p+2)).take k1)).length≤510:=(by rw [List.length_append];omega);obtain ⟨y,hy⟩:∃ y,y=x.take k0++Fr.txt ((b.drop (p+2)).take k1):=⟨_,rfl⟩;rw [←hy] at e2 HS2 hyl;obtain ⟨y1,hy1⟩:∃ y,y=x.take k0:=⟨_,rfl⟩;rw [←hy1] at e1 e2 hl1;obtain ⟨y2,hy2⟩:∃ y,y=Fr.txt ((b.drop (p+2)).take k1):=⟨_,rfl⟩;rw [←hy2] at e2 hcv hl2;have kc:=RH.out;have kf:=RJ.out;clear hy hy1 hy2;go_wp2;go_region
              go_wp2;go_roundw
              (case rel=>have hB:=iY.out.set L.length (str y);rw [Cg.out y,pq] at hB;exact ⟨i+1,L++[y],y,p+2+k1,some ⟨ab,ao,none⟩,0,by omega,by go_num,rfl,by rw [show b.length-p-2-k1=N-(p+2+k1) by omega],by omega,by omega,by omega,by omega,hyl,HS2.out,Or.inl (by omega),hB.drew.drew,(HB.out.setCell (p:=⟨W.heap.size,i,none⟩) (Nat.le_refl _) _).drew.drew,by simpa using hz⟩);case measure=>simp [intOf];omega
        · by_cases f1:x.length<k0
          · have gW:=hid (Fr.vo (k:=i+1) (by rw [Fr.o9 HS.out];unfold Fr.ent;rw [←vv.out,←vw.out,if_pos (by omega)]) (show i+1≤n by omega));have fV:=hid (aX HB.out 1);go_wp2;go_ret2
            exact ⟨_,_,rfl,fV.out,.inl ⟨gW.out,rfl⟩⟩
          · by_cases f2:N<p+2+k1
            · have gW:=hid (Fr.vo (k:=i+1) (by rw [Fr.o9 HS.out];unfold Fr.ent;rw [←vv.out,←vw.out,if_pos (by omega)]) (show i+1≤n by omega));have fV:=hid (aX HB.out 1);go_wp2;go_ret2
              exact ⟨_,_,rfl,fV.out,.inl ⟨gW.out,rfl⟩⟩
            · have HRW:=hid (show bW W (some ⟨ab,ao+2,none⟩) k1 (fun j=>aF (b.getD (p+2+j) 0)) from by have h5:=afe (Cu (k:=2) nJ.out (by omega)) (show k1≤N-p-2 by omega);simpa only [Nat.add_assoc] using h5);have hcv:(convert 32 9 (.slice (some ⟨ab,ao+2,none⟩) k1 (c'-2))).run Tryz.prog wr.drew.drew=.ok (str (Fr.txt ((b.drop (p+2)).take k1))) wr.drew.drew:=RF (HRW.out.keep HB.out.drew.drew) (by omega);have f3:k0≤x.length:=(by omega);have e1:=CJ x k0;have hl1:(x.take k0).length=k0:=(by rw [List.length_take];omega);have hl2:(Fr.txt ((b.drop (p+2)).take k1)).length=k1:=(by unfold Fr.txt;rw [List.length_map,List.length_take,List.length_drop];omega);have e2:=RA (x.take k0) (Fr.txt ((b.drop (p+2)).take k1));have HS2:=hid (show Fr.st b (i+1)=some (L++[x.take k0++Fr.txt ((b.drop (p+2)).take k1)],x.take k0++Fr.txt ((b.drop (p+2)).take k1),p+2+k1) by rw [Fr.o9 HS.out];unfold Fr.ent;rw [←vv.out,←vw.out,if_neg (by omega)]);have hyl:(x.take k0++Fr.txt ((b.drop (p+2)).take k1)).length≤510:=(by rw [List.length_append];omega);obtain ⟨y,hy⟩:∃ y,y=x.take k0++Fr.txt ((b.drop (p+2)).take k1):=⟨_,rfl⟩;rw [←hy] at e2 HS2 hyl;obtain ⟨y1,hy1⟩:∃ y,y=x.take k0:=⟨_,rfl⟩;rw [←hy1] at e1 e2 hl1;obtain ⟨y2,hy2⟩:∃ y,y=Fr.txt ((b.drop (p+2)).take k1):=⟨_,rfl⟩;rw [←hy2] at e2 hcv hl2;have kc:=RH.out;have kf:=RJ.out;clear hy hy1 hy2;go_wp2;go_region
              go_wp2;go_roundw
              (case rel=>have hB:=iY.out.set L.length (str y);rw [Cg.out y,pq] at hB;exact ⟨i+1,L++[y],y,p+2+k1,(if c'-2=k1 then some ⟨ab,ao+2,none⟩ else some ⟨ab,ao+2+k1,none⟩),c'-2-k1,by omega,by go_num,rfl,by rw [show b.length-p-2-k1=N-(p+2+k1) by omega],by omega,by omega,by omega,by omega,hyl,HS2.out,aff (k:=k1) nJ.out rfl ⟨by omega,by omega⟩,hB.drew.drew,(HB.out.setCell (p:=⟨W.heap.size,i,none⟩) (Nat.le_refl _) _).drew.drew,by simpa using hz⟩);case measure=>simp [intOf];omega
    · obtain rfl:i=n:=(by omega);go_wp2;go_ret2
      refine ⟨_,_,rfl,HB.out,.inr ⟨L,x,p,HS.out,rfl,?_⟩⟩;have hB:=iY.out;rw [pq,Nat.sub_self,List.replicate_zero,List.append_nil] at hB;exact bf.blk hB pq.symm (fun j hj=>by simp [List.getD,show j<L.length by omega]) i (Nat.le_refl _) (by unfold maxLen;omega)
theorem Fr.afk {b:List Nat} (hb:∀ i,b.getD i 0<256) {x y:List UInt8} {p q:Nat} (h:Fr.ent b x p=some (y,q)):y.length≤510:=by unfold Fr.ent at h;split at h;{cases h};{simp only [Option.some.injEq,Prod.mk.injEq] at h;obtain ⟨rfl,_⟩:=h;have h0:=hb p;have h1:=hb (p+1);unfold Fr.txt;rw [List.length_append,List.length_take,List.length_map,List.length_take];omega}
theorem Fr.RO {b:List Nat} (hb:∀ i,b.getD i 0<256):∀ {k:Nat} {L:List (List UInt8)} {x:List UInt8} {p:Nat},Fr.st b k=some (L,x,p)→∀ t∈L,t.length≤510
 | 0,L,x,p,h=>by
  simp only [Fr.st,Option.some.injEq,Prod.mk.injEq] at h
  obtain ⟨rfl,_⟩:=h
  intro t ht;cases ht
 | k+1,L,x,p,h=>by
  rw [Fr.st] at h
  split at h
  · cases h
  · rename_i M y q h1
    split at h
    · cases h
    · rename_i z r h2
      simp only [Option.some.injEq,Prod.mk.injEq] at h
      obtain ⟨rfl,_,_⟩:=h
      intro t ht
      rcases List.mem_append.1 ht with ht | ht
      · exact Fr.RO hb h1 t ht
      · obtain rfl:t=z:=by simpa using ht
        exact Fr.afk hb h2
theorem afl {L:List (List UInt8)} {m:Nat} (h:∀ t∈L,t.length≤m) (i:Nat):(L.getD i []).length≤m:=by
 simp only [List.getD];cases h1:L[i]? with
 | none=>simp
 | some t=>exact h t (List.mem_of_getElem? h1)
def Fr.sM (b:List Nat):Option (List (List UInt8)):=if b.length<2∨300<Fr.cnt b then none else (Fr.st b (Fr.cnt b)).map (·.1)
theorem afm (v:Value) (b:List Nat) (W:World) (h:BytesAt W v b) (hb:∀ i,b.getD i 0<256) :
  Calls Tryz.prog 89 #[v] W fun e W'=>∃ u ok,e=.returned (.tuple #[u,.bool ok])∧Below W.heap.size W W'∧((Fr.sM b=none∧ok=false)∨∃ L,Fr.sM b=some L∧ok=true∧iR W' u L∧∀ i,(L.getD i []).length≤510):=by obtain ⟨a,cap,rfl,hc1,hc2,hc3,hR⟩:=h.open;unfold Fr.sM;by_cases h1:b.length<2;{rw [if_pos (.inl h1)];refine (afh a _ cap W h1).mono ?_;rintro e w' ⟨rfl,rfl⟩;exact ⟨_,_,rfl,Below.refl _ _,.inl ⟨rfl,rfl⟩⟩};{by_cases h2:300<Fr.cnt b;{rw [if_pos (.inr h2)];refine (afi a _ cap b W (by omega) hR hb h2).mono ?_;rintro e w' ⟨rfl,hbl⟩;exact ⟨_,_,rfl,hbl,.inl ⟨rfl,rfl⟩⟩};{rw [if_neg (by omega)];refine (afj a _ cap _ b W (by omega) rfl hc1 hc2 hR hb rfl (by omega)).mono ?_;rintro e w' ⟨u,ok,rfl,hbl,hr⟩;refine ⟨u,ok,rfl,hbl,?_⟩;rcases hr with ⟨h3,h4⟩ | ⟨L,x,p,h3,h4,h5⟩;{exact .inl ⟨by rw [h3];rfl,h4⟩};{exact .inr ⟨L,by rw [h3];rfl,h4,h5,afl (Fr.RO hb h3)⟩}}}
theorem afn {b:List Nat} (h:Fr.sM b=none):Fr.res b=none:=by
 unfold Fr.sM at h;unfold Fr.res Fr.rd;by_cases h1:b.length<2;{rw [if_pos h1]}
 · rw [if_neg h1];by_cases h2:300<Fr.cnt b
   · cases hs:Fr.st b (Fr.cnt b) with
     | none=>rfl
     | some s=>obtain ⟨L,x,p⟩:=s;obtain ⟨hl,_,_⟩:=Fr.Ct hs;show (if Fr.May L∧Fr.aS L L.length=b then some L else none)=none;rw [if_neg (fun hh=>by have:=hh.1.1;omega)]
   · rw [if_neg (by omega)] at h;cases hs:Fr.st b (Fr.cnt b) with
     | none=>rfl
     | some s=>rw [hs] at h;cases h
theorem afo {b:List Nat} {L:List (List UInt8)} (h:Fr.sM b=some L):Fr.res b=if Fr.May L∧Fr.aS L L.length=b then some L else none:=by
 unfold Fr.sM at h;unfold Fr.res Fr.rd;split at h;{cases h}
 · rename_i hn;rw [if_neg (by omega)];cases hs:Fr.st b (Fr.cnt b) with
   | none=>rw [hs] at h;cases h
   | some s=>rw [hs] at h;obtain rfl:s.1=L:=(by simpa using h);rfl
theorem RQ (l:List Nat):(strOf l).toList=l.map fun x=>UInt8.ofNat x:=by unfold strOf;rw [ByteArray.toList_eq]
theorem afp {k l:List Nat} (hk:∀ i,k.getD i 0<256) (hl:∀ i,l.getD i 0<256):((strOf k).toList==(strOf l).toList)=decide (k=l):=by by_cases h:k=l;{rw [h,decide_eq_true rfl];simp};{rw [decide_eq_false h];refine beq_eq_false_iff_ne.2 fun e=>h (QB hk hl ?_);rw [RQ,RQ] at e;unfold strOf;rw [e]}
theorem afq (u v:Value) (k l:List Nat) (W:World) (hu:BytesAt W u k) (hv:BytesAt W v l) (hk:∀ i,k.getD i 0<256) (hl:∀ i,l.getD i 0<256) :
  Calls Tryz.prog 50 #[u,v] W fun e W'=>e=.returned (.bool (decide (k=l)))∧W=W':=by have h1:=sO (P:=Tryz.prog) Tryz.underlying32 Tryz.underlying5 Tryz.underlying9 W u k hu;have h2:=sO (P:=Tryz.prog) Tryz.underlying32 Tryz.underlying5 Tryz.underlying9 W v l hv;have h3:=afp hk hl;obtain ⟨x,hx⟩:∃ x,x=strOf k:=⟨_,rfl⟩;obtain ⟨y,hy⟩:∃ x,x=strOf l:=⟨_,rfl⟩;rw [←hx] at h1 h3;rw [←hy] at h2 h3;have H3:=hid h3;clear hx hy h3;go_enter Tryz.func50,Tryz.ntmps50;go_wp2;go_ret;exact ⟨fK H3.out,rfl⟩
theorem afr {L:List (List UInt8)} (hm:Fr.May L) (i:Nat):(Fr.aS L L.length).getD i 0<256:=by
 simp only [List.getD];cases h:(Fr.aS L L.length)[i]? with
 | none=>simp
 | some x=>exact Fr.GN hm L.length (Nat.le_refl _) x (List.mem_of_getElem? h)
theorem afs (v:Value) (b:List Nat) (W:World) (h:BytesAt W v b) (hb:∀ i,b.getD i 0<256) :
  Calls Tryz.prog 47 #[v] W fun e W'=>Below W.heap.size W W'∧((Fr.res b=none∧e=.returned (.tuple #[.pointer none,.int .i64 2]))∨∃ L p,Fr.res b=some L∧Fr.May L∧Fr.aS L L.length=b∧e=.returned (.tuple #[.pointer (some ⟨p,0,none⟩),.int .i64 0])∧lS W' p L):=by
 have RT:=hid (afm v b W h hb);have HV:=hid h;clear h;go_enter Tryz.func47,Tryz.ntmps47;go_wp2_with fail
 refine RT.out.mono ?_;rintro e w1 ⟨u,ok,rfl,hb1,hr⟩;rcases hr with ⟨hr,rfl⟩ | ⟨L,hr,rfl,hT,hl⟩
 · have yV:=hid (afn hr);clear hr;go_wp2;go_ret2
   exact ⟨hb1,.inl ⟨yV.out,rfl⟩⟩
 · have yV:=hid (afo hr);clear hr;by_cases hm:Fr.May L
   · have NW:=hid (PL u L w1 hT hm);have HM:=hid hm;have HB1:=hid hb1;have BY:=hid (fun p w h=>PU p L w h hm);clear hm hT hb1 hl;(go_wp2_with fail);refine NW.out.mono ?_;rintro e w2 ⟨p,rfl,hb2,hD,_,_⟩;have HB2:=hid (aA HB1.out hb2);have HD:=hid hD;clear hb2 hD;(go_wp2_with fail);refine (BY.out p w2 HD.out).mono ?_;rintro e w3 ⟨v3,rfl,hb3,hown⟩;have HB3:=hid (aA HB2.out hb3);have HD3:=hid (HD.out.keep hb3);have BE:=hid (afq v3 v (Fr.aS L L.length) b w3 (afd hown) (HV.out.keep HB3.out) (afr HM.out) hb);clear hb3 hown;by_cases he:Fr.aS L L.length=b
     · rw [decide_eq_true he] at BE;have HE:=hid he;clear he;(go_wp2_with fail);refine BE.out.mono ?_;rintro e w' ⟨rfl,rfl⟩;go_wp2;go_ret2
       exact ⟨HB3.out,.inr ⟨L,p,by rw [yV.out,if_pos ⟨HM.out,HE.out⟩],HM.out,HE.out,rfl,HD3.out⟩⟩
     · rw [decide_eq_false he] at BE;have HE:=hid he;clear he;(go_wp2_with fail);refine BE.out.mono ?_;rintro e w' ⟨rfl,rfl⟩;go_wp2;go_ret2
       exact ⟨HB3.out,.inl ⟨by rw [yV.out,if_neg (fun h=>HE.out h.2)],rfl⟩⟩
   · have NW:=hid (afb u L w1 hT (fun i=>Nat.le_trans (hl i) (by omega)) hm);have HM:=hid hm;clear hm hT hl;(go_wp2_with fail);refine NW.out.mono ?_;rintro e w' ⟨rfl,rfl⟩;go_wp2;go_ret2
     exact ⟨hb1,.inl ⟨by rw [yV.out,if_neg (fun h=>HM.out h.1)],rfl⟩⟩
end Go.Proofs.YtjaebndajhppgaaGreatDoor
