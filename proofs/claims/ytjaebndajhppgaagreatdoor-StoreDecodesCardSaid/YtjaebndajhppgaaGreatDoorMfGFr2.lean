/-GFr2-/
import Derived.Test.YtjaebndajhppgaaGreatDoorMfHd1
import Derived.Test.YtjaebndajhppgaaGreatDoorMfGRe1
import Derived.Test.YtjaebndajhppgaaGreatDoorMfGRe3
import Derived.Test.YtjaebndajhppgaaGreatDoorMfGFr
set_option linter.unusedVariables false
set_option maxRecDepth 100000
set_option linter.unusedSimpArgs false
set_option maxHeartbeats 2000000
namespace Go.Proofs.YtjaebndajhppgaaGreatDoor
open Go.Proofs.Tryz
open Go.ChangeShapes Go.WideShapes Go.ChangeAt Go.RowKit
theorem ag6 {a b:ByteArray} (h:a.toList=b.toList):a=b:=by rw [ByteArray.toList_eq,ByteArray.toList_eq] at h;exact ByteArray.ext (Array.toList_inj.mp h)
theorem ag7 (a:Option Addr) (m cap:Nat) (n w:Int) (W:World) (h:mb n w=false) :
  Calls prog 54 #[.slice a m cap,.int .i64 n,.int .i64 w] W fun e W'=>e=.returned (.tuple #[.slice none 0 0,.int .i64 1])∧W'=W:=by
 have h1:w<0∨(0≤w∧20<w)∨(0≤w∧w≤20∧n<0)∨(0≤w∧w≤20∧0≤n∧1000<n):=by unfold mb at h;simp at h;omega
 clear h;rcases h1 with h1 | ⟨h1,h2⟩ | ⟨h1,h2,h3⟩ | ⟨h1,h2,h3,h4⟩;all_goals
  go_enter func54,ntmps54
  go_wp2
  go_ret2
  exact ⟨rfl,rfl⟩
theorem ag8 (a:Option Addr) (m cap n w:Nat) (W:World) (sW:m≤maxLen) (h1:mb n w=true) (hs:m≠Pm.size n w) :
  Calls prog 54 #[.slice a m cap,.int .i64 n,.int .i64 w] W fun e W'=>e=.returned (.tuple #[.slice none 0 0,.int .i64 2])∧W'=W:=by
 have hn1:n≤1000∧w≤20:=by unfold mb at h1;simp at h1;omega
 obtain ⟨hn1,hw⟩:=hn1;have hnw:n*w≤20000:=Nat.le_trans (Nat.mul_le_mul hn1 hw) ak;obtain ⟨q,hq⟩:=aB (Pm.size n w);have tK:((n:Int)*w+7) / 8=q:=by rw [hq];unfold Pm.size;omega
 rw [←hq] at hs;obtain ⟨N,hN⟩:=aB (n*w);have rY:(n:Int)*w=N:=by rw [hN];simp
 rw [rY] at tK;rw [←hN] at hnw;have hbe:((m:Int)==(q:Int))=false:=by rw [beq_eq_false_iff_ne];omega
 have hbn:((m:Int) != (q:Int))=true:=by rw [bne_iff_ne];omega
 unfold maxLen at sW;clear hN hq h1 hs;go_enter func54,ntmps54;go_wp2;go_ret2
 exact ⟨rfl,rfl⟩
theorem ag9 (a:Option Addr) (m cap n w:Nat) (l:List Nat) (W:World) (hm:m=l.length) (hb:∀ i,l.getD i 0<256) (h1:mb n w=true) (hs:m=Pm.size n w) (hR:bM W a m fun i=>.int .u8 (l.getD i 0:Nat)) :
  Calls prog 54 #[.slice a m cap,.int .i64 n,.int .i64 w] W fun e W'=>∃ (v:Value) (q:Int),e=.returned (.tuple #[v,.int .i64 q])∧Below W.heap.size W W' ∧
   ((Noughts l (n*w) m→∃ (a':Option Addr) (cap':Nat),q=0∧v=.slice a' n cap'∧bM W' a' n fun i=>.int .i64 ((Pm.nums l w n).getD i 0))∧(¬ Noughts l (n*w) m→q=2∧v=.slice none 0 0)):=by
 have hn1:n≤1000∧w≤20:=by unfold mb at h1;simp at h1;omega
 obtain ⟨hn1,hw⟩:=hn1;have hnw:n*w≤20000:=Nat.le_trans (Nat.mul_le_mul hn1 hw) ak;have tK:((n:Int)*w+7) / 8=m:=by rw [hs];unfold Pm.size;omega
 have E8:n*w≤8*m:=by rw [hs];unfold Pm.size;omega
 have ai9:m≤2501:=by rw [hs];unfold Pm.size;omega
 obtain ⟨i0,hi,hz0,hz1,hz2⟩:=info_parts Tryz.info3;have HS:=aj hs;have HM:=aj hm;have HB:=aj hb;have ig:=aj (Pm.aaK l w n hb (by rw [←hm];exact E8));have RP:=aj (fun (a':Option Addr) (cap':Nat) (W':World) (hR':bM W' a' n fun i=>.int .i64 ((Pm.nums l w n).getD i 0))=>Kz a' n cap' w (Pm.nums l w n) W' (by rw [Pm.nums_length]) (Pm.afD l w n hn1 hw) hR');obtain ⟨N,hN⟩:=aB (n*w);have rY:(n:Int)*w=N:=by rw [hN];simp
 rw [rY] at tK;rw [←hN] at hnw E8;have lI:=aj hN;clear hN h1 hs hm hb;go_enter func54,ntmps54;go_wp2;go_loopg [8,9] n (fun gk s8 s9 wr=>∃ i:Nat,n-i≤gk∧i≤n∧s9=.int .i64 i∧wr.ownsRow W.heap.size 3 1 s8 i ((List.range i).map fun t=>.int .i64 (Pm.num l w t:Nat))∧Below W.heap.size W wr)
 case atStart=>exact ⟨0,Nat.le_refl _,ak,rfl,World.ownsRow_nil _ _ _ _,Below.refl _ _⟩
 case round=>
  obtain ⟨i,yY,hin,rfl,hown,hb1⟩:=hrel;clear tK;by_cases hlt:i<n
  · obtain ⟨iw,hiw⟩:=aB (i*w);have GJ:(i:Int)*w=iw:=(by rw [hiw];simp);have Dq:iw+w≤N:=(by rw [lI.out];have:=Nat.mul_le_mul_right w (show i+1≤n by omega);rw [Nat.add_mul] at this;omega);have qx:=aj hiw;have HO:=aj hown;clear hiw hown;go_wp2;obtain ⟨wo,rfl⟩:∃ wo:World,wo=wr:=⟨_,rfl⟩;go_loopw [10,11] (fun s10 s11 wr=>∃ (d x:Nat),d≤w∧s11=.int .i64 ((d:Int)-1)∧s10=.int .i64 x∧x<1048576∧Hid (x=Bn.val (fun j=>Pm.gy l (iw+d+j)) (w-d))∧wr=wo) (fun _ s11 _=>(intOf s11+1).toNat)
    (case atStart=>exact ⟨w,0,Nat.le_refl _,rfl,rfl,ak,(by rw [Nat.sub_self];rfl:0=Bn.val (fun j=>Pm.gy l (iw+w+j)) (w-w)),rfl⟩);case round=>
     obtain ⟨d,x,hdw,rfl,rfl,hx,HX,rfl⟩:=hrel;by_cases hd0:0<d
     · obtain ⟨f,rfl⟩:∃ f,d=f+1:=⟨d-1,ak⟩;rw [show ((f+1:Nat):Int)-1=f by omega];have Ba:(iw+f) / 8<m:=ak;have ai_:((iw:Int)+f) / 8<m:=ak;obtain ⟨b,off,rfl,hc⟩:=hR.get Ba;have c0:=aD hb1 (hc ((iw+f) / 8) Ba);have hy:=HB.out ((iw+f) / 8);obtain ⟨y,hy0⟩:=aB (l.getD ((iw+f) / 8) 0);rw [←hy0] at c0 hy;have K7:=aj (Pm.Uw y ((iw+f) % 8) hy);have wR:=aj (Pm.O7 x (y.testBit ((iw+f) % 8)) hx);have HV:=aj (show (if y.testBit ((iw+f) % 8) then 1 else 0)+2*x=Bn.val (fun j=>Pm.gy l (iw+f+j)) (w-f) by rw [show w-f=(w-(f+1))+1 by omega];simp only [Bn.val];have e0:Pm.gy l (iw+f+0)=y.testBit ((iw+f) % 8):=(by unfold Pm.gy;rw [Nat.add_zero,←hy0]);simp only [e0];rw [HX.out];congr 2;exact Bn.val_congr fun j _=>by rw [show iw+f+(j+1)=iw+(f+1)+j by omega]);have hvl:=Bn.wz (w-f) (fun j=>Pm.gy l (iw+f+j));have Pv:2 ^ (w-f)≤1048576:=Nat.pow_le_pow_right ak (show w-f≤20 by omega);obtain ⟨z,hz⟩:=aB ((if y.testBit ((iw+f) % 8) then 1 else 0)+2*x);have hzl:z<1048576:=(by rw [hz,HV.out];omega);rw [←hz] at wR HV;clear hc hy0 hvl Pv hz;have hdg:=Bn.Dj (y.testBit ((iw+f) % 8));have HW:=aj (show wrap64 (bits BinOp.and IntKind.u8 ((y:Int) / 2 ^ ((iw+f) % 8)) 1)=(Bn.gT (y.testBit ((iw+f) % 8)):Nat) by rw [K7.out];exact IntWalk.wrap64_in _ ⟨ak,ak⟩);clear hdg;go_wp2;go_roundw
       (case rel=>exact ⟨f,z,ak,rfl,by rw [HW.out,wR.out],hzl,HV,by trivial⟩);case measure=>first | (simp [intOf];done) | (simp [intOf];omega)
     · obtain rfl:d=0:=ak;rw [show ((0:Nat):Int)-1 = -1 from rfl];have jE:=aj (show x=Pm.num l w i by rw [HX.out];unfold Pm.num;rw [←qx.out];rfl);(go_wp2_with (at_builtin;refine kP rfl (.tmp 67) (.tmp 69) 48 rfl W.heap.size 3 i0 _ 8 underlying48 hi hz0 hz1 hz2 rfl _ _ _ rfl (HO.out.alloc _) (some ⟨wr.heap.size,0,none⟩) 1 1 (fun _=>.int .i64 x) rfl ?nil ?row ?one ?b1 ?b2 ?base ?_));(case nil=>intro h;cases h);(case row=>refine Or.inr ⟨_,_,rfl,fun j hj=>?_⟩;obtain rfl:j=0:=ak;simp [go_sem]);(case one=>intro j _;rfl);(case b1=>unfold maxLen;omega);(case b2=>omega);(case base=>exact Nat.le_trans hb1.size aI);intro v1 w1 hown1 hgr;have hb3:Below W.heap.size W w1:=(hb1.alloc hb1.size _).grown hgr (Nat.le_trans hb1.size aI) (fun k hk=>(HO.out.lt k hk).1);have e1:((List.range i).map fun t=>Value.int .i64 (Pm.num l w t:Nat))++[Value.int .i64 (x:Int)]=(List.range (i+1)).map fun t=>Value.int .i64 (Pm.num l w t:Nat):=(by rw [List.range_succ,List.map_append,jE.out];simp);rw [e1] at hown1;clear hgr;go_wp2;go_roundg (n-(i+1))
       (case measure=>omega);case rel=>exact ⟨i+1,ak,ak,aN,hown1,hb3⟩
  · obtain rfl:i=n:=ak;obtain ⟨a2,cap2,hv2,hc1,hc2,hc3,hrow⟩:=rF hown;subst hv2;have hrow2:bM wr a2 i fun t=>.int .i64 ((Pm.nums l w i).getD t 0):=by rcases hrow with h0 | ⟨b',off,ha,hc⟩;{exact Or.inl h0};{refine Or.inr ⟨b',off,ha,fun t ht=>?_⟩;rw [hc t ht];show some _=some (Value.int .i64 ((Pm.nums l w i).getD t 0));rw [Pm.Dk l w i t ht];simp [List.getD,ht]}
    have R:=aj (RP.out a2 cap2 wr hrow2);have HR2:=aj hrow2;have HB1:=aj hb1;have HRR:=aj hR;clear hrow hrow2 hown hR;(go_wp2_with fail);refine R.out.mono ?_;rintro e w1 ⟨b,rfl,hb2,hbb,B⟩;rw [←HS.out] at B;rw [←HS.out];have hb3:=aJ HB1.out hb2;have CA:=aj (x9 (P:=prog) w1 32 5 9 underlying32 underlying5 underlying9 a m cap l HM.out (HRR.out.keep hb3));have CB:=aj (x9 (P:=prog) w1 32 5 9 underlying32 underlying5 underlying9 (some ⟨b,0,none⟩) m m ((List.range m).map fun t=>Bn.fJ (Pm.gU (Pm.nums l w i) w) 8 (i*w) t) aI (Or.inr ⟨_,_,rfl,fun t ht=>by rw [Nat.zero_add,B.cell (zn ht)];simp [List.getD,ht]⟩));obtain ⟨s1,hs1⟩:=aB (strOf l);obtain ⟨s2,hs2⟩:=aB (strOf ((List.range m).map fun t=>Bn.fJ (Pm.gU (Pm.nums l w i) w) 8 (i*w) t));rw [←hs1] at CA;rw [←hs2] at CB;have heq:s2=s1↔Noughts l (i*w) m:=(by have hk:=ig.out;rw [←HM.out] at hk;unfold Noughts;rw [←hk,hs1,hs2];refine ⟨fun h=>KC ?_ HB.out h,fun h=>by rw [h]⟩;intro t;simp only [List.getD,List.getElem?_map];by_cases ht:t<m;{rw [List.getElem?_range ht];exact Bn.ze _ 8 _ _};{have e:(List.range m)[t]?=none:=(by simp;omega);rw [e];simp});have VD:=aj heq;have ca:=CA.out;have cb:=CB.out;have HB3:=aj hb3;have HR3:=aj (HR2.out.keep hb2);clear hs1 hs2 heq B hb2 hb3;by_cases hno:Noughts l (i*w) m
    · have h12:(s2.toList==s1.toList)=true:=(by rw [VD.out.2 hno];exact beq_self_eq_true _);have fA:=aj hno;clear hno;go_wp2;go_ret2
      exact ⟨_,_,rfl,HB3.out,fun _=>⟨a2,cap2,rfl,rfl,HR3.out⟩,fun h=>absurd fA.out h⟩
    · have h12:(s2.toList==s1.toList)=false:=beq_eq_false_iff_ne.2 fun h=>hno (VD.out.1 (ag6 h));have fA:=aj hno;clear hno;go_wp2;go_ret2
      exact ⟨_,_,rfl,HB3.out,fun h=>absurd h fA.out,fun _=>⟨rfl,rfl⟩⟩
open Go
theorem ag_ (p:Nat) (L:List (List UInt8)) (W:World) (h:mq W p L):Calls prog 143 #[.pointer (some ⟨p,0,none⟩)] W fun e W'=>(∃ v,e=.returned v∧fI W v L∧aC W p [v] 166)∧W=W':=by obtain ⟨v,B,hT⟩:=h;have HT:=aj hT;have c0:=B.cell (i:=0) (v:=v) rfl;obtain ⟨a,cap,rfl,_,_,_,_⟩:=hT.open;have HB:=aj B;clear hT B;go_enter func143,ntmps143;go_wp2;go_ret;exact ⟨⟨_,rfl,HT.out,HB.out⟩,rfl⟩
theorem K8 (p:Nat) (L:List (List UInt8)) (W:World) (h:mq W p L):Calls prog 92 #[.pointer (some ⟨p,0,none⟩)] W fun e W'=>e=.returned (.int .i64 L.length)∧W=W':=by
 have LI:=aj (ag_ p L W h);clear h;go_enter func92,ntmps92;go_wp2_with fail
 refine LI.out.mono ?_;rintro e w' ⟨⟨v,rfl,hT,hB⟩,rfl⟩;obtain ⟨a,cap,rfl,_,_,_,_⟩:=hT.open;clear hT hB;go_wp2;go_ret;exact ⟨rfl,rfl⟩
theorem VE (p:Nat) (L:List (List UInt8)) (id:Int) (W:World) (h:mq W p L) (aja:-9223372036854775808≤id):Calls prog 93 #[.pointer (some ⟨p,0,none⟩),.int .i64 id] W fun e W'=>e=.returned (aA (Fr.ext L id))∧W=W':=by have LN:=aj (K8 p L W h);unfold Fr.ext;by_cases h1:id<1;{rw [if_pos (.inl h1)];go_enter func93,ntmps93;go_wp2;go_ret;exact ⟨rfl,rfl⟩};{obtain ⟨k,rfl⟩:∃ k:Nat,id=k:=⟨id.toNat,ak⟩;obtain ⟨v,B,hT⟩:=h;have c0:=B.cell (i:=0) (v:=v) rfl;obtain ⟨a,cap,rfl,hc1,hc2,_,hR⟩:=hT.open;obtain ⟨n,hn⟩:=aB L.length;rw [←hn] at LN c0 hR hc1 ⊢;by_cases h2:n<k;{rw [if_pos (.inr ak)];clear hT B hn c0 hR;go_enter func93,ntmps93;(go_wp2_with (go_at_call 92;refine LN.out.mono ?_;rintro e w' ⟨rfl,rfl⟩));go_ret;exact ⟨rfl,rfl⟩};{rw [if_neg ak];obtain ⟨b,off,rfl,hc⟩:=hR.get (show k-1<n by omega);have c1:=hc (k-1) ak;unfold Fr.at_;rw [show ((k:Int)).toNat-1=k-1 by omega];obtain ⟨x,hx⟩:=aB (L.getD (k-1) []);rw [←hx] at c1 ⊢;have hk1:1≤k:=ak;have hn63:n≤9223372036854775807:=(by unfold maxLen at hc2;omega);have hwr:IntKind.i64.wrap ((k:Int)-1)=((k-1:Nat):Int):=(by rw [IntKind.wrap_i64];omega);clear hT B hn hR hc hx;go_enter func93,ntmps93;(go_wp2_with (go_at_call 92;refine LN.out.mono ?_;rintro e w' ⟨rfl,rfl⟩));go_ret;exact ⟨rfl,rfl⟩}}
end Go.Proofs.YtjaebndajhppgaaGreatDoor
namespace Go.Proofs.YtjaebndajhppgaaGreatDoor.Fr
open Go Go.RowKit
def txt (l:List Nat):T:=l.map UInt8.ofNat
def ent (b:List Nat) (x:T) (p:Nat):Option (T×Nat):=
 if b.length<p+2∨x.length<b.getD p 0∨b.length<p+2+b.getD (p+1) 0 then none
 else some (x.take (b.getD p 0)++txt ((b.drop (p+2)).take (b.getD (p+1) 0)),p+2+b.getD (p+1) 0)
def st (b:List Nat):Nat→Option (List T×T×Nat)
 | 0=>some ([],[],2)
 | k+1=>match st b k with
  | none=>none
  | some (L,x,p)=>match ent b x p with
   | none=>none
   | some (y,q)=>some (L++[y],y,q)
def cnt (b:List Nat):Nat:=b.getD 0 0*256+b.getD 1 0
def rd (b:List Nat):Option (List T):=if b.length<2 then none else (st b (cnt b)).map (·.1)
def res (b:List Nat):Option (List T):=match rd b with
 | none=>none
 | some L=>if May L∧bf L L.length=b then some L else none
theorem mK {b:List Nat} {k:Nat} {L:List T} {x:T} {p:Nat} (h:st b k=some (L,x,p)):st b (k+1)=match ent b x p with | none=>none | some (y,q)=>some (L++[y],y,q):=by rw [st,h]
theorem aha (L:List T) (i:Nat):∀ k,i<k→∃ R,bf L k=bf L i++(enc L i++R):=by
 intro k;induction k with
 | zero=>intro h;omega
 | succ k ih=>intro h;by_cases e:i=k;{exact ⟨[],by rw [e];show bf L k++enc L k=_;rw [List.append_nil]⟩};{obtain ⟨R,hR⟩:=ih ak;exact ⟨R++enc L k,by show bf L k++enc L k=_;rw [hR];simp⟩}
theorem VF:∀ a b:T,a.take (sh a b)=b.take (sh a b)
 | [],[]=>rfl
 | [],_::_=>rfl
 | _::_,[]=>rfl
 | a::x,b::y=>by
  by_cases e:a=b
  · rw [sh,if_pos e,List.take_succ_cons,List.take_succ_cons,VF x y,e]
  · rw [sh,if_neg e];rfl
theorem ahb (s:T):txt (fG s)=s:=by
 unfold txt fG;rw [List.map_map];have:(UInt8.ofNat ∘ UInt8.toNat)=id:=by funext c;simp
 rw [this,List.map_id]
def Bt (L:List T) (k:Nat):T:=if k=0 then [] else at_ L (k-1)
theorem ahc {L:List T} {n k:Nat} (hk:k<n):ent (bf L n) (Bt L k) (bf L k).length=some (at_ L k,(bf L (k+1)).length):=by
 obtain ⟨R,hR⟩:=aha L k n hk;have hs:=EM L k;have h1:(bf L n).getD (bf L k).length 0=eZ L k:=by rw [hR,FL aF,Nat.sub_self];rfl
 have h2:(bf L n).getD ((bf L k).length+1) 0=(at_ L k).length-eZ L k:=by rw [hR,FL ak,Nat.add_sub_cancel_left];rfl
 have h3:(bf L (k+1)).length=(bf L k).length+2+((at_ L k).length-eZ L k):=by show (bf L k++enc L k).length=_;rw [List.length_append,Cj];omega
 have h4:(bf L k).length+2+((at_ L k).length-eZ L k)≤(bf L n).length:=by rw [hR,List.length_append,List.length_append,Cj];omega
 have hx:eZ L k≤(Bt L k).length∧(Bt L k).take (eZ L k)=(at_ L k).take (eZ L k):=by unfold eZ Bt;by_cases hm:k % 4=0;{rw [if_pos hm];exact ⟨Nat.zero_le _,rfl⟩};{rw [if_neg hm,if_neg ak];exact ⟨(AQ _ _).1,VF _ _⟩}
 unfold ent;rw [h1,h2,if_neg ak,h3];congr 2;have hd:((bf L n).drop ((bf L k).length+2)).take ((at_ L k).length-eZ L k)=fG ((at_ L k).drop (eZ L k)):=by rw [hR,←List.drop_drop,List.drop_left];show ((([eZ L k,(at_ L k).length-eZ L k]++fG ((at_ L k).drop (eZ L k)))++R).drop 2).take _=_;rw [List.append_assoc];show (fG ((at_ L k).drop (eZ L k))++R).take _=_;rw [List.take_append_of_le_length (by unfold fG;rw [List.length_map,List.length_drop];omega),List.take_of_length_le (by unfold fG;rw [List.length_map,List.length_drop];omega)]
 rw [hd,ahb,hx.2,List.take_append_drop]
theorem VG {L:List T}:∀ k,k≤L.length→st (bf L L.length) k=some (L.take k,Bt L k,(bf L k).length)
 | 0,_=>rfl
 | k+1,hk=>by
  rw [mK (VG k ak),ahc ak]
  have e:L.take k++[at_ L k]=L.take (k+1):=by
   rw [List.take_succ_eq_append_getElem ak,y9 ak]
  show some (L.take k++[at_ L k],at_ L k,(bf L (k+1)).length)=_
  rw [e];rfl
theorem VH {L:List T}:∀ k,∃ R,bf L k=[L.length / 256 % 256,L.length % 256]++R
 | 0=>⟨[],rfl⟩
 | k+1=>by
  obtain ⟨R,h⟩:=VH (L:=L) k
  exact ⟨R++enc L k,by show bf L k++enc L k=_;rw [h,List.append_assoc]⟩
theorem ahe {a b:Nat} (R:List Nat):cnt ([a,b]++R)=a*256+b:=rfl
theorem ahf {L:List T} (h:May L):cnt (bf L L.length)=L.length∧2≤(bf L L.length).length:=by obtain ⟨R,hR⟩:=VH (L:=L) L.length;have:=h.1;rw [hR];refine ⟨by rw [ahe];omega,aI⟩
theorem ahg {L:List T} (h:May L):rd (bf L L.length)=some L:=by obtain ⟨h1,h2⟩:=ahf h;unfold rd;rw [if_neg ak,h1,VG L.length aF,Option.map_some,List.take_length]
theorem Fw {L:List T} (h:May L):res (bf L L.length)=some L:=by unfold res;rw [ahg h];exact if_pos ⟨h,rfl⟩
end Go.Proofs.YtjaebndajhppgaaGreatDoor.Fr
