/-SoDec-/
import Derived.Test.YtjaebndajhppgaaGreatDoorMfHd1
import Derived.Test.YtjaebndajhppgaaGreatDoorMfSoFileM
import Derived.Test.YtjaebndajhppgaaGreatDoorMfGFr2
import Derived.Test.YtjaebndajhppgaaGreatDoorMfGRe1
import Derived.Test.YtjaebndajhppgaaGreatDoorMfSoEnc2
import Derived.Test.YtjaebndajhppgaaGreatDoorMfPrOne
import Derived.Deep.RegionLaw
import Derived.Deep.RegionHeld3
set_option linter.unusedVariables false
set_option linter.unusedSimpArgs false
set_option maxRecDepth 100000
set_option maxHeartbeats 8000000
namespace Go.Proofs.YtjaebndajhppgaaGreatDoor
open Go.Proofs.Tryz
namespace Pm
def bytes (l:List Int) (w:Nat):List Nat:=(List.range (size l.length w)).map fun t=>byte l w t
theorem ahN (l:List Int) (w:Nat):(bytes l w).length=size l.length w:=by simp [bytes]
theorem ahO (l:List Int) (w t:Nat) (h:t<size l.length w):(bytes l w).getD t 0=byte l w t:=by simp [bytes,List.getD,h]
theorem ahP (bit:Nat→Bool) (c k t j:Nat) (hj:j<c):(Bn.fJ bit c k t).testBit j=(decide (c*t+j<k) && bit (c*t+j)):=by unfold Bn.fJ;rw [Bn.jc];simp [hj]
theorem Wj (l:List Int) (w j:Nat) (hj:j<8*size l.length w):gy (bytes l w) j=(decide (j<l.length*w) && gU l w j):=by unfold gy;rw [ahO l w (j / 8) ak];unfold byte;rw [ahP _ 8 _ _ _ ak,show 8*(j / 8)+j % 8=j by omega]
theorem ahQ (n w:Nat):n*w≤8*size n w:=by unfold size;omega
theorem ahR {a b:List Int} (h:a.length=b.length) (hi:∀ i,i<a.length→a.getD i 0=b.getD i 0):a=b:=by refine List.ext_getElem h fun i h1 h2=>?_;have:=hi i h1;simpa [List.getD,h1,h2] using this
theorem FC (l:List Int) (w:Nat) (h:May l w):nums (bytes l w) w l.length=l:=by
 refine ahR (nums_length _ _ _) fun i hi=>?_;rw [nums_length] at hi;rw [Dk _ _ _ _ hi];obtain ⟨h0,h1⟩:=h.2.2.2 i hi;have:num (bytes l w) w i=(l.getD i 0).toNat:=by unfold num;rw [←Bn.OQ w (l.getD i 0).toNat h1];refine Bn.val_congr fun j hj=>?_;have h2:=afC hi hj;have h3:=ahQ l.length w;rw [Wj l w _ ak,decide_eq_true h2,GD l w i j hj];rfl
 rw [this];omega
end Pm
namespace So
theorem Lu {α β:Type} {f:α→β}:∀ {l m:List α},(∀ a∈l,∀ b∈m,f a=f b→a=b)→l.map f=m.map f→l=m
 | [],[],_,_=>rfl
 | [],b::m,_,h=>by simp at h
 | a::l,[],_,h=>by simp at h
 | a::l,b::m,hi,h=>by
  simp only [List.map_cons,List.cons.injEq] at h
  have e:=hi a aI b aI h.1
  have e2:=Lu (fun x hx y hy=>hi x (by simp [hx]) y (by simp [hy])) h.2
  rw [e,e2]
theorem Wm:∀ {r s:List Rg.T},r.flatMap eU=s.flatMap eU→r=s
 | [],[],_=>rfl
 | [],b::s,h=>by simp [eU] at h
 | a::r,[],h=>by simp [eU] at h
 | (a1,a2,a3)::r,(b1,b2,b3)::s,h=>by
  simp only [List.flatMap_cons,eU,List.cons_append,List.nil_append,List.cons.injEq] at h
  obtain ⟨rfl,rfl,rfl,h⟩:=h
  rw [Wm h]
theorem Lv {E:List T3} {a b:T3} (ha:a∈E) (hb:b∈E) (h:num E a=num E b):a=b:=by obtain ⟨i,hi,e1,e2⟩:=qE ha;obtain ⟨j,hj,e3,e4⟩:=qE hb;have:i=j:=ak;subst this;rw [←e2,←e4]
theorem BD {l:List TT} (h:∀ p∈l,Tm.aZ p=true) (hn:l.length≤100):∀ x∈file l,x<256:=fun x hx=>by
 have h1:=EW h hn;have three:∀ k x,x∈Bx.three k→x<256:=fun k x hx=>by unfold Bx.three at hx;simp only [List.mem_cons,List.not_mem_nil,or_false] at hx;rcases hx with rfl | rfl | rfl <;> exact Nat.mod_lt _ ak
 have ent:∀ x∈Bx.entries (secs l),x<256:=fun x hx=>by unfold Bx.entries at hx;obtain ⟨s,_,hs⟩:=List.mem_flatMap.1 hx;unfold Bx.entry at hs;rcases List.mem_cons.1 hs with rfl | hs;{have:=Int.emod_lt_of_pos s.1 (show (0:Int)<256 by omega);have:=Int.emod_nonneg s.1 (show (256:Int)≠0 by omega);omega};{rcases List.mem_append.1 hs with hs | hs <;> exact three _ _ hs}
 unfold file Bx.file at hx;rcases List.mem_append.1 hx with hx | hx;{rcases List.mem_append.1 hx with hx | hx;{unfold Bx.head at hx;rcases List.mem_append.1 hx with hx | hx;{simp only [List.mem_cons,List.not_mem_nil,or_false] at hx;rcases hx with rfl | rfl | rfl | rfl | rfl | rfl;{omega};{omega};{omega};{omega};{omega};{exact Nat.mod_lt _ ak}};{exact ent x hx}};{exact three _ _ hx}};{unfold Bx.bodies secs at hx;obtain ⟨s,hs,hx⟩:=List.mem_flatMap.1 hx;simp only [List.mem_cons,List.not_mem_nil,or_false] at hs;rcases hs with rfl | rfl;{exact Kh h hn x hx};{exact Uc l x hx}}
theorem Ka {l m:List TT} (hl:∀ p∈l,Tm.aZ p=true) (hm:∀ p∈m,Tm.aZ p=true) (h1:l.length≤100) (h2:m.length≤100) (h:file l=file m):l=m:=by
 have hs:secs l=secs m:=by have a:=Bx.xC.2 ⟨A8 hl h1,rfl⟩;have b:=Bx.xC.2 ⟨A8 hm h2,rfl⟩;unfold file at h;rw [h,b] at a;exact (Option.some.inj a).symm
 have hb1:iR l=iR m:=congrArg (fun s:List Bx.aY=>(s.getD 0 (0,[])).2) hs;have hb2:d_ l=d_ m:=congrArg (fun s:List Bx.aY=>(s.getD 1 (0,[])).2) hs;have ht:texts l=texts m:=by have a:=Fr.Fw (qZ hl h1);have b:=Fr.Fw (qZ hm h2);unfold iR at hb1;rw [hb1,b] at a;exact (Option.some.inj a).symm
 have hE:terms l=terms m:=Lu (fun a ha b hb e=>QE (qF hl a ha) (qF hm b hb) e) ht;have hw:wid l=wid m:=by unfold wid;rw [hE]
 unfold d_ at hb2;simp only [List.cons_append,List.nil_append,List.cons.injEq] at hb2;have hlen:l.length=m.length:=ak;have pb:∀ k:List TT,packed k=Pm.bytes (dL k) (wid k):=fun k=>by unfold packed Pm.bytes;rw [mE]
 have hp:Pm.bytes (dL l) (wid l)=Pm.bytes (dL m) (wid m):=by rw [←pb l,←pb m];exact hb2.2.2
 have hn:dL l=dL m:=by have a:=Pm.FC (dL l) (wid l) (xD h1);have b:=Pm.FC (dL m) (wid m) (xD h2);rw [hp,mE,hlen,hw,←mE m,b] at a;exact a.symm
 have hi:ids l=ids m:=Wm hn;unfold ids at hi;rw [←hE] at hi;refine Lu (fun p hp q hq e=>?_) hi;obtain ⟨p1,p2,p3⟩:=wO hl hp;obtain ⟨q1,q2,q3⟩:=wO hm hq;rw [←hE] at q1 q2 q3;unfold nums at e;simp only [Prod.mk.injEq] at e;obtain ⟨e1,e2,e3⟩:=e;exact Prod.ext (Lv p1 q1 ak) (Prod.ext (Lv p2 q2 ak) (Lv p3 q3 ak))
end So
open Go.ChangeShapes Go.WideShapes Go.ChangeAt Go.RowKit
theorem Pm.ahS (l:List Int) (w:Nat):Noughts (Pm.bytes l w) (l.length*w) (Pm.bytes l w).length:=by intro j h1 h2;rw [Pm.ahN] at h2;rw [Pm.Wj l w j h2,decide_eq_false ak];rfl
namespace So
theorem Lx (l:List TT):packed l=Pm.bytes (dL l) (wid l):=by unfold packed Pm.bytes;rw [mE]
theorem Wn {l:List TT} (hn:l.length≤100):Un (packed l) ((3*l.length:Nat):Int) ((wid l:Nat):Int):=by have hw:=Kg hn;have h:=Pm.ahS (dL l) (wid l);rw [←Lx,mE] at h;refine ⟨by unfold mb;simp;omega,?_,?_⟩;{rw [Int.toNat_natCast,Int.toNat_natCast];exact xE l};{rw [Int.toNat_natCast,Int.toNat_natCast];exact h}
theorem ahT {l:List TT} (hn:l.length≤100):iI (packed l) (3*l.length) (wid l) (3*l.length) 0=(dL l).map gH:=by
 have hb:=Pm.FC (dL l) (wid l) (xD hn);rw [←Lx,mE] at hb;conv=>rhs;rw [←hb]
 unfold iI Pm.nums;rw [List.map_map];refine List.map_congr_left fun t ht=>?_;have ht:=List.mem_range.1 ht;rw [if_pos ht];rfl
theorem vN:∀ (r:List Rg.T) (i:Nat) (h:i<r.length) (c:Nat),c<3→(r.flatMap eU)[3*i+c]?=some (Rg.at' r[i] c)
 | [],i,h,_,_=>absurd h aI
 | t::r,0,h,c,hc=>by
  show (eU t++r.flatMap eU)[3*0+c]?=_
  rw [List.getElem?_append_left (by show 3*0+c<3;omega)]
  rcases Rg.c3 hc with rfl | rfl | rfl <;> rfl
 | t::r,i+1,h,c,hc=>by
  show (eU t++r.flatMap eU)[3*(i+1)+c]?=_
  rw [List.getElem?_append_right (by show 3≤3*(i+1)+c;omega)]
  have e:3*(i+1)+c-(eU t).length=3*i+c:=by show 3*(i+1)+c-3=_;omega
  rw [e]
  exact vN r i (by simpa using h) c hc
theorem LA {l:List TT} {t:T3} (ht:t∈terms l):Fr.ext (texts l) (num (terms l) t:Nat)=sh t:=by
 obtain ⟨i,hi,e1,e2⟩:=qE ht;have hlen:(texts l).length=(terms l).length:=by unfold texts;rw [List.length_map]
 unfold Fr.ext;rw [e1,if_neg (by rw [hlen];omega)];have:((i+1:Nat):Int).toNat-1=i:=ak;rw [this];unfold Fr.at_ texts;simp [List.getD,hi,e2]
theorem ahU {l:List TT} (h:∀ p∈l,Tm.aZ p=true) {i:Nat} (hi:i<l.length) :
  ∃ a b c:Nat,(dL l)[3*i]?=some (a:Int)∧(dL l)[3*i+1]?=some (b:Int)∧(dL l)[3*i+2]?=some (c:Int) ∧
   Fr.ext (texts l) (a:Int)=sh l[i].1∧Fr.ext (texts l) (b:Int)=sh l[i].2.1∧Fr.ext (texts l) (c:Int)=sh l[i].2.2:=by
 have hI:i<(ids l).length:=by rw [gK];exact hi
 have he:(ids l)[i]=nums (terms l) l[i]:=by simp [ids]
 obtain ⟨p1,p2,p3⟩:=wO h (List.getElem_mem hi);have f0:=vN (ids l) i hI 0 ak;have f1:=vN (ids l) i hI 1 ak;have f2:=vN (ids l) i hI 2 ak;rw [he] at f0 f1 f2;exact ⟨_,_,_,f0,f1,f2,LA p1,LA p2,LA p3⟩
end So
open Go.ChangeShapes Go.WideShapes Go.ChangeAt Go.RowKit Go.Sort
theorem or_zero (k:Nat) (hk:k≤100):bits .or .i64 0 (k:Int)=(k:Int):=by have h:∀ j,j≤100→bits .or .i64 0 ((j:Nat):Int)=((j:Nat):Int):=aL;exact h k hk
def vO (A:List Value) (R:List TR) (i:Nat):Prop:=∀ j (h:j<R.length),j<i→∀ c,c<9→A[j*9+c]?=(aV R[j]).cells[c]?
def oG (A:List Value) (o:Nat) (a0 a1 a2 a3 a4 a5 a6 a7 a8:Value):List Value:=((((((((A.set o a0).set (o+1) a1).set (o+2) a2).set (o+3) a3).set (o+4) a4).set (o+5) a5).set (o+6) a6).set (o+7) a7).set (o+8) a8
theorem Wo (A:List Value) (o:Nat) (a0 a1 a2 a3 a4 a5 a6 a7 a8:Value):(oG A o a0 a1 a2 a3 a4 a5 a6 a7 a8).length=A.length:=by simp [oG]
theorem Wp (A:List Value) (o:Nat) (a0 a1 a2 a3 a4 a5 a6 a7 a8:Value) (ho:o+9≤A.length) (c:Nat) (hc:c<9):(oG A o a0 a1 a2 a3 a4 a5 a6 a7 a8)[o+c]?=[a0,a1,a2,a3,a4,a5,a6,a7,a8][c]?:=by unfold oG;rcases (show c=0∨c=1∨c=2∨c=3∨c=4∨c=5∨c=6∨c=7∨c=8 by omega) with rfl | rfl | rfl | rfl | rfl | rfl | rfl | rfl | rfl <;> simp [List.getElem?_set] <;> omega
theorem Wq (A:List Value) (o:Nat) (a0 a1 a2 a3 a4 a5 a6 a7 a8:Value) (x:Nat) (hx:x<o):(oG A o a0 a1 a2 a3 a4 a5 a6 a7 a8)[x]?=A[x]?:=by unfold oG;rw [List.getElem?_set_ne ak,List.getElem?_set_ne ak,List.getElem?_set_ne ak,List.getElem?_set_ne ak,List.getElem?_set_ne ak,List.getElem?_set_ne ak,List.getElem?_set_ne ak,List.getElem?_set_ne ak,List.getElem?_set_ne ak]
theorem ahV {A:List Value} {R:List TR} {i:Nat} (h:vO A R i) (hi:i<R.length) (hA:A.length=R.length*9) {a0 a1 a2 a3 a4 a5 a6 a7 a8:Value} (ht:(aV R[i]).cells=[a0,a1,a2,a3,a4,a5,a6,a7,a8]):vO (oG A (i*9) a0 a1 a2 a3 a4 a5 a6 a7 a8) R (i+1):=by intro j hj hji c hc;by_cases e:j=i;{subst e;rw [ht];exact Wp A (j*9) a0 a1 a2 a3 a4 a5 a6 a7 a8 ak c hc};{rw [Wq _ _ _ _ _ _ _ _ _ _ _ _ ak];exact h j hj ak c hc}
theorem Ws {W:World} {b N:Nat} {A:List Value} {R:List TR} (hB:aC W b A 67) (h:vO A R R.length) (hN:R.length=N) (hm2:N≤maxLen):bJ W (.slice (some ⟨b,0,none⟩) N N) (R.map aV):=by
 refine ⟨some ⟨b,0,none⟩,N,by rw [List.length_map,hN],by rw [List.length_map];omega,hm2,(fun h=>by cases h),Or.inr ⟨b,0,rfl,fun i hi c hc=>?_⟩⟩;rw [List.getElem_map,Nat.zero_add];have hi2:i<R.length:=by rw [List.length_map] at hi;exact hi
 have h1:=h i hi2 hi2 c hc;have h2:(aV R[i]).cells[c]?=some ((aV R[i]).cells[c]'(hc)):=List.getElem?_eq_getElem hc;rw [h2];exact hB.cell (h1.trans h2)
theorem Wt {w:World} {b:Nat} {A:List Value} {T:TypeId} (h:aC w b A T) (o:Nat) (ho:o+9≤A.length):∃ z0 z1 z2 z3 z4 z5 z6 z7 z8:Value,w.cell? ⟨b,o,none⟩=some z0∧w.cell? ⟨b,o+1,none⟩=some z1∧w.cell? ⟨b,o+2,none⟩=some z2∧w.cell? ⟨b,o+3,none⟩=some z3∧w.cell? ⟨b,o+4,none⟩=some z4∧w.cell? ⟨b,o+5,none⟩=some z5∧w.cell? ⟨b,o+6,none⟩=some z6∧w.cell? ⟨b,o+7,none⟩=some z7∧w.cell? ⟨b,o+8,none⟩=some z8∧w.frozen? ⟨b,o,none⟩=false∧w.frozen? ⟨b,o+1,none⟩=false∧w.frozen? ⟨b,o+2,none⟩=false∧w.frozen? ⟨b,o+3,none⟩=false∧w.frozen? ⟨b,o+4,none⟩=false∧w.frozen? ⟨b,o+5,none⟩=false∧w.frozen? ⟨b,o+6,none⟩=false∧w.frozen? ⟨b,o+7,none⟩=false∧w.frozen? ⟨b,o+8,none⟩=false:=
 ⟨_,_,_,_,_,_,_,_,_,h.cell (List.getElem?_eq_getElem ak),h.cell (List.getElem?_eq_getElem ak),h.cell (List.getElem?_eq_getElem ak),h.cell (List.getElem?_eq_getElem ak),h.cell (List.getElem?_eq_getElem ak),h.cell (List.getElem?_eq_getElem ak),h.cell (List.getElem?_eq_getElem ak),h.cell (List.getElem?_eq_getElem ak),h.cell (List.getElem?_eq_getElem ak),h.free _,h.free _,h.free _,h.free _,h.free _,h.free _,h.free _,h.free _,h.free _⟩
theorem Wu {w:World} {b:Nat} {A:List Value} {T:TypeId} (h:aC w b A T) (o:Nat) (a0 a1 a2 a3 a4 a5 a6 a7 a8:Value):aC (((((((((w.setCell ⟨b,o,none⟩ a0).setCell ⟨b,o+1,none⟩ a1).setCell ⟨b,o+2,none⟩ a2).setCell ⟨b,o+3,none⟩ a3).setCell ⟨b,o+4,none⟩ a4).setCell ⟨b,o+5,none⟩ a5).setCell ⟨b,o+6,none⟩ a6).setCell ⟨b,o+7,none⟩ a7).setCell ⟨b,o+8,none⟩ a8) b (oG A o a0 a1 a2 a3 a4 a5 a6 a7 a8) T:=
 (((((((((h.set _ _).set _ _).set _ _).set _ _).set _ _).set _ _).set _ _).set _ _).set _ _)
theorem Ww {B:Nat} {w0 w:World} {b:Nat} (h:Below B w0 w) (hb:B≤b) (o:Nat) (a0 a1 a2 a3 a4 a5 a6 a7 a8:Value):Below B w0 (((((((((w.setCell ⟨b,o,none⟩ a0).setCell ⟨b,o+1,none⟩ a1).setCell ⟨b,o+2,none⟩ a2).setCell ⟨b,o+3,none⟩ a3).setCell ⟨b,o+4,none⟩ a4).setCell ⟨b,o+5,none⟩ a5).setCell ⟨b,o+6,none⟩ a6).setCell ⟨b,o+7,none⟩ a7).setCell ⟨b,o+8,none⟩ a8):=
 (((((((((h.setCell hb _).setCell hb _).setCell hb _).setCell hb _).setCell hb _).setCell hb _).setCell hb _).setCell hb _).setCell hb _)
theorem ahW (L:List TR) (hl:∀ t∈L,Tm.aZ t=true) (hn:L.length≤100) (a:Option Addr) (n cap d:Nat) (w:World) (h:bN w (.slice a n cap) (So.d_ L)) (hnl:n=(So.d_ L).length) (hd:mq w d (So.texts L)) (hV:dF w) (hE:cu w) :
  Calls prog 48 #[.slice a n cap,.pointer (some ⟨d,0,none⟩)] w fun e w'=>∃ v,e=.returned (.tuple #[v,.bool true])∧bJ w' v (L.map aV)∧Below w.heap.size w w':=by
 have HV:=aj hV;have HE:=aj hE;have HD:=aj hd;have HL:=aj hl;obtain ⟨k,hk⟩:=aB L.length;obtain ⟨m,hm⟩:=aB ((So.terms L).length);obtain ⟨z,hz⟩:=aB (Pm.size (3*L.length) (So.wid L));have Us:z≤338:=by rw [hz];exact So.size_le hn
 have hn2:n=2+z:=by rw [hnl,hz];unfold So.d_;rw [List.length_append,So.xE];rfl
 have hb2:So.d_ L=[k / 256 % 256,k % 256]++So.packed L:=by rw [hk];rfl
 have tJ:k≤100:=ak;obtain ⟨a',cap',e1,q1,q2,q3,hrow⟩:=h;simp only [Value.slice.injEq] at e1;obtain ⟨rfl,-,rfl⟩:=e1;rw [←hnl] at q1 hrow;obtain ⟨ab,ao,rfl,hc⟩:=hrow.get (i:=0) ak;have c0:=hc 0 ak;have c1:=hc 1 ak;rw [hb2] at c0 c1;rw [show aM (([k / 256 % 256,k % 256]++So.packed L).getD 0 0)=.int .u8 0 by show Value.int .u8 ((k / 256 % 256:Nat):Int)=_;rw [show k / 256 % 256=0 by omega];rfl,Nat.add_zero] at c0;rw [show aM (([k / 256 % 256,k % 256]++So.packed L).getD 1 0)=.int .u8 (k:Nat) by show Value.int .u8 ((k % 256:Nat):Int)=_;rw [show k % 256=k by omega]] at c1;have lG:=aj (show ∀ i,i<z→w.cell? ⟨ab,ao+2+i,none⟩=some (.int .u8 ((So.packed L).getD i 0:Nat)) from fun i hi=>by have h:=hc (2+i) ak;rw [hb2] at h;rw [show ao+2+i=ao+(2+i) by omega,h];rw [show ([k / 256 % 256,k % 256]++So.packed L).getD (2+i) 0=(So.packed L).getD i 0 by simp [List.getD,show 2+i=i+2 by omega]];rfl);have HK:=aj hk;have HM:=aj hm;have HZ:=aj hz;have DL:=aj (fun W (hB:Below w.heap.size w W)=>K8 d (So.texts L) W (HD.out.keep hB));rw [show (So.texts L).length=m by rw [hm];unfold So.texts;rw [List.length_map]] at DL;have WD:=aj (fun W=>Dn (m:Int) W (by have:=So.nA L;omega));rw [Int.toNat_natCast,show Bn.width m=So.wid L by rw [hm];rfl] at WD;have hor:=or_zero k tJ;have hw1:IntKind.i64.wrap (3*(k:Int))=3*(k:Int):=IntWalk.i64_in _ ⟨ak,ak⟩;have hA1:(2:Int)≤(n:Int):=ak;have hA2:(n:Int)≤(cap:Int):=ak;have hA3:(2:Int)≤(cap:Int):=ak;have hnz:¬ (n:Int)<2:=ak;have hkz:¬ (100:Int)<(k:Int):=ak;have Wx:=aj hn;clear hV hE hd hl hrow hc hb2 hk hm hz hnl q3;go_enter func48,ntmps48;go_upto_region 3 with fail
 go_quiet (fail)
 obtain ⟨w1,vP⟩:=aB (w.drewN nq);have HB1:=aj (show Below w.heap.size w w1 by rw [vP];exact bn (Below.refl _ _) nq);rw [←vP];clear vP c0 c1;subst hn2;obtain ⟨fa,fc,hS,iO⟩:∃ (fa:Option Addr) (fc:Nat),(∀ W,(Instr.sliceAt 32 (.slice (some ⟨ab,ao,none⟩) (2+z) cap) (some (.int .i64 2)) none none).run prog W=.ok (.slice fa z fc) W)∧(∀ W,Below w.heap.size w W→bM W fa z fun i=>.int .u8 ((So.packed L).getD i 0:Nat)):=by have uW:¬ (2+(z:Int)<2):=ak;by_cases hc2:cap=2;{have hz0:z=0:=ak;subst hc2;subst hz0;exact ⟨some ⟨ab,ao,none⟩,0,fun W=>by simp [go_sem],fun W hB=>Or.inl rfl⟩};{have hc3:¬ cap-2=0:=ak;exact ⟨some ⟨ab,ao+2,none⟩,cap-2,fun W=>by simp [go_sem,hA1,hA2,hA3,uW,hc2,hc3],fun W hB=>Or.inr ⟨ab,ao+2,rfl,fun i hi=>aD hB (lG.out i hi)⟩⟩}
 have UN:=aj (show ∀ W,Below w.heap.size w W→Calls prog 90 #[.slice fa z fc,.int .i64 (3*(k:Int)),.int .i64 (So.wid L:Nat)] W fun e W'=>∃ b,e=.returned (.tuple #[.slice (some ⟨b,0,none⟩) (3*k) (3*k),.int .i64 0])∧Hid (aC W' b ((So.dL L).map gH) 3)∧Below W.heap.size W W' from fun W hB=>by have h:=UF fa z fc (3*k) (So.wid L) (So.packed L) W (by rw [So.xE,HZ.out]) (So.vD (So.Ub L)) (by rw [HK.out];exact So.Wn Wx.out) (iO W hB);rw [show ((3*k:Nat):Int)=3*(k:Int) by omega] at h;refine h.mono ?_;rintro e W' ⟨b,rfl,h1,_,h2⟩;rw [HK.out,So.ahT Wx.out] at h2;exact ⟨b,rfl,aj h2,h1⟩);obtain ⟨v0,hv0⟩:=aB (Value.slice (some ⟨ab,ao,none⟩) (2+z) cap);rw [←hv0] at hS;go_upto_region 6 with fail
 rw [←hv0];clear hv0 iO lG hA1 hA2 hA3;have hd1:Below w.heap.size w w1.drew:=bn HB1.out 1;go_region_law (first
  | (go_simp;go_at_call 92;with_reducible refine (DL.out _ hd1).mono ?_;rintro e w2 ⟨rfl,rfl⟩)
  | (go_simp;go_at_call 91;with_reducible refine (WD.out _).mono ?_;rintro e w2 ⟨rfl,rfl⟩)
  | (go_simp;go_at_call 90;with_reducible refine (UN.out _ hd1).mono ?_;rintro e w2 ⟨b,rfl,lW,hb2⟩;have HB2:=aj (aJ hd1 hb2))
  | fail)
 obtain ⟨i9,hi9,BM,hz91,hz92⟩:=sI;have mk:=fun W=>run_make W 39 67 i9 _ underlying39 hi9 BM .i64 .i64 k k ak ak (by rw [hz92];omega) ak;rw [hz91,Int.toNat_natCast] at mk;obtain ⟨Z,hZ⟩:=aB (madeCells (Value.agg sH.toArray).cells (k*9));rw [←hZ] at mk;have BN:Z.toList.length=k*9:=by rw [hZ];simp [size_madeCells]
 have LC:=aj BN;clear hZ BN hi9 BM hz91 hz92;obtain ⟨q,hq⟩:=aB w2.heap.size;obtain ⟨w3,hw3⟩:=aB (w2.alloc (.cells Z 67));have LD:=aj (show aC w3 q Z.toList 67 by rw [hw3];exact aC.new' hq.symm rfl);have HB3:=aj (show Below w2.heap.size w2 w3 by rw [hw3];exact (Below.refl _ _).alloc aF _);have mI:=aj hq;have HW3:=aj hw3;clear hw3 hq;go_upto_region 9 with fail
 go_upto_region 11 with fail
 rw [←HW3.out,←mI.out];clear mk HW3;have hbq:b≠q:=fun e=>by have h1:=lW.out.lt;have h2:=mI.out;omega
 have HBQ:=aj hbq;clear hbq;go_loopg [49] k (fun gk s49 wr=>∃ (i:Nat) (A:List Value),s49=.int .i64 i∧i≤k∧k-i≤gk∧Hid (Below q w2 wr)∧Hid (aC wr q A 67)∧Hid (A.length=k*9)∧Hid (vO A L i))
 case atStart=>exact ⟨0,Z.toList,rfl,Nat.zero_le _,Nat.le_refl _,aj (by rw [mI.out];exact HB3.out),LD,LC,aj (fun j hj h=>absurd h ak)⟩
 case round=>
  obtain ⟨i,A,rfl,hik,hg,HB,HQ,l7,nZ⟩:=hrel;have eH:=aj (show Below w2.heap.size w2 wr by rw [←mI.out];exact HB.out);have jP:=aj (aJ HB2.out eH.out);by_cases hlt:i<k
  · have hltz:(i:Int)<(k:Int):=ak;have bK:i<L.length:=(by rw [←HK.out];exact hlt);obtain ⟨x,y,u,f0,f1,f2,g0,g1,g2⟩:=So.ahU HL.out bK;obtain ⟨t,ht⟩:=aB (L[i]);rw [←ht] at g0 g1 g2;have hti:Tm.aZ t=true:=(by rw [ht];exact HL.out _ (List.getElem_mem _));have pK:=aj ht;have hps:=So.zH hti;obtain ⟨j0,hj0⟩:=aB (3*i);obtain ⟨j1,hj1⟩:=aB (3*i+1);obtain ⟨j2,hj2⟩:=aB (3*i+2);have vQ:=aj (lW.out.keep eH.out);have n0:=vQ.out.cell (i:=j0) (v:=.int .i64 (x:Int)) (by rw [List.getElem?_map,hj0,f0];rfl);have n1:=vQ.out.cell (i:=j1) (v:=.int .i64 (y:Int)) (by rw [List.getElem?_map,hj1,f1];rfl);have n2:=vQ.out.cell (i:=j2) (v:=.int .i64 (u:Int)) (by rw [List.getElem?_map,hj2,f2];rfl);have EX:=aj (fun (id:Nat) W (hB:Below w.heap.size w W)=>(VE d (So.texts L) (id:Int) W (HD.out.keep hB) ak).mono fun e w' (h:e=.returned (aA (Fr.ext (So.texts L) (id:Int)))∧W=w')=>(⟨h.1,h.2.symm⟩:e=.returned (aA (Fr.ext (So.texts L) (id:Int)))∧w'=W));have PO:=aj (show ∀ W,Below w.heap.size w W→Calls prog 84 #[aA (Tm.iY t)] W fun e w'=>e=.returned (.tuple #[eD (t.1.1:Nat) t.1.2.1 t.1.2.2 (t.2.1.1:Nat) t.2.1.2.1 t.2.1.2.2 (t.2.2.1:Nat) t.2.2.2.1 t.2.2.2.2,.bool true,.bool true])∧Below W.heap.size W w' from fun W hB=>by have h:=Jp (Tm.iY t) W (HV.out.keep hB) (HE.out.keep hB) (by have h1:=So.vC hps.1;have h2:=So.vC hps.2.1;have h3:=So.vC hps.2.2;unfold So.sh at h1 h2 h3;unfold Tm.iY;simp only [List.length_append,List.length_cons,List.length_nil];omega);rw [Tm.ZA hti] at h;exact h);have hl1:=So.vC hps.1;have hl2:=So.vC hps.2.1;have hl3:=So.vC hps.2.2;have Wy:Tm.iY t=So.sh t.1++32::(So.sh t.2.1++32::(So.sh t.2.2++32::[46])):=rfl;rw [Wy] at PO;obtain ⟨S1,hS1⟩:=aB (So.sh t.1);obtain ⟨S2,hS2⟩:=aB (So.sh t.2.1);obtain ⟨S3,BQ⟩:=aB (So.sh t.2.2);rw [←hS1] at g0 PO hl1;rw [←hS2] at g1 PO hl2;rw [←BQ] at g2 PO hl3;have HG:=aj (And.intro g0 (And.intro g1 g2));have hsum:Value.string ((⟨S1.toArray⟩:ByteArray)++⟨#[32]⟩++⟨S2.toArray⟩++⟨#[32]⟩++⟨S3.toArray⟩++⟨#[32,46]⟩)=aA (S1++32::(S2++32::(S3++32::[46]))):=(by have e:∀ a b:List UInt8,(⟨a.toArray⟩:ByteArray)++⟨b.toArray⟩=⟨(a++b).toArray⟩:=fun a b=>(by apply ByteArray.ext;simp);rw [show (⟨#[32]⟩:ByteArray)=⟨([32]:List UInt8).toArray⟩ from rfl,show (⟨#[32,46]⟩:ByteArray)=⟨([32,46]:List UInt8).toArray⟩ from rfl,e,e,e,e,e];simp [aA]);rw [←hsum] at PO;have hw3:IntKind.i64.wrap (3*(i:Int))=(j0:Int):=(by rw [IntWalk.i64_in _ ⟨ak,ak⟩];omega);have hw4:IntKind.i64.wrap ((j0:Int)+1)=(j1:Int):=(by rw [IntWalk.i64_in _ ⟨ak,ak⟩];omega);have cK:IntKind.i64.wrap ((j0:Int)+2)=(j2:Int):=(by rw [IntWalk.i64_in _ ⟨ak,ak⟩];omega);have y0:(j0:Int)<3*(k:Int):=ak;have y1:(j1:Int)<3*(k:Int):=ak;have y2:(j2:Int)<3*(k:Int):=ak;have z0:(0:Int)≤(j0:Int):=ak;have z1:(0:Int)≤(j1:Int):=ak;have z2:(0:Int)≤(j2:Int):=ak;clear f0 f1 f2 g0 g1 g2 ht hS1 hS2 BQ hsum Wy hps hj0 hj1 hj2 hti;(go_upto_region 13 with fail);(go_quiet (first | (go_at_call 93;exact mO fun W hW=>EX.out _ W (by rw [hW];exact bn jP.out _))));rw [HG.out.1,HG.out.2.1,HG.out.2.2];obtain ⟨w4,oH⟩:=aB (wr.drewN nq);have aT:=aj (show Below q w2 w4 by rw [oH];exact bn HB.out nq);have vR:=aj (show Below w.heap.size w w4 by rw [oH];exact bn jP.out nq);have vG:=aj (show aC w4 q A 67 by rw [oH];exact HQ.out.drewN nq);rw [←oH];clear oH n0 n1 n2 hw3 hw4 cK y0 y1 y2 z0 z1 z2 HG EX;obtain ⟨⟨n1,t1,x1⟩,⟨n2,t2,x2⟩,n3,t3,x3⟩:=t;simp only at PO;(go_wp2_with fail);refine (PO.out _ vR.out).mono ?_;rintro e w5 ⟨rfl,hb5⟩;have aO:=aj hb5;have l9:=aj (vG.out.keep hb5);clear hb5 PO;have lg:=l9.out.lt;obtain ⟨w6,dK⟩:=aB (aW w5 n1 t1 x1 n2 t2 x2 n3 t3 x3);have pO:=aj (show aC w6 q A 67 by rw [dK];exact l9.out.alloc _);have aU:=aj (show Below q w2 w6 by rw [dK];exact (aT.out.trans (aO.out.mono (by have:=vG.out.lt;omega))).alloc ak _);have cZ:=aj (show aC w6 w5.heap.size [.int .i64 (n1:Nat),aA t1,aA x1,.int .i64 (n2:Nat),aA t2,aA x2,.int .i64 (n3:Nat),aA t3,aA x3] 67 by rw [dK];exact f_ w5 n1 t1 x1 n2 t2 x2 n3 t3 x3);have hne:w5.heap.size≠q:=ak;have BR:=aj dK;clear dK;(go_upto_region 15 with fail);show Code.wp _ _ _ _ (aW w5 n1 t1 x1 n2 t2 x2 n3 t3 x3);rw [←BR.out];obtain ⟨bt,hbt⟩:=aB w5.heap.size;rw [←hbt] at cZ hne ⊢;clear hbt BR;have TO:=aj (ahV nZ.out bK (by rw [l7.out,HK.out]) (by rw [←pK.out];rfl));have sK:i*9+9≤A.length:=(by have:=l7.out;omega);obtain ⟨m0,m1,m2,m3,m4,m5,m6,m7,m8⟩:=dQ cZ.out;obtain ⟨z0,z1,z2,z3,z4,z5,z6,z7,z8,d0,d1,d2,d3,d4,d5,d6,d7,d8,f0,f1,f2,f3,f4,f5,f6,f7,f8⟩:=Wt pO.out (i*9) sK;clear sK;(go_upto_region 17 with fail);(go_wp2_with fail);obtain ⟨w8,hw8⟩:=aB ((((((((((w6.setCell ⟨q,i*9,none⟩ (.int .i64 (n1:Nat))).setCell ⟨q,i*9+1,none⟩ (aA t1)).setCell ⟨q,i*9+2,none⟩ (aA x1)).setCell ⟨q,i*9+3,none⟩ (.int .i64 (n2:Nat))).setCell ⟨q,i*9+4,none⟩ (aA t2)).setCell ⟨q,i*9+5,none⟩ (aA x2)).setCell ⟨q,i*9+6,none⟩ (.int .i64 (n3:Nat))).setCell ⟨q,i*9+7,none⟩ (aA t3)).setCell ⟨q,i*9+8,none⟩ (aA x3)));have aX:=aj (show Below q w2 w8 by rw [hw8];exact Ww aU.out aF _ _ _ _ _ _ _ _ _ _);have Aj:=aj (show aC w8 q (oG A (i*9) (.int .i64 (n1:Nat)) (aA t1) (aA x1) (.int .i64 (n2:Nat)) (aA t2) (aA x2) (.int .i64 (n3:Nat)) (aA t3) (aA x3)) 67 by rw [hw8];exact Wu pO.out _ _ _ _ _ _ _ _ _ _);rw [←hw8];clear hw8;go_wp2;go_roundg (k-(i+1))
    (case measure=>omega);case rel=>exact ⟨i+1,_,aN,ak,ak,aX,Aj,aj (by rw [Wo];exact l7.out),TO⟩
  · obtain rfl:i=k:=ak;go_wp2;go_ret2
    refine ⟨_,rfl,Ws HQ.out (by rw [←HK.out];exact nZ.out) HK.out.symm (by unfold maxLen;omega),jP.out⟩
end Go.Proofs.YtjaebndajhppgaaGreatDoor
