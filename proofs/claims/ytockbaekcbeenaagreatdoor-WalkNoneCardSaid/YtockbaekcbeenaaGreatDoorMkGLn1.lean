/-GLn1-/
import Derived.Test.YtockbaekcbeenaaGreatDoorMkHd0
import Derived.Test.YtockbaekcbeenaaGreatDoorMkTmRIs
import Derived.Test.YtockbaekcbeenaaGreatDoorMkGTm3
import Derived.Deep.LoopGhost
import Derived.Test.YtockbaekcbeenaaGreatDoorMkGTm2
import Derived.Laws.Cover4
import Derived.Laws.IdiomStrings
import Derived.Deep.DeepCutAuto
set_option linter.unusedVariables false
set_option linter.unusedSimpArgs false
set_option maxRecDepth 100000
set_option maxHeartbeats 2000000
namespace Go.Proofs.YtockbaekcbeenaaGreatDoor
open Go.Proofs.Tryz
open Go.ChangeShapes Go.WideShapes Go.ChangeAt Go.RowKit
def dX (k1:Int) (t1 x1:List UInt8) (k2:Int) (t2 x2:List UInt8) (k3:Int) (t3 x3:List UInt8):Bool:=
 decide (k1=1∨k1=2) && decide (k2=1) && (Tm.is k1 t1 x1 && Tm.is k2 t2 x2 && Tm.is k3 t3 x3)
abbrev gu (k1:Int) (t1 x1:List UInt8) (k2:Int) (t2 x2:List UInt8) (k3:Int) (t3 x3:List UInt8):Value:=
 .agg #[.int .i64 k1,aA t1,aA x1,.int .i64 k2,aA t2,aA x2,.int .i64 k3,aA t3,aA x3]
def aX (w:World) (k1:Int) (t1 x1:List UInt8) (k2:Int) (t2 x2:List UInt8) (k3:Int) (t3 x3:List UInt8):World:=
 w.alloc (.cells #[.int .i64 k1,aA t1,aA x1,.int .i64 k2,aA t2,aA x2,.int .i64 k3,aA t3,aA x3] 65)
theorem iU (w:World) (k1:Int) (t1 x1:List UInt8) (k2:Int) (t2 x2:List UInt8) (k3:Int) (t3 x3:List UInt8):aB (aX w k1 t1 x1 k2 t2 x2 k3 t3 x3) w.heap.size [.int .i64 k1,aA t1,aA x1,.int .i64 k2,aA t2,aA x2,.int .i64 k3,aA t3,aA x3] 65:=aB.new' rfl rfl
theorem aag (k1:Int) (t1 x1:List UInt8) (k2:Int) (t2 x2:List UInt8) (k3:Int) (t3 x3:List UInt8) (w:World) (ht1:t1.length≤1000000000) (hx1:x1.length≤1000000000) (ht2:t2.length≤1000000000) (hx2:x2.length≤1000000000) (ht3:t3.length≤1000000000) (hx3:x3.length≤1000000000) (hV:d9 w) (hk:k1≠1∧k1≠2) :
  Calls prog 101 #[gu k1 t1 x1 k2 t2 x2 k3 t3 x3] w fun e w'=>e=.returned (.bool (dX k1 t1 x1 k2 t2 x2 k3 t3 x3))∧Below w.heap.size w w':=by
 have HB:=aj (show Below w.heap.size w (aX w k1 t1 x1 k2 t2 x2 k3 t3 x3) from (Below.refl _ _).alloc aG _);have HV:=aj (hV.keep HB.out);have HU:=aj (iU w k1 t1 x1 k2 t2 x2 k3 t3 x3);have HF:=aj (show dX k1 t1 x1 k2 t2 x2 k3 t3 x3=false by unfold dX;rw [decide_eq_false ay];rfl);have e1:(k1==1)=false:=beq_eq_false_iff_ne.2 hk.1;have e2:(k1==2)=false:=beq_eq_false_iff_ne.2 hk.2;have n1:(k1 != 1)=true:=by simp [bne,e1]
 have n2:(k1 != 2)=true:=by simp [bne,e2]
 clear hV hk;go_enter func101,ntmps101;go_wp2_with (show wpList _ _ _ _ _ (aX w k1 t1 x1 k2 t2 x2 k3 t3 x3);obtain ⟨w1,hw1⟩:=aC (aX w k1 t1 x1 k2 t2 x2 k3 t3 x3);rw [←hw1] at HB HV HU ⊢;clear hw1;have c0:=HU.out.cell (i:=0) rfl;have c3:=HU.out.cell (i:=3) rfl)
 go_ret;exact ⟨by rw [HF.out];rfl,HB.out⟩
theorem aah (k1:Int) (t1 x1:List UInt8) (k2:Int) (t2 x2:List UInt8) (k3:Int) (t3 x3:List UInt8) (w:World) (ht1:t1.length≤1000000000) (hx1:x1.length≤1000000000) (ht2:t2.length≤1000000000) (hx2:x2.length≤1000000000) (ht3:t3.length≤1000000000) (hx3:x3.length≤1000000000) (hV:d9 w) (hk:k1=1∨k1=2) (hk2:k2≠1) :
  Calls prog 101 #[gu k1 t1 x1 k2 t2 x2 k3 t3 x3] w fun e w'=>e=.returned (.bool (dX k1 t1 x1 k2 t2 x2 k3 t3 x3))∧Below w.heap.size w w':=by
 have HB:=aj (show Below w.heap.size w (aX w k1 t1 x1 k2 t2 x2 k3 t3 x3) from (Below.refl _ _).alloc aG _);have HV:=aj (hV.keep HB.out);have HU:=aj (iU w k1 t1 x1 k2 t2 x2 k3 t3 x3);have HF:=aj (show dX k1 t1 x1 k2 t2 x2 k3 t3 x3=false by unfold dX;rw [decide_eq_false hk2,Bool.and_false];rfl);have e1:(k2==1)=false:=beq_eq_false_iff_ne.2 hk2;have n1:(k2 != 1)=true:=by simp [bne,e1]
 clear hV hk2;rcases hk with rfl | rfl;all_goals
  go_enter func101,ntmps101
  go_wp2_with (show wpList _ _ _ _ _ (aX w k1 t1 x1 k2 t2 x2 k3 t3 x3);obtain ⟨w1,hw1⟩:=aC (aX w k1 t1 x1 k2 t2 x2 k3 t3 x3);rw [←hw1] at HB HV HU ⊢;clear hw1;have c0:=HU.out.cell (i:=0) rfl;have c3:=HU.out.cell (i:=3) rfl)
  go_ret
  exact ⟨by rw [HF.out];rfl,HB.out⟩
theorem aai (k1:Int) (t1 x1:List UInt8) (k2:Int) (t2 x2:List UInt8) (k3:Int) (t3 x3:List UInt8) (w:World) (ht1:t1.length≤1000000000) (hx1:x1.length≤1000000000) (ht2:t2.length≤1000000000) (hx2:x2.length≤1000000000) (ht3:t3.length≤1000000000) (hx3:x3.length≤1000000000) (hV:d9 w) (hk:k1=1∨k1=2) (hk2:k2=1) :
  Calls prog 101 #[gu k1 t1 x1 k2 t2 x2 k3 t3 x3] w fun e w'=>e=.returned (.bool (dX k1 t1 x1 k2 t2 x2 k3 t3 x3))∧Below w.heap.size w w':=by
 have HB:=aj (show Below w.heap.size w (aX w k1 t1 x1 k2 t2 x2 k3 t3 x3) from (Below.refl _ _).alloc aG _);have HV:=aj (hV.keep HB.out);have HU:=aj (iU w k1 t1 x1 k2 t2 x2 k3 t3 x3);have HF:=aj (show dX k1 t1 x1 k2 t2 x2 k3 t3 x3=(Tm.is k1 t1 x1 && Tm.is k2 t2 x2 && Tm.is k3 t3 x3) by unfold dX;rw [decide_eq_true hk,decide_eq_true hk2];rfl);have I1:=aj (fun W h=>I9 k1 t1 x1 W ay ay h);have I2:=aj (fun W h=>I9 k2 t2 x2 W ay ay h);have I3:=aj (fun W h=>I9 k3 t3 x3 W ay ay h);obtain ⟨b1,h1⟩:=aC (Tm.is k1 t1 x1);obtain ⟨b2,h2⟩:=aC (Tm.is k2 t2 x2);obtain ⟨b3,h3⟩:=aC (Tm.is k3 t3 x3);rw [←h1,←h2,←h3] at HF;rw [←h1] at I1;rw [←h2] at I2;rw [←h3] at I3;clear h1 h2 h3 hV;subst hk2;rcases hk with rfl | rfl;all_goals
  cases b1
  · go_enter func101,ntmps101
    go_wp2_with (show wpList _ _ _ _ _ (aX w k1 t1 x1 k2 t2 x2 k3 t3 x3);obtain ⟨w1,hw1⟩:=aC (aX w k1 t1 x1 k2 t2 x2 k3 t3 x3);rw [←hw1] at HB HV HU ⊢;clear hw1;have c0:=HU.out.cell (i:=0) rfl;have c3:=HU.out.cell (i:=3) rfl;have c1:=HU.out.cell (i:=1) rfl;have c2:=HU.out.cell (i:=2) rfl)
    refine (I1.out _ HV.out).mono ?_
    rintro e w2 ⟨rfl,hb2⟩
    have HB2:=aj (aI HB.out hb2)
    go_wp2
    go_ret
    exact ⟨by rw [HF.out];rfl,HB2.out⟩
  · cases b2
    · go_enter func101,ntmps101
      go_wp2_with (show wpList _ _ _ _ _ (aX w k1 t1 x1 k2 t2 x2 k3 t3 x3);obtain ⟨w1,hw1⟩:=aC (aX w k1 t1 x1 k2 t2 x2 k3 t3 x3);rw [←hw1] at HB HV HU ⊢;clear hw1;have c0:=HU.out.cell (i:=0) rfl;have c3:=HU.out.cell (i:=3) rfl;have c1:=HU.out.cell (i:=1) rfl;have c2:=HU.out.cell (i:=2) rfl)
      refine (I1.out _ HV.out).mono ?_
      rintro e w2 ⟨rfl,hb2⟩
      have HB2:=aj (aI HB.out hb2)
      have dK:=aj (HV.out.keep hb2)
      have bJ:=aj (HU.out.keep hb2)
      clear hb2
      have c3:=bJ.out.cell (i:=3) rfl;have c4:=bJ.out.cell (i:=4) rfl;have c5:=bJ.out.cell (i:=5) rfl
      go_wp2_with fail
      refine (I2.out _ dK.out).mono ?_
      rintro e w3 ⟨rfl,hb3⟩
      have HB3:=aj (aI HB2.out hb3)
      go_wp2
      go_ret
      exact ⟨by rw [HF.out];rfl,HB3.out⟩
    · go_enter func101,ntmps101
      go_wp2_with (show wpList _ _ _ _ _ (aX w k1 t1 x1 k2 t2 x2 k3 t3 x3);obtain ⟨w1,hw1⟩:=aC (aX w k1 t1 x1 k2 t2 x2 k3 t3 x3);rw [←hw1] at HB HV HU ⊢;clear hw1;have c0:=HU.out.cell (i:=0) rfl;have c3:=HU.out.cell (i:=3) rfl;have c1:=HU.out.cell (i:=1) rfl;have c2:=HU.out.cell (i:=2) rfl)
      refine (I1.out _ HV.out).mono ?_
      rintro e w2 ⟨rfl,hb2⟩
      have HB2:=aj (aI HB.out hb2)
      have dK:=aj (HV.out.keep hb2)
      have bJ:=aj (HU.out.keep hb2)
      clear hb2
      have c3:=bJ.out.cell (i:=3) rfl;have c4:=bJ.out.cell (i:=4) rfl;have c5:=bJ.out.cell (i:=5) rfl
      go_wp2_with fail
      refine (I2.out _ dK.out).mono ?_
      rintro e w3 ⟨rfl,hb3⟩
      have HB3:=aj (aI HB2.out hb3)
      have fU:=aj (dK.out.keep hb3)
      have fD:=aj (bJ.out.keep hb3)
      clear hb3
      have c6:=fD.out.cell (i:=6) rfl;have c7:=fD.out.cell (i:=7) rfl;have c8:=fD.out.cell (i:=8) rfl
      go_wp2_with fail
      refine (I3.out _ fU.out).mono ?_
      rintro e w4 ⟨rfl,hb4⟩
      have aP:=aj (aI HB3.out hb4)
      go_wp2
      go_ret
      exact ⟨by rw [HF.out];rfl,aP.out⟩
theorem P7 (k1:Int) (t1 x1:List UInt8) (k2:Int) (t2 x2:List UInt8) (k3:Int) (t3 x3:List UInt8) (w:World) (ht1:t1.length≤1000000000) (hx1:x1.length≤1000000000) (ht2:t2.length≤1000000000) (hx2:x2.length≤1000000000) (ht3:t3.length≤1000000000) (hx3:x3.length≤1000000000) (hV:d9 w) :
  Calls prog 101 #[gu k1 t1 x1 k2 t2 x2 k3 t3 x3] w fun e w'=>e=.returned (.bool (dX k1 t1 x1 k2 t2 x2 k3 t3 x3))∧Below w.heap.size w w':=by by_cases hk:k1=1∨k1=2;{by_cases hk2:k2=1;{exact aai k1 t1 x1 k2 t2 x2 k3 t3 x3 w ht1 hx1 ht2 hx2 ht3 hx3 hV hk hk2};{exact aah k1 t1 x1 k2 t2 x2 k3 t3 x3 w ht1 hx1 ht2 hx2 ht3 hx3 hV hk hk2}};{exact aag k1 t1 x1 k2 t2 x2 k3 t3 x3 w ht1 hx1 ht2 hx2 ht3 hx3 hV ay}
abbrev bI (q:Nat):Value:=.pointer (some ⟨q,0,none⟩)
def aK (q:Nat) (w w':World):Prop:=w.grownBy w' (some q)
theorem aK.refl (q:Nat) (w:World):aK q w w:=⟨rfl,rfl,rfl,Nat.le_refl _,fun _ _ _=>rfl⟩
theorem aK.trans {q:Nat} {a b c:World} (h:aK q a b) (k:aK q b c):aK q a c:=
 ⟨k.os.trans h.os,k.tape.trans h.tape,k.output.trans h.output,Nat.le_trans h.size k.size,fun i hi hn=>(k.block i (Nat.lt_of_lt_of_le hi h.size) hn).trans (h.block i hi hn)⟩
theorem aK.below {q:Nat} {a b:World} (h:Below a.heap.size a b):aK q a b:=⟨h.os,h.tape,h.output,h.size,fun i hi _=>h.block i hi⟩
theorem aK.set (q:Nat) (w:World) (i:Nat) (v:Value):aK q w (w.setCell ⟨q,i,none⟩ v):=
 ⟨rfl,rfl,rfl,aH,fun k hk hn=>Below.heap_setCell _ _ _ _ (by simpa using fun e=>hn (by rw [e]))⟩
theorem aK.drawn (q:Nat) (w:World) (n:Nat):aK q w (w.drewN n):=⟨rfl,rfl,rfl,Nat.le_refl _,fun _ _ _=>rfl⟩
theorem aK.into {q:Nat} {a b c:World} (hb:Below a.heap.size a b) (h:aK q b c) (hq:a.heap.size≤q):Below a.heap.size a c:=
 hb.grown h hb.size (fun k hk=>by cases hk;exact hq)
theorem aK.blk {q k:Nat} {w w':World} {A:List Value} {t:TypeId} (h:aB w k A t) (hb:aK q w w') (hk:k≠q):aB w' k A t:=by unfold aB;rw [hb.block k h.lt (by simpa using hk)];exact h
def dU (c:UInt8):Bool:=c==32 || c==9
theorem aaj {c:UInt8} (h:c.toNat=32∨c.toNat=9):dU c=true:=by unfold dU;rcases h with h | h;{rw [UInt8.toNat_inj.1 (show c.toNat=(32:UInt8).toNat from h)];rfl};{rw [UInt8.toNat_inj.1 (show c.toNat=(9:UInt8).toNat from h)];rfl}
theorem aak {c:UInt8} (h:c.toNat≠32∧c.toNat≠9):dU c=false:=by unfold dU;rw [Bool.or_eq_false_iff,beq_eq_false_iff_ne,beq_eq_false_iff_ne];exact ⟨fun e=>h.1 (by rw [e];rfl),fun e=>h.2 (by rw [e];rfl)⟩
theorem Ja (p:UInt8→Bool):∀ (s:List UInt8) (n:Nat),n≤s.length→(s.take n).all p=true→(∀ c,s[n]?=some c→p c=false)→s.takeWhile p=s.take n∧s.dropWhile p=s.drop n
 | [],0,_,_,_=>⟨rfl,rfl⟩
 | [],n+1,h,_,_=>by simp at h
 | c::s,0,_,_,h=>by have:=h c rfl;simp [this]
 | c::s,n+1,hn,ha,h=>by
  rw [List.take_succ_cons,List.all_cons,Bool.and_eq_true] at ha
  have ih:=Ja p s n (by simpa using hn) ha.2 (fun d hd=>h d (by simpa using hd))
  simp [ha.1,ih.1,ih.2]
theorem aal (i:Nat) (h:i<8):16 ^ i≤268435456:=by rcases (show i=0∨i=1∨i=2∨i=3∨i=4∨i=5∨i=6∨i=7 by omega) with rfl | rfl | rfl | rfl | rfl | rfl | rfl | rfl <;> decide
theorem aam (k:Nat) (s:List UInt8) (i x:Nat) (c:UInt8) (h:s[i]?=some c):Tm.fQ (k+1) (s.drop i) x=match Tm.kL c with
  | none=>none
  | some d=>Tm.fQ k (s.drop (i+1)) (x*16+d):=by obtain ⟨hl,e⟩:=List.getElem?_eq_some_iff.1 h;rw [List.drop_eq_getElem_cons hl,e];rfl
theorem Jb:∀ (n:Nat) (s:List UInt8) (x:Nat),s.length<n→Tm.fQ n s x=none
 | 0,s,x,h=>ay
 | n+1,[],x,h=>rfl
 | n+1,c::t,x,h=>by
  unfold Tm.fQ
  cases Tm.kL c with
  | none=>rfl
  | some d=>exact Jb n t _ (by simpa using h)
theorem aan {c:UInt8} (h:48≤c.toNat∧c.toNat≤57):Tm.kL c=some (c.toNat-48):=by unfold Tm.kL;rw [if_pos h]
theorem aao {c:UInt8} (h:97≤c.toNat∧c.toNat≤102):Tm.kL c=some (c.toNat-87):=by unfold Tm.kL;rw [if_neg ay,if_pos h]
theorem aap {c:UInt8} (h:65≤c.toNat∧c.toNat≤70):Tm.kL c=some (c.toNat-55):=by unfold Tm.kL;rw [if_neg ay,if_neg ay,if_pos h]
theorem aaq {c:UInt8} (h:c.toNat<48∨(57<c.toNat∧c.toNat<65)∨(70<c.toNat∧c.toNat<97)∨102<c.toNat):Tm.kL c=none:=by unfold Tm.kL;rw [if_neg ay,if_neg ay,if_neg ay]
namespace Tm
theorem Es (e:UInt8) (lit:Bool):∀ (f g:Nat) (s:T),s.length<f→s.length<g→up f e lit s=up g e lit s
 | 0,g,s,h,_=>ay
 | f+1,0,s,_,h=>ay
 | f+1,g+1,[],_,_=>rfl
 | f+1,g+1,c::t,hf,hg=>by
  unfold up
  simp only [List.length_cons] at hf hg
  rw [Es e lit f g t ay ay]
  cases h:kM lit t with
  | none=>rfl
  | some p=>
   obtain ⟨x,n⟩:=p
   simp only
   rw [Es e lit f g (t.drop n) (by rw [List.length_drop];omega) (by rw [List.length_drop];omega)]
def dG (e:UInt8) (lit:Bool) (s:T):Option (T×T):=up (s.length+1) e lit s
theorem P8 (e:UInt8) (lit:Bool) (c:UInt8) (t:T):dG e lit (c::t)=if c=e then some ([],t) else if c=92 then (match kM lit t with
  | none=>none
  | some (x,n)=>(dG e lit (t.drop n)).map (fun r=>(x++r.1,r.2)))
  else if c=10∨c=13 then none else (dG e lit t).map (fun r=>(c::r.1,r.2)):=by
 show up (t.length+1+1) e lit (c::t)=_;rw [up];unfold dG;cases h:kM lit t with
 | none=>rfl
 | some p=>obtain ⟨x,n⟩:=p;simp only;rw [Es e lit (t.length+1) ((t.drop n).length+1) (t.drop n) (by rw [List.length_drop];omega) ay]
theorem P9 (x:Nat):(kg x).length≤4:=by have:=encode_size_le (x:Int);unfold kg;simpa using this
theorem P_ {n:Nat} {s:T} {x:Nat} (h:dR n s=some x):n≤s.length:=by rcases Nat.lt_or_ge s.length n with hl | hl;{unfold dR at h;rw [Jb n s 0 hl] at h;cases h};{exact hl}
theorem Qa {lit:Bool} {s x:T} {n:Nat} (h:kM lit s=some (x,n)):1≤n∧n≤s.length∧x.length≤4:=by
 cases s with
 | nil=>cases h
 | cons c t=>
  have e0:kM lit (c::t)=if c=117 then (dR 4 t).map (fun x=>(kg x,5)) else if c=85 then (dR 8 t).map (fun x=>(kg x,9)) else if lit then (letter c).map (fun d=>([d],1)) else none:=rfl
  rw [e0] at h;split at h
  · cases hr:dR 4 t with
    | none=>rw [hr] at h;cases h
    | some y=>rw [hr] at h;simp only [Option.map_some,Option.some.injEq,Prod.mk.injEq] at h;have:=P_ hr;have:=P9 y;obtain ⟨rfl,rfl⟩:=h;simp only [List.length_cons];omega
  · split at h
    · cases hr:dR 8 t with
      | none=>rw [hr] at h;cases h
      | some y=>rw [hr] at h;simp only [Option.map_some,Option.some.injEq,Prod.mk.injEq] at h;have:=P_ hr;have:=P9 y;obtain ⟨rfl,rfl⟩:=h;simp only [List.length_cons];omega
    · split at h
      · cases hr:letter c with
        | none=>rw [hr] at h;cases h
        | some y=>rw [hr] at h;simp only [Option.map_some,Option.some.injEq,Prod.mk.injEq] at h;obtain ⟨rfl,rfl⟩:=h;simp
      {cases h}
end Tm
def upT (r:Option (List UInt8×List UInt8)):List UInt8:=match r with
 | none=>[]
 | some p=>p.1
def upR (r:Option (List UInt8×List UInt8)):List UInt8:=match r with
 | none=>[]
 | some p=>p.2
open Go.ChangeShapes Go.WideShapes Go.ChangeAt Go.RowKit
namespace Tm
def gy (r:T):Option (Nat×T×T×T):=match dG 34 true r with
 | none=>none
 | some (t,v)=>if v.headD 0=64 then some (4,t,(v.tail.takeWhile f_).map lower,v.tail.dropWhile f_)
  else if v.take 3=[94,94,60] then (dG 62 false (v.drop 3)).map (fun q=>(5,t,q.1,q.2))
  else some (3,t,[],v)
theorem rM {e:UInt8} {lit:Bool}:∀ (n:Nat) {s t v:T},s.length≤n→dG e lit s=some (t,v)→t.length≤4*s.length∧v.length<s.length
 | _,[],t,v,_,h=>by cases h
 | 0,c::s,t,v,hn,_=>by simp at hn
 | n+1,c::s,t,v,hn,h=>by
  rw [P8] at h
  simp only [List.length_cons] at hn ⊢
  split at h
  · simp only [Option.some.injEq,Prod.mk.injEq] at h
    obtain ⟨rfl,rfl⟩:=h
    simp
  · split at h
    · cases he:kM lit s with
      | none=>rw [he] at h;cases h
      | some p=>
       obtain ⟨x,k⟩:=p
       rw [he] at h
       obtain ⟨h1,h2,h3⟩:=Qa he
       simp only at h
       cases hu:dG e lit (s.drop k) with
       | none=>rw [hu] at h;cases h
       | some z=>
        obtain ⟨t',v'⟩:=z
        rw [hu] at h
        simp only [Option.map_some,Option.some.injEq,Prod.mk.injEq] at h
        obtain ⟨rfl,rfl⟩:=h
        have:=rM n (s:=s.drop k) (by rw [List.length_drop];omega) hu
        rw [List.length_drop] at this
        rw [List.length_append];omega
    · split at h
      · cases h
      · cases hu:dG e lit s with
        | none=>rw [hu] at h;cases h
        | some z=>
         obtain ⟨t',v'⟩:=z
         rw [hu] at h
         simp only [Option.map_some,Option.some.injEq,Prod.mk.injEq] at h
         obtain ⟨rfl,rfl⟩:=h
         have:=rM n ay hu
         simp only [List.length_cons];omega
end Tm
theorem Jc (p:UInt8→Bool) (l:List UInt8):(l.takeWhile p).length≤l.length:=by have:=congrArg List.length (List.takeWhile_append_dropWhile (p:=p) (l:=l));rw [List.length_append] at this;omega
theorem aK.fresh {q b:Nat} {w X:World} (h:aK q w X) (hb:w.heap.size≤b) (i:Nat) (v:Value):aK q w (X.setCell ⟨b,i,none⟩ v):=
 ⟨h.os,h.tape,h.output,by have:=h.size;simpa using this,fun k hk hn=>by rw [Below.heap_setCell _ _ _ _ (by show k≠b;omega)];exact h.block k hk hn⟩
open Go.ChangeShapes Go.WideShapes Go.ChangeAt Go.RowKit
namespace Tm
theorem Et (r:T):dY (60::r)=(dG 62 false r).map (fun q:T×T=>((1:Nat),q.1,([]:T),q.2)):=rfl
theorem Jd (r:T):dY (95::58::r)=some (2,r.takeWhile eu,[],r.dropWhile eu):=rfl
theorem yh (r:T):dY (34::r)=gy r:=by
 unfold gy;show (match up (r.length+1) 34 true r with
   | none=>none
   | some (t,v)=>if v.headD 0=64 then some (4,t,(v.tail.takeWhile f_).map lower,v.tail.dropWhile f_)
    else if v.take 3=[94,94,60] then (up (v.length+1) 62 false (v.drop 3)).map (fun q:T×T=>((5:Nat),t,q.1,q.2))
    else some (3,t,[],v))=_
 unfold dG;cases up (r.length+1) 34 true r with
 | none=>rfl
 | some p=>obtain ⟨t,v⟩:=p;simp only;rw [Es 62 false (v.length+1) ((v.drop 3).length+1) (v.drop 3) (by rw [List.length_drop];omega) ay]
theorem Qb {s:T} (h1:s.take 1≠[60]) (h2:s.take 2≠[95,58]) (h3:s.take 1≠[34]):dY s=none:=by
 cases s with
 | nil=>rfl
 | cons c r=>
  have a1:c≠60:=fun e=>h1 (by rw [e];rfl);have a3:c≠34:=fun e=>h3 (by rw [e];rfl);show (if c=60 then _ else if c=95 then _ else if c=34 then _ else none)=none;rw [if_neg a1];by_cases a2:c=95
  · rw [if_pos a2,if_neg];intro e;cases r with
    | nil=>exact absurd e aL
    | cons d r=>simp only [List.headD_cons] at e;exact h2 (by rw [a2,e];rfl)
  {rw [if_neg a2,if_neg a3]}
theorem aar {s:T} {k:Nat} {t x v:T} (h:gy s=some (k,t,x,v)):t.length≤4*s.length∧x.length≤4*s.length∧v.length≤s.length:=by
 unfold gy at h;cases hu:dG 34 true s with
 | none=>rw [hu] at h;cases h
 | some p=>
  obtain ⟨t',v'⟩:=p;rw [hu] at h;have h1:=rM s.length aG hu;simp only at h;split at h;{simp only [Option.some.injEq,Prod.mk.injEq] at h;obtain ⟨rfl,rfl,rfl,rfl⟩:=h;have h2:=Jc f_ v'.tail;have h3:=congrArg List.length (List.takeWhile_append_dropWhile (p:=f_) (l:=v'.tail));rw [List.length_append] at h3;rw [List.length_tail] at h2 h3;rw [List.length_map];omega}
  · split at h
    · cases hv:dG 62 false (v'.drop 3) with
      | none=>rw [hv] at h;cases h
      | some z=>obtain ⟨a,b⟩:=z;rw [hv] at h;simp only [Option.map_some,Option.some.injEq,Prod.mk.injEq] at h;obtain ⟨rfl,rfl,rfl,rfl⟩:=h;have h2:=rM _ aG hv;rw [List.length_drop] at h2;omega
    {simp only [Option.some.injEq,Prod.mk.injEq] at h;obtain ⟨rfl,rfl,rfl,rfl⟩:=h;simp;omega}
end Tm
theorem Eu (p:UInt8→Bool) (l:List UInt8):(l.dropWhile p).length≤l.length:=by have:=congrArg List.length (List.takeWhile_append_dropWhile (p:=p) (l:=l));rw [List.length_append] at this;omega
end Go.Proofs.YtockbaekcbeenaaGreatDoor
namespace Go.Proofs.YtockbaekcbeenaaGreatDoor.Tm
open Go Go.RowKit
abbrev T3:=Nat×T×T
def rt (s:T):Option (T3×T):=match dY s with
 | none=>none
 | some (k,t,x,v)=>some ((k,t,x),v.dropWhile dU)
def dH (a:T3):Bool:=is (a.1:Int) a.2.1 a.2.2
def point (s:T):Option T:=match s with
 | []=>none
 | c::r=>if c=46 then some (r.dropWhile dU) else none
def oG (s:T):Option ((T3×T3×T3)×T):=match rt s with
 | none=>none
 | some (a,r)=>match rt r with
  | none=>none
  | some (b,u)=>match rt u with
   | none=>none
   | some (c,v)=>match point v with
    | none=>none
    | some z=>some ((a,b,c),z)
def bZ (s:T):Bool:=decide (s=[]∨s.head?=some 35)
def bf (p:T3×T3×T3):Bool:=decide (p.1.1=1∨p.1.1=2) && decide (p.2.1.1=1) && (dH p.1 && dH p.2.1 && dH p.2.2)
def one (s:T):Option (Option (T3×T3×T3)):=
 if Lib.validD s=false then none
 else if bZ (s.dropWhile dU)=true then some none
 else match oG (s.dropWhile dU) with
  | none=>none
  | some (p,r)=>if bZ r=true∧bf p=true then some (some p) else none
theorem aas {e:UInt8} {lit:Bool} {s t v:T} (h:dG e lit s=some (t,v)):t.length≤4*s.length∧v.length<s.length:=rM s.length aG h
theorem aat {s:T} {k:Nat} {t x v:T} (h:dY s=some (k,t,x,v)):t.length≤4*s.length∧x.length≤4*s.length∧v.length≤s.length∧1≤k∧k≤5:=by
 by_cases h1:s.take 1=[60]
 · obtain ⟨u,rfl⟩:∃ u,s=60::u:=⟨s.drop 1,by have:=List.take_append_drop 1 s;rw [h1] at this;exact this.symm⟩;rw [Et] at h;cases hu:dG 62 false u with
   | none=>rw [hu] at h;cases h
   | some p=>obtain ⟨a,b⟩:=p;rw [hu] at h;simp only [Option.map_some,Option.some.injEq,Prod.mk.injEq] at h;obtain ⟨rfl,rfl,rfl,rfl⟩:=h;have:=aas hu;simp only [List.length_cons,List.length_nil];omega
 · by_cases h2:s.take 2=[95,58];{obtain ⟨u,rfl⟩:∃ u,s=95::58::u:=⟨s.drop 2,by have:=List.take_append_drop 2 s;rw [h2] at this;exact this.symm⟩;rw [Jd] at h;simp only [Option.some.injEq,Prod.mk.injEq] at h;obtain ⟨rfl,rfl,rfl,rfl⟩:=h;have a1:=Jc eu u;have a2:=Eu eu u;simp only [List.length_cons,List.length_nil];omega}
   · by_cases h3:s.take 1=[34]
     · obtain ⟨u,rfl⟩:∃ u,s=34::u:=⟨s.drop 1,by have:=List.take_append_drop 1 s;rw [h3] at this;exact this.symm⟩;rw [yh] at h;have a1:=aar h;have a2:1≤k∧k≤5:=by
        unfold gy at h;cases hu:dG 34 true u with
        | none=>rw [hu] at h;cases h
        | some p=>
         obtain ⟨t',v'⟩:=p;rw [hu] at h;simp only at h;split at h;{simp only [Option.some.injEq,Prod.mk.injEq] at h;omega}
         · split at h
           · cases hv:dG 62 false (v'.drop 3) with
             | none=>rw [hv] at h;cases h
             | some z=>rw [hv] at h;simp only [Option.map_some,Option.some.injEq,Prod.mk.injEq] at h;omega
           {simp only [Option.some.injEq,Prod.mk.injEq] at h;omega}
       simp only [List.length_cons];omega
     {rw [Qb h1 h2 h3] at h;cases h}
theorem Je {s:T} {a:T3} {r:T} (h:rt s=some (a,r)):a.2.1.length≤4*s.length∧a.2.2.length≤4*s.length∧r.length≤s.length∧1≤a.1∧a.1≤5:=by
 unfold rt at h;cases hr:dY s with
 | none=>rw [hr] at h;cases h
 | some p=>obtain ⟨k,t,x,v⟩:=p;rw [hr] at h;simp only [Option.some.injEq,Prod.mk.injEq] at h;obtain ⟨rfl,rfl⟩:=h;have h1:=aat hr;have h2:=Eu dU v;simp only;omega
end Go.Proofs.YtockbaekcbeenaaGreatDoor.Tm
