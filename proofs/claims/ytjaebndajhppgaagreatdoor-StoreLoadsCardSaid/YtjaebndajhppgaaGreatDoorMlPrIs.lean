/-PrIs-/
import Derived.Test.YtjaebndajhppgaaGreatDoorMlHd0
import Derived.Test.YtjaebndajhppgaaGreatDoorMlTmRIs
import Derived.Test.YtjaebndajhppgaaGreatDoorMlGTm3
set_option linter.unusedVariables false
set_option linter.unusedSimpArgs false
set_option maxRecDepth 100000
set_option maxHeartbeats 2000000
namespace Go.Proofs.YtjaebndajhppgaaGreatDoor
open Go.Proofs.Tryz
open Go.ChangeShapes Go.WideShapes Go.ChangeAt Go.RowKit
def fu (k1:Int) (t1 x1:List UInt8) (k2:Int) (t2 x2:List UInt8) (k3:Int) (t3 x3:List UInt8):Bool:=
 decide (k1=1∨k1=2) && decide (k2=1) && (Tm.is k1 t1 x1 && Tm.is k2 t2 x2 && Tm.is k3 t3 x3)
abbrev fD (k1:Int) (t1 x1:List UInt8) (k2:Int) (t2 x2:List UInt8) (k3:Int) (t3 x3:List UInt8):Value:=
 .agg #[.int .i64 k1,str t1,str x1,.int .i64 k2,str t2,str x2,.int .i64 k3,str t3,str x3]
def aU (w:World) (k1:Int) (t1 x1:List UInt8) (k2:Int) (t2 x2:List UInt8) (k3:Int) (t3 x3:List UInt8):World:=
 w.alloc (.cells #[.int .i64 k1,str t1,str x1,.int .i64 k2,str t2,str x2,.int .i64 k3,str t3,str x3] 67)
theorem fT (w:World) (k1:Int) (t1 x1:List UInt8) (k2:Int) (t2 x2:List UInt8) (k3:Int) (t3 x3:List UInt8):ak (aU w k1 t1 x1 k2 t2 x2 k3 t3 x3) w.heap.size [.int .i64 k1,str t1,str x1,.int .i64 k2,str t2,str x2,.int .i64 k3,str t3,str x3] 67:=ak.new' rfl rfl
theorem Sb (k1:Int) (t1 x1:List UInt8) (k2:Int) (t2 x2:List UInt8) (k3:Int) (t3 x3:List UInt8) (w:World) (ht1:t1.length≤1000000000) (hx1:x1.length≤1000000000) (ht2:t2.length≤1000000000) (hx2:x2.length≤1000000000) (ht3:t3.length≤1000000000) (hx3:x3.length≤1000000000) (hV:Vars w) (hk:k1≠1∧k1≠2) :
  Calls prog 126 #[fD k1 t1 x1 k2 t2 x2 k3 t3 x3] w fun e w'=>e=.returned (.bool (fu k1 t1 x1 k2 t2 x2 k3 t3 x3))∧Below w.heap.size w w':=by
 have HB:=hid (show Below w.heap.size w (aU w k1 t1 x1 k2 t2 x2 k3 t3 x3) from (Below.refl _ _).alloc ay _);have HV:=hid (hV.keep HB.out);have HU:=hid (fT w k1 t1 x1 k2 t2 x2 k3 t3 x3);have HF:=hid (show fu k1 t1 x1 k2 t2 x2 k3 t3 x3=false by unfold fu;rw [decide_eq_false aj];rfl);have e1:(k1==1)=false:=beq_eq_false_iff_ne.2 hk.1;have e2:(k1==2)=false:=beq_eq_false_iff_ne.2 hk.2;have n1:(k1 != 1)=true:=by simp [bne,e1]
 have n2:(k1 != 2)=true:=by simp [bne,e2]
 clear hV hk;go_enter func126,ntmps126;go_wp2_with (show wpList _ _ _ _ _ (aU w k1 t1 x1 k2 t2 x2 k3 t3 x3);obtain ⟨w1,hw1⟩:=aA (aU w k1 t1 x1 k2 t2 x2 k3 t3 x3);rw [←hw1] at HB HV HU ⊢;clear hw1;have c0:=HU.out.cell (i:=0) rfl;have c3:=HU.out.cell (i:=3) rfl)
 go_ret;exact ⟨by rw [HF.out];rfl,HB.out⟩
theorem Sc (k1:Int) (t1 x1:List UInt8) (k2:Int) (t2 x2:List UInt8) (k3:Int) (t3 x3:List UInt8) (w:World) (ht1:t1.length≤1000000000) (hx1:x1.length≤1000000000) (ht2:t2.length≤1000000000) (hx2:x2.length≤1000000000) (ht3:t3.length≤1000000000) (hx3:x3.length≤1000000000) (hV:Vars w) (hk:k1=1∨k1=2) (hk2:k2≠1) :
  Calls prog 126 #[fD k1 t1 x1 k2 t2 x2 k3 t3 x3] w fun e w'=>e=.returned (.bool (fu k1 t1 x1 k2 t2 x2 k3 t3 x3))∧Below w.heap.size w w':=by
 have HB:=hid (show Below w.heap.size w (aU w k1 t1 x1 k2 t2 x2 k3 t3 x3) from (Below.refl _ _).alloc ay _);have HV:=hid (hV.keep HB.out);have HU:=hid (fT w k1 t1 x1 k2 t2 x2 k3 t3 x3);have HF:=hid (show fu k1 t1 x1 k2 t2 x2 k3 t3 x3=false by unfold fu;rw [decide_eq_false hk2,Bool.and_false];rfl);have e1:(k2==1)=false:=beq_eq_false_iff_ne.2 hk2;have n1:(k2 != 1)=true:=by simp [bne,e1]
 clear hV hk2;rcases hk with rfl | rfl;all_goals
  go_enter func126,ntmps126
  go_wp2_with (show wpList _ _ _ _ _ (aU w k1 t1 x1 k2 t2 x2 k3 t3 x3);obtain ⟨w1,hw1⟩:=aA (aU w k1 t1 x1 k2 t2 x2 k3 t3 x3);rw [←hw1] at HB HV HU ⊢;clear hw1;have c0:=HU.out.cell (i:=0) rfl;have c3:=HU.out.cell (i:=3) rfl)
  go_ret
  exact ⟨by rw [HF.out];rfl,HB.out⟩
theorem Sd (k1:Int) (t1 x1:List UInt8) (k2:Int) (t2 x2:List UInt8) (k3:Int) (t3 x3:List UInt8) (w:World) (ht1:t1.length≤1000000000) (hx1:x1.length≤1000000000) (ht2:t2.length≤1000000000) (hx2:x2.length≤1000000000) (ht3:t3.length≤1000000000) (hx3:x3.length≤1000000000) (hV:Vars w) (hk:k1=1∨k1=2) (hk2:k2=1) :
  Calls prog 126 #[fD k1 t1 x1 k2 t2 x2 k3 t3 x3] w fun e w'=>e=.returned (.bool (fu k1 t1 x1 k2 t2 x2 k3 t3 x3))∧Below w.heap.size w w':=by
 have HB:=hid (show Below w.heap.size w (aU w k1 t1 x1 k2 t2 x2 k3 t3 x3) from (Below.refl _ _).alloc ay _);have HV:=hid (hV.keep HB.out);have HU:=hid (fT w k1 t1 x1 k2 t2 x2 k3 t3 x3);have HF:=hid (show fu k1 t1 x1 k2 t2 x2 k3 t3 x3=(Tm.is k1 t1 x1 && Tm.is k2 t2 x2 && Tm.is k3 t3 x3) by unfold fu;rw [decide_eq_true hk,decide_eq_true hk2];rfl);have I1:=hid (fun W h=>Di k1 t1 x1 W aj aj h);have I2:=hid (fun W h=>Di k2 t2 x2 W aj aj h);have I3:=hid (fun W h=>Di k3 t3 x3 W aj aj h);obtain ⟨b1,h1⟩:=aA (Tm.is k1 t1 x1);obtain ⟨b2,h2⟩:=aA (Tm.is k2 t2 x2);obtain ⟨b3,h3⟩:=aA (Tm.is k3 t3 x3);rw [←h1,←h2,←h3] at HF;rw [←h1] at I1;rw [←h2] at I2;rw [←h3] at I3;clear h1 h2 h3 hV;subst hk2;rcases hk with rfl | rfl;all_goals
  cases b1
  · go_enter func126,ntmps126
    go_wp2_with (show wpList _ _ _ _ _ (aU w k1 t1 x1 k2 t2 x2 k3 t3 x3);obtain ⟨w1,hw1⟩:=aA (aU w k1 t1 x1 k2 t2 x2 k3 t3 x3);rw [←hw1] at HB HV HU ⊢;clear hw1;have c0:=HU.out.cell (i:=0) rfl;have c3:=HU.out.cell (i:=3) rfl;have c1:=HU.out.cell (i:=1) rfl;have c2:=HU.out.cell (i:=2) rfl)
    refine (I1.out _ HV.out).mono ?_
    rintro e w2 ⟨rfl,hb2⟩
    have HB2:=hid (aG HB.out hb2)
    go_wp2
    go_ret
    exact ⟨by rw [HF.out];rfl,HB2.out⟩
  · cases b2
    · go_enter func126,ntmps126
      go_wp2_with (show wpList _ _ _ _ _ (aU w k1 t1 x1 k2 t2 x2 k3 t3 x3);obtain ⟨w1,hw1⟩:=aA (aU w k1 t1 x1 k2 t2 x2 k3 t3 x3);rw [←hw1] at HB HV HU ⊢;clear hw1;have c0:=HU.out.cell (i:=0) rfl;have c3:=HU.out.cell (i:=3) rfl;have c1:=HU.out.cell (i:=1) rfl;have c2:=HU.out.cell (i:=2) rfl)
      refine (I1.out _ HV.out).mono ?_
      rintro e w2 ⟨rfl,hb2⟩
      have HB2:=hid (aG HB.out hb2)
      have gF:=hid (HV.out.keep hb2)
      have bg:=hid (HU.out.keep hb2)
      clear hb2
      have c3:=bg.out.cell (i:=3) rfl;have c4:=bg.out.cell (i:=4) rfl;have c5:=bg.out.cell (i:=5) rfl
      go_wp2_with fail
      refine (I2.out _ gF.out).mono ?_
      rintro e w3 ⟨rfl,hb3⟩
      have HB3:=hid (aG HB2.out hb3)
      go_wp2
      go_ret
      exact ⟨by rw [HF.out];rfl,HB3.out⟩
    · go_enter func126,ntmps126
      go_wp2_with (show wpList _ _ _ _ _ (aU w k1 t1 x1 k2 t2 x2 k3 t3 x3);obtain ⟨w1,hw1⟩:=aA (aU w k1 t1 x1 k2 t2 x2 k3 t3 x3);rw [←hw1] at HB HV HU ⊢;clear hw1;have c0:=HU.out.cell (i:=0) rfl;have c3:=HU.out.cell (i:=3) rfl;have c1:=HU.out.cell (i:=1) rfl;have c2:=HU.out.cell (i:=2) rfl)
      refine (I1.out _ HV.out).mono ?_
      rintro e w2 ⟨rfl,hb2⟩
      have HB2:=hid (aG HB.out hb2)
      have gF:=hid (HV.out.keep hb2)
      have bg:=hid (HU.out.keep hb2)
      clear hb2
      have c3:=bg.out.cell (i:=3) rfl;have c4:=bg.out.cell (i:=4) rfl;have c5:=bg.out.cell (i:=5) rfl
      go_wp2_with fail
      refine (I2.out _ gF.out).mono ?_
      rintro e w3 ⟨rfl,hb3⟩
      have HB3:=hid (aG HB2.out hb3)
      have lg:=hid (gF.out.keep hb3)
      have dx:=hid (bg.out.keep hb3)
      clear hb3
      have c6:=dx.out.cell (i:=6) rfl;have c7:=dx.out.cell (i:=7) rfl;have c8:=dx.out.cell (i:=8) rfl
      go_wp2_with fail
      refine (I3.out _ lg.out).mono ?_
      rintro e w4 ⟨rfl,hb4⟩
      have aP:=hid (aG HB3.out hb4)
      go_wp2
      go_ret
      exact ⟨by rw [HF.out];rfl,aP.out⟩
theorem Jk (k1:Int) (t1 x1:List UInt8) (k2:Int) (t2 x2:List UInt8) (k3:Int) (t3 x3:List UInt8) (w:World) (ht1:t1.length≤1000000000) (hx1:x1.length≤1000000000) (ht2:t2.length≤1000000000) (hx2:x2.length≤1000000000) (ht3:t3.length≤1000000000) (hx3:x3.length≤1000000000) (hV:Vars w) :
  Calls prog 126 #[fD k1 t1 x1 k2 t2 x2 k3 t3 x3] w fun e w'=>e=.returned (.bool (fu k1 t1 x1 k2 t2 x2 k3 t3 x3))∧Below w.heap.size w w':=by by_cases hk:k1=1∨k1=2;{by_cases hk2:k2=1;{exact Sd k1 t1 x1 k2 t2 x2 k3 t3 x3 w ht1 hx1 ht2 hx2 ht3 hx3 hV hk hk2};{exact Sc k1 t1 x1 k2 t2 x2 k3 t3 x3 w ht1 hx1 ht2 hx2 ht3 hx3 hV hk hk2}};{exact Sb k1 t1 x1 k2 t2 x2 k3 t3 x3 w ht1 hx1 ht2 hx2 ht3 hx3 hV aj}
end Go.Proofs.YtjaebndajhppgaaGreatDoor
