/-GTri-/
import Derived.Test.YtjaebndajhppgaaGreatDoorMlHd1
import Derived.Test.YtjaebndajhppgaaGreatDoorMlPrIs
import Derived.Test.YtjaebndajhppgaaGreatDoorMlGTm3
import Derived.Test.YtjaebndajhppgaaGreatDoorMlGTm2
import Derived.Test.YtjaebndajhppgaaGreatDoorMlGTm1
import Derived.Lib.SmallJoins
import Derived.Maps.OwnSet
import Derived.Maps.OwnOps
import Derived.DeepKeys4
import Derived.Test.YtjaebndajhppgaaGreatDoorMlGLn1
import Derived.Maps.Views
import Derived.Test.YtjaebndajhppgaaGreatDoorMlGB
import Derived.Deep.SlicePairs
import Derived.Lib.IndexMore
import Derived.Deep.RegionWith
import Derived.Deep.RegionLaw
set_option linter.unusedVariables false
set_option linter.unusedSimpArgs false
set_option maxRecDepth 100000
set_option maxHeartbeats 4000000
namespace Go.Proofs.YtjaebndajhppgaaGreatDoor
open Go.Proofs.Tryz
open Go.ChangeShapes Go.WideShapes Go.ChangeAt Go.RowKit
theorem Tv {k:Int} {t x:List UInt8} (h:Tm.is k t x=true):1≤k:=by rcases Int.lt_or_le k 1 with hk | hk;{have:Tm.is k t x=false:=(by unfold Tm.is;simp only [show (k=1)=False from by simp;omega,show (k=2)=False from by simp;omega,show (k=3)=False from by simp;omega,show (k=4)=False from by simp;omega,show (k=5)=False from by simp;omega,if_false]);rw [this] at h;cases h};{exact hk}
theorem Tw (k1:Int) (t1 x1:List UInt8) (k2:Int) (t2 x2:List UInt8) (k3:Int) (t3 x3:List UInt8) (w:World) (ht1:t1.length≤1000000000) (hx1:x1.length≤1000000000) (ht2:t2.length≤1000000000) (hx2:x2.length≤1000000000) (ht3:t3.length≤1000000000) (hx3:x3.length≤1000000000) (hV:Vars w) (h1:Tm.is k1 t1 x1=false) :
  Calls prog 62 #[fD k1 t1 x1 k2 t2 x2 k3 t3 x3] w fun e w'=>e=.returned (.bool (fu k1 t1 x1 k2 t2 x2 k3 t3 x3))∧Below w.heap.size w w':=by
 have HB:=hid (show Below w.heap.size w (aU w k1 t1 x1 k2 t2 x2 k3 t3 x3) from (Below.refl _ _).alloc ay _);have HV:=hid (hV.keep HB.out);have HU:=hid (fT w k1 t1 x1 k2 t2 x2 k3 t3 x3);have HF:=hid (show fu k1 t1 x1 k2 t2 x2 k3 t3 x3=false by unfold fu;rw [h1];simp);have I1:=hid (fun W h=>gX k1 t1 x1 W aj aj h);rw [h1] at I1;clear hV h1;go_enter func62,ntmps62;go_wp2_with (show wpList _ _ _ _ _ (aU w k1 t1 x1 k2 t2 x2 k3 t3 x3);obtain ⟨w1,hw1⟩:=aA (aU w k1 t1 x1 k2 t2 x2 k3 t3 x3);rw [←hw1] at HB HV HU ⊢;clear hw1;have c0:=HU.out.cell (i:=0) rfl;have c1:=HU.out.cell (i:=1) rfl;have c2:=HU.out.cell (i:=2) rfl)
 refine (I1.out _ HV.out).mono ?_;rintro e w2 ⟨rfl,hb2⟩;have HB2:=hid (aG HB.out hb2);have gF:=hid (HV.out.keep hb2);have bg:=hid (HU.out.keep hb2);clear hb2;go_wp2;go_ret;exact ⟨by rw [HF.out];rfl,HB2.out⟩
theorem Tx (k1:Int) (t1 x1:List UInt8) (k2:Int) (t2 x2:List UInt8) (k3:Int) (t3 x3:List UInt8) (w:World) (ht1:t1.length≤1000000000) (hx1:x1.length≤1000000000) (ht2:t2.length≤1000000000) (hx2:x2.length≤1000000000) (ht3:t3.length≤1000000000) (hx3:x3.length≤1000000000) (hV:Vars w) (h1:Tm.is k1 t1 x1=true) (h2:Tm.is k2 t2 x2=false) :
  Calls prog 62 #[fD k1 t1 x1 k2 t2 x2 k3 t3 x3] w fun e w'=>e=.returned (.bool (fu k1 t1 x1 k2 t2 x2 k3 t3 x3))∧Below w.heap.size w w':=by
 have HB:=hid (show Below w.heap.size w (aU w k1 t1 x1 k2 t2 x2 k3 t3 x3) from (Below.refl _ _).alloc ay _);have HV:=hid (hV.keep HB.out);have HU:=hid (fT w k1 t1 x1 k2 t2 x2 k3 t3 x3);have HF:=hid (show fu k1 t1 x1 k2 t2 x2 k3 t3 x3=false by unfold fu;rw [h2];simp);have I1:=hid (fun W h=>gX k1 t1 x1 W aj aj h);rw [h1] at I1;have I2:=hid (fun W h=>gX k2 t2 x2 W aj aj h);rw [h2] at I2;clear hV h1 h2;go_enter func62,ntmps62;go_wp2_with (show wpList _ _ _ _ _ (aU w k1 t1 x1 k2 t2 x2 k3 t3 x3);obtain ⟨w1,hw1⟩:=aA (aU w k1 t1 x1 k2 t2 x2 k3 t3 x3);rw [←hw1] at HB HV HU ⊢;clear hw1;have c0:=HU.out.cell (i:=0) rfl;have c1:=HU.out.cell (i:=1) rfl;have c2:=HU.out.cell (i:=2) rfl)
 refine (I1.out _ HV.out).mono ?_;rintro e w2 ⟨rfl,hb2⟩;have HB2:=hid (aG HB.out hb2);have gF:=hid (HV.out.keep hb2);have bg:=hid (HU.out.keep hb2);clear hb2;have c3:=bg.out.cell (i:=3) rfl;have c4:=bg.out.cell (i:=4) rfl;have c5:=bg.out.cell (i:=5) rfl;go_wp2_with fail
 refine (I2.out _ gF.out).mono ?_;rintro e w3 ⟨rfl,hb3⟩;have HB3:=hid (aG HB2.out hb3);have lg:=hid (gF.out.keep hb3);have dx:=hid (bg.out.keep hb3);clear hb3;go_wp2;go_ret;exact ⟨by rw [HF.out];rfl,HB3.out⟩
theorem Tz (k1:Int) (t1 x1:List UInt8) (k2:Int) (t2 x2:List UInt8) (k3:Int) (t3 x3:List UInt8) (w:World) (ht1:t1.length≤1000000000) (hx1:x1.length≤1000000000) (ht2:t2.length≤1000000000) (hx2:x2.length≤1000000000) (ht3:t3.length≤1000000000) (hx3:x3.length≤1000000000) (hV:Vars w) (h1:Tm.is k1 t1 x1=true) (h2:Tm.is k2 t2 x2=true) (h3:Tm.is k3 t3 x3=false) :
  Calls prog 62 #[fD k1 t1 x1 k2 t2 x2 k3 t3 x3] w fun e w'=>e=.returned (.bool (fu k1 t1 x1 k2 t2 x2 k3 t3 x3))∧Below w.heap.size w w':=by
 have HB:=hid (show Below w.heap.size w (aU w k1 t1 x1 k2 t2 x2 k3 t3 x3) from (Below.refl _ _).alloc ay _);have HV:=hid (hV.keep HB.out);have HU:=hid (fT w k1 t1 x1 k2 t2 x2 k3 t3 x3);have HF:=hid (show fu k1 t1 x1 k2 t2 x2 k3 t3 x3=false by unfold fu;rw [h3];simp);have I1:=hid (fun W h=>gX k1 t1 x1 W aj aj h);rw [h1] at I1;have I2:=hid (fun W h=>gX k2 t2 x2 W aj aj h);rw [h2] at I2;have I3:=hid (fun W h=>gX k3 t3 x3 W aj aj h);rw [h3] at I3;clear hV h1 h2 h3;go_enter func62,ntmps62;go_wp2_with (show wpList _ _ _ _ _ (aU w k1 t1 x1 k2 t2 x2 k3 t3 x3);obtain ⟨w1,hw1⟩:=aA (aU w k1 t1 x1 k2 t2 x2 k3 t3 x3);rw [←hw1] at HB HV HU ⊢;clear hw1;have c0:=HU.out.cell (i:=0) rfl;have c1:=HU.out.cell (i:=1) rfl;have c2:=HU.out.cell (i:=2) rfl)
 refine (I1.out _ HV.out).mono ?_;rintro e w2 ⟨rfl,hb2⟩;have HB2:=hid (aG HB.out hb2);have gF:=hid (HV.out.keep hb2);have bg:=hid (HU.out.keep hb2);clear hb2;have c3:=bg.out.cell (i:=3) rfl;have c4:=bg.out.cell (i:=4) rfl;have c5:=bg.out.cell (i:=5) rfl;go_wp2_with fail
 refine (I2.out _ gF.out).mono ?_;rintro e w3 ⟨rfl,hb3⟩;have HB3:=hid (aG HB2.out hb3);have lg:=hid (gF.out.keep hb3);have dx:=hid (bg.out.keep hb3);clear hb3;have c6:=dx.out.cell (i:=6) rfl;have c7:=dx.out.cell (i:=7) rfl;have c8:=dx.out.cell (i:=8) rfl;go_wp2_with fail
 refine (I3.out _ lg.out).mono ?_;rintro e w4 ⟨rfl,hb4⟩;have aP:=hid (aG HB3.out hb4);have uh:=hid (lg.out.keep hb4);have aW:=hid (dx.out.keep hb4);clear hb4;go_wp2;go_ret;exact ⟨by rw [HF.out];rfl,aP.out⟩
theorem TA (k1:Int) (t1 x1:List UInt8) (k2:Int) (t2 x2:List UInt8) (k3:Int) (t3 x3:List UInt8) (w:World) (ht1:t1.length≤1000000000) (hx1:x1.length≤1000000000) (ht2:t2.length≤1000000000) (hx2:x2.length≤1000000000) (ht3:t3.length≤1000000000) (hx3:x3.length≤1000000000) (hV:Vars w) (h1:Tm.is k1 t1 x1=true) (h2:Tm.is k2 t2 x2=true) (h3:Tm.is k3 t3 x3=true) (hk:2<k1) :
  Calls prog 62 #[fD k1 t1 x1 k2 t2 x2 k3 t3 x3] w fun e w'=>e=.returned (.bool (fu k1 t1 x1 k2 t2 x2 k3 t3 x3))∧Below w.heap.size w w':=by
 have HB:=hid (show Below w.heap.size w (aU w k1 t1 x1 k2 t2 x2 k3 t3 x3) from (Below.refl _ _).alloc ay _);have HV:=hid (hV.keep HB.out);have HU:=hid (fT w k1 t1 x1 k2 t2 x2 k3 t3 x3);have HF:=hid (show fu k1 t1 x1 k2 t2 x2 k3 t3 x3=false by unfold fu;rw [decide_eq_false aj];rfl);have I1:=hid (fun W h=>gX k1 t1 x1 W aj aj h);rw [h1] at I1;have I2:=hid (fun W h=>gX k2 t2 x2 W aj aj h);rw [h2] at I2;have I3:=hid (fun W h=>gX k3 t3 x3 W aj aj h);rw [h3] at I3;clear hV h1 h2 h3;go_enter func62,ntmps62;go_wp2_with (show wpList _ _ _ _ _ (aU w k1 t1 x1 k2 t2 x2 k3 t3 x3);obtain ⟨w1,hw1⟩:=aA (aU w k1 t1 x1 k2 t2 x2 k3 t3 x3);rw [←hw1] at HB HV HU ⊢;clear hw1;have c0:=HU.out.cell (i:=0) rfl;have c1:=HU.out.cell (i:=1) rfl;have c2:=HU.out.cell (i:=2) rfl)
 refine (I1.out _ HV.out).mono ?_;rintro e w2 ⟨rfl,hb2⟩;have HB2:=hid (aG HB.out hb2);have gF:=hid (HV.out.keep hb2);have bg:=hid (HU.out.keep hb2);clear hb2;have c3:=bg.out.cell (i:=3) rfl;have c4:=bg.out.cell (i:=4) rfl;have c5:=bg.out.cell (i:=5) rfl;go_wp2_with fail
 refine (I2.out _ gF.out).mono ?_;rintro e w3 ⟨rfl,hb3⟩;have HB3:=hid (aG HB2.out hb3);have lg:=hid (gF.out.keep hb3);have dx:=hid (bg.out.keep hb3);clear hb3;have c6:=dx.out.cell (i:=6) rfl;have c7:=dx.out.cell (i:=7) rfl;have c8:=dx.out.cell (i:=8) rfl;go_wp2_with fail
 refine (I3.out _ lg.out).mono ?_;rintro e w4 ⟨rfl,hb4⟩;have aP:=hid (aG HB3.out hb4);have uh:=hid (lg.out.keep hb4);have aW:=hid (dx.out.keep hb4);clear hb4;have c0:=aW.out.cell (i:=0) rfl;have c3:=aW.out.cell (i:=3) rfl;go_wp2;go_ret;exact ⟨by rw [HF.out];rfl,aP.out⟩
theorem TB (k1:Int) (t1 x1:List UInt8) (k2:Int) (t2 x2:List UInt8) (k3:Int) (t3 x3:List UInt8) (w:World) (ht1:t1.length≤1000000000) (hx1:x1.length≤1000000000) (ht2:t2.length≤1000000000) (hx2:x2.length≤1000000000) (ht3:t3.length≤1000000000) (hx3:x3.length≤1000000000) (hV:Vars w) (h1:Tm.is k1 t1 x1=true) (h2:Tm.is k2 t2 x2=true) (h3:Tm.is k3 t3 x3=true) (hk:k1≤2) (hk2:k2≠1) :
  Calls prog 62 #[fD k1 t1 x1 k2 t2 x2 k3 t3 x3] w fun e w'=>e=.returned (.bool (fu k1 t1 x1 k2 t2 x2 k3 t3 x3))∧Below w.heap.size w w':=by
 have HB:=hid (show Below w.heap.size w (aU w k1 t1 x1 k2 t2 x2 k3 t3 x3) from (Below.refl _ _).alloc ay _);have HV:=hid (hV.keep HB.out);have HU:=hid (fT w k1 t1 x1 k2 t2 x2 k3 t3 x3);have HF:=hid (show fu k1 t1 x1 k2 t2 x2 k3 t3 x3=false by unfold fu;rw [decide_eq_false hk2,Bool.and_false];rfl);have I1:=hid (fun W h=>gX k1 t1 x1 W aj aj h);rw [h1] at I1;have I2:=hid (fun W h=>gX k2 t2 x2 W aj aj h);rw [h2] at I2;have I3:=hid (fun W h=>gX k3 t3 x3 W aj aj h);rw [h3] at I3;have e1:(k2==1)=false:=beq_eq_false_iff_ne.2 hk2;clear hV h1 h2 h3;go_enter func62,ntmps62;go_wp2_with (show wpList _ _ _ _ _ (aU w k1 t1 x1 k2 t2 x2 k3 t3 x3);obtain ⟨w1,hw1⟩:=aA (aU w k1 t1 x1 k2 t2 x2 k3 t3 x3);rw [←hw1] at HB HV HU ⊢;clear hw1;have c0:=HU.out.cell (i:=0) rfl;have c1:=HU.out.cell (i:=1) rfl;have c2:=HU.out.cell (i:=2) rfl)
 refine (I1.out _ HV.out).mono ?_;rintro e w2 ⟨rfl,hb2⟩;have HB2:=hid (aG HB.out hb2);have gF:=hid (HV.out.keep hb2);have bg:=hid (HU.out.keep hb2);clear hb2;have c3:=bg.out.cell (i:=3) rfl;have c4:=bg.out.cell (i:=4) rfl;have c5:=bg.out.cell (i:=5) rfl;go_wp2_with fail
 refine (I2.out _ gF.out).mono ?_;rintro e w3 ⟨rfl,hb3⟩;have HB3:=hid (aG HB2.out hb3);have lg:=hid (gF.out.keep hb3);have dx:=hid (bg.out.keep hb3);clear hb3;have c6:=dx.out.cell (i:=6) rfl;have c7:=dx.out.cell (i:=7) rfl;have c8:=dx.out.cell (i:=8) rfl;go_wp2_with fail
 refine (I3.out _ lg.out).mono ?_;rintro e w4 ⟨rfl,hb4⟩;have aP:=hid (aG HB3.out hb4);have uh:=hid (lg.out.keep hb4);have aW:=hid (dx.out.keep hb4);clear hb4;have c0:=aW.out.cell (i:=0) rfl;have c3:=aW.out.cell (i:=3) rfl;go_wp2;go_ret;exact ⟨by rw [HF.out];rfl,aP.out⟩
theorem TD (k1:Int) (t1 x1:List UInt8) (k2:Int) (t2 x2:List UInt8) (k3:Int) (t3 x3:List UInt8) (w:World) (ht1:t1.length≤1000000000) (hx1:x1.length≤1000000000) (ht2:t2.length≤1000000000) (hx2:x2.length≤1000000000) (ht3:t3.length≤1000000000) (hx3:x3.length≤1000000000) (hV:Vars w) (h1:Tm.is k1 t1 x1=true) (h2:Tm.is k2 t2 x2=true) (h3:Tm.is k3 t3 x3=true) (hk:k1≤2) (hk2:k2=1) :
  Calls prog 62 #[fD k1 t1 x1 k2 t2 x2 k3 t3 x3] w fun e w'=>e=.returned (.bool (fu k1 t1 x1 k2 t2 x2 k3 t3 x3))∧Below w.heap.size w w':=by
 have HB:=hid (show Below w.heap.size w (aU w k1 t1 x1 k2 t2 x2 k3 t3 x3) from (Below.refl _ _).alloc ay _);have HV:=hid (hV.keep HB.out);have HU:=hid (fT w k1 t1 x1 k2 t2 x2 k3 t3 x3);have HF:=hid (show fu k1 t1 x1 k2 t2 x2 k3 t3 x3=true by have:=Tv h1;unfold fu;rw [h1,h2,h3,decide_eq_true (show k1=1∨k1=2 by omega),decide_eq_true hk2];rfl);have I1:=hid (fun W h=>gX k1 t1 x1 W aj aj h);rw [h1] at I1;have I2:=hid (fun W h=>gX k2 t2 x2 W aj aj h);rw [h2] at I2;have I3:=hid (fun W h=>gX k3 t3 x3 W aj aj h);rw [h3] at I3;subst hk2;clear hV h1 h2 h3;go_enter func62,ntmps62;go_wp2_with (show wpList _ _ _ _ _ (aU w k1 t1 x1 1 t2 x2 k3 t3 x3);obtain ⟨w1,hw1⟩:=aA (aU w k1 t1 x1 1 t2 x2 k3 t3 x3);rw [←hw1] at HB HV HU ⊢;clear hw1;have c0:=HU.out.cell (i:=0) rfl;have c1:=HU.out.cell (i:=1) rfl;have c2:=HU.out.cell (i:=2) rfl)
 refine (I1.out _ HV.out).mono ?_;rintro e w2 ⟨rfl,hb2⟩;have HB2:=hid (aG HB.out hb2);have gF:=hid (HV.out.keep hb2);have bg:=hid (HU.out.keep hb2);clear hb2;have c3:=bg.out.cell (i:=3) rfl;have c4:=bg.out.cell (i:=4) rfl;have c5:=bg.out.cell (i:=5) rfl;go_wp2_with fail
 refine (I2.out _ gF.out).mono ?_;rintro e w3 ⟨rfl,hb3⟩;have HB3:=hid (aG HB2.out hb3);have lg:=hid (gF.out.keep hb3);have dx:=hid (bg.out.keep hb3);clear hb3;have c6:=dx.out.cell (i:=6) rfl;have c7:=dx.out.cell (i:=7) rfl;have c8:=dx.out.cell (i:=8) rfl;go_wp2_with fail
 refine (I3.out _ lg.out).mono ?_;rintro e w4 ⟨rfl,hb4⟩;have aP:=hid (aG HB3.out hb4);have uh:=hid (lg.out.keep hb4);have aW:=hid (dx.out.keep hb4);clear hb4;have c0:=aW.out.cell (i:=0) rfl;have c3:=aW.out.cell (i:=3) rfl;go_wp2;go_ret;exact ⟨by rw [HF.out];rfl,aP.out⟩
theorem zN (k1:Int) (t1 x1:List UInt8) (k2:Int) (t2 x2:List UInt8) (k3:Int) (t3 x3:List UInt8) (w:World) (ht1:t1.length≤1000000000) (hx1:x1.length≤1000000000) (ht2:t2.length≤1000000000) (hx2:x2.length≤1000000000) (ht3:t3.length≤1000000000) (hx3:x3.length≤1000000000) (hV:Vars w) :
  Calls prog 62 #[fD k1 t1 x1 k2 t2 x2 k3 t3 x3] w fun e w'=>e=.returned (.bool (fu k1 t1 x1 k2 t2 x2 k3 t3 x3))∧Below w.heap.size w w':=by cases h1:Tm.is k1 t1 x1;{exact Tw k1 t1 x1 k2 t2 x2 k3 t3 x3 w ht1 hx1 ht2 hx2 ht3 hx3 hV h1};{cases h2:Tm.is k2 t2 x2;{exact Tx k1 t1 x1 k2 t2 x2 k3 t3 x3 w ht1 hx1 ht2 hx2 ht3 hx3 hV h1 h2};{cases h3:Tm.is k3 t3 x3;{exact Tz k1 t1 x1 k2 t2 x2 k3 t3 x3 w ht1 hx1 ht2 hx2 ht3 hx3 hV h1 h2 h3};{by_cases hk:k1≤2;{by_cases hk2:k2=1;{exact TD k1 t1 x1 k2 t2 x2 k3 t3 x3 w ht1 hx1 ht2 hx2 ht3 hx3 hV h1 h2 h3 hk hk2};{exact TB k1 t1 x1 k2 t2 x2 k3 t3 x3 w ht1 hx1 ht2 hx2 ht3 hx3 hV h1 h2 h3 hk hk2}};{exact TA k1 t1 x1 k2 t2 x2 k3 t3 x3 w ht1 hx1 ht2 hx2 ht3 hx3 hV h1 h2 h3 aj}}}}
def TF (w:World) (a1 a2 a3:List UInt8) (e:Ending) (w':World):Prop:=
 ∃ b,e=.returned (.slice (some ⟨b,0,none⟩) 3 3)∧w.heap.size≤b∧ak w' b [str a1,str a2,str a3] 9∧Below w.heap.size w w'
theorem JI (k1:Int) (t1 x1:List UInt8) (k2:Int) (t2 x2:List UInt8) (k3:Int) (t3 x3:List UInt8) (w:World) (ht1:t1.length≤1000000000) (hx1:x1.length≤1000000000) (ht2:t2.length≤1000000000) (hx2:x2.length≤1000000000) (ht3:t3.length≤1000000000) (hx3:x3.length≤1000000000) :
  Calls prog 94 #[fD k1 t1 x1 k2 t2 x2 k3 t3 x3] w (TF w (Tm.show k1 t1 x1) (Tm.show k2 t2 x2) (Tm.show k3 t3 x3)):=by
 have HB:=hid (show Below w.heap.size w (aU w k1 t1 x1 k2 t2 x2 k3 t3 x3) from (Below.refl _ _).alloc ay _);have HU:=hid (fT w k1 t1 x1 k2 t2 x2 k3 t3 x3);have S1:=hid (fun W=>wh k1 t1 x1 W ht1 hx1);have S2:=hid (fun W=>wh k2 t2 x2 W ht2 hx2);have S3:=hid (fun W=>wh k3 t3 x3 W ht3 hx3);obtain ⟨a1,h1⟩:=aA (Tm.show k1 t1 x1);obtain ⟨a2,h2⟩:=aA (Tm.show k2 t2 x2);obtain ⟨a3,h3⟩:=aA (Tm.show k3 t3 x3);rw [←h1,←h2,←h3];rw [←h1] at S1;rw [←h2] at S2;rw [←h3] at S3;clear h1 h2 h3;go_enter func94,ntmps94;go_wp2;obtain ⟨w1,hw1⟩:=aA (aU w k1 t1 x1 k2 t2 x2 k3 t3 x3);show Code.wp _ _ _ _ (aU w k1 t1 x1 k2 t2 x2 k3 t3 x3);rw [←hw1] at HB HU ⊢;clear hw1;have wG:=fun p:Later w1.heap.size w1=>p.keep (HU.out.cell (i:=0) rfl);have wH:=fun p:Later w1.heap.size w1=>p.keep (HU.out.cell (i:=1) rfl);have wI:=fun p:Later w1.heap.size w1=>p.keep (HU.out.cell (i:=2) rfl);have TG:=fun p:Later w1.heap.size w1=>p.keep (HU.out.cell (i:=3) rfl);have TJ:=fun p:Later w1.heap.size w1=>p.keep (HU.out.cell (i:=4) rfl);have TK:=fun p:Later w1.heap.size w1=>p.keep (HU.out.cell (i:=5) rfl);have TL:=fun p:Later w1.heap.size w1=>p.keep (HU.out.cell (i:=6) rfl);have TN:=fun p:Later w1.heap.size w1=>p.keep (HU.out.cell (i:=7) rfl);have TQ:=fun p:Later w1.heap.size w1=>p.keep (HU.out.cell (i:=8) rfl);refine Ij 9 w1.heap.size aD aD ?_;simp only [List.take_succ_cons,List.take_zero,List.drop_succ_cons,List.drop_zero];repeat (go_big_quiet_step (first | (go_at_call 57;with_reducible exact Later.call ay (S1.out _)) | (go_at_call 57;with_reducible exact Later.call ay (S2.out _)) | (go_at_call 57;with_reducible exact Later.call ay (S3.out _))))
 refine wpQuiet_nil ?_;rintro wq ⟨q,hq⟩;have hlow:Below w1.heap.size w1 wq:=by rw [hq];exact q.low
 have ig:=hid (aG HB.out hlow);clear wG wH wI TG TJ TK TL TN TQ hq q hlow;go_wp2;go_ret;exact ⟨wq.heap.size,rfl,ig.out.size,ak.new' rfl rfl,ig.out.alloc ig.out.size _⟩
structure eT where
 k1:Int
 t1:List UInt8
 x1:List UInt8
 k2:Int
 t2:List UInt8
 x2:List UInt8
 k3:Int
 t3:List UInt8
 x3:List UInt8
def eT.cells (a:eT):List Value:=[.int .i64 a.k1,str a.t1,str a.x1,.int .i64 a.k2,str a.t2,str a.x2,.int .i64 a.k3,str a.t3,str a.x3]
abbrev eT.v (a:eT):Value:=fD a.k1 a.t1 a.x1 a.k2 a.t2 a.x2 a.k3 a.t3 a.x3
def eT.is (a:eT):Bool:=fu a.k1 a.t1 a.x1 a.k2 a.t2 a.x2 a.k3 a.t3 a.x3
def eT.low (a:eT) (n:Nat):Prop:=a.t1.length≤n∧a.x1.length≤n∧a.t2.length≤n∧a.x2.length≤n∧a.t3.length≤n∧a.x3.length≤n
def qD (w:World) (p o:Nat) (a:eT):Prop:=∀ i,i<9→w.cell? ⟨p,o+i,none⟩=(a.cells)[i]?
theorem qD.at {w:World} {p o:Nat} {a:eT} (h:qD w p o a) (i:Nat) (hi:i<9) {v:Value} (hv:(a.cells)[i]?=some v):w.cell? ⟨p,o+i,none⟩=some v:=(h i hi).trans hv
theorem qD.keep {w w':World} {p o:Nat} {a:eT} (h:qD w p o a) (hb:Below w.heap.size w w'):qD w' p o a:=by intro i hi;have h1:=h i hi;have h2:(a.cells)[i]?=some ((a.cells)[i]'(hi)):=List.getElem?_eq_getElem hi;rw [h2] at h1 ⊢;exact aB hb h1
end Go.Proofs.YtjaebndajhppgaaGreatDoor
namespace Go.Proofs.YtjaebndajhppgaaGreatDoor.Tm
open Go
end Go.Proofs.YtjaebndajhppgaaGreatDoor.Tm
namespace Go.Proofs.YtjaebndajhppgaaGreatDoor
open Go.Proofs.Tryz
open Go.ChangeShapes Go.WideShapes Go.ChangeAt Go.RowKit
namespace Tm
theorem iH {k:Int} {t x:List UInt8} (h:Tm.is k t x=true):∃ n:Nat,k=n∧1≤n∧n≤5:=by unfold Tm.is at h;refine ⟨k.toNat,?_⟩;by_cases h1:k=1;{subst h1;exact ⟨rfl,aH⟩};by_cases h2:k=2;{subst h2;exact ⟨rfl,aH⟩};by_cases h3:k=3;{subst h3;exact ⟨rfl,aH⟩};by_cases h4:k=4;{subst h4;exact ⟨rfl,aH⟩};by_cases h5:k=5;{subst h5;exact ⟨rfl,aH⟩};rw [if_neg h1,if_neg h2,if_neg h3,if_neg h4,if_neg h5] at h;cases h
theorem JJ {n:Nat} {t x:List UInt8} (h:Tm.is (n:Int) t x=true) :
  (n=1∧x=[]∧jl t=true)∨(n=2∧x=[]∧label t=true)∨(n=3∧x=[]∧text t=true)∨(n=4∧lang x=true∧text t=true)∨(n=5∧jl x=true∧text t=true):=by obtain ⟨m,hm,h1,h5⟩:=iH h;obtain rfl:n=m:=aj;clear hm;have hn:n=1∨n=2∨n=3∨n=4∨n=5:=aj;rcases hn with rfl | rfl | rfl | rfl | rfl;{have h':(x.isEmpty && jl t)=true:=h;rw [Bool.and_eq_true] at h';exact .inl ⟨rfl,by simpa using h'.1,h'.2⟩};{have h':(x.isEmpty && label t)=true:=h;rw [Bool.and_eq_true] at h';exact .inr (.inl ⟨rfl,by simpa using h'.1,h'.2⟩)};{have h':(x.isEmpty && text t)=true:=h;rw [Bool.and_eq_true] at h';exact .inr (.inr (.inl ⟨rfl,by simpa using h'.1,h'.2⟩))};{have h':(lang x && text t)=true:=h;rw [Bool.and_eq_true] at h';exact .inr (.inr (.inr (.inl ⟨rfl,h'.1,h'.2⟩)))};{have h':(jl x && text t)=true:=h;rw [Bool.and_eq_true] at h';exact .inr (.inr (.inr (.inr ⟨rfl,h'.1,h'.2⟩)))}
theorem JK {s:List UInt8} (h:jl s=true):1≤s.length∧s.length≤60∧Lib.validD s=true:=by unfold jl at h;simp only [Bool.and_eq_true,decide_eq_true_eq] at h;exact ⟨h.1.1.1,h.1.1.2,h.1.2⟩
theorem Dw {s:List UInt8} (h:text s=true):s.length≤30∧Lib.validD s=true:=by unfold text at h;simp only [Bool.and_eq_true,decide_eq_true_eq] at h;exact h
theorem JL {s:List UInt8} (h:label s=true):1≤s.length∧s.length≤8∧∀ c∈s,dS c=true:=by unfold label at h;simp only [Bool.and_eq_true,decide_eq_true_eq,List.all_eq_true] at h;exact ⟨h.1.1,h.1.2,h.2⟩
theorem TU {s:List UInt8} (h:lang s=true):s.length≤16∧∀ c∈s,c.toNat<128:=by unfold lang at h;simp only [Bool.and_eq_true,decide_eq_true_eq] at h;refine ⟨h.2,fun c hc=>?_⟩;have:=zy s false 0 h.1 c hc;simp only [small,digit,Bool.or_eq_true,Bool.and_eq_true,decide_eq_true_eq,beq_iff_eq] at this;rcases this with (h | h) | h;{omega};{omega};{subst h;decide}
theorem gY {n:Nat} {t x:List UInt8} (h:Tm.is (n:Int) t x=true):(aX n t x).length≤250∧t.length≤60∧x.length≤60:=by have he:=nu t;rcases JJ h with ⟨rfl,rfl,h1⟩ | ⟨rfl,rfl,h1⟩ | ⟨rfl,rfl,h1⟩ | ⟨rfl,h1,h2⟩ | ⟨rfl,h1,h2⟩;{have:=JK h1;refine ⟨?_,aj,aC⟩;show (60::(t++[62])).length≤250;simp;omega};{have:=JL h1;refine ⟨?_,aj,aC⟩;show (95::58::t).length≤250;simp;omega};{have:=Dw h1;refine ⟨?_,aj,aC⟩;show (34::(dI t++[34])).length≤250;simp;omega};{have:=Dw h2;have:=TU h1;refine ⟨?_,aj,aj⟩;show (34::(dI t++34::64::x)).length≤250;simp;omega};{have:=Dw h2;have:=JK h1;refine ⟨?_,aj,aj⟩;show (34::(dI t++34::94::94::60::(x++[62]))).length≤250;simp;omega}
theorem JM {n:Nat} {t x:List UInt8} (h:Tm.is (n:Int) t x=true):eu (aX n t x)=some (n,t,x,[]):=by rcases JJ h with ⟨rfl,rfl,h1⟩ | ⟨rfl,rfl,h1⟩ | ⟨rfl,rfl,h1⟩ | ⟨rfl,h1,h2⟩ | ⟨rfl,h1,h2⟩;{exact Rl (IB h1)};{exact Rm (JL h1).2.2};{exact Rn t};{exact Ro h1};{exact Rp (IB h1)}
theorem zO {n m:Nat} {t x u y:List UInt8} (h:Tm.is (n:Int) t x=true) (h2:Tm.is (m:Int) u y=true):aX n t x=aX m u y↔(n=m∧t=u∧x=y):=by constructor;{intro e;have:=JM h;rw [e,JM h2] at this;simp only [Option.some.injEq,Prod.mk.injEq] at this;exact ⟨this.1.symm,this.2.1.symm,this.2.2.1.symm⟩};{rintro ⟨rfl,rfl,rfl⟩;rfl}
end Tm
open Go.ChangeShapes Go.WideShapes Go.ChangeAt Go.RowKit
theorem JO:Go.laidOutB prog=true:=aD
theorem TV:67<prog.types.size:=of_decide_eq_true aD
theorem TW:(match prog.underlying 67 with | some (.array _ _) | some (.struct _)=>true | _=>false)=true:=aD
theorem o9:Maps.Keyed prog 67:=Maps.Keyed.of_law (deep_law_laid JO (m:=4) aj TV aD TW)
theorem TY:prog.keyType 67=true:=aD
theorem keyLits_int (d:Nat) (k:Int) (hk:(Lit.int .i64 k).wf=true):prog.keyLits (d+1) 3 [.int .i64 k]=some [.int .i64 k]:=by unfold Program.keyLits;rw [underlying3];simp [hk]
theorem JQ (d:Nat) (t:List UInt8) (ht:t.length≤maxLen):prog.keyLits (d+1) 9 [str t]=some [.string t]:=by unfold Program.keyLits;rw [underlying9];simp [ByteArray.size,ht]
theorem Dx:prog.cellsOf 61=3:=aD
theorem T9:prog.cellsOf 3=1:=aD
theorem T_:prog.cellsOf 9=1:=aD
theorem JR:prog.cellsOf 67=9:=aD
theorem zP (d:Nat) (k:Int) (t x:List UInt8) (hk:(Lit.int .i64 k).wf=true) (ht:t.length≤maxLen) (hx:x.length≤maxLen) :
  prog.keyLits (d+2) 61 [.int .i64 k,str t,str x]=some [.int .i64 k,.string t,.string x]:=by have e1:=keyLits_int d k hk;have e2:=JQ d t ht;have e3:=JQ d x hx;have c1:=Dx;have c2:=T9;have c3:=T_;unfold Program.keyLits;rw [underlying61];simp [c1,c2,c3,e1,e2,e3]
theorem Ua (d:Nat) (k1 k2 k3:Int) (t1 x1 t2 x2 t3 x3:List UInt8) (h1:(Lit.int .i64 k1).wf=true) (h2:(Lit.int .i64 k2).wf=true) (h3:(Lit.int .i64 k3).wf=true) (ht1:t1.length≤maxLen) (hx1:x1.length≤maxLen) (ht2:t2.length≤maxLen) (hx2:x2.length≤maxLen) (ht3:t3.length≤maxLen) (hx3:x3.length≤maxLen) :
  prog.keyLits (d+3) 67 [.int .i64 k1,str t1,str x1,.int .i64 k2,str t2,str x2,.int .i64 k3,str t3,str x3]=some [.int .i64 k1,.string t1,.string x1,.int .i64 k2,.string t2,.string x2,.int .i64 k3,.string t3,.string x3]:=by have e1:=zP d k1 t1 x1 h1 ht1 hx1;have e2:=zP d k2 t2 x2 h2 ht2 hx2;have e3:=zP d k3 t3 x3 h3 ht3 hx3;have c1:=Dx;have c4:=JR;unfold Program.keyLits;rw [underlying67];simp [c1,c4,e1,e2,e3]
def zQ (k1:Int) (t1 x1:List UInt8) (k2:Int) (t2 x2:List UInt8) (k3:Int) (t3 x3:List UInt8):Lit:=
 .string (keyBytes [.int .i64 k1,.string t1,.string x1,.int .i64 k2,.string t2,.string x2,.int .i64 k3,.string t3,.string x3])
theorem Ub (k1 k2 k3:Int) (t1 x1 t2 x2 t3 x3:List UInt8) (h1:(Lit.int .i64 k1).wf=true) (h2:(Lit.int .i64 k2).wf=true) (h3:(Lit.int .i64 k3).wf=true) (ht1:t1.length≤maxLen) (hx1:x1.length≤maxLen) (ht2:t2.length≤maxLen) (hx2:x2.length≤maxLen) (ht3:t3.length≤maxLen) (hx3:x3.length≤maxLen) :
  keyOf prog 67 (fD k1 t1 x1 k2 t2 x2 k3 t3 x3)=some (zQ k1 t1 x1 k2 t2 x2 k3 t3 x3):=by
 obtain ⟨d,hd⟩:∃ d,prog.types.size+1=d+3:=⟨prog.types.size-2,by have:3≤prog.types.size:=of_decide_eq_true aD;omega⟩;have e:=Ua d k1 k2 k3 t1 x1 t2 x2 t3 x3 h1 h2 h3 ht1 hx1 ht2 hx2 ht3 hx3;have hf:(fD k1 t1 x1 k2 t2 x2 k3 t3 x3).formed prog 67=true:=by have c4:=JR;have u:=underlying67;simp [Value.formed,u,c4]
 have u:=underlying67;unfold keyOf;rw [u];simp only;rw [TY,hf,hd];have ec:(fD k1 t1 x1 k2 t2 x2 k3 t3 x3).cells.toList=[.int .i64 k1,str t1,str x1,.int .i64 k2,str t2,str x2,.int .i64 k3,str t3,str x3]:=by simp [Value.cells]
 rw [ec,e];rfl
abbrev TR:=Tm.T3×Tm.T3×Tm.T3
abbrev o_ (t:TR):Value:=fD (t.1.1:Nat) t.1.2.1 t.1.2.2 (t.2.1.1:Nat) t.2.1.2.1 t.2.1.2.2 (t.2.2.1:Nat) t.2.2.2.1 t.2.2.2.2
def jP (t:TR):Lit:=zQ (t.1.1:Nat) t.1.2.1 t.1.2.2 (t.2.1.1:Nat) t.2.1.2.1 t.2.1.2.2 (t.2.2.1:Nat) t.2.2.2.1 t.2.2.2.2
def pq (t:TR):Prop:=(t.1.1≤5∧t.1.2.1.length≤100000000∧t.1.2.2.length≤100000000)∧(t.2.1.1≤5∧t.2.1.2.1.length≤100000000∧t.2.1.2.2.length≤100000000)∧(t.2.2.1≤5∧t.2.2.2.1.length≤100000000∧t.2.2.2.2.length≤100000000)
theorem zR {n:Nat} (h:n≤5):(Lit.int .i64 (n:Nat)).wf=true:=by rcases (show n=0∨n=1∨n=2∨n=3∨n=4∨n=5 by omega) with rfl | rfl | rfl | rfl | rfl | rfl <;> decide
theorem uj {t:TR} (h:pq t):keyOf prog 67 (o_ t)=some (jP t):=by obtain ⟨⟨a1,a2,a3⟩,⟨b1,b2,b3⟩,c1,c2,c3⟩:=h;exact Ub _ _ _ _ _ _ _ _ _ (zR a1) (zR b1) (zR c1) (by unfold maxLen;omega) (by unfold maxLen;omega) (by unfold maxLen;omega) (by unfold maxLen;omega) (by unfold maxLen;omega) (by unfold maxLen;omega)
theorem Uc {s t:TR} (hs:pq s) (ht:pq t) (h:jP s=jP t):s=t:=by have e:=o9.inj (uj hs) (h ▸ uj ht);obtain ⟨⟨s1,s2,s3⟩,⟨s4,s5,s6⟩,s7,s8,s9⟩:=s;obtain ⟨⟨t1,t2,t3⟩,⟨t4,t5,t6⟩,t7,t8,t9⟩:=t;simp only [fD,Value.agg.injEq,Array.mk.injEq,List.cons.injEq,Value.int.injEq,true_and,and_true,Int.natCast_inj] at e;obtain ⟨e1,e2,e3,e4,e5,e6,e7,e8,e9⟩:=e;rw [e1,str_inj e2,str_inj e3,e4,str_inj e5,str_inj e6,e7,str_inj e8,str_inj e9]
def fZ (l:List TR):DataW Unit:=Maps.setOf (.agg []) (l.map jP)
theorem JU (l:List TR) (t:TR):fZ (l++[t])=(fZ l).put (jP t) (.agg []):=by unfold fZ;rw [List.map_append,List.map_cons,List.map_nil,Maps.setOf_snoc]
theorem zT {l:List TR} {t:TR} (hl:∀ s∈l,pq s) (ht:pq t):Maps.has (fZ l) (jP t)=decide (t∈l):=by unfold fZ;rw [Maps.has_setOf _ _ _ (fun x hx=>by obtain ⟨s,hs,rfl⟩:=List.mem_map.1 hx;exact o9.key (uj (hl s hs)))];rw [Bool.eq_iff_iff];simp only [List.any_eq_true,List.mem_map,decide_eq_true_eq];constructor;{rintro ⟨x,⟨s,hs,rfl⟩,hx⟩;have:jP s=jP t:=(by simpa [jP,zQ,Lit.sameKey] using hx);rw [←Uc (hl s hs) ht this];exact hs};{intro h;exact ⟨_,⟨t,h,rfl⟩,by simp [jP,zQ,Lit.sameKey]⟩}
instance:Inhabited eT:=⟨⟨0,[],[],0,[],[],0,[],[]⟩⟩
def bX (W:World) (v:Value) (L:List eT):Prop:=∃ (a:Option Addr) (cap:Nat),v=.slice a L.length cap∧L.length≤cap∧cap≤maxLen∧(a=none→cap=0) ∧
 (L.length=0∨∃ b off,a=some ⟨b,off,none⟩∧∀ i (h:i<L.length),qD W b (off+i*9) L[i])
theorem bX.keep {W W':World} {v:Value} {L:List eT} (h:bX W v L) (hb:Below W.heap.size W W'):bX W' v L:=by obtain ⟨a,cap,h1,h2,h3,h4,h5⟩:=h;refine ⟨a,cap,h1,h2,h3,h4,?_⟩;rcases h5 with h5 | ⟨b,off,e,h5⟩;{exact Or.inl h5};{exact Or.inr ⟨b,off,e,fun i hi=>(h5 i hi).keep hb⟩}
theorem bX.drawn {W:World} {v:Value} {L:List eT} (h:bX W v L) (n:Nat):bX (W.drewN n) v L:=h
theorem bX.nil (W:World):bX W (.slice none 0 0) []:=⟨none,0,rfl,Nat.le_refl _,by unfold maxLen;omega,fun _=>rfl,Or.inl rfl⟩
theorem bX.open {W:World} {v:Value} {L:List eT} (h:bX W v L):∃ a cap,v=.slice a L.length cap∧L.length≤cap∧cap≤maxLen∧(a=none→cap=0):=by obtain ⟨a,cap,h1,h2,h3,h4,_⟩:=h;exact ⟨a,cap,h1,h2,h3,h4⟩
theorem bX.get {W:World} {a:Option Addr} {n cap:Nat} {L:List eT} (h:bX W (.slice a n cap) L) {i:Nat} (hi:i<L.length):∃ b off,a=some ⟨b,off,none⟩∧∀ i (h:i<L.length),qD W b (off+i*9) L[i]:=by obtain ⟨a',cap',e,h2,h3,h4,h5⟩:=h;simp only [Value.slice.injEq] at e;obtain ⟨rfl,rfl,rfl⟩:=e;rcases h5 with h5 | h5;{omega};{exact h5}
theorem bX.front {W:World} {a:Option Addr} {n cap:Nat} {L:List eT} (h:bX W (.slice a n cap) L) (k:Nat) (hk:k≤n):bX W (.slice a k cap) (L.take k):=by
 obtain ⟨a',cap',e,h1,h2,h3,r⟩:=h;simp only [Value.slice.injEq] at e;obtain ⟨rfl,rfl,rfl⟩:=e;have hl:(L.take k).length=k:=by rw [List.length_take];omega
 refine ⟨a,cap,by rw [hl],aj,h2,h3,?_⟩;rcases r with h0 | ⟨b,off,ha,hc⟩;{exact Or.inl aj};{refine Or.inr ⟨b,off,ha,fun i hi=>?_⟩;have:=hc i aj;rwa [List.getElem_take]}
theorem bX.back {W:World} {b off n cap:Nat} {L:List eT} (h:bX W (.slice (some ⟨b,off,none⟩) n cap) L) (k:Nat) (hk:k≤n):bX W (.slice (some ⟨b,off+k*9,none⟩) (n-k) (cap-k)) (L.drop k):=by
 obtain ⟨a',cap',e,h1,h2,h3,r⟩:=h;simp only [Value.slice.injEq] at e;obtain ⟨rfl,rfl,rfl⟩:=e;have hl:(L.drop k).length=L.length-k:=by rw [List.length_drop]
 refine ⟨_,_,by rw [hl],aj,aj,(fun h=>by cases h),?_⟩;rcases r with h0 | ⟨b',off',ha,hc⟩;{exact Or.inl aj};{cases ha;refine Or.inr ⟨b,off+k*9,rfl,fun i hi=>?_⟩;have:=hc (k+i) aj;rw [List.getElem_drop,show off+k*9+i*9=off+(k+i)*9 by omega];exact this}
def bA (t:TR):eT:=⟨(t.1.1:Nat),t.1.2.1,t.1.2.2,(t.2.1.1:Nat),t.2.1.2.1,t.2.1.2.2,(t.2.2.1:Nat),t.2.2.2.1,t.2.2.2.2⟩
section
variable {H:Type} {enc:TypeId×Value→H} {W:World} {base:Nat} {v:Value} {d:DataW H} {p:List MemPlace}
end
end Go.Proofs.YtjaebndajhppgaaGreatDoor
namespace Go.Proofs.YtjaebndajhppgaaGreatDoor.Tm
open Go Go.RowKit
def um (p:T3×T3×T3):T:=aX p.1.1 p.1.2.1 p.1.2.2++32::(aX p.2.1.1 p.2.1.2.1 p.2.1.2.2++32::(aX p.2.2.1 p.2.2.2.1 p.2.2.2.2++32::[46]))
theorem JV:∀ (s r:T),(∀ d∈s,d≠10)→Lib.index (s++10::r) [10]=s.length
 | [],r,_=>Io 10 r
 | d::s,r,h=>by
  have ih:=JV s r (fun e he=>h e (by simp [he]))
  rw [List.cons_append,CZ (h d aC),ih]
  rw [if_neg aC]
  simp
theorem Ud (s r:T) (h:∀ d∈s,d≠10):Lib.cut (s++10::r) [10]=(s,r,true):=by unfold Lib.cut;rw [JV s r h,if_pos aj];simp
def fA (s:T):T×T:=if (Lib.cut s [10]).2.2=true then (Lib.trimSuffix (Lib.cut s [10]).1 [13],(Lib.cut s [10]).2.1) else ((Lib.cut s [10]).1,(Lib.cut s [10]).2.1)
theorem wJ {s:T} (h:s≠[]):(fA s).2.length<s.length:=by
 have hl:0<s.length:=by cases s with
  | nil=>exact absurd rfl h
  | cons _ _=>simp
 unfold fA Lib.cut;split;{simp only [if_true,List.length_drop,List.length_cons,List.length_nil];omega};{simp only;exact hl}
theorem JW (s:T):(fA s).1.length≤s.length:=by
 have h1:(Lib.cut s [10]).1.length≤s.length:=by unfold Lib.cut;split;{simp only [List.length_take];omega};{exact Nat.le_refl _}
 have h2:∀ a:T,(Lib.trimSuffix a [13]).length≤a.length:=by intro a;unfold Lib.trimSuffix;split;{simp only [List.length_take];omega};{exact Nat.le_refl _}
 unfold fA;split;{exact Nat.le_trans (h2 _) h1};{exact h1}
def pl:Nat→T→Nat→List (T3×T3×T3)→Nat×Nat×List (T3×T3×T3)
 | 0,_,n,l=>(0,n,l)
 | f+1,s,n,l=>if s=[] then (0,n,l) else if 200<n+1 then (3,n+1,[]) else match one (fA s).1 with
  | none=>(2,n+1,[])
  | some none=>pl f (fA s).2 (n+1) l
  | some (some t)=>if t∈l then pl f (fA s).2 (n+1) l else if l.length=100 then (3,n+1,[]) else pl f (fA s).2 (n+1) (l++[t])
theorem zU:∀ (f g:Nat) (s:T) (n:Nat) (l:List (T3×T3×T3)),s.length<f→s.length<g→pl f s n l=pl g s n l
 | 0,g,s,n,l,h,_=>aj
 | f+1,0,s,n,l,_,h=>aj
 | f+1,g+1,s,n,l,hf,hg=>by
  unfold pl
  by_cases h:s=[]
  · rw [if_pos h,if_pos h]
  · have hc:=wJ h
    rw [if_neg h,if_neg h]
    split
    · rfl
    · cases one (fA s).1 with
      | none=>rfl
      | some o=>
       cases o with
       | none=>exact zU f g _ _ _ aj aj
       | some t=>
        simp only
        split
        · exact zU f g _ _ _ aj aj
        · split
          · rfl
          · exact zU f g _ _ _ aj aj
def f_ (s:T) (n:Nat) (l:List (T3×T3×T3)):Nat×Nat×List (T3×T3×T3):=pl (s.length+1) s n l
theorem Ue (n:Nat) (l:List (T3×T3×T3)):f_ [] n l=(0,n,l):=rfl
theorem Dy {s:T} (h:s≠[]) (n:Nat) (l:List (T3×T3×T3)):f_ s n l=if 200<n+1 then (3,n+1,[]) else match one (fA s).1 with
  | none=>(2,n+1,[])
  | some none=>f_ (fA s).2 (n+1) l
  | some (some t)=>if t∈l then f_ (fA s).2 (n+1) l else if l.length=100 then (3,n+1,[]) else f_ (fA s).2 (n+1) (l++[t]):=by have hc:=wJ h;have e:∀ m k,pl s.length (fA s).2 m k=f_ (fA s).2 m k:=fun m k=>zU _ _ _ _ _ hc aj;unfold f_;rw [pl,if_neg h];simp only [e];rfl
def jQ (a1 a2 a3 b1 b2 b3:T):Int:=if cmp a1 b1=0 then (if cmp a2 b2=0 then cmp a3 b3 else cmp a2 b2) else cmp a1 b1
theorem Uf (a1 a2 a3 b1 b2 b3:T):jQ b1 b2 b3 a1 a2 a3 = - jQ a1 a2 a3 b1 b2 b3:=by
 unfold jQ;rw [jB a1 b1,jB a2 b2,jB a3 b3];repeat' split
 all_goals omega
theorem Ug (a1 a2 a3 b1 b2 b3:T):jQ a1 a2 a3 b1 b2 b3=0↔(a1=b1∧a2=b2∧a3=b3):=by
 rw [←mG,←mG,←mG];unfold jQ;repeat' split
 all_goals omega
theorem JX {a b c:T} (h1:cmp a b<0) (h2:cmp b c≤0):cmp a c<0:=by have h:=vT (a:=a) (b:=b) (c:=c) aj h2;rcases (show cmp a c=0∨cmp a c<0 by omega) with h0 | h0;{rw [mG.1 h0] at h1;have:=jB b c;omega};{exact h0}
theorem Uh {a1 a2 a3 b1 b2 b3 c1 c2 c3:T} (h1:jQ a1 a2 a3 b1 b2 b3≤0) (h2:jQ b1 b2 b3 c1 c2 c3≤0):jQ a1 a2 a3 c1 c2 c3≤0:=by unfold jQ at *;by_cases e1:cmp a1 b1=0;{rw [if_pos e1] at h1;obtain rfl:=mG.1 e1;by_cases e2:cmp a1 c1=0;{rw [if_pos e2] at h2 ⊢;by_cases e3:cmp a2 b2=0;{rw [if_pos e3] at h1;obtain rfl:=mG.1 e3;by_cases e4:cmp a2 c2=0;{rw [if_pos e4] at h2 ⊢;exact vT h1 h2};{rw [if_neg e4] at h2 ⊢;exact h2}};{rw [if_neg e3] at h1;by_cases e4:cmp b2 c2=0;{obtain rfl:=mG.1 e4;rw [if_neg e3];exact h1};{rw [if_neg e4] at h2;have:=JX (show cmp a2 b2<0 by omega) h2;rw [if_neg aj];omega}}};{rw [if_neg e2] at h2 ⊢;exact h2}};{rw [if_neg e1] at h1;by_cases e2:cmp b1 c1=0;{obtain rfl:=mG.1 e2;rw [if_neg e1];exact h1};{rw [if_neg e2] at h2;have:=JX (show cmp a1 b1<0 by omega) h2;rw [if_neg aj];omega}}
abbrev TT:=T3×T3×T3
def jo (l:List TT):T:=l.flatMap fun p=>um p++[10]
theorem JY (l:List TT) (p:TT):jo (l++[p])=jo l++(um p++[10]):=by simp [jo]
def jR (a:List TT) (t:TT):List TT:=if t∈a then a else a++[t]
def jS (a l:List TT):List TT:=l.foldl jR a
theorem Ui (a:List TT) (t:TT):(jR a t).length≤a.length+1:=by unfold jR;split;{omega};{simp}
theorem Uj (a:List TT) (t x:TT):x∈jR a t↔x∈a∨x=t:=by unfold jR;split;{rename_i h;constructor;{exact Or.inl};{rintro (h1 | rfl);{exact h1};{exact h}}};{simp}
theorem Dz:∀ (l a:List TT) (x:TT),x∈jS a l↔x∈a∨x∈l
 | [],a,x=>by simp [jS]
 | t::l,a,x=>by
  have ih:=Dz l (jR a t) x
  show x∈jS (jR a t) l↔_
  rw [ih,Uj,List.mem_cons]
  constructor
  · rintro ((h | h) | h)
    · exact .inl h
    · exact .inr (.inl h)
    · exact .inr (.inr h)
  · rintro (h | h | h)
    · exact .inl (.inl h)
    · exact .inl (.inr h)
    · exact .inr h
def bO (p q:TT):Int:=jQ (aX p.1.1 p.1.2.1 p.1.2.2) (aX p.2.1.1 p.2.1.2.1 p.2.1.2.2) (aX p.2.2.1 p.2.2.2.1 p.2.2.2.2) (aX q.1.1 q.1.2.1 q.1.2.2) (aX q.2.1.1 q.2.1.2.1 q.2.1.2.2) (aX q.2.2.1 q.2.2.2.1 q.2.2.2.2)
theorem pz {p:TT} (h:bG p=true):(p.1.1=1∨p.1.1=2)∧p.2.1.1=1∧is (p.1.1:Int) p.1.2.1 p.1.2.2=true∧is (p.2.1.1:Int) p.2.1.2.1 p.2.1.2.2=true∧is (p.2.2.1:Int) p.2.2.2.1 p.2.2.2.2=true:=by unfold bG dJ at h;simp only [Bool.and_eq_true,decide_eq_true_eq] at h;exact ⟨h.1.1,h.1.2,h.2.1.1,h.2.1.2,h.2.2⟩
theorem DC {p q:TT} (hp:bG p=true) (hq:bG q=true):bO p q=0↔p=q:=by obtain ⟨_,_,a1,a2,a3⟩:=pz hp;obtain ⟨_,_,b1,b2,b3⟩:=pz hq;obtain ⟨⟨n1,t1,x1⟩,⟨n2,t2,x2⟩,⟨n3,t3,x3⟩⟩:=p;obtain ⟨⟨m1,u1,y1⟩,⟨m2,u2,y2⟩,⟨m3,u3,y3⟩⟩:=q;unfold bO;rw [Ug];simp only at a1 a2 a3 b1 b2 b3 ⊢;rw [zO a1 b1,zO a2 b2,zO a3 b3];simp only [Prod.mk.injEq]
theorem nC (p q:TT):bO q p = - bO p q:=by unfold bO;exact Uf _ _ _ _ _ _
theorem DF {p q r:TT} (h1:bO p q≤0) (h2:bO q r≤0):bO p r≤0:=by unfold bO at *;exact Uh h1 h2
theorem DI {p q r:TT} (h1:bO p q<0) (h2:bO q r<0):bO p r<0:=by have h:=DF (Int.le_of_lt h1) (Int.le_of_lt h2);rcases Int.lt_or_eq_of_le h with h3 | h3;{exact h3};{exfalso;have h4:bO r p≤0:=(by rw [nC p r,h3];decide);have h5:=DF (Int.le_of_lt h2) h4;have:=nC p q;omega}
def fG (l:List TT):Prop:=l.Pairwise fun a b=>bO a b<0
theorem uo:∀ {l m:List TT},fG l→fG m→(∀ t,t∈l↔t∈m)→l=m
 | [],[],_,_,_=>rfl
 | [],b::m,_,_,h=>absurd ((h b).2 aC) aC
 | a::l,[],_,_,h=>absurd ((h a).1 aC) aC
 | a::l,b::m,hl,hm,h=>by
  obtain ⟨h1,h2⟩:=List.pairwise_cons.1 hl
  obtain ⟨k1,k2⟩:=List.pairwise_cons.1 hm
  have hself:∀ t,¬ bO t t<0:=fun t ht=>by have:=nC t t;omega
  have e:a=b:=by
   have ha:=(h a).1 aC
   have hb:=(h b).2 aC
   rcases List.mem_cons.1 ha with e | ha
   · exact e
   · rcases List.mem_cons.1 hb with e | hb
     · exact e.symm
     · exact absurd (DI (k1 a ha) (h1 b hb)) (hself b)
  subst e
  rw [uo h2 k2 fun t=>?_]
  constructor
  · intro ht
    rcases List.mem_cons.1 ((h t).1 (by simp [ht])) with rfl | h3
    · exact absurd (h1 t ht) (hself t)
    · exact h3
  · intro ht
    rcases List.mem_cons.1 ((h t).2 (by simp [ht])) with rfl | h3
    · exact absurd (k1 t ht) (hself t)
    · exact h3
def put (l:List TT) (t:TT):List TT:=if ((l.dropWhile fun a=>decide (bO a t<0)).head?==some t)=true then l else (l.takeWhile fun a=>decide (bO a t<0))++t::l.dropWhile fun a=>decide (bO a t<0)
def eD (l:List TT):List TT:=l.foldl put []
theorem put_mem (l:List TT) (t x:TT):x∈put l t↔x∈l∨x=t:=by
 have e:=List.takeWhile_append_dropWhile (p:=fun a=>decide (bO a t<0)) (l:=l);unfold put;split;{rename_i h;constructor;{exact .inl};{rintro (h1 | rfl);{exact h1};{rw [←e];have:=List.mem_of_mem_head? (Option.mem_def.2 (eq_of_beq h));exact List.mem_append_right _ this}}}
 · conv=>rhs;rw [←e]
   simp only [List.mem_append,List.mem_cons];constructor;{rintro (h1 | h1 | h1);{exact .inl (.inl h1)};{exact .inr h1};{exact .inl (.inr h1)}};{rintro ((h1 | h1) | h1);{exact .inl h1};{exact .inr (.inr h1)};{exact .inr (.inl h1)}}
theorem zV {l:List TT} {t:TT} (hl:fG l) (hv:∀ a∈l,bG a=true) (ht:bG t=true):fG (put l t):=by
 have e:=List.takeWhile_append_dropWhile (p:=fun a=>decide (bO a t<0)) (l:=l);unfold put;split;{exact hl}
 · rename_i h;have hp:fG (l.takeWhile (fun a=>decide (bO a t<0))++l.dropWhile (fun a=>decide (bO a t<0))):=(by rw [e];exact hl);obtain ⟨p1,p2,p3⟩:=List.pairwise_append.1 hp;have hlo:∀ a∈l.takeWhile (fun a=>decide (bO a t<0)),bO a t<0:=fun a ha=>(by have h1:(l.takeWhile (fun a=>decide (bO a t<0))).all (fun a=>decide (bO a t<0))=true:=List.all_takeWhile;simpa using List.all_eq_true.1 h1 a ha);have hhi:∀ b∈l.dropWhile (fun a=>decide (bO a t<0)),bO t b<0:=by
    obtain ⟨d,hd⟩:=aA (l.dropWhile (fun a=>decide (bO a t<0)));rw [←hd] at h p2 p3 ⊢;cases d with
    | nil=>intro b hb;cases hb
    | cons c d=>have hc:¬ bO c t<0:=(by have:=List.head?_dropWhile_not (fun a=>decide (bO a t<0)) l;rw [←hd] at this;simpa using this);have hcm:c∈l:=(by rw [←e,←hd];simp);have hne:c≠t:=fun e=>h (by rw [e];exact beq_self_eq_true _);have h0:bO c t≠0:=fun h0=>hne ((DC (hv c hcm) ht).1 h0);have hn:=nC c t;have hct:bO t c<0:=aj;intro b hb;rcases List.mem_cons.1 hb with rfl | hb;{exact hct};{exact DI hct ((List.pairwise_cons.1 p2).1 b hb)}
   refine List.pairwise_append.2 ⟨p1,List.pairwise_cons.2 ⟨hhi,p2⟩,fun a ha b hb=>?_⟩;rcases List.mem_cons.1 hb with rfl | hb;{exact hlo a ha};{exact p3 a ha b hb}
theorem rW:∀ (l a:List TT),fG a→(∀ t∈a,bG t=true)→(∀ t∈l,bG t=true)→fG (l.foldl put a)∧∀ x,x∈l.foldl put a↔x∈a∨x∈l
 | [],a,hs,_,_=>⟨hs,fun x=>aC⟩
 | t::l,a,hs,ha,hl=>by
  obtain ⟨h1,h2⟩:=rW l (put a t) (zV hs ha (hl t aC)) (fun x hx=>by
   rcases (put_mem a t x).1 hx with h | rfl
   · exact ha x h
   · exact hl x aC) (fun x hx=>hl x (by simp [hx]))
  refine ⟨h1,fun x=>?_⟩
  rw [List.foldl_cons,h2 x,put_mem,List.mem_cons]
  constructor
  · rintro ((h | h) | h)
    · exact .inl h
    · exact .inr (.inl h)
    · exact .inr (.inr h)
  · rintro (h | h | h)
    · exact .inl (.inl h)
    · exact .inl (.inr h)
    · exact .inr h
theorem zW {l:List TT} (hl:∀ t∈l,bG t=true):fG (eD l):=(rW l [] List.Pairwise.nil aC hl).1
theorem zX {l:List TT} (hl:∀ t∈l,bG t=true) (x:TT):x∈eD l↔x∈l:=by have:=(rW l [] List.Pairwise.nil aC hl).2 x;unfold eD;simpa using this
theorem wK {l:List TT} (hl:∀ t∈l,bG t=true):∀ t∈eD l,bG t=true:=fun t ht=>hl t ((zX hl t).1 ht)
theorem DJ {l m:List TT} (hl:∀ t∈l,bG t=true) (hm:fG m) (h:∀ t,t∈m↔t∈l):m=eD l:=
 uo hm (zW hl) fun t=>by rw [h,zX hl]
theorem wL (l:List TT) (t:TT):(put l t).length≤l.length+1:=by have e:=congrArg List.length (List.takeWhile_append_dropWhile (p:=fun a=>decide (bO a t<0)) (l:=l));unfold put;split;{omega};{simp only [List.length_append,List.length_cons] at *;omega}
theorem wN:∀ (l a:List TT),(l.foldl put a).length≤a.length+l.length
 | [],a=>aC
 | t::l,a=>by
  have:=wN l (put a t)
  have h:=wL a t
  rw [List.foldl_cons,List.length_cons];omega
theorem DK (l:List TT):(eD l).length≤l.length:=by have:=wN l [];simpa [eD] using this
end Go.Proofs.YtjaebndajhppgaaGreatDoor.Tm
namespace Go.Proofs.YtjaebndajhppgaaGreatDoor
open Go.Proofs.Tryz
open Go.ChangeShapes Go.WideShapes Go.ChangeAt Go.RowKit
def mK:List UInt8:=[34,92,10,13,9,8,12]
def qE:List UInt8:=[34,92,110,114,116,98,102]
theorem Uk:∀ k:Fin 7,Tm.esc (mK.getD k.val 0)=[92,qE.getD k.val 0]:=aH
theorem Ul {c:UInt8} (h:∀ j,j<7→mK.getD j 0≠c):rO c:=by have e:∀ j,j<7→c.toNat≠(mK.getD j 0).toNat:=fun j hj he=>h j hj (UInt8.toNat_inj.1 he.symm);exact ⟨e 0 aj,e 1 aj,e 2 aj,e 3 aj,e 4 aj,e 5 aj,e 6 aj⟩
theorem JZ (k:Nat) (h:k<16):(⟨#[48,49,50,51,52,53,54,55,56,57,65,66,67,68,69,70]⟩:ByteArray).extract k (k+1)=⟨#[Tm.gT k]⟩:=by
 have:∀ k:Fin 16,((⟨#[48,49,50,51,52,53,54,55,56,57,65,66,67,68,69,70]⟩:ByteArray).extract k.val (k.val+1)).data.toList=[Tm.gT k.val]:=by decide +kernel
 apply ByteArray.ext;apply Array.ext';exact this ⟨k,h⟩
theorem Um (s:List UInt8) (w:World) (hl:s.length≤1000000000) :
  Calls prog 107 #[str s] w fun e w'=>e=.returned (str (Tm.dI s))∧∃ q,w'=w.drewN q:=by
 go_enter func107,ntmps107;go_wp2;go_loopw [6,7,8,9] (fun s6 s7 _ _ wr=>∃ i:Nat,i≤s.length∧s7=.int .i64 i∧s6=str (Tm.dI (s.take i))∧Hid (∃ q,wr=w.drewN q)) (fun _ s7 _ _ _=>s.length-(intOf s7).toNat)
 case atStart=>exact ⟨0,aj,rfl,rfl,0,rfl⟩
 case round=>
  obtain ⟨i,hi,rfl,rfl,HQ⟩:=hrel;obtain ⟨q0,hq0⟩:=HQ.out;subst hq0;clear HQ;have hle:=Tm.nu (s.take i);rw [List.length_take] at hle;by_cases hlt:i<s.length
  · obtain ⟨c,hc⟩:∃ c,s[i]?=some c:=⟨_,List.getElem?_eq_getElem hlt⟩;have hcc:=fun q=>eX s i c hc q;have HS:=hid (IZ s i c hc);have rQ:(⟨s.toArray⟩:ByteArray).extract i (i+1)=⟨[c].toArray⟩:=(by rw [og,show i+1-i=1 by omega];obtain ⟨hl2,e2⟩:=List.getElem?_eq_some_iff.1 hc;rw [List.drop_eq_getElem_cons hl2,e2];rfl);obtain ⟨out,hout⟩:=aA (Tm.dI (s.take i));have HO:=hid hout;rw [←hout] at hle HS ⊢;have hol:out.length≤6000000000:=aj;have hc256:c.toNat<256:=c.toNat_lt;clear hc hout hle;obtain ⟨W,hW⟩:=aA (w.drewN q0);have HW:=hid hW;rw [←hW];clear hW;go_wp2;go_loop [9] (fun s9=>∃ k:Nat,k≤7∧s9=.int .i64 k∧Hid (∀ j,j<k→mK.getD j 0≠c)) (fun s9=>7-(intOf s9).toNat)
    (case atStart=>exact ⟨0,aj,rfl,fun j hj=>aj⟩);case round=>
     obtain ⟨k,hk,rfl,HN⟩:=hrel;by_cases DL:k<7
     · have g1:mK[k]?=some (mK.getD k 0):=(by have:k<mK.length:=DL;simp [List.getD,this]);have g2:qE[k]?=some (qE.getD k 0):=(by have:k<qE.length:=DL;simp [List.getD,this]);have wC:=fun q=>eX mK k _ g1 q;have ht2:(⟨qE.toArray⟩:ByteArray).extract k (k+1)=⟨[qE.getD k 0].toArray⟩:=(by rw [og,show k+1-k=1 by omega];obtain ⟨hl2,e2⟩:=List.getElem?_eq_some_iff.1 g2;rw [List.drop_eq_getElem_cons hl2,e2];rfl);have HD:=hid (Uk ⟨k,DL⟩);have wD:=hid (show mK.getD k 0≠c→∀ j,j<k+1→mK.getD j 0≠c from fun hne j hj=>by
        by_cases he:j=k;{rw [he];exact hne}
        · exact HN.out j aj)
       obtain ⟨d,hd⟩:=aA (mK.getD k 0);obtain ⟨f,hf⟩:=aA (qE.getD k 0);simp only at HD;rw [←hd] at wC wD HD;rw [←hf] at ht2 HD;unfold mK at wC;unfold qE at ht2;have hkz:(k:Int)<7:=aj;have hk0:(0:Int)≤(k:Int):=aj;clear hd hf g1 g2 HN;by_cases hcd:d=c
       · subst hcd;have be:((d.toNat:Int) != (d.toNat:Int))=false:=aC;have HF:=hid (show Tm.dI (s.take (i+1))=out++[92,f] by rw [HS.out,HD.out]);have ha1:(⟨out.toArray⟩++⟨#[92]⟩:ByteArray)=⟨(out++[92]).toArray⟩:=gD out [92];have ha2:(⟨(out++[92]).toArray⟩++⟨[f].toArray⟩:ByteArray)=⟨(out++[92]++[f]).toArray⟩:=gD _ _;clear HS;go_wp2;go_roundw
         (case rel=>exact ⟨i+1,aj,aN,by rw [HF.out] <;> simp [gD],q0,HW.out⟩);case measure=>simp [intOf];omega
       · have be:((d.toNat:Int) != (c.toNat:Int))=true:=(by rw [bne_iff_ne];intro e;exact hcd (UInt8.toNat_inj.1 aj));have Dl:=hid (wD.out hcd);clear hcd;go_wp2;go_round
         (case rel=>exact ⟨k+1,aj,aN,Dl⟩);case measure=>simp [intOf];omega
     · obtain rfl:k=7:=aj;have hnf:=Ul HN.out;clear HN;by_cases hlo:c.toNat<32∨c.toNat=127
       · have HF:=hid (show Tm.dI (s.take (i+1))=out++[92,117,48,48,Tm.gT (c.toNat / 16),Tm.gT (c.toNat % 16)] by rw [HS.out,IU c hnf hlo]);have hand:bits BinOp.and IntKind.u8 (c.toNat:Int) 15=((c.toNat % 16:Nat):Int):=(by have:=u8_and_nat c.toNat 15 aj aj;rw [show (15:Int)=((15:Nat):Int) from rfl,this,show c.toNat &&& 15=c.toNat % 16 from Nat.and_two_pow_sub_one_eq_mod c.toNat 4]);have hsh:(c.toNat:Int) / 16=((c.toNat / 16:Nat):Int):=aj;have hq:c.toNat / 16<16:=aj;have hr:c.toNat % 16<16:=aj;obtain ⟨k1,hk1⟩:=aA (c.toNat / 16);obtain ⟨k2,hk2⟩:=aA (c.toNat % 16);rw [←hk1] at hsh hq HF;rw [←hk2] at hand hr HF;have hx1:=JZ k1 hq;have hx2:=JZ k2 hr;have hqz:(k1:Int)<16:=aj;have hrz:(k2:Int)<16:=aj;have Rz:(0:Int)≤(k1:Int):=aj;have RA:(0:Int)≤(k2:Int):=aj;have hwq:IntKind.u8.wrap ((k1:Int)+1)=(k1:Int)+1:=(by rw [IntKind.wrap_u8'];omega);have hwr:IntKind.u8.wrap ((k2:Int)+1)=(k2:Int)+1:=(by rw [IntKind.wrap_u8'];omega);have ha1:(⟨out.toArray⟩++⟨#[92,117,48,48]⟩:ByteArray)=⟨(out++[92,117,48,48]).toArray⟩:=gD out _;have ha2:(⟨(out++[92,117,48,48]).toArray⟩++⟨#[Tm.gT k1]⟩:ByteArray)=⟨(out++[92,117,48,48]++[Tm.gT k1]).toArray⟩:=gD _ _;have uq:(⟨(out++[92,117,48,48]++[Tm.gT k1]).toArray⟩++⟨#[Tm.gT k2]⟩:ByteArray)=⟨(out++[92,117,48,48]++[Tm.gT k1]++[Tm.gT k2]).toArray⟩:=gD _ _;clear hk1 hk2 HS hnf;rcases hlo with hlo | hlo
         · have b1:decide ((c.toNat:Int)<32)=true:=(by simp;omega);go_wp2;(go_quiet (fail));go_wp2;go_roundw
           (case rel=>exact ⟨i+1,aj,aN,by rw [HF.out] <;> simp [gD],q0+nq,by rw [HW.out,World.drewN_drewN]⟩);case measure=>simp [intOf];omega
         · have b1:((c.toNat:Int)==127)=true:=beq_iff_eq.2 aj;have h32:32≤c.toNat:=aj;clear hlo;go_wp2;(go_quiet (fail));go_wp2;go_roundw
           (case rel=>exact ⟨i+1,aj,aN,by rw [HF.out] <;> simp [gD],q0+nq,by rw [HW.out,World.drewN_drewN]⟩);case measure=>simp [intOf];omega
       · have HF:=hid (show Tm.dI (s.take (i+1))=out++[c] by rw [HS.out,IV c hnf aj]);have b1:((c.toNat:Int)==127)=false:=beq_eq_false_iff_ne.2 aj;have h32:32≤c.toNat:=aj;have ha1:(⟨out.toArray⟩++⟨[c].toArray⟩:ByteArray)=⟨(out++[c]).toArray⟩:=gD out _;clear HS hnf hlo;go_wp2;go_roundw
         (case rel=>exact ⟨i+1,aj,aN,by rw [HF.out],q0,HW.out⟩);case measure=>simp [intOf];omega
  {obtain rfl:i=s.length:=aj;have HF:=hid (show Tm.dI (s.take s.length)=Tm.dI s by rw [List.take_length]);go_wp2;go_ret;exact ⟨by rw [←HF.out];rfl,q0,rfl⟩}
theorem uw (k:Nat) (t x:List UInt8) (W:World) (hk:1≤k∧k≤5) (ht:t.length≤1000000000) (hx:x.length≤1000000000) :
  Calls prog 63 #[bM (k:Nat) t x] W fun e W'=>e=.returned (str (Tm.aX k t x))∧Below W.heap.size W W':=by have ES:=hid (fun w=>Um t w ht);have hle:=Tm.nu t;obtain ⟨z,hz⟩:=aA (Tm.dI t);have HZ:=hid hz;rw [←hz] at ES hle;have hzl:z.length≤6000000000:=aj;clear hz hle;rcases (show k=1∨k=2∨k=3∨k=4∨k=5 by omega) with rfl | rfl | rfl | rfl | rfl;{go_enter func63,ntmps63;go_wp2;go_ret;exact ⟨by simp [Tm.aX,gD],(Below.refl _ _).alloc ay _⟩};{go_enter func63,ntmps63;go_wp2;go_ret;exact ⟨by simp [Tm.aX,gD],(Below.refl _ _).alloc ay _⟩};{go_enter func63,ntmps63;(go_wp2_with (go_at_call 107;refine (ES.out _).mono ?_;rintro e w' ⟨rfl,q,rfl⟩));go_ret;exact ⟨by rw [show Tm.aX 3 t x=34::(Tm.dI t++[34]) from rfl,←HZ.out];simp [gD],cB ((Below.refl _ _).alloc ay _) q⟩};{go_enter func63,ntmps63;(go_wp2_with (go_at_call 107;refine (ES.out _).mono ?_;rintro e w' ⟨rfl,q,rfl⟩));go_ret;exact ⟨by rw [show Tm.aX 4 t x=34::(Tm.dI t++34::64::x) from rfl,←HZ.out];simp [gD],cB ((Below.refl _ _).alloc ay _) q⟩};{go_enter func63,ntmps63;(go_wp2_with (go_at_call 107;refine (ES.out _).mono ?_;rintro e w' ⟨rfl,q,rfl⟩));go_ret;exact ⟨by rw [show Tm.aX 5 t x=34::(Tm.dI t++34::94::94::60::(x++[62])) from rfl,←HZ.out];simp [gD],cB ((Below.refl _ _).alloc ay _) q⟩}
theorem J2 (a:List UInt8) (w:World):Calls prog 189 #[str a] w fun e w'=>e=.returned (.bool false)∧w'=w:=by have h:(a != a)=false:=aC;go_enter func189,ntmps189;go_wp2;go_ret;exact ⟨rfl,rfl⟩
theorem Un (a b:List UInt8) (w:World):Calls prog 145 #[str a,str b] w fun e w'=>e=.returned (.int .i64 (Tm.cmp a b))∧w'=w:=by
 have N1:=hid fun w=>J2 a w;have N2:=hid fun w=>J2 b w;go_enter func145,ntmps145;go_wp2_with fail
 refine (N1.out _).mono ?_;rintro e w' ⟨rfl,rfl⟩;go_wp2_with fail
 refine (N2.out _).mono ?_;rintro e w' ⟨rfl,rfl⟩;rcases (show (Tm.lt a b=true)∨(Tm.lt a b=false∧Tm.lt b a=true)∨(Tm.lt a b=false∧Tm.lt b a=false) by cases Tm.lt a b <;> cases Tm.lt b a <;> simp) with h | ⟨h,h'⟩ | ⟨h,h'⟩;{have HC:=hid (show Tm.cmp a b = -1 by unfold Tm.cmp;rw [h];rfl);go_wp2;go_ret;exact ⟨by rw [HC.out];rfl,rfl⟩};{have HC:=hid (show Tm.cmp a b=1 by unfold Tm.cmp;rw [h,h'];rfl);have he:(a==b)=false:=beq_eq_false_iff_ne.2 (fun e=>by rw [e,Tm.lt_irrefl] at h';cases h');go_wp2;go_ret;exact ⟨by rw [HC.out];rfl,rfl⟩};{have HC:=hid (show Tm.cmp a b=0 by unfold Tm.cmp;rw [h,h'];rfl);have he:(a==b)=true:=beq_iff_eq.2 (Tm.qz h h');go_wp2;go_ret;exact ⟨by rw [HC.out];rfl,rfl⟩}
theorem Uo (p q:Nat) (a1 a2 a3 b1 b2 b3:List UInt8) (w:World) (hp:ak w p [str a1,str a2,str a3] 9) (hq:ak w q [str b1,str b2,str b3] 9) :
  Calls prog 97 #[.slice (some ⟨p,0,none⟩) 3 3,.slice (some ⟨q,0,none⟩) 3 3] w fun e w'=>e=.returned (.int .i64 (Tm.jQ a1 a2 a3 b1 b2 b3))∧w'=w:=by
 have C:=hid fun a b w=>Un a b w;have p0:=hp.cell (i:=0) rfl;have p1:=hp.cell (i:=1) rfl;have p2:=hp.cell (i:=2) rfl;have q0:=hq.cell (i:=0) rfl;have q1:=hq.cell (i:=1) rfl;have q2:=hq.cell (i:=2) rfl;obtain ⟨R,hR⟩:=aA (Tm.jQ a1 a2 a3 b1 b2 b3);rw [←hR];have HR:=hid (show R=if Tm.cmp a1 b1=0 then (if Tm.cmp a2 b2=0 then Tm.cmp a3 b3 else Tm.cmp a2 b2) else Tm.cmp a1 b1 from hR);have K1:=hid fun w=>C.out a1 b1 w;have K2:=hid fun w=>C.out a2 b2 w;have K3:=hid fun w=>C.out a3 b3 w;obtain ⟨c1,h1⟩:=aA (Tm.cmp a1 b1);obtain ⟨c2,h2⟩:=aA (Tm.cmp a2 b2);obtain ⟨c3,h3⟩:=aA (Tm.cmp a3 b3);rw [←h1] at HR K1;rw [←h2] at HR K2;rw [←h3] at HR K3;clear hp hq hR h1 h2 h3 C;go_enter func97,ntmps97;go_wp2;go_loopg [5,6,7,8,11] 3 (fun gk s5 s6 s7 s8 s11 wr=>wr=w∧∃ z:Int,s11=.int .i64 z∧((z=0∧3≤gk)∨(z=1∧2≤gk∧Hid (c1=0))∨(z=2∧1≤gk∧Hid (c1=0∧c2=0))∨(z=3∧Hid (c1=0∧c2=0∧c3=0))))
 case atStart=>exact ⟨rfl,0,rfl,.inl ⟨rfl,Nat.le_refl _⟩⟩
 case round=>
  obtain ⟨rfl,z,rfl,hz⟩:=hrel;rcases hz with ⟨rfl,zY⟩ | ⟨rfl,zY,H⟩ | ⟨rfl,zY,H⟩ | ⟨rfl,H⟩
  · by_cases h:c1=0
    · have hb:(c1==0)=true:=beq_iff_eq.2 h;(go_wp2_with fail);refine (K1.out _).mono ?_;rintro e w' ⟨rfl,rfl⟩;go_wp2;go_roundg 2
      (case measure=>omega);case rel=>exact ⟨rfl,1,rfl,.inr (.inl ⟨rfl,Nat.le_refl _,hid h⟩)⟩
    {have hb:(c1==0)=false:=beq_eq_false_iff_ne.2 h;have HF:=hid (show R=c1 by rw [HR.out,if_neg h]);(go_wp2_with fail);refine (K1.out _).mono ?_;rintro e w' ⟨rfl,rfl⟩;go_wp2;go_ret;exact ⟨by rw [HF.out];rfl,rfl⟩}
  · by_cases h:c2=0
    · have hb:(c2==0)=true:=beq_iff_eq.2 h;(go_wp2_with fail);refine (K2.out _).mono ?_;rintro e w' ⟨rfl,rfl⟩;go_wp2;go_roundg 1
      (case measure=>omega);case rel=>exact ⟨rfl,2,rfl,.inr (.inr (.inl ⟨rfl,Nat.le_refl _,hid ⟨H.out,h⟩⟩))⟩
    {have hb:(c2==0)=false:=beq_eq_false_iff_ne.2 h;have HF:=hid (show R=c2 by rw [HR.out,if_pos H.out,if_neg h]);(go_wp2_with fail);refine (K2.out _).mono ?_;rintro e w' ⟨rfl,rfl⟩;go_wp2;go_ret;exact ⟨by rw [HF.out];rfl,rfl⟩}
  · by_cases h:c3=0
    · have hb:(c3==0)=true:=beq_iff_eq.2 h;(go_wp2_with fail);refine (K3.out _).mono ?_;rintro e w' ⟨rfl,rfl⟩;go_wp2;go_roundg 0
      (case measure=>omega);case rel=>exact ⟨rfl,3,rfl,.inr (.inr (.inr ⟨rfl,hid ⟨H.out.1,H.out.2,h⟩⟩))⟩
    {have hb:(c3==0)=false:=beq_eq_false_iff_ne.2 h;have HF:=hid (show R=c3 by rw [HR.out,if_pos H.out.1,if_pos H.out.2]);(go_wp2_with fail);refine (K3.out _).mono ?_;rintro e w' ⟨rfl,rfl⟩;go_wp2;go_ret;exact ⟨by rw [HF.out];rfl,rfl⟩}
  {have HF:=hid (show R=0 by rw [HR.out,if_pos H.out.1,if_pos H.out.2.1];exact H.out.2.2);go_wp2;go_ret;exact ⟨by rw [HF.out];rfl,rfl⟩}
theorem Uq (w:World) (k1:Int) (t1 x1:List UInt8) (k2:Int) (t2 x2:List UInt8) (k3:Int) (t3 x3:List UInt8) (l1:Int) (u1 y1:List UInt8) (l2:Int) (u2 y2:List UInt8) (l3:Int) (u3 y3:List UInt8):∃ W,W=aU (aU w k1 t1 x1 k2 t2 x2 k3 t3 x3) l1 u1 y1 l2 u2 y2 l3 u3 y3∧ak W w.heap.size [.int .i64 k1,str t1,str x1,.int .i64 k2,str t2,str x2,.int .i64 k3,str t3,str x3] 67∧ak W (w.heap.size+1) [.int .i64 l1,str u1,str y1,.int .i64 l2,str u2,str y2,.int .i64 l3,str u3,str y3] 67∧Below w.heap.size w W:=
 ⟨_,rfl,(fT w _ _ _ _ _ _ _ _ _).alloc _,ak.new' (by unfold aU;simp) rfl,((Below.refl _ _).alloc ay _).alloc aC _⟩
theorem oo {w:World} {P:Program} {ops:Array Oper} {o:Oper} {a:Act} {K:Act→World→Prop} {Q:Exit→Act→World→Prop} {E:Prop} (hgd:o.guard=none) (s x:Operand) (t:TypeId)
  (ho:o.op=.call { callee:=.builtin .append,args:=#[s,x],argTypes:=#[t,t] })
  (base:Nat) (e:TypeId) (i:TypeInfo) (z:Value) (size bytes:Nat) (ht:P.underlying t=some (.slice e)) (hi:P.info? e=some i) (hz:i.zero=some z)
  (hsize:i.size=size) (hby:i.bytes=bytes) (hzs:z.cells.size=size) (hsz:0<size)
  (v:Value) (n:Nat) (xs:List Value) (hs:a.eval s=v) (hown:w.ownsRow base e size v n xs)
  (ad:Addr) (m c:Nat) (us:List Value) (hm:us.length=m*size) (hx:a.eval x=.slice (some ad) m c) (hc:∀ j u,us[j]?=some u→w.cell? (ad.add j)=some u) (h1:∀ u∈us,u.oneCell'=true)
  (h63:n+m≤maxLen) (hbytes:(n+m)*bytes≤140737488355328) (hbase:base≤w.heap.size)
  (h:∀ v' w',w'.ownsRow base e size v' (n+m) (xs++us)→w.grownBy w' v.ownBlock→Moved w v v'→K (a.put o.dst v') w') :
  if Region.wanted o (yielded ops a.tmps)=true then Oper.wp P o a w K Q else E:=by
 have hwd:Region.wanted o (yielded ops a.tmps)=true:=by simp [Region.wanted,hgd]
 rw [if_pos hwd];obtain ⟨v',w',hr,h2,h3,h4⟩:=vS (P:=P) (w:=w) base t o.type e i z size bytes ht hi hz hsize hby hzs hsz v n xs hown ad m c us hm hc h1 h63 hbytes hbase;have hk:=h v' w' h2 h3 h4;unfold Oper.wp execOp;simp only [ho,resolve,invoke,builtin,Sem.run_bind,Sem.run_pure,Result.andThen_ok,List.map_toArray,List.map_cons,List.map_nil,hs,hx,hr];exact hk
end Go.Proofs.YtjaebndajhppgaaGreatDoor
