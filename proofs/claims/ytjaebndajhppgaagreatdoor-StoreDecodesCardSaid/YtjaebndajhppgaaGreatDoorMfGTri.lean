/-GTri-/
import Derived.Test.YtjaebndajhppgaaGreatDoorMfHd1
import Derived.Test.YtjaebndajhppgaaGreatDoorMfPrIs
import Derived.Test.YtjaebndajhppgaaGreatDoorMfGTm3
import Derived.Test.YtjaebndajhppgaaGreatDoorMfGTm2
import Derived.Test.YtjaebndajhppgaaGreatDoorMfGTm1
import Derived.Lib.SmallJoins
import Derived.Maps.OwnSet
import Derived.Maps.OwnOps
import Derived.DeepKeys4
import Derived.Test.YtjaebndajhppgaaGreatDoorMfGLn1
import Derived.Maps.Views
import Derived.Test.YtjaebndajhppgaaGreatDoorMfGB
import Derived.Deep.SlicePairs
import Derived.Lib.IndexMore
import Derived.Deep.RegionWith
import Derived.Deep.RegionLaw
set_option linter.unusedVariables false
set_option linter.unusedSimpArgs false
set_option maxRecDepth 100000
set_option maxHeartbeats 4000000
namespace Go.Proofs.YtjaebndajhppgaaGreatDoor
open Go.Proofs.Tryz
open Go.ChangeShapes Go.WideShapes Go.ChangeAt Go.RowKit
theorem YV {k:Int} {t x:List UInt8} (h:Tm.is k t x=true):1≤k:=by rcases Int.lt_or_le k 1 with hk | hk;{have:Tm.is k t x=false:=(by unfold Tm.is;simp only [show (k=1)=False from by simp;omega,show (k=2)=False from by simp;omega,show (k=3)=False from by simp;omega,show (k=4)=False from by simp;omega,show (k=5)=False from by simp;omega,if_false]);rw [this] at h;cases h};{exact hk}
theorem YW (k1:Int) (t1 x1:List UInt8) (k2:Int) (t2 x2:List UInt8) (k3:Int) (t3 x3:List UInt8) (w:World) (ht1:t1.length≤1000000000) (hx1:x1.length≤1000000000) (ht2:t2.length≤1000000000) (hx2:x2.length≤1000000000) (ht3:t3.length≤1000000000) (hx3:x3.length≤1000000000) (hV:dF w) (h1:Tm.is k1 t1 x1=false) :
  Calls prog 62 #[eD k1 t1 x1 k2 t2 x2 k3 t3 x3] w fun e w'=>e=.returned (.bool (eu k1 t1 x1 k2 t2 x2 k3 t3 x3))∧Below w.heap.size w w':=by
 have HB:=aj (show Below w.heap.size w (aW w k1 t1 x1 k2 t2 x2 k3 t3 x3) from (Below.refl _ _).alloc aF _);have HV:=aj (hV.keep HB.out);have HU:=aj (f_ w k1 t1 x1 k2 t2 x2 k3 t3 x3);have HF:=aj (show eu k1 t1 x1 k2 t2 x2 k3 t3 x3=false by unfold eu;rw [h1];simp);have I1:=aj (fun W h=>jD k1 t1 x1 W ak ak h);rw [h1] at I1;clear hV h1;go_enter func62,ntmps62;go_wp2_with (show wpList _ _ _ _ _ (aW w k1 t1 x1 k2 t2 x2 k3 t3 x3);obtain ⟨w1,hw1⟩:=aB (aW w k1 t1 x1 k2 t2 x2 k3 t3 x3);rw [←hw1] at HB HV HU ⊢;clear hw1;have c0:=HU.out.cell (i:=0) rfl;have c1:=HU.out.cell (i:=1) rfl;have c2:=HU.out.cell (i:=2) rfl)
 refine (I1.out _ HV.out).mono ?_;rintro e w2 ⟨rfl,hb2⟩;have HB2:=aj (aJ HB.out hb2);have dU:=aj (HV.out.keep hb2);have bC:=aj (HU.out.keep hb2);clear hb2;go_wp2;go_ret;exact ⟨by rw [HF.out];rfl,HB2.out⟩
theorem YX (k1:Int) (t1 x1:List UInt8) (k2:Int) (t2 x2:List UInt8) (k3:Int) (t3 x3:List UInt8) (w:World) (ht1:t1.length≤1000000000) (hx1:x1.length≤1000000000) (ht2:t2.length≤1000000000) (hx2:x2.length≤1000000000) (ht3:t3.length≤1000000000) (hx3:x3.length≤1000000000) (hV:dF w) (h1:Tm.is k1 t1 x1=true) (h2:Tm.is k2 t2 x2=false) :
  Calls prog 62 #[eD k1 t1 x1 k2 t2 x2 k3 t3 x3] w fun e w'=>e=.returned (.bool (eu k1 t1 x1 k2 t2 x2 k3 t3 x3))∧Below w.heap.size w w':=by
 have HB:=aj (show Below w.heap.size w (aW w k1 t1 x1 k2 t2 x2 k3 t3 x3) from (Below.refl _ _).alloc aF _);have HV:=aj (hV.keep HB.out);have HU:=aj (f_ w k1 t1 x1 k2 t2 x2 k3 t3 x3);have HF:=aj (show eu k1 t1 x1 k2 t2 x2 k3 t3 x3=false by unfold eu;rw [h2];simp);have I1:=aj (fun W h=>jD k1 t1 x1 W ak ak h);rw [h1] at I1;have I2:=aj (fun W h=>jD k2 t2 x2 W ak ak h);rw [h2] at I2;clear hV h1 h2;go_enter func62,ntmps62;go_wp2_with (show wpList _ _ _ _ _ (aW w k1 t1 x1 k2 t2 x2 k3 t3 x3);obtain ⟨w1,hw1⟩:=aB (aW w k1 t1 x1 k2 t2 x2 k3 t3 x3);rw [←hw1] at HB HV HU ⊢;clear hw1;have c0:=HU.out.cell (i:=0) rfl;have c1:=HU.out.cell (i:=1) rfl;have c2:=HU.out.cell (i:=2) rfl)
 refine (I1.out _ HV.out).mono ?_;rintro e w2 ⟨rfl,hb2⟩;have HB2:=aj (aJ HB.out hb2);have dU:=aj (HV.out.keep hb2);have bC:=aj (HU.out.keep hb2);clear hb2;have c3:=bC.out.cell (i:=3) rfl;have c4:=bC.out.cell (i:=4) rfl;have c5:=bC.out.cell (i:=5) rfl;go_wp2_with fail
 refine (I2.out _ dU.out).mono ?_;rintro e w3 ⟨rfl,hb3⟩;have HB3:=aj (aJ HB2.out hb3);have kT:=aj (dU.out.keep hb3);have dY:=aj (bC.out.keep hb3);clear hb3;go_wp2;go_ret;exact ⟨by rw [HF.out];rfl,HB3.out⟩
theorem YZ (k1:Int) (t1 x1:List UInt8) (k2:Int) (t2 x2:List UInt8) (k3:Int) (t3 x3:List UInt8) (w:World) (ht1:t1.length≤1000000000) (hx1:x1.length≤1000000000) (ht2:t2.length≤1000000000) (hx2:x2.length≤1000000000) (ht3:t3.length≤1000000000) (hx3:x3.length≤1000000000) (hV:dF w) (h1:Tm.is k1 t1 x1=true) (h2:Tm.is k2 t2 x2=true) (h3:Tm.is k3 t3 x3=false) :
  Calls prog 62 #[eD k1 t1 x1 k2 t2 x2 k3 t3 x3] w fun e w'=>e=.returned (.bool (eu k1 t1 x1 k2 t2 x2 k3 t3 x3))∧Below w.heap.size w w':=by
 have HB:=aj (show Below w.heap.size w (aW w k1 t1 x1 k2 t2 x2 k3 t3 x3) from (Below.refl _ _).alloc aF _);have HV:=aj (hV.keep HB.out);have HU:=aj (f_ w k1 t1 x1 k2 t2 x2 k3 t3 x3);have HF:=aj (show eu k1 t1 x1 k2 t2 x2 k3 t3 x3=false by unfold eu;rw [h3];simp);have I1:=aj (fun W h=>jD k1 t1 x1 W ak ak h);rw [h1] at I1;have I2:=aj (fun W h=>jD k2 t2 x2 W ak ak h);rw [h2] at I2;have I3:=aj (fun W h=>jD k3 t3 x3 W ak ak h);rw [h3] at I3;clear hV h1 h2 h3;go_enter func62,ntmps62;go_wp2_with (show wpList _ _ _ _ _ (aW w k1 t1 x1 k2 t2 x2 k3 t3 x3);obtain ⟨w1,hw1⟩:=aB (aW w k1 t1 x1 k2 t2 x2 k3 t3 x3);rw [←hw1] at HB HV HU ⊢;clear hw1;have c0:=HU.out.cell (i:=0) rfl;have c1:=HU.out.cell (i:=1) rfl;have c2:=HU.out.cell (i:=2) rfl)
 refine (I1.out _ HV.out).mono ?_;rintro e w2 ⟨rfl,hb2⟩;have HB2:=aj (aJ HB.out hb2);have dU:=aj (HV.out.keep hb2);have bC:=aj (HU.out.keep hb2);clear hb2;have c3:=bC.out.cell (i:=3) rfl;have c4:=bC.out.cell (i:=4) rfl;have c5:=bC.out.cell (i:=5) rfl;go_wp2_with fail
 refine (I2.out _ dU.out).mono ?_;rintro e w3 ⟨rfl,hb3⟩;have HB3:=aj (aJ HB2.out hb3);have kT:=aj (dU.out.keep hb3);have dY:=aj (bC.out.keep hb3);clear hb3;have c6:=dY.out.cell (i:=6) rfl;have c7:=dY.out.cell (i:=7) rfl;have c8:=dY.out.cell (i:=8) rfl;go_wp2_with fail
 refine (I3.out _ kT.out).mono ?_;rintro e w4 ⟨rfl,hb4⟩;have aT:=aj (aJ HB3.out hb4);have vY:=aj (kT.out.keep hb4);have bH:=aj (dY.out.keep hb4);clear hb4;go_wp2;go_ret;exact ⟨by rw [HF.out];rfl,aT.out⟩
theorem Y0 (k1:Int) (t1 x1:List UInt8) (k2:Int) (t2 x2:List UInt8) (k3:Int) (t3 x3:List UInt8) (w:World) (ht1:t1.length≤1000000000) (hx1:x1.length≤1000000000) (ht2:t2.length≤1000000000) (hx2:x2.length≤1000000000) (ht3:t3.length≤1000000000) (hx3:x3.length≤1000000000) (hV:dF w) (h1:Tm.is k1 t1 x1=true) (h2:Tm.is k2 t2 x2=true) (h3:Tm.is k3 t3 x3=true) (hk:2<k1) :
  Calls prog 62 #[eD k1 t1 x1 k2 t2 x2 k3 t3 x3] w fun e w'=>e=.returned (.bool (eu k1 t1 x1 k2 t2 x2 k3 t3 x3))∧Below w.heap.size w w':=by
 have HB:=aj (show Below w.heap.size w (aW w k1 t1 x1 k2 t2 x2 k3 t3 x3) from (Below.refl _ _).alloc aF _);have HV:=aj (hV.keep HB.out);have HU:=aj (f_ w k1 t1 x1 k2 t2 x2 k3 t3 x3);have HF:=aj (show eu k1 t1 x1 k2 t2 x2 k3 t3 x3=false by unfold eu;rw [decide_eq_false ak];rfl);have I1:=aj (fun W h=>jD k1 t1 x1 W ak ak h);rw [h1] at I1;have I2:=aj (fun W h=>jD k2 t2 x2 W ak ak h);rw [h2] at I2;have I3:=aj (fun W h=>jD k3 t3 x3 W ak ak h);rw [h3] at I3;clear hV h1 h2 h3;go_enter func62,ntmps62;go_wp2_with (show wpList _ _ _ _ _ (aW w k1 t1 x1 k2 t2 x2 k3 t3 x3);obtain ⟨w1,hw1⟩:=aB (aW w k1 t1 x1 k2 t2 x2 k3 t3 x3);rw [←hw1] at HB HV HU ⊢;clear hw1;have c0:=HU.out.cell (i:=0) rfl;have c1:=HU.out.cell (i:=1) rfl;have c2:=HU.out.cell (i:=2) rfl)
 refine (I1.out _ HV.out).mono ?_;rintro e w2 ⟨rfl,hb2⟩;have HB2:=aj (aJ HB.out hb2);have dU:=aj (HV.out.keep hb2);have bC:=aj (HU.out.keep hb2);clear hb2;have c3:=bC.out.cell (i:=3) rfl;have c4:=bC.out.cell (i:=4) rfl;have c5:=bC.out.cell (i:=5) rfl;go_wp2_with fail
 refine (I2.out _ dU.out).mono ?_;rintro e w3 ⟨rfl,hb3⟩;have HB3:=aj (aJ HB2.out hb3);have kT:=aj (dU.out.keep hb3);have dY:=aj (bC.out.keep hb3);clear hb3;have c6:=dY.out.cell (i:=6) rfl;have c7:=dY.out.cell (i:=7) rfl;have c8:=dY.out.cell (i:=8) rfl;go_wp2_with fail
 refine (I3.out _ kT.out).mono ?_;rintro e w4 ⟨rfl,hb4⟩;have aT:=aj (aJ HB3.out hb4);have vY:=aj (kT.out.keep hb4);have bH:=aj (dY.out.keep hb4);clear hb4;have c0:=bH.out.cell (i:=0) rfl;have c3:=bH.out.cell (i:=3) rfl;go_wp2;go_ret;exact ⟨by rw [HF.out];rfl,aT.out⟩
theorem Y9 (k1:Int) (t1 x1:List UInt8) (k2:Int) (t2 x2:List UInt8) (k3:Int) (t3 x3:List UInt8) (w:World) (ht1:t1.length≤1000000000) (hx1:x1.length≤1000000000) (ht2:t2.length≤1000000000) (hx2:x2.length≤1000000000) (ht3:t3.length≤1000000000) (hx3:x3.length≤1000000000) (hV:dF w) (h1:Tm.is k1 t1 x1=true) (h2:Tm.is k2 t2 x2=true) (h3:Tm.is k3 t3 x3=true) (hk:k1≤2) (hk2:k2≠1) :
  Calls prog 62 #[eD k1 t1 x1 k2 t2 x2 k3 t3 x3] w fun e w'=>e=.returned (.bool (eu k1 t1 x1 k2 t2 x2 k3 t3 x3))∧Below w.heap.size w w':=by
 have HB:=aj (show Below w.heap.size w (aW w k1 t1 x1 k2 t2 x2 k3 t3 x3) from (Below.refl _ _).alloc aF _);have HV:=aj (hV.keep HB.out);have HU:=aj (f_ w k1 t1 x1 k2 t2 x2 k3 t3 x3);have HF:=aj (show eu k1 t1 x1 k2 t2 x2 k3 t3 x3=false by unfold eu;rw [decide_eq_false hk2,Bool.and_false];rfl);have I1:=aj (fun W h=>jD k1 t1 x1 W ak ak h);rw [h1] at I1;have I2:=aj (fun W h=>jD k2 t2 x2 W ak ak h);rw [h2] at I2;have I3:=aj (fun W h=>jD k3 t3 x3 W ak ak h);rw [h3] at I3;have e1:(k2==1)=false:=beq_eq_false_iff_ne.2 hk2;clear hV h1 h2 h3;go_enter func62,ntmps62;go_wp2_with (show wpList _ _ _ _ _ (aW w k1 t1 x1 k2 t2 x2 k3 t3 x3);obtain ⟨w1,hw1⟩:=aB (aW w k1 t1 x1 k2 t2 x2 k3 t3 x3);rw [←hw1] at HB HV HU ⊢;clear hw1;have c0:=HU.out.cell (i:=0) rfl;have c1:=HU.out.cell (i:=1) rfl;have c2:=HU.out.cell (i:=2) rfl)
 refine (I1.out _ HV.out).mono ?_;rintro e w2 ⟨rfl,hb2⟩;have HB2:=aj (aJ HB.out hb2);have dU:=aj (HV.out.keep hb2);have bC:=aj (HU.out.keep hb2);clear hb2;have c3:=bC.out.cell (i:=3) rfl;have c4:=bC.out.cell (i:=4) rfl;have c5:=bC.out.cell (i:=5) rfl;go_wp2_with fail
 refine (I2.out _ dU.out).mono ?_;rintro e w3 ⟨rfl,hb3⟩;have HB3:=aj (aJ HB2.out hb3);have kT:=aj (dU.out.keep hb3);have dY:=aj (bC.out.keep hb3);clear hb3;have c6:=dY.out.cell (i:=6) rfl;have c7:=dY.out.cell (i:=7) rfl;have c8:=dY.out.cell (i:=8) rfl;go_wp2_with fail
 refine (I3.out _ kT.out).mono ?_;rintro e w4 ⟨rfl,hb4⟩;have aT:=aj (aJ HB3.out hb4);have vY:=aj (kT.out.keep hb4);have bH:=aj (dY.out.keep hb4);clear hb4;have c0:=bH.out.cell (i:=0) rfl;have c3:=bH.out.cell (i:=3) rfl;go_wp2;go_ret;exact ⟨by rw [HF.out];rfl,aT.out⟩
theorem Y_ (k1:Int) (t1 x1:List UInt8) (k2:Int) (t2 x2:List UInt8) (k3:Int) (t3 x3:List UInt8) (w:World) (ht1:t1.length≤1000000000) (hx1:x1.length≤1000000000) (ht2:t2.length≤1000000000) (hx2:x2.length≤1000000000) (ht3:t3.length≤1000000000) (hx3:x3.length≤1000000000) (hV:dF w) (h1:Tm.is k1 t1 x1=true) (h2:Tm.is k2 t2 x2=true) (h3:Tm.is k3 t3 x3=true) (hk:k1≤2) (hk2:k2=1) :
  Calls prog 62 #[eD k1 t1 x1 k2 t2 x2 k3 t3 x3] w fun e w'=>e=.returned (.bool (eu k1 t1 x1 k2 t2 x2 k3 t3 x3))∧Below w.heap.size w w':=by
 have HB:=aj (show Below w.heap.size w (aW w k1 t1 x1 k2 t2 x2 k3 t3 x3) from (Below.refl _ _).alloc aF _);have HV:=aj (hV.keep HB.out);have HU:=aj (f_ w k1 t1 x1 k2 t2 x2 k3 t3 x3);have HF:=aj (show eu k1 t1 x1 k2 t2 x2 k3 t3 x3=true by have:=YV h1;unfold eu;rw [h1,h2,h3,decide_eq_true (show k1=1∨k1=2 by omega),decide_eq_true hk2];rfl);have I1:=aj (fun W h=>jD k1 t1 x1 W ak ak h);rw [h1] at I1;have I2:=aj (fun W h=>jD k2 t2 x2 W ak ak h);rw [h2] at I2;have I3:=aj (fun W h=>jD k3 t3 x3 W ak ak h);rw [h3] at I3;subst hk2;clear hV h1 h2 h3;go_enter func62,ntmps62;go_wp2_with (show wpList _ _ _ _ _ (aW w k1 t1 x1 1 t2 x2 k3 t3 x3);obtain ⟨w1,hw1⟩:=aB (aW w k1 t1 x1 1 t2 x2 k3 t3 x3);rw [←hw1] at HB HV HU ⊢;clear hw1;have c0:=HU.out.cell (i:=0) rfl;have c1:=HU.out.cell (i:=1) rfl;have c2:=HU.out.cell (i:=2) rfl)
 refine (I1.out _ HV.out).mono ?_;rintro e w2 ⟨rfl,hb2⟩;have HB2:=aj (aJ HB.out hb2);have dU:=aj (HV.out.keep hb2);have bC:=aj (HU.out.keep hb2);clear hb2;have c3:=bC.out.cell (i:=3) rfl;have c4:=bC.out.cell (i:=4) rfl;have c5:=bC.out.cell (i:=5) rfl;go_wp2_with fail
 refine (I2.out _ dU.out).mono ?_;rintro e w3 ⟨rfl,hb3⟩;have HB3:=aj (aJ HB2.out hb3);have kT:=aj (dU.out.keep hb3);have dY:=aj (bC.out.keep hb3);clear hb3;have c6:=dY.out.cell (i:=6) rfl;have c7:=dY.out.cell (i:=7) rfl;have c8:=dY.out.cell (i:=8) rfl;go_wp2_with fail
 refine (I3.out _ kT.out).mono ?_;rintro e w4 ⟨rfl,hb4⟩;have aT:=aj (aJ HB3.out hb4);have vY:=aj (kT.out.keep hb4);have bH:=aj (dY.out.keep hb4);clear hb4;have c0:=bH.out.cell (i:=0) rfl;have c3:=bH.out.cell (i:=3) rfl;go_wp2;go_ret;exact ⟨by rw [HF.out];rfl,aT.out⟩
theorem Za (k1:Int) (t1 x1:List UInt8) (k2:Int) (t2 x2:List UInt8) (k3:Int) (t3 x3:List UInt8) (w:World) (ht1:t1.length≤1000000000) (hx1:x1.length≤1000000000) (ht2:t2.length≤1000000000) (hx2:x2.length≤1000000000) (ht3:t3.length≤1000000000) (hx3:x3.length≤1000000000) (hV:dF w) :
  Calls prog 62 #[eD k1 t1 x1 k2 t2 x2 k3 t3 x3] w fun e w'=>e=.returned (.bool (eu k1 t1 x1 k2 t2 x2 k3 t3 x3))∧Below w.heap.size w w':=by cases h1:Tm.is k1 t1 x1;{exact YW k1 t1 x1 k2 t2 x2 k3 t3 x3 w ht1 hx1 ht2 hx2 ht3 hx3 hV h1};{cases h2:Tm.is k2 t2 x2;{exact YX k1 t1 x1 k2 t2 x2 k3 t3 x3 w ht1 hx1 ht2 hx2 ht3 hx3 hV h1 h2};{cases h3:Tm.is k3 t3 x3;{exact YZ k1 t1 x1 k2 t2 x2 k3 t3 x3 w ht1 hx1 ht2 hx2 ht3 hx3 hV h1 h2 h3};{by_cases hk:k1≤2;{by_cases hk2:k2=1;{exact Y_ k1 t1 x1 k2 t2 x2 k3 t3 x3 w ht1 hx1 ht2 hx2 ht3 hx3 hV h1 h2 h3 hk hk2};{exact Y9 k1 t1 x1 k2 t2 x2 k3 t3 x3 w ht1 hx1 ht2 hx2 ht3 hx3 hV h1 h2 h3 hk hk2}};{exact Y0 k1 t1 x1 k2 t2 x2 k3 t3 x3 w ht1 hx1 ht2 hx2 ht3 hx3 hV h1 h2 h3 ak}}}}
def Zb (w:World) (a1 a2 a3:List UInt8) (e:Ending) (w':World):Prop:=
 ∃ b,e=.returned (.slice (some ⟨b,0,none⟩) 3 3)∧w.heap.size≤b∧aC w' b [aA a1,aA a2,aA a3] 9∧Below w.heap.size w w'
theorem NU (k1:Int) (t1 x1:List UInt8) (k2:Int) (t2 x2:List UInt8) (k3:Int) (t3 x3:List UInt8) (w:World) (ht1:t1.length≤1000000000) (hx1:x1.length≤1000000000) (ht2:t2.length≤1000000000) (hx2:x2.length≤1000000000) (ht3:t3.length≤1000000000) (hx3:x3.length≤1000000000) :
  Calls prog 94 #[eD k1 t1 x1 k2 t2 x2 k3 t3 x3] w (Zb w (Tm.show k1 t1 x1) (Tm.show k2 t2 x2) (Tm.show k3 t3 x3)):=by
 have HB:=aj (show Below w.heap.size w (aW w k1 t1 x1 k2 t2 x2 k3 t3 x3) from (Below.refl _ _).alloc aF _);have HU:=aj (f_ w k1 t1 x1 k2 t2 x2 k3 t3 x3);have S1:=aj (fun W=>yB k1 t1 x1 W ht1 hx1);have S2:=aj (fun W=>yB k2 t2 x2 W ht2 hx2);have S3:=aj (fun W=>yB k3 t3 x3 W ht3 hx3);obtain ⟨a1,h1⟩:=aB (Tm.show k1 t1 x1);obtain ⟨a2,h2⟩:=aB (Tm.show k2 t2 x2);obtain ⟨a3,h3⟩:=aB (Tm.show k3 t3 x3);rw [←h1,←h2,←h3];rw [←h1] at S1;rw [←h2] at S2;rw [←h3] at S3;clear h1 h2 h3;go_enter func94,ntmps94;go_wp2;obtain ⟨w1,hw1⟩:=aB (aW w k1 t1 x1 k2 t2 x2 k3 t3 x3);show Code.wp _ _ _ _ (aW w k1 t1 x1 k2 t2 x2 k3 t3 x3);rw [←hw1] at HB HU ⊢;clear hw1;have yM:=fun p:Later w1.heap.size w1=>p.keep (HU.out.cell (i:=0) rfl);have yN:=fun p:Later w1.heap.size w1=>p.keep (HU.out.cell (i:=1) rfl);have yO:=fun p:Later w1.heap.size w1=>p.keep (HU.out.cell (i:=2) rfl);have Zc:=fun p:Later w1.heap.size w1=>p.keep (HU.out.cell (i:=3) rfl);have Zd:=fun p:Later w1.heap.size w1=>p.keep (HU.out.cell (i:=4) rfl);have Ze:=fun p:Later w1.heap.size w1=>p.keep (HU.out.cell (i:=5) rfl);have Zf:=fun p:Later w1.heap.size w1=>p.keep (HU.out.cell (i:=6) rfl);have Zg:=fun p:Later w1.heap.size w1=>p.keep (HU.out.cell (i:=7) rfl);have Zh:=fun p:Later w1.heap.size w1=>p.keep (HU.out.cell (i:=8) rfl);refine Mg 9 w1.heap.size aG aG ?_;simp only [List.take_succ_cons,List.take_zero,List.drop_succ_cons,List.drop_zero];repeat (go_big_quiet_step (first | (go_at_call 57;with_reducible exact Later.call aF (S1.out _)) | (go_at_call 57;with_reducible exact Later.call aF (S2.out _)) | (go_at_call 57;with_reducible exact Later.call aF (S3.out _))))
 refine wpQuiet_nil ?_;rintro wq ⟨q,hq⟩;have hlow:Below w1.heap.size w1 wq:=by rw [hq];exact q.low
 have gY:=aj (aJ HB.out hlow);clear yM yN yO Zc Zd Ze Zf Zg Zh hq q hlow;go_wp2;go_ret;exact ⟨wq.heap.size,rfl,gY.out.size,aC.new' rfl rfl,gY.out.alloc gY.out.size _⟩
structure dZ where
 k1:Int
 t1:List UInt8
 x1:List UInt8
 k2:Int
 t2:List UInt8
 x2:List UInt8
 k3:Int
 t3:List UInt8
 x3:List UInt8
def dZ.cells (a:dZ):List Value:=[.int .i64 a.k1,aA a.t1,aA a.x1,.int .i64 a.k2,aA a.t2,aA a.x2,.int .i64 a.k3,aA a.t3,aA a.x3]
abbrev dZ.v (a:dZ):Value:=eD a.k1 a.t1 a.x1 a.k2 a.t2 a.x2 a.k3 a.t3 a.x3
def dZ.is (a:dZ):Bool:=eu a.k1 a.t1 a.x1 a.k2 a.t2 a.x2 a.k3 a.t3 a.x3
def dZ.low (a:dZ) (n:Nat):Prop:=a.t1.length≤n∧a.x1.length≤n∧a.t2.length≤n∧a.x2.length≤n∧a.t3.length≤n∧a.x3.length≤n
def rT (w:World) (p o:Nat) (a:dZ):Prop:=∀ i,i<9→w.cell? ⟨p,o+i,none⟩=(a.cells)[i]?
theorem rT.at {w:World} {p o:Nat} {a:dZ} (h:rT w p o a) (i:Nat) (hi:i<9) {v:Value} (hv:(a.cells)[i]?=some v):w.cell? ⟨p,o+i,none⟩=some v:=(h i hi).trans hv
theorem rT.keep {w w':World} {p o:Nat} {a:dZ} (h:rT w p o a) (hb:Below w.heap.size w w'):rT w' p o a:=by intro i hi;have h1:=h i hi;have h2:(a.cells)[i]?=some ((a.cells)[i]'(hi)):=List.getElem?_eq_getElem hi;rw [h2] at h1 ⊢;exact aD hb h1
end Go.Proofs.YtjaebndajhppgaaGreatDoor
namespace Go.Proofs.YtjaebndajhppgaaGreatDoor.Tm
open Go
theorem Zi (n n' b0 b1 b2 b3 c1 c2 c3:Nat) (hv:¬ ((Lib.decodeN n b0 b1 b2 b3).1=65533∧(Lib.decodeN n b0 b1 b2 b3).2=1)) (hn:(Lib.decodeN n b0 b1 b2 b3).2≤n') (h1:1<(Lib.decodeN n b0 b1 b2 b3).2→c1=b1) (h2:2<(Lib.decodeN n b0 b1 b2 b3).2→c2=b2) (h3:3<(Lib.decodeN n b0 b1 b2 b3).2→c3=b3) :
  Lib.decodeN n' b0 c1 c2 c3=Lib.decodeN n b0 b1 b2 b3:=by unfold Lib.decodeN at *;by_cases a:b0<128;{rw [if_pos a,if_pos a]};rw [if_neg a] at hv hn h1 h2 h3 ⊢;rw [if_neg a];by_cases a1:b0 / 32=6∧(1<n∧b1 / 64=2);{rw [if_pos a1] at hv hn h1 h2 h3 ⊢;by_cases g:b0 % 32*64+b1 % 64≥128;{rw [if_pos g] at hn h1 h2 h3 ⊢;have e:=h1 aI;subst e;simp only at hn;rw [if_pos (show b0 / 32=6∧(1<n'∧c1 / 64=2) from ⟨a1.1,ak,a1.2.2⟩),if_pos g]};{rw [if_neg g] at hv;exact absurd ⟨rfl,rfl⟩ hv}};rw [if_neg a1] at hv hn h1 h2 h3 ⊢;by_cases a2:b0 / 16=14∧(1<n∧b1 / 64=2)∧(2<n∧b2 / 64=2);{rw [if_pos a2] at hv hn h1 h2 h3 ⊢;split at hv;{rename_i g;rw [if_pos g] at hn h1 h2 h3 ⊢;have e:=h1 aI;have e2:=h2 aI;subst e;subst e2;simp only at hn;obtain ⟨p,⟨q,r⟩,q2,r2⟩:=a2;rw [if_neg (show ¬ (b0 / 32=6∧(1<n'∧c1 / 64=2)) by omega),if_pos (show b0 / 16=14∧(1<n'∧c1 / 64=2)∧(2<n'∧c2 / 64=2) from ⟨p,⟨ak,r⟩,ak,r2⟩),if_pos g]};{exact absurd ⟨rfl,rfl⟩ hv}};rw [if_neg a2] at hv hn h1 h2 h3 ⊢;by_cases a3:b0 / 8=30∧(1<n∧b1 / 64=2)∧(2<n∧b2 / 64=2)∧(3<n∧b3 / 64=2);{rw [if_pos a3] at hv hn h1 h2 h3 ⊢;split at hv;{rename_i g;rw [if_pos g] at hn h1 h2 h3 ⊢;have e:=h1 aI;have e2:=h2 aI;have e3:=h3 aI;subst e;subst e2;subst e3;simp only at hn;obtain ⟨p,⟨q,r⟩,⟨q2,r2⟩,q3,r3⟩:=a3;rw [if_neg (show ¬ (b0 / 32=6∧(1<n'∧c1 / 64=2)) by omega),if_neg (show ¬ (b0 / 16=14∧(1<n'∧c1 / 64=2)∧(2<n'∧c2 / 64=2)) by omega),if_pos (show b0 / 8=30∧(1<n'∧c1 / 64=2)∧(2<n'∧c2 / 64=2)∧(3<n'∧c3 / 64=2) from ⟨p,⟨ak,r⟩,⟨ak,r2⟩,ak,r3⟩),if_pos g]};{exact absurd ⟨rfl,rfl⟩ hv}};rw [if_neg a3] at hv;exact absurd ⟨rfl,rfl⟩ hv
theorem Zj {a b:List UInt8} {k:Nat} (h:k<a.length):(a++b).getD k 0=a.getD k 0:=by simp [List.getD,List.getElem?_append_left h]
theorem Gh (a:List UInt8) (ha:a≠[]) (hv:¬ ((Lib.decodeL a).1=65533∧(Lib.decodeL a).2=1)):(Lib.decodeL a).2≤a.length:=by
 have hl:0<a.length:=List.length_pos_iff.2 ha;rw [Lib.decodeL_N] at hv ⊢;revert hv;generalize (a.getD 0 0).toNat=b0;generalize (a.getD 1 0).toNat=b1;generalize (a.getD 2 0).toNat=b2;generalize (a.getD 3 0).toNat=b3;unfold Lib.decodeN;repeat' split
 all_goals (intro hv;simp_all <;> omega)
theorem NV (a b:List UInt8) (ha:a≠[]) (hv:¬ ((Lib.decodeL a).1=65533∧(Lib.decodeL a).2=1)) (hb:(Lib.decodeL a).2≤b.length) (h:∀ k,k<(Lib.decodeL a).2→b.getD k 0=a.getD k 0):Lib.decodeL b=Lib.decodeL a:=by have hw:=Lib.decodeL_width a;have h0:=h 0 ak;rw [Lib.decodeL_N] at hv hb h;rw [Lib.decodeL_N,Lib.decodeL_N,h0];exact Zi _ _ _ _ _ _ _ _ _ hv hb (fun hk=>by rw [h 1 hk]) (fun hk=>by rw [h 2 hk]) (fun hk=>by rw [h 3 hk])
theorem Zk (a b:List UInt8) (ha:a≠[]) (hv:¬ ((Lib.decodeL a).1=65533∧(Lib.decodeL a).2=1)):Lib.decodeL (a++b)=Lib.decodeL a:=by have hle:=Gh a ha hv;exact NV a (a++b) ha hv (by rw [List.length_append];omega) (fun k hk=>Zj ak)
theorem Cz:∀ (n:Nat) (a b:List UInt8),a.length≤n→Lib.validD a=true→Lib.validD (a++b)=Lib.validD b
 | _,[],b,_,_=>rfl
 | 0,c::a,b,hn,_=>by simp at hn
 | n+1,c::a,b,hn,h=>by
  have hne:(c::a:List UInt8)≠[]:=aI
  rw [Lib.validD_step _ hne] at h
  split at h
  · cases h
  · rename_i hv
    have hd:=Zk (c::a) b hne hv
    have hle:=Gh (c::a) hne hv
    have hw:=Lib.decodeL_width (c::a)
    rw [Lib.validD_step (c::a++b) aI,hd,if_neg hv,List.drop_append_of_le_length hle]
    refine Cz n _ b ?_ h
    rw [List.length_drop]
    simp only [List.length_cons] at hn hw ⊢
    omega
theorem CF:∀ (s:List UInt8),(∀ c∈s,c.toNat<128)→Lib.validD s=true
 | [],_=>rfl
 | c::s,h=>by rw [Lib.validD_cons _ _ (h c aI),CF s (fun d hd=>h d (by simp [hd]))]
theorem NY:∀ k:Fin 16,(gB k.val).toNat<128:=aL
theorem Zl (c:UInt8) (h:c.toNat<128):∀ d∈esc c,d.toNat<128:=by
 unfold esc;have h1:=NY ⟨c.toNat / 16,ak⟩;have h2:=NY ⟨c.toNat % 16,ak⟩;simp only at h1 h2;intro d hd;split at hd;{simp at hd;rcases hd with rfl | rfl;decide;exact h};repeat' (split at hd)
 all_goals (simp at hd)
 all_goals first
  | (rcases hd with rfl | rfl <;> decide)
  | (rcases hd with rfl | rfl | rfl | rfl | rfl <;> first | exact h1 | exact h2 | decide)
  | (subst hd;exact h)
theorem Zm (c:UInt8) (h:128≤c.toNat):esc c=[c]:=
 Mt c ak (fun e=>by subst e;revert h;decide) (fun e=>by subst e;revert h;decide) (fun e=>by subst e;revert h;decide)
theorem NZ:∀ (s:List UInt8),(∀ c∈s,128≤c.toNat)→bV s=s
 | [],_=>rfl
 | c::s,h=>by rw [Cc,Zm c (h c aI),NZ s (fun d hd=>h d (by simp [hd]))];rfl
theorem Zn (a:List UInt8) (ha:a≠[]) (h0:128≤(a.getD 0 0).toNat):∀ c∈a.take (Lib.decodeL a).2,128≤c.toNat:=by
 intro c hc;obtain ⟨k,hk,e⟩:=List.mem_iff_getElem.1 hc;have vT:k<(Lib.decodeL a).2:=by rw [List.length_take] at hk;omega
 have hkl:k<a.length:=by rw [List.length_take] at hk;omega
 have e2:a.getD k 0=c:=by rw [←e,List.getElem_take];rw [List.getD,List.getElem?_eq_getElem hkl];rfl
 have ht:=MF a.length (a.getD 0 0).toNat (a.getD 1 0).toNat (a.getD 2 0).toNat (a.getD 3 0).toNat;rw [←Lib.decodeL_N] at ht;obtain ⟨t1,t2,t3,t4⟩:=ht;have:k=0∨k=1∨k=2∨k=3:=ak;rcases this with rfl | rfl | rfl | rfl;{rw [←e2];exact h0};{have:=t1 ak;rw [e2] at this;omega};{have:=t2 ak;rw [e2] at this;omega};{have:=t3 ak;rw [e2] at this;omega}
theorem yP:∀ (n:Nat) (s:List UInt8),s.length≤n→Lib.validD s=true→Lib.validD (bV s)=true
 | _,[],_,_=>rfl
 | 0,c::s,hn,_=>by simp at hn
 | n+1,c::s,hn,h=>by
  simp only [List.length_cons] at hn
  by_cases hc:c.toNat<128
  · rw [Lib.validD_cons _ _ hc] at h
    rw [Cc,Cz _ _ _ aF (CF _ (Zl c hc))]
    exact yP n s ak h
  · have hne:(c::s:List UInt8)≠[]:=aI
    have h':=h
    rw [Lib.validD_step _ hne] at h'
    split at h'
    · cases h'
    · rename_i hv
      have hle:=Gh (c::s) hne hv
      have hw:=Lib.decodeL_width (c::s)
      have hhi:=Zn (c::s) hne (by simp only [List.getD_cons_zero];omega)
      have hsp:=List.take_append_drop (Lib.decodeL (c::s)).2 (c::s)
      obtain ⟨k,hk⟩:=aB ((Lib.decodeL (c::s)).2)
      rw [←hk] at hle hw hhi hsp h' hv
      have htl:((c::s).take k).length=k:=by rw [List.length_take];omega
      have Zo:Lib.validD ((c::s).take k)=true:=by
       have hne2:(c::s).take k≠[]:=by intro e;have:=congrArg List.length e;rw [htl] at this;simp at this;omega
       have hd:Lib.decodeL ((c::s).take k)=Lib.decodeL (c::s):=by
        refine NV (c::s) _ hne (by rw [←hk];exact hv) (by rw [htl,hk];exact Nat.le_refl _) (fun j hj=>?_)
        rw [←hk] at hj
        simp [List.getD,List.getElem?_take,hj]
       rw [Lib.validD_step _ hne2,hd,if_neg (by rw [←hk];exact hv),List.drop_eq_nil_of_le (by rw [htl,hk];exact Nat.le_refl _)]
       rfl
      rw [←hsp,Ms,NZ _ hhi,Cz _ _ _ aF Zo]
      refine yP n _ ?_ h'
      rw [List.length_drop];simp only [List.length_cons];omega
end Go.Proofs.YtjaebndajhppgaaGreatDoor.Tm
namespace Go.Proofs.YtjaebndajhppgaaGreatDoor
open Go.Proofs.Tryz
open Go.ChangeShapes Go.WideShapes Go.ChangeAt Go.RowKit
namespace Tm
theorem gZ {k:Int} {t x:List UInt8} (h:Tm.is k t x=true):∃ n:Nat,k=n∧1≤n∧n≤5:=by unfold Tm.is at h;refine ⟨k.toNat,?_⟩;by_cases h1:k=1;{subst h1;exact ⟨rfl,aL⟩};by_cases h2:k=2;{subst h2;exact ⟨rfl,aL⟩};by_cases h3:k=3;{subst h3;exact ⟨rfl,aL⟩};by_cases h4:k=4;{subst h4;exact ⟨rfl,aL⟩};by_cases h5:k=5;{subst h5;exact ⟨rfl,aL⟩};rw [if_neg h1,if_neg h2,if_neg h3,if_neg h4,if_neg h5] at h;cases h
theorem yQ {n:Nat} {t x:List UInt8} (h:Tm.is (n:Int) t x=true) :
  (n=1∧x=[]∧iV t=true)∨(n=2∧x=[]∧label t=true)∨(n=3∧x=[]∧text t=true)∨(n=4∧lang x=true∧text t=true)∨(n=5∧iV x=true∧text t=true):=by obtain ⟨m,hm,h1,h5⟩:=gZ h;obtain rfl:n=m:=ak;clear hm;have hn:n=1∨n=2∨n=3∨n=4∨n=5:=ak;rcases hn with rfl | rfl | rfl | rfl | rfl;{have h':(x.isEmpty && iV t)=true:=h;rw [Bool.and_eq_true] at h';exact .inl ⟨rfl,by simpa using h'.1,h'.2⟩};{have h':(x.isEmpty && label t)=true:=h;rw [Bool.and_eq_true] at h';exact .inr (.inl ⟨rfl,by simpa using h'.1,h'.2⟩)};{have h':(x.isEmpty && text t)=true:=h;rw [Bool.and_eq_true] at h';exact .inr (.inr (.inl ⟨rfl,by simpa using h'.1,h'.2⟩))};{have h':(lang x && text t)=true:=h;rw [Bool.and_eq_true] at h';exact .inr (.inr (.inr (.inl ⟨rfl,h'.1,h'.2⟩)))};{have h':(iV x && text t)=true:=h;rw [Bool.and_eq_true] at h';exact .inr (.inr (.inr (.inr ⟨rfl,h'.1,h'.2⟩)))}
theorem CG {s:List UInt8} (h:iV s=true):1≤s.length∧s.length≤60∧Lib.validD s=true:=by unfold iV at h;simp only [Bool.and_eq_true,decide_eq_true_eq] at h;exact ⟨h.1.1.1,h.1.1.2,h.1.2⟩
theorem vZ {s:List UInt8} (h:text s=true):s.length≤30∧Lib.validD s=true:=by unfold text at h;simp only [Bool.and_eq_true,decide_eq_true_eq] at h;exact h
theorem CJ {s:List UInt8} (h:label s=true):1≤s.length∧s.length≤8∧∀ c∈s,dJ c=true:=by unfold label at h;simp only [Bool.and_eq_true,decide_eq_true_eq,List.all_eq_true] at h;exact ⟨h.1.1,h.1.2,h.2⟩
theorem N7 {s:List UInt8} (h:lang s=true):s.length≤16∧∀ c∈s,c.toNat<128:=by unfold lang at h;simp only [Bool.and_eq_true,decide_eq_true_eq] at h;refine ⟨h.2,fun c hc=>?_⟩;have:=yj s false 0 h.1 c hc;simp only [small,digit,Bool.or_eq_true,Bool.and_eq_true,decide_eq_true_eq,beq_iff_eq] at this;rcases this with (h | h) | h;{omega};{omega};{subst h;decide}
theorem Zp {c:UInt8} (h:dJ c=true):c.toNat<128:=by simp only [dJ,small,digit,Bool.or_eq_true,Bool.and_eq_true,decide_eq_true_eq] at h;omega
theorem rU {a b:List UInt8} (ha:Lib.validD a=true) (hb:Lib.validD b=true):Lib.validD (a++b)=true:=by rw [Cz _ _ _ aF ha,hb]
theorem jF {c:UInt8} {b:List UInt8} (hc:c.toNat<128) (hb:Lib.validD b=true):Lib.validD (c::b)=true:=by rw [Lib.validD_cons _ _ hc,hb]
theorem CK {n:Nat} {t x:List UInt8} (h:Tm.is (n:Int) t x=true):Lib.validD (aS n t x)=true:=by rcases yQ h with ⟨rfl,rfl,h1⟩ | ⟨rfl,rfl,h1⟩ | ⟨rfl,rfl,h1⟩ | ⟨rfl,h1,h2⟩ | ⟨rfl,h1,h2⟩;{show Lib.validD (60::(t++[62]))=true;exact jF aL (rU (CG h1).2.2 aL)};{show Lib.validD (95::58::t)=true;exact jF aL (jF aL (CF _ (fun c hc=>Zp ((CJ h1).2.2 c hc))))};{show Lib.validD (34::(bV t++[34]))=true;exact jF aL (rU (yP _ _ aF (vZ h1).2) aL)};{show Lib.validD (34::(bV t++34::64::x))=true;exact jF aL (rU (yP _ _ aF (vZ h2).2) (jF aL (jF aL (CF _ (N7 h1).2))))};{show Lib.validD (34::(bV t++34::94::94::60::(x++[62])))=true;exact jF aL (rU (yP _ _ aF (vZ h2).2) (jF aL (jF aL (jF aL (jF aL (rU (CG h1).2.2 aL))))))}
theorem gQ {n:Nat} {t x:List UInt8} (h:Tm.is (n:Int) t x=true):(aS n t x).length≤250∧t.length≤60∧x.length≤60:=by have he:=mR t;rcases yQ h with ⟨rfl,rfl,h1⟩ | ⟨rfl,rfl,h1⟩ | ⟨rfl,rfl,h1⟩ | ⟨rfl,h1,h2⟩ | ⟨rfl,h1,h2⟩;{have:=CG h1;refine ⟨?_,ak,aI⟩;show (60::(t++[62])).length≤250;simp;omega};{have:=CJ h1;refine ⟨?_,ak,aI⟩;show (95::58::t).length≤250;simp;omega};{have:=vZ h1;refine ⟨?_,ak,aI⟩;show (34::(bV t++[34])).length≤250;simp;omega};{have:=vZ h2;have:=N7 h1;refine ⟨?_,ak,ak⟩;show (34::(bV t++34::64::x)).length≤250;simp;omega};{have:=vZ h2;have:=CG h1;refine ⟨?_,ak,ak⟩;show (34::(bV t++34::94::94::60::(x++[62]))).length≤250;simp;omega}
theorem Gi {n:Nat} {t x:List UInt8} (h:Tm.is (n:Int) t x=true):dO (aS n t x)=some (n,t,x,[]):=by rcases yQ h with ⟨rfl,rfl,h1⟩ | ⟨rfl,rfl,h1⟩ | ⟨rfl,rfl,h1⟩ | ⟨rfl,h1,h2⟩ | ⟨rfl,h1,h2⟩;{exact XP (Ch h1)};{exact XQ (CJ h1).2.2};{exact XR t};{exact XT h1};{exact XU (Ch h1)}
theorem CQ {n m:Nat} {t x u y:List UInt8} (h:Tm.is (n:Int) t x=true) (h2:Tm.is (m:Int) u y=true):aS n t x=aS m u y↔(n=m∧t=u∧x=y):=by constructor;{intro e;have:=Gi h;rw [e,Gi h2] at this;simp only [Option.some.injEq,Prod.mk.injEq] at this;exact ⟨this.1.symm,this.2.1.symm,this.2.2.1.symm⟩};{rintro ⟨rfl,rfl,rfl⟩;rfl}
end Tm
open Go.ChangeShapes Go.WideShapes Go.ChangeAt Go.RowKit
theorem N8:Go.laidOutB prog=true:=aG
theorem Zq:67<prog.types.size:=of_decide_eq_true aG
theorem Zr:(match prog.underlying 67 with | some (.array _ _) | some (.struct _)=>true | _=>false)=true:=aG
theorem ql:Maps.Keyed prog 67:=Maps.Keyed.of_law (deep_law_laid N8 (m:=4) ak Zq aG Zr)
theorem Zt:prog.keyType 67=true:=aG
theorem keyLits_int (d:Nat) (k:Int) (hk:(Lit.int .i64 k).wf=true):prog.keyLits (d+1) 3 [.int .i64 k]=some [.int .i64 k]:=by unfold Program.keyLits;rw [underlying3];simp [hk]
theorem N9 (d:Nat) (t:List UInt8) (ht:t.length≤maxLen):prog.keyLits (d+1) 9 [aA t]=some [.string t]:=by unfold Program.keyLits;rw [underlying9];simp [ByteArray.size,ht]
theorem Gj:prog.cellsOf 61=3:=aG
theorem Zu:prog.cellsOf 3=1:=aG
theorem Zv:prog.cellsOf 9=1:=aG
theorem N_:prog.cellsOf 67=9:=aG
theorem CW (d:Nat) (k:Int) (t x:List UInt8) (hk:(Lit.int .i64 k).wf=true) (ht:t.length≤maxLen) (hx:x.length≤maxLen) :
  prog.keyLits (d+2) 61 [.int .i64 k,aA t,aA x]=some [.int .i64 k,.string t,.string x]:=by have e1:=keyLits_int d k hk;have e2:=N9 d t ht;have e3:=N9 d x hx;have c1:=Gj;have c2:=Zu;have c3:=Zv;unfold Program.keyLits;rw [underlying61];simp [c1,c2,c3,e1,e2,e3]
theorem Zw (d:Nat) (k1 k2 k3:Int) (t1 x1 t2 x2 t3 x3:List UInt8) (h1:(Lit.int .i64 k1).wf=true) (h2:(Lit.int .i64 k2).wf=true) (h3:(Lit.int .i64 k3).wf=true) (ht1:t1.length≤maxLen) (hx1:x1.length≤maxLen) (ht2:t2.length≤maxLen) (hx2:x2.length≤maxLen) (ht3:t3.length≤maxLen) (hx3:x3.length≤maxLen) :
  prog.keyLits (d+3) 67 [.int .i64 k1,aA t1,aA x1,.int .i64 k2,aA t2,aA x2,.int .i64 k3,aA t3,aA x3]=some [.int .i64 k1,.string t1,.string x1,.int .i64 k2,.string t2,.string x2,.int .i64 k3,.string t3,.string x3]:=by have e1:=CW d k1 t1 x1 h1 ht1 hx1;have e2:=CW d k2 t2 x2 h2 ht2 hx2;have e3:=CW d k3 t3 x3 h3 ht3 hx3;have c1:=Gj;have c4:=N_;unfold Program.keyLits;rw [underlying67];simp [c1,c4,e1,e2,e3]
def CY (k1:Int) (t1 x1:List UInt8) (k2:Int) (t2 x2:List UInt8) (k3:Int) (t3 x3:List UInt8):Lit:=
 .string (keyBytes [.int .i64 k1,.string t1,.string x1,.int .i64 k2,.string t2,.string x2,.int .i64 k3,.string t3,.string x3])
theorem Zx (k1 k2 k3:Int) (t1 x1 t2 x2 t3 x3:List UInt8) (h1:(Lit.int .i64 k1).wf=true) (h2:(Lit.int .i64 k2).wf=true) (h3:(Lit.int .i64 k3).wf=true) (ht1:t1.length≤maxLen) (hx1:x1.length≤maxLen) (ht2:t2.length≤maxLen) (hx2:x2.length≤maxLen) (ht3:t3.length≤maxLen) (hx3:x3.length≤maxLen) :
  keyOf prog 67 (eD k1 t1 x1 k2 t2 x2 k3 t3 x3)=some (CY k1 t1 x1 k2 t2 x2 k3 t3 x3):=by
 obtain ⟨d,hd⟩:∃ d,prog.types.size+1=d+3:=⟨prog.types.size-2,by have:3≤prog.types.size:=of_decide_eq_true aG;omega⟩;have e:=Zw d k1 k2 k3 t1 x1 t2 x2 t3 x3 h1 h2 h3 ht1 hx1 ht2 hx2 ht3 hx3;have hf:(eD k1 t1 x1 k2 t2 x2 k3 t3 x3).formed prog 67=true:=by have c4:=N_;have u:=underlying67;simp [Value.formed,u,c4]
 have u:=underlying67;unfold keyOf;rw [u];simp only;rw [Zt,hf,hd];have ec:(eD k1 t1 x1 k2 t2 x2 k3 t3 x3).cells.toList=[.int .i64 k1,aA t1,aA x1,.int .i64 k2,aA t2,aA x2,.int .i64 k3,aA t3,aA x3]:=by simp [Value.cells]
 rw [ec,e];rfl
abbrev TR:=Tm.T3×Tm.T3×Tm.T3
abbrev qm (t:TR):Value:=eD (t.1.1:Nat) t.1.2.1 t.1.2.2 (t.2.1.1:Nat) t.2.1.2.1 t.2.1.2.2 (t.2.2.1:Nat) t.2.2.2.1 t.2.2.2.2
def jG (t:TR):Lit:=CY (t.1.1:Nat) t.1.2.1 t.1.2.2 (t.2.1.1:Nat) t.2.1.2.1 t.2.1.2.2 (t.2.2.1:Nat) t.2.2.2.1 t.2.2.2.2
def qo (t:TR):Prop:=(t.1.1≤5∧t.1.2.1.length≤100000000∧t.1.2.2.length≤100000000)∧(t.2.1.1≤5∧t.2.1.2.1.length≤100000000∧t.2.1.2.2.length≤100000000)∧(t.2.2.1≤5∧t.2.2.2.1.length≤100000000∧t.2.2.2.2.length≤100000000)
theorem CZ {n:Nat} (h:n≤5):(Lit.int .i64 (n:Nat)).wf=true:=by rcases (show n=0∨n=1∨n=2∨n=3∨n=4∨n=5 by omega) with rfl | rfl | rfl | rfl | rfl | rfl <;> decide
theorem wh {t:TR} (h:qo t):keyOf prog 67 (qm t)=some (jG t):=by obtain ⟨⟨a1,a2,a3⟩,⟨b1,b2,b3⟩,c1,c2,c3⟩:=h;exact Zx _ _ _ _ _ _ _ _ _ (CZ a1) (CZ b1) (CZ c1) (by unfold maxLen;omega) (by unfold maxLen;omega) (by unfold maxLen;omega) (by unfold maxLen;omega) (by unfold maxLen;omega) (by unfold maxLen;omega)
theorem Zy {s t:TR} (hs:qo s) (ht:qo t) (h:jG s=jG t):s=t:=by have e:=ql.inj (wh hs) (h ▸ wh ht);obtain ⟨⟨s1,s2,s3⟩,⟨s4,s5,s6⟩,s7,s8,s9⟩:=s;obtain ⟨⟨t1,t2,t3⟩,⟨t4,t5,t6⟩,t7,t8,t9⟩:=t;simp only [eD,Value.agg.injEq,Array.mk.injEq,List.cons.injEq,Value.int.injEq,true_and,and_true,Int.natCast_inj] at e;obtain ⟨e1,e2,e3,e4,e5,e6,e7,e8,e9⟩:=e;rw [e1,str_inj e2,str_inj e3,e4,str_inj e5,str_inj e6,e7,str_inj e8,str_inj e9]
def fF (l:List TR):DataW Unit:=Maps.setOf (.agg []) (l.map jG)
theorem Oa (l:List TR) (t:TR):fF (l++[t])=(fF l).put (jG t) (.agg []):=by unfold fF;rw [List.map_append,List.map_cons,List.map_nil,Maps.setOf_snoc]
theorem C8 {l:List TR} {t:TR} (hl:∀ s∈l,qo s) (ht:qo t):Maps.has (fF l) (jG t)=decide (t∈l):=by unfold fF;rw [Maps.has_setOf _ _ _ (fun x hx=>by obtain ⟨s,hs,rfl⟩:=List.mem_map.1 hx;exact ql.key (wh (hl s hs)))];rw [Bool.eq_iff_iff];simp only [List.any_eq_true,List.mem_map,decide_eq_true_eq];constructor;{rintro ⟨x,⟨s,hs,rfl⟩,hx⟩;have:jG s=jG t:=(by simpa [jG,CY,Lit.sameKey] using hx);rw [←Zy (hl s hs) ht this];exact hs};{intro h;exact ⟨_,⟨t,h,rfl⟩,by simp [jG,CY,Lit.sameKey]⟩}
instance:Inhabited dZ:=⟨⟨0,[],[],0,[],[],0,[],[]⟩⟩
def bJ (W:World) (v:Value) (L:List dZ):Prop:=∃ (a:Option Addr) (cap:Nat),v=.slice a L.length cap∧L.length≤cap∧cap≤maxLen∧(a=none→cap=0) ∧
 (L.length=0∨∃ b off,a=some ⟨b,off,none⟩∧∀ i (h:i<L.length),rT W b (off+i*9) L[i])
theorem bJ.keep {W W':World} {v:Value} {L:List dZ} (h:bJ W v L) (hb:Below W.heap.size W W'):bJ W' v L:=by obtain ⟨a,cap,h1,h2,h3,h4,h5⟩:=h;refine ⟨a,cap,h1,h2,h3,h4,?_⟩;rcases h5 with h5 | ⟨b,off,e,h5⟩;{exact Or.inl h5};{exact Or.inr ⟨b,off,e,fun i hi=>(h5 i hi).keep hb⟩}
theorem bJ.drawn {W:World} {v:Value} {L:List dZ} (h:bJ W v L) (n:Nat):bJ (W.drewN n) v L:=h
theorem bJ.nil (W:World):bJ W (.slice none 0 0) []:=⟨none,0,rfl,Nat.le_refl _,by unfold maxLen;omega,fun _=>rfl,Or.inl rfl⟩
theorem bJ.open {W:World} {v:Value} {L:List dZ} (h:bJ W v L):∃ a cap,v=.slice a L.length cap∧L.length≤cap∧cap≤maxLen∧(a=none→cap=0):=by obtain ⟨a,cap,h1,h2,h3,h4,_⟩:=h;exact ⟨a,cap,h1,h2,h3,h4⟩
theorem bJ.get {W:World} {a:Option Addr} {n cap:Nat} {L:List dZ} (h:bJ W (.slice a n cap) L) {i:Nat} (hi:i<L.length):∃ b off,a=some ⟨b,off,none⟩∧∀ i (h:i<L.length),rT W b (off+i*9) L[i]:=by obtain ⟨a',cap',e,h2,h3,h4,h5⟩:=h;simp only [Value.slice.injEq] at e;obtain ⟨rfl,rfl,rfl⟩:=e;rcases h5 with h5 | h5;{omega};{exact h5}
theorem bJ.front {W:World} {a:Option Addr} {n cap:Nat} {L:List dZ} (h:bJ W (.slice a n cap) L) (k:Nat) (hk:k≤n):bJ W (.slice a k cap) (L.take k):=by
 obtain ⟨a',cap',e,h1,h2,h3,r⟩:=h;simp only [Value.slice.injEq] at e;obtain ⟨rfl,rfl,rfl⟩:=e;have hl:(L.take k).length=k:=by rw [List.length_take];omega
 refine ⟨a,cap,by rw [hl],ak,h2,h3,?_⟩;rcases r with h0 | ⟨b,off,ha,hc⟩;{exact Or.inl ak};{refine Or.inr ⟨b,off,ha,fun i hi=>?_⟩;have:=hc i ak;rwa [List.getElem_take]}
theorem bJ.back {W:World} {b off n cap:Nat} {L:List dZ} (h:bJ W (.slice (some ⟨b,off,none⟩) n cap) L) (k:Nat) (hk:k≤n):bJ W (.slice (some ⟨b,off+k*9,none⟩) (n-k) (cap-k)) (L.drop k):=by
 obtain ⟨a',cap',e,h1,h2,h3,r⟩:=h;simp only [Value.slice.injEq] at e;obtain ⟨rfl,rfl,rfl⟩:=e;have hl:(L.drop k).length=L.length-k:=by rw [List.length_drop]
 refine ⟨_,_,by rw [hl],ak,ak,(fun h=>by cases h),?_⟩;rcases r with h0 | ⟨b',off',ha,hc⟩;{exact Or.inl ak};{cases ha;refine Or.inr ⟨b,off+k*9,rfl,fun i hi=>?_⟩;have:=hc (k+i) ak;rw [List.getElem_drop,show off+k*9+i*9=off+(k+i)*9 by omega];exact this}
def aV (t:TR):dZ:=⟨(t.1.1:Nat),t.1.2.1,t.1.2.2,(t.2.1.1:Nat),t.2.1.2.1,t.2.1.2.2,(t.2.2.1:Nat),t.2.2.2.1,t.2.2.2.2⟩
section
variable {H:Type} {enc:TypeId×Value→H} {W:World} {base:Nat} {v:Value} {d:DataW H} {p:List MemPlace}
end
end Go.Proofs.YtjaebndajhppgaaGreatDoor
namespace Go.Proofs.YtjaebndajhppgaaGreatDoor.Tm
open Go Go.RowKit
theorem Ob (e:UInt8) (lit:Bool) (s r:T) (h:∀ c∈s,c≠e∧c≠92∧c≠10∧c≠13):bP e lit (s++e::r)=some (s,r):=by unfold bP;exact Ce e lit s r _ aI h
theorem Gl (s r:T):bP 34 true (bV s++34::r)=some (s,r):=by unfold bP;have hl:=(mR s).1;exact yh s r _ (by simp;omega)
theorem Gm {p:UInt8→Bool}:∀ {l:T} (c:UInt8) (r:T),(∀ d∈l,p d=true)→p c=false→(l++c::r).takeWhile p=l∧(l++c::r).dropWhile p=c::r
 | [],c,r,_,hc=>by simp [hc]
 | d::l,c,r,h,hc=>by
  have hd:=h d aI
  have ih:=Gm (p:=p) (l:=l) c r (fun e he=>h e (by simp [he])) hc
  simp [hd,ih.1,ih.2]
theorem Zz {n:Nat} {t x:T} (r:T) (h:Tm.is (n:Int) t x=true):dO (aS n t x++32::r)=some (n,t,x,32::r):=by rcases yQ h with ⟨rfl,rfl,h1⟩ | ⟨rfl,rfl,h1⟩ | ⟨rfl,rfl,h1⟩ | ⟨rfl,h1,h2⟩ | ⟨rfl,h1,h2⟩;{have e:aS 1 t []++32::r=60::(t++62::(32::r)):=(by simp [aS]);rw [e,yH,Ob 62 false t (32::r) (Ch h1)];rfl};{have e:aS 2 t []++32::r=95::58::(t++32::r):=(by simp [aS]);obtain ⟨a,b⟩:=Gm (p:=dJ) (l:=t) 32 r (CJ h1).2.2 aL;rw [e,Cw,a,b]};{have e:aS 3 t []++32::r=34::(bV t++34::(32::r)):=(by simp [aS]);rw [e,rP];unfold dM;rw [Gl];show (if (32::r:T).headD 0=64 then _ else if (32::r:T).take 3=[94,94,60] then _ else _)=_;rw [if_neg aI,if_neg aI]};{have e:aS 4 t x++32::r=34::(bV t++34::(64::(x++32::r))):=(by simp [aS]);have hb:=yj x false 0 (by unfold lang at h1;simp at h1;exact h1.1);obtain ⟨a,b⟩:=Gm (p:=dX) (l:=x) 32 r (fun c hc=>Mw (hb c hc)) aL;rw [e,rP];unfold dM;rw [Gl];show (if (64::(x++32::r):T).headD 0=64 then some (4,t,((x++32::r).takeWhile dX).map lower,(x++32::r).dropWhile dX) else _)=_;rw [if_pos aI,a,b,Mx hb]};{have e:aS 5 t x++32::r=34::(bV t++34::(94::94::60::(x++62::(32::r)))):=(by simp [aS]);rw [e,rP];unfold dM;rw [Gl];show (if (94::94::60::(x++62::(32::r)):T).headD 0=64 then _ else if (94::94::60::(x++62::(32::r)):T).take 3=[94,94,60] then (bP 62 false (x++62::(32::r))).map (fun q:T×T=>((5:Nat),t,q.1,q.2)) else _)=_;rw [if_neg aI,if_pos aI,Ob 62 false x (32::r) (Ch h1)];rfl}
theorem Oc {n:Nat} {t x:T} (h:Tm.is (n:Int) t x=true):∃ (c:UInt8) (r:T),aS n t x=c::r∧(c=60∨c=95∨c=34):=by rcases yQ h with ⟨rfl,rfl,h1⟩ | ⟨rfl,rfl,h1⟩ | ⟨rfl,rfl,h1⟩ | ⟨rfl,h1,h2⟩ | ⟨rfl,h1,h2⟩;{exact ⟨60,_,rfl,.inl rfl⟩};{exact ⟨95,_,rfl,.inr (.inl rfl)⟩};{exact ⟨34,_,rfl,.inr (.inr rfl)⟩};{exact ⟨34,_,rfl,.inr (.inr rfl)⟩};{exact ⟨34,_,rfl,.inr (.inr rfl)⟩}
theorem Gn {n:Nat} {t x:T} (r:T) (h:Tm.is (n:Int) t x=true):(aS n t x++r).dropWhile dh=aS n t x++r:=by obtain ⟨c,u,e,hc⟩:=Oc h;rw [e,List.cons_append,List.dropWhile_cons];rw [show dh c=false by rcases hc with rfl | rfl | rfl <;> rfl];rfl
theorem Gp {n:Nat} {t x:T} (r:T) (h:Tm.is (n:Int) t x=true):rt (aS n t x++32::r)=some ((n,t,x),r.dropWhile dh):=by unfold rt;rw [Zz r h];simp only [List.dropWhile_cons];rw [show dh 32=true from rfl];rfl
def iY (p:T3×T3×T3):T:=aS p.1.1 p.1.2.1 p.1.2.2++32::(aS p.2.1.1 p.2.1.2.1 p.2.1.2.2++32::(aS p.2.2.1 p.2.2.2.1 p.2.2.2.2++32::[46]))
theorem ZA {p:T3×T3×T3} (h:aZ p=true):one (iY p)=some (some p):=by
 obtain ⟨⟨n1,t1,x1⟩,⟨n2,t2,x2⟩,⟨n3,t3,x3⟩⟩:=p;have h':=h;unfold aZ dD at h';simp only [Bool.and_eq_true] at h';obtain ⟨_,⟨h1,h2⟩,h3⟩:=h';have hv:Lib.validD (iY ((n1,t1,x1),(n2,t2,x2),(n3,t3,x3)))=true:=by unfold iY;exact rU (CK h1) (jF aL (rU (CK h2) (jF aL (rU (CK h3) (jF aL (jF aL rfl))))))
 have hd:(iY ((n1,t1,x1),(n2,t2,x2),(n3,t3,x3))).dropWhile dh=iY ((n1,t1,x1),(n2,t2,x2),(n3,t3,x3)):=Gn _ h1;unfold one;rw [if_neg (by rw [hv];decide),hd,if_neg];{unfold mY;have e1:rt (iY ((n1,t1,x1),(n2,t2,x2),(n3,t3,x3)))=some ((n1,t1,x1),aS n2 t2 x2++32::(aS n3 t3 x3++32::[46])):=(by unfold iY;rw [Gp _ h1,Gn _ h2]);have e2:rt (aS n2 t2 x2++32::(aS n3 t3 x3++32::[46]))=some ((n2,t2,x2),aS n3 t3 x3++32::[46]):=(by rw [Gp _ h2,Gn _ h3]);have e3:rt (aS n3 t3 x3++32::[46])=some ((n3,t3,x3),[46]):=(by rw [Gp _ h3];rfl);rw [e1];simp only;rw [e2];simp only;rw [e3];simp only;rw [show point [46]=some [] from rfl];simp only;rw [if_pos ⟨rfl,h⟩]};{obtain ⟨c,u,e,hc⟩:=Oc h1;unfold iY iX;simp only;rw [e,List.cons_append];rcases hc with rfl | rfl | rfl <;> simp}
def gI (s:T):T×T:=if (Lib.cut s [10]).2.2=true then (Lib.trimSuffix (Lib.cut s [10]).1 [13],(Lib.cut s [10]).2.1) else ((Lib.cut s [10]).1,(Lib.cut s [10]).2.1)
theorem Gq {s:T} (h:s≠[]):(gI s).2.length<s.length:=by
 have hl:0<s.length:=by cases s with
  | nil=>exact absurd rfl h
  | cons _ _=>simp
 unfold gI Lib.cut;split;{simp only [if_true,List.length_drop,List.length_cons,List.length_nil];omega};{simp only;exact hl}
theorem ZB (s:T):(gI s).1.length≤s.length:=by
 have h1:(Lib.cut s [10]).1.length≤s.length:=by unfold Lib.cut;split;{simp only [List.length_take];omega};{exact Nat.le_refl _}
 have h2:∀ a:T,(Lib.trimSuffix a [13]).length≤a.length:=by intro a;unfold Lib.trimSuffix;split;{simp only [List.length_take];omega};{exact Nat.le_refl _}
 unfold gI;split;{exact Nat.le_trans (h2 _) h1};{exact h1}
def pl:Nat→T→Nat→List (T3×T3×T3)→Nat×Nat×List (T3×T3×T3)
 | 0,_,n,l=>(0,n,l)
 | f+1,s,n,l=>if s=[] then (0,n,l) else if 200<n+1 then (3,n+1,[]) else match one (gI s).1 with
  | none=>(2,n+1,[])
  | some none=>pl f (gI s).2 (n+1) l
  | some (some t)=>if t∈l then pl f (gI s).2 (n+1) l else if l.length=100 then (3,n+1,[]) else pl f (gI s).2 (n+1) (l++[t])
theorem C9:∀ (f g:Nat) (s:T) (n:Nat) (l:List (T3×T3×T3)),s.length<f→s.length<g→pl f s n l=pl g s n l
 | 0,g,s,n,l,h,_=>ak
 | f+1,0,s,n,l,_,h=>ak
 | f+1,g+1,s,n,l,hf,hg=>by
  unfold pl
  by_cases h:s=[]
  · rw [if_pos h,if_pos h]
  · have hc:=Gq h
    rw [if_neg h,if_neg h]
    split
    · rfl
    · cases one (gI s).1 with
      | none=>rfl
      | some o=>
       cases o with
       | none=>exact C9 f g _ _ _ ak ak
       | some t=>
        simp only
        split
        · exact C9 f g _ _ _ ak ak
        · split
          · rfl
          · exact C9 f g _ _ _ ak ak
def jH (s:T) (n:Nat) (l:List (T3×T3×T3)):Nat×Nat×List (T3×T3×T3):=pl (s.length+1) s n l
theorem ZC (n:Nat) (l:List (T3×T3×T3)):jH [] n l=(0,n,l):=rfl
theorem ZE {s:T} (h:s≠[]) (n:Nat) (l:List (T3×T3×T3)):jH s n l=if 200<n+1 then (3,n+1,[]) else match one (gI s).1 with
  | none=>(2,n+1,[])
  | some none=>jH (gI s).2 (n+1) l
  | some (some t)=>if t∈l then jH (gI s).2 (n+1) l else if l.length=100 then (3,n+1,[]) else jH (gI s).2 (n+1) (l++[t]):=by have hc:=Gq h;have e:∀ m k,pl s.length (gI s).2 m k=jH (gI s).2 m k:=fun m k=>C9 _ _ _ _ _ hc ak;unfold jH;rw [pl,if_neg h];simp only [e];rfl
def jI (a1 a2 a3 b1 b2 b3:T):Int:=if cmp a1 b1=0 then (if cmp a2 b2=0 then cmp a3 b3 else cmp a2 b2) else cmp a1 b1
theorem ZF (a1 a2 a3 b1 b2 b3:T):jI b1 b2 b3 a1 a2 a3 = - jI a1 a2 a3 b1 b2 b3:=by
 unfold jI;rw [jo a1 b1,jo a2 b2,jo a3 b3];repeat' split
 all_goals omega
theorem ZG (a1 a2 a3 b1 b2 b3:T):jI a1 a2 a3 b1 b2 b3=0↔(a1=b1∧a2=b2∧a3=b3):=by
 rw [←mQ,←mQ,←mQ];unfold jI;repeat' split
 all_goals omega
theorem Od {a b c:T} (h1:cmp a b<0) (h2:cmp b c≤0):cmp a c<0:=by have h:=yg (a:=a) (b:=b) (c:=c) ak h2;rcases (show cmp a c=0∨cmp a c<0 by omega) with h0 | h0;{rw [mQ.1 h0] at h1;have:=jo b c;omega};{exact h0}
theorem ZH {a1 a2 a3 b1 b2 b3 c1 c2 c3:T} (h1:jI a1 a2 a3 b1 b2 b3≤0) (h2:jI b1 b2 b3 c1 c2 c3≤0):jI a1 a2 a3 c1 c2 c3≤0:=by unfold jI at *;by_cases e1:cmp a1 b1=0;{rw [if_pos e1] at h1;obtain rfl:=mQ.1 e1;by_cases e2:cmp a1 c1=0;{rw [if_pos e2] at h2 ⊢;by_cases e3:cmp a2 b2=0;{rw [if_pos e3] at h1;obtain rfl:=mQ.1 e3;by_cases e4:cmp a2 c2=0;{rw [if_pos e4] at h2 ⊢;exact yg h1 h2};{rw [if_neg e4] at h2 ⊢;exact h2}};{rw [if_neg e3] at h1;by_cases e4:cmp b2 c2=0;{obtain rfl:=mQ.1 e4;rw [if_neg e3];exact h1};{rw [if_neg e4] at h2;have:=Od (show cmp a2 b2<0 by omega) h2;rw [if_neg ak];omega}}};{rw [if_neg e2] at h2 ⊢;exact h2}};{rw [if_neg e1] at h1;by_cases e2:cmp b1 c1=0;{obtain rfl:=mQ.1 e2;rw [if_neg e1];exact h1};{rw [if_neg e2] at h2;have:=Od (show cmp a1 b1<0 by omega) h2;rw [if_neg ak];omega}}
abbrev TT:=T3×T3×T3
def iZ (l:List TT):T:=l.flatMap fun p=>iY p++[10]
theorem Oe (l:List TT) (p:TT):iZ (l++[p])=iZ l++(iY p++[10]):=by simp [iZ]
def jJ (a:List TT) (t:TT):List TT:=if t∈a then a else a++[t]
def jK (a l:List TT):List TT:=l.foldl jJ a
theorem ZI (a:List TT) (t:TT):(jJ a t).length≤a.length+1:=by unfold jJ;split;{omega};{simp}
theorem ZJ (a:List TT) (t x:TT):x∈jJ a t↔x∈a∨x=t:=by unfold jJ;split;{rename_i h;constructor;{exact Or.inl};{rintro (h1 | rfl);{exact h1};{exact h}}};{simp}
theorem Gr:∀ (l a:List TT) (x:TT),x∈jK a l↔x∈a∨x∈l
 | [],a,x=>by simp [jK]
 | t::l,a,x=>by
  have ih:=Gr l (jJ a t) x
  show x∈jK (jJ a t) l↔_
  rw [ih,ZJ,List.mem_cons]
  constructor
  · rintro ((h | h) | h)
    · exact .inl h
    · exact .inr (.inl h)
    · exact .inr (.inr h)
  · rintro (h | h | h)
    · exact .inl (.inl h)
    · exact .inl (.inr h)
    · exact .inr h
def bQ (p q:TT):Int:=jI (aS p.1.1 p.1.2.1 p.1.2.2) (aS p.2.1.1 p.2.1.2.1 p.2.1.2.2) (aS p.2.2.1 p.2.2.2.1 p.2.2.2.2) (aS q.1.1 q.1.2.1 q.1.2.2) (aS q.2.1.1 q.2.1.2.1 q.2.1.2.2) (aS q.2.2.1 q.2.2.2.1 q.2.2.2.2)
theorem qp {p:TT} (h:aZ p=true):(p.1.1=1∨p.1.1=2)∧p.2.1.1=1∧is (p.1.1:Int) p.1.2.1 p.1.2.2=true∧is (p.2.1.1:Int) p.2.1.2.1 p.2.1.2.2=true∧is (p.2.2.1:Int) p.2.2.2.1 p.2.2.2.2=true:=by unfold aZ dD at h;simp only [Bool.and_eq_true,decide_eq_true_eq] at h;exact ⟨h.1.1,h.1.2,h.2.1.1,h.2.1.2,h.2.2⟩
theorem Gs {p q:TT} (hp:aZ p=true) (hq:aZ q=true):bQ p q=0↔p=q:=by obtain ⟨_,_,a1,a2,a3⟩:=qp hp;obtain ⟨_,_,b1,b2,b3⟩:=qp hq;obtain ⟨⟨n1,t1,x1⟩,⟨n2,t2,x2⟩,⟨n3,t3,x3⟩⟩:=p;obtain ⟨⟨m1,u1,y1⟩,⟨m2,u2,y2⟩,⟨m3,u3,y3⟩⟩:=q;unfold bQ;rw [ZG];simp only at a1 a2 a3 b1 b2 b3 ⊢;rw [CQ a1 b1,CQ a2 b2,CQ a3 b3];simp only [Prod.mk.injEq]
theorem nQ (p q:TT):bQ q p = - bQ p q:=by unfold bQ;exact ZF _ _ _ _ _ _
theorem Gt {p q r:TT} (h1:bQ p q≤0) (h2:bQ q r≤0):bQ p r≤0:=by unfold bQ at *;exact ZH h1 h2
theorem Gu {p q r:TT} (h1:bQ p q<0) (h2:bQ q r<0):bQ p r<0:=by have h:=Gt (Int.le_of_lt h1) (Int.le_of_lt h2);rcases Int.lt_or_eq_of_le h with h3 | h3;{exact h3};{exfalso;have h4:bQ r p≤0:=(by rw [nQ p r,h3];decide);have h5:=Gt (Int.le_of_lt h2) h4;have:=nQ p q;omega}
def dR (l:List TT):Prop:=l.Pairwise fun a b=>bQ a b<0
theorem yR:∀ {l m:List TT},dR l→dR m→(∀ t,t∈l↔t∈m)→l=m
 | [],[],_,_,_=>rfl
 | [],b::m,_,_,h=>absurd ((h b).2 aI) aI
 | a::l,[],_,_,h=>absurd ((h a).1 aI) aI
 | a::l,b::m,hl,hm,h=>by
  obtain ⟨h1,h2⟩:=List.pairwise_cons.1 hl
  obtain ⟨k1,k2⟩:=List.pairwise_cons.1 hm
  have hself:∀ t,¬ bQ t t<0:=fun t ht=>by have:=nQ t t;omega
  have e:a=b:=by
   have ha:=(h a).1 aI
   have hb:=(h b).2 aI
   rcases List.mem_cons.1 ha with e | ha
   · exact e
   · rcases List.mem_cons.1 hb with e | hb
     · exact e.symm
     · exact absurd (Gu (k1 a ha) (h1 b hb)) (hself b)
  subst e
  rw [yR h2 k2 fun t=>?_]
  constructor
  · intro ht
    rcases List.mem_cons.1 ((h t).1 (by simp [ht])) with rfl | h3
    · exact absurd (h1 t ht) (hself t)
    · exact h3
  · intro ht
    rcases List.mem_cons.1 ((h t).2 (by simp [ht])) with rfl | h3
    · exact absurd (k1 t ht) (hself t)
    · exact h3
def put (l:List TT) (t:TT):List TT:=if ((l.dropWhile fun a=>decide (bQ a t<0)).head?==some t)=true then l else (l.takeWhile fun a=>decide (bQ a t<0))++t::l.dropWhile fun a=>decide (bQ a t<0)
def gu (l:List TT):List TT:=l.foldl put []
theorem put_mem (l:List TT) (t x:TT):x∈put l t↔x∈l∨x=t:=by
 have e:=List.takeWhile_append_dropWhile (p:=fun a=>decide (bQ a t<0)) (l:=l);unfold put;split;{rename_i h;constructor;{exact .inl};{rintro (h1 | rfl);{exact h1};{rw [←e];have:=List.mem_of_mem_head? (Option.mem_def.2 (eq_of_beq h));exact List.mem_append_right _ this}}}
 · conv=>rhs;rw [←e]
   simp only [List.mem_append,List.mem_cons];constructor;{rintro (h1 | h1 | h1);{exact .inl (.inl h1)};{exact .inr h1};{exact .inl (.inr h1)}};{rintro ((h1 | h1) | h1);{exact .inl h1};{exact .inr (.inr h1)};{exact .inr (.inl h1)}}
theorem Gv {l:List TT} {t:TT} (hl:dR l) (hv:∀ a∈l,aZ a=true) (ht:aZ t=true):dR (put l t):=by
 have e:=List.takeWhile_append_dropWhile (p:=fun a=>decide (bQ a t<0)) (l:=l);unfold put;split;{exact hl}
 · rename_i h;have hp:dR (l.takeWhile (fun a=>decide (bQ a t<0))++l.dropWhile (fun a=>decide (bQ a t<0))):=(by rw [e];exact hl);obtain ⟨p1,p2,p3⟩:=List.pairwise_append.1 hp;have hlo:∀ a∈l.takeWhile (fun a=>decide (bQ a t<0)),bQ a t<0:=fun a ha=>(by have h1:(l.takeWhile (fun a=>decide (bQ a t<0))).all (fun a=>decide (bQ a t<0))=true:=List.all_takeWhile;simpa using List.all_eq_true.1 h1 a ha);have hhi:∀ b∈l.dropWhile (fun a=>decide (bQ a t<0)),bQ t b<0:=by
    obtain ⟨d,hd⟩:=aB (l.dropWhile (fun a=>decide (bQ a t<0)));rw [←hd] at h p2 p3 ⊢;cases d with
    | nil=>intro b hb;cases hb
    | cons c d=>have hc:¬ bQ c t<0:=(by have:=List.head?_dropWhile_not (fun a=>decide (bQ a t<0)) l;rw [←hd] at this;simpa using this);have hcm:c∈l:=(by rw [←e,←hd];simp);have hne:c≠t:=fun e=>h (by rw [e];exact beq_self_eq_true _);have h0:bQ c t≠0:=fun h0=>hne ((Gs (hv c hcm) ht).1 h0);have hn:=nQ c t;have hct:bQ t c<0:=ak;intro b hb;rcases List.mem_cons.1 hb with rfl | hb;{exact hct};{exact Gu hct ((List.pairwise_cons.1 p2).1 b hb)}
   refine List.pairwise_append.2 ⟨p1,List.pairwise_cons.2 ⟨hhi,p2⟩,fun a ha b hb=>?_⟩;rcases List.mem_cons.1 hb with rfl | hb;{exact hlo a ha};{exact p3 a ha b hb}
theorem uq:∀ (l a:List TT),dR a→(∀ t∈a,aZ t=true)→(∀ t∈l,aZ t=true)→dR (l.foldl put a)∧∀ x,x∈l.foldl put a↔x∈a∨x∈l
 | [],a,hs,_,_=>⟨hs,fun x=>aI⟩
 | t::l,a,hs,ha,hl=>by
  obtain ⟨h1,h2⟩:=uq l (put a t) (Gv hs ha (hl t aI)) (fun x hx=>by
   rcases (put_mem a t x).1 hx with h | rfl
   · exact ha x h
   · exact hl x aI) (fun x hx=>hl x (by simp [hx]))
  refine ⟨h1,fun x=>?_⟩
  rw [List.foldl_cons,h2 x,put_mem,List.mem_cons]
  constructor
  · rintro ((h | h) | h)
    · exact .inl h
    · exact .inr (.inl h)
    · exact .inr (.inr h)
  · rintro (h | h | h)
    · exact .inl (.inl h)
    · exact .inl (.inr h)
    · exact .inr h
theorem C_ {l:List TT} (hl:∀ t∈l,aZ t=true):dR (gu l):=(uq l [] List.Pairwise.nil aI hl).1
theorem Og {l:List TT} (hl:∀ t∈l,aZ t=true) (x:TT):x∈gu l↔x∈l:=by have:=(uq l [] List.Pairwise.nil aI hl).2 x;unfold gu;simpa using this
theorem yS {l:List TT} (hl:∀ t∈l,aZ t=true):∀ t∈gu l,aZ t=true:=fun t ht=>hl t ((Og hl t).1 ht)
theorem yT {l m:List TT} (hl:∀ t∈l,aZ t=true) (hm:dR m) (h:∀ t,t∈m↔t∈l):m=gu l:=
 yR hm (C_ hl) fun t=>by rw [h,Og hl]
theorem yU (l:List TT) (t:TT):(put l t).length≤l.length+1:=by have e:=congrArg List.length (List.takeWhile_append_dropWhile (p:=fun a=>decide (bQ a t<0)) (l:=l));unfold put;split;{omega};{simp only [List.length_append,List.length_cons] at *;omega}
theorem yV:∀ (l a:List TT),(l.foldl put a).length≤a.length+l.length
 | [],a=>aI
 | t::l,a=>by
  have:=yV l (put a t)
  have h:=yU a t
  rw [List.foldl_cons,List.length_cons];omega
theorem yX (l:List TT):(gu l).length≤l.length:=by have:=yV l [];simpa [gu] using this
end Go.Proofs.YtjaebndajhppgaaGreatDoor.Tm
namespace Go.Proofs.YtjaebndajhppgaaGreatDoor
open Go.Proofs.Tryz
open Go.ChangeShapes Go.WideShapes Go.ChangeAt Go.RowKit
def mZ:List UInt8:=[34,92,10,13,9,8,12]
def rV:List UInt8:=[34,92,110,114,116,98,102]
theorem ZK:∀ k:Fin 7,Tm.esc (mZ.getD k.val 0)=[92,rV.getD k.val 0]:=aL
theorem ZL {c:UInt8} (h:∀ j,j<7→mZ.getD j 0≠c):t_ c:=by have e:∀ j,j<7→c.toNat≠(mZ.getD j 0).toNat:=fun j hj he=>h j hj (UInt8.toNat_inj.1 he.symm);exact ⟨e 0 ak,e 1 ak,e 2 ak,e 3 ak,e 4 ak,e 5 ak,e 6 ak⟩
theorem Oh (k:Nat) (h:k<16):(⟨#[48,49,50,51,52,53,54,55,56,57,65,66,67,68,69,70]⟩:ByteArray).extract k (k+1)=⟨#[Tm.gB k]⟩:=by
 have:∀ k:Fin 16,((⟨#[48,49,50,51,52,53,54,55,56,57,65,66,67,68,69,70]⟩:ByteArray).extract k.val (k.val+1)).data.toList=[Tm.gB k.val]:=by decide +kernel
 apply ByteArray.ext;apply Array.ext';exact this ⟨k,h⟩
theorem ZM (s:List UInt8) (w:World) (hl:s.length≤1000000000) :
  Calls prog 107 #[aA s] w fun e w'=>e=.returned (aA (Tm.bV s))∧∃ q,w'=w.drewN q:=by
 go_enter func107,ntmps107;go_wp2;go_loopw [6,7,8,9] (fun s6 s7 _ _ wr=>∃ i:Nat,i≤s.length∧s7=.int .i64 i∧s6=aA (Tm.bV (s.take i))∧Hid (∃ q,wr=w.drewN q)) (fun _ s7 _ _ _=>s.length-(intOf s7).toNat)
 case atStart=>exact ⟨0,ak,rfl,rfl,0,rfl⟩
 case round=>
  obtain ⟨i,hi,rfl,rfl,HQ⟩:=hrel;obtain ⟨q0,hq0⟩:=HQ.out;subst hq0;clear HQ;have hle:=Tm.mR (s.take i);rw [List.length_take] at hle;by_cases hlt:i<s.length
  · obtain ⟨c,hc⟩:∃ c,s[i]?=some c:=⟨_,List.getElem?_eq_getElem hlt⟩;have hcc:=fun q=>fH s i c hc q;have HS:=aj (MU s i c hc);have ug:(⟨s.toArray⟩:ByteArray).extract i (i+1)=⟨[c].toArray⟩:=(by rw [oJ,show i+1-i=1 by omega];obtain ⟨hl2,e2⟩:=List.getElem?_eq_some_iff.1 hc;rw [List.drop_eq_getElem_cons hl2,e2];rfl);obtain ⟨out,hout⟩:=aB (Tm.bV (s.take i));have HO:=aj hout;rw [←hout] at hle HS ⊢;have hol:out.length≤6000000000:=ak;have hc256:c.toNat<256:=c.toNat_lt;clear hc hout hle;obtain ⟨W,hW⟩:=aB (w.drewN q0);have HW:=aj hW;rw [←hW];clear hW;go_wp2;go_loop [9] (fun s9=>∃ k:Nat,k≤7∧s9=.int .i64 k∧Hid (∀ j,j<k→mZ.getD j 0≠c)) (fun s9=>7-(intOf s9).toNat)
    (case atStart=>exact ⟨0,ak,rfl,fun j hj=>ak⟩);case round=>
     obtain ⟨k,hk,rfl,HN⟩:=hrel;by_cases Gw:k<7
     · have g1:mZ[k]?=some (mZ.getD k 0):=(by have:k<mZ.length:=Gw;simp [List.getD,this]);have g2:rV[k]?=some (rV.getD k 0):=(by have:k<rV.length:=Gw;simp [List.getD,this]);have yE:=fun q=>fH mZ k _ g1 q;have ht2:(⟨rV.toArray⟩:ByteArray).extract k (k+1)=⟨[rV.getD k 0].toArray⟩:=(by rw [oJ,show k+1-k=1 by omega];obtain ⟨hl2,e2⟩:=List.getElem?_eq_some_iff.1 g2;rw [List.drop_eq_getElem_cons hl2,e2];rfl);have HD:=aj (ZK ⟨k,Gw⟩);have yF:=aj (show mZ.getD k 0≠c→∀ j,j<k+1→mZ.getD j 0≠c from fun hne j hj=>by
        by_cases he:j=k;{rw [he];exact hne}
        · exact HN.out j ak)
       obtain ⟨d,hd⟩:=aB (mZ.getD k 0);obtain ⟨f,hf⟩:=aB (rV.getD k 0);simp only at HD;rw [←hd] at yE yF HD;rw [←hf] at ht2 HD;unfold mZ at yE;unfold rV at ht2;have hkz:(k:Int)<7:=ak;have hk0:(0:Int)≤(k:Int):=ak;clear hd hf g1 g2 HN;by_cases hcd:d=c
       · subst hcd;have be:((d.toNat:Int) != (d.toNat:Int))=false:=aI;have HF:=aj (show Tm.bV (s.take (i+1))=out++[92,f] by rw [HS.out,HD.out]);have ha1:(⟨out.toArray⟩++⟨#[92]⟩:ByteArray)=⟨(out++[92]).toArray⟩:=fQ out [92];have ha2:(⟨(out++[92]).toArray⟩++⟨[f].toArray⟩:ByteArray)=⟨(out++[92]++[f]).toArray⟩:=fQ _ _;clear HS;go_wp2;go_roundw
         (case rel=>exact ⟨i+1,ak,aN,by rw [HF.out] <;> simp [fQ],q0,HW.out⟩);case measure=>simp [intOf];omega
       · have be:((d.toNat:Int) != (c.toNat:Int))=true:=(by rw [bne_iff_ne];intro e;exact hcd (UInt8.toNat_inj.1 ak));have F9:=aj (yF.out hcd);clear hcd;go_wp2;go_round
         (case rel=>exact ⟨k+1,ak,aN,F9⟩);case measure=>simp [intOf];omega
     · obtain rfl:k=7:=ak;have hnf:=ZL HN.out;clear HN;by_cases hlo:c.toNat<32∨c.toNat=127
       · have HF:=aj (show Tm.bV (s.take (i+1))=out++[92,117,48,48,Tm.gB (c.toNat / 16),Tm.gB (c.toNat % 16)] by rw [HS.out,MP c hnf hlo]);have hand:bits BinOp.and IntKind.u8 (c.toNat:Int) 15=((c.toNat % 16:Nat):Int):=(by have:=u8_and_nat c.toNat 15 ak ak;rw [show (15:Int)=((15:Nat):Int) from rfl,this,show c.toNat &&& 15=c.toNat % 16 from Nat.and_two_pow_sub_one_eq_mod c.toNat 4]);have hsh:(c.toNat:Int) / 16=((c.toNat / 16:Nat):Int):=ak;have hq:c.toNat / 16<16:=ak;have hr:c.toNat % 16<16:=ak;obtain ⟨k1,hk1⟩:=aB (c.toNat / 16);obtain ⟨k2,hk2⟩:=aB (c.toNat % 16);rw [←hk1] at hsh hq HF;rw [←hk2] at hand hr HF;have hx1:=Oh k1 hq;have hx2:=Oh k2 hr;have hqz:(k1:Int)<16:=ak;have hrz:(k2:Int)<16:=ak;have X5:(0:Int)≤(k1:Int):=ak;have X6:(0:Int)≤(k2:Int):=ak;have hwq:IntKind.u8.wrap ((k1:Int)+1)=(k1:Int)+1:=(by rw [IntKind.wrap_u8'];omega);have hwr:IntKind.u8.wrap ((k2:Int)+1)=(k2:Int)+1:=(by rw [IntKind.wrap_u8'];omega);have ha1:(⟨out.toArray⟩++⟨#[92,117,48,48]⟩:ByteArray)=⟨(out++[92,117,48,48]).toArray⟩:=fQ out _;have ha2:(⟨(out++[92,117,48,48]).toArray⟩++⟨#[Tm.gB k1]⟩:ByteArray)=⟨(out++[92,117,48,48]++[Tm.gB k1]).toArray⟩:=fQ _ _;have ha3:(⟨(out++[92,117,48,48]++[Tm.gB k1]).toArray⟩++⟨#[Tm.gB k2]⟩:ByteArray)=⟨(out++[92,117,48,48]++[Tm.gB k1]++[Tm.gB k2]).toArray⟩:=fQ _ _;clear hk1 hk2 HS hnf;rcases hlo with hlo | hlo
         · have b1:decide ((c.toNat:Int)<32)=true:=(by simp;omega);go_wp2;(go_quiet (fail));go_wp2;go_roundw
           (case rel=>exact ⟨i+1,ak,aN,by rw [HF.out] <;> simp [fQ],q0+nq,by rw [HW.out,World.drewN_drewN]⟩);case measure=>simp [intOf];omega
         · have b1:((c.toNat:Int)==127)=true:=beq_iff_eq.2 ak;have h32:32≤c.toNat:=ak;clear hlo;go_wp2;(go_quiet (fail));go_wp2;go_roundw
           (case rel=>exact ⟨i+1,ak,aN,by rw [HF.out] <;> simp [fQ],q0+nq,by rw [HW.out,World.drewN_drewN]⟩);case measure=>simp [intOf];omega
       · have HF:=aj (show Tm.bV (s.take (i+1))=out++[c] by rw [HS.out,MQ c hnf ak]);have b1:((c.toNat:Int)==127)=false:=beq_eq_false_iff_ne.2 ak;have h32:32≤c.toNat:=ak;have ha1:(⟨out.toArray⟩++⟨[c].toArray⟩:ByteArray)=⟨(out++[c]).toArray⟩:=fQ out _;clear HS hnf hlo;go_wp2;go_roundw
         (case rel=>exact ⟨i+1,ak,aN,by rw [HF.out],q0,HW.out⟩);case measure=>simp [intOf];omega
  {obtain rfl:i=s.length:=ak;have HF:=aj (show Tm.bV (s.take s.length)=Tm.bV s by rw [List.take_length]);go_wp2;go_ret;exact ⟨by rw [←HF.out];rfl,q0,rfl⟩}
theorem uw (k:Nat) (t x:List UInt8) (W:World) (hk:1≤k∧k≤5) (ht:t.length≤1000000000) (hx:x.length≤1000000000) :
  Calls prog 63 #[bG (k:Nat) t x] W fun e W'=>e=.returned (aA (Tm.aS k t x))∧Below W.heap.size W W':=by have ES:=aj (fun w=>ZM t w ht);have hle:=Tm.mR t;obtain ⟨z,hz⟩:=aB (Tm.bV t);have HZ:=aj hz;rw [←hz] at ES hle;have hzl:z.length≤6000000000:=ak;clear hz hle;rcases (show k=1∨k=2∨k=3∨k=4∨k=5 by omega) with rfl | rfl | rfl | rfl | rfl;{go_enter func63,ntmps63;go_wp2;go_ret;exact ⟨by simp [Tm.aS,fQ],(Below.refl _ _).alloc aF _⟩};{go_enter func63,ntmps63;go_wp2;go_ret;exact ⟨by simp [Tm.aS,fQ],(Below.refl _ _).alloc aF _⟩};{go_enter func63,ntmps63;(go_wp2_with (go_at_call 107;refine (ES.out _).mono ?_;rintro e w' ⟨rfl,q,rfl⟩));go_ret;exact ⟨by rw [show Tm.aS 3 t x=34::(Tm.bV t++[34]) from rfl,←HZ.out];simp [fQ],bn ((Below.refl _ _).alloc aF _) q⟩};{go_enter func63,ntmps63;(go_wp2_with (go_at_call 107;refine (ES.out _).mono ?_;rintro e w' ⟨rfl,q,rfl⟩));go_ret;exact ⟨by rw [show Tm.aS 4 t x=34::(Tm.bV t++34::64::x) from rfl,←HZ.out];simp [fQ],bn ((Below.refl _ _).alloc aF _) q⟩};{go_enter func63,ntmps63;(go_wp2_with (go_at_call 107;refine (ES.out _).mono ?_;rintro e w' ⟨rfl,q,rfl⟩));go_ret;exact ⟨by rw [show Tm.aS 5 t x=34::(Tm.bV t++34::94::94::60::(x++[62])) from rfl,←HZ.out];simp [fQ],bn ((Below.refl _ _).alloc aF _) q⟩}
theorem Oi (a:List UInt8) (w:World):Calls prog 189 #[aA a] w fun e w'=>e=.returned (.bool false)∧w'=w:=by have h:(a != a)=false:=aI;go_enter func189,ntmps189;go_wp2;go_ret;exact ⟨rfl,rfl⟩
theorem ZN (a b:List UInt8) (w:World):Calls prog 145 #[aA a,aA b] w fun e w'=>e=.returned (.int .i64 (Tm.cmp a b))∧w'=w:=by
 have N1:=aj fun w=>Oi a w;have N2:=aj fun w=>Oi b w;go_enter func145,ntmps145;go_wp2_with fail
 refine (N1.out _).mono ?_;rintro e w' ⟨rfl,rfl⟩;go_wp2_with fail
 refine (N2.out _).mono ?_;rintro e w' ⟨rfl,rfl⟩;rcases (show (Tm.lt a b=true)∨(Tm.lt a b=false∧Tm.lt b a=true)∨(Tm.lt a b=false∧Tm.lt b a=false) by cases Tm.lt a b <;> cases Tm.lt b a <;> simp) with h | ⟨h,h'⟩ | ⟨h,h'⟩;{have HC:=aj (show Tm.cmp a b = -1 by unfold Tm.cmp;rw [h];rfl);go_wp2;go_ret;exact ⟨by rw [HC.out];rfl,rfl⟩};{have HC:=aj (show Tm.cmp a b=1 by unfold Tm.cmp;rw [h,h'];rfl);have he:(a==b)=false:=beq_eq_false_iff_ne.2 (fun e=>by rw [e,Tm.lt_irrefl] at h';cases h');go_wp2;go_ret;exact ⟨by rw [HC.out];rfl,rfl⟩};{have HC:=aj (show Tm.cmp a b=0 by unfold Tm.cmp;rw [h,h'];rfl);have he:(a==b)=true:=beq_iff_eq.2 (Tm.rH h h');go_wp2;go_ret;exact ⟨by rw [HC.out];rfl,rfl⟩}
theorem ZO (p q:Nat) (a1 a2 a3 b1 b2 b3:List UInt8) (w:World) (hp:aC w p [aA a1,aA a2,aA a3] 9) (hq:aC w q [aA b1,aA b2,aA b3] 9) :
  Calls prog 97 #[.slice (some ⟨p,0,none⟩) 3 3,.slice (some ⟨q,0,none⟩) 3 3] w fun e w'=>e=.returned (.int .i64 (Tm.jI a1 a2 a3 b1 b2 b3))∧w'=w:=by
 have C:=aj fun a b w=>ZN a b w;obtain ⟨p0,p1,p2⟩:=bO hp;obtain ⟨q0,q1,q2⟩:=bO hq;obtain ⟨R,hR⟩:=aB (Tm.jI a1 a2 a3 b1 b2 b3);rw [←hR];have HR:=aj (show R=if Tm.cmp a1 b1=0 then (if Tm.cmp a2 b2=0 then Tm.cmp a3 b3 else Tm.cmp a2 b2) else Tm.cmp a1 b1 from hR);have K1:=aj fun w=>C.out a1 b1 w;have K2:=aj fun w=>C.out a2 b2 w;have K3:=aj fun w=>C.out a3 b3 w;obtain ⟨c1,h1⟩:=aB (Tm.cmp a1 b1);obtain ⟨c2,h2⟩:=aB (Tm.cmp a2 b2);obtain ⟨c3,h3⟩:=aB (Tm.cmp a3 b3);rw [←h1] at HR K1;rw [←h2] at HR K2;rw [←h3] at HR K3;clear hp hq hR h1 h2 h3 C;go_enter func97,ntmps97;go_wp2;go_loopg [5,6,7,8,11] 3 (fun gk s5 s6 s7 s8 s11 wr=>wr=w∧∃ z:Int,s11=.int .i64 z∧((z=0∧3≤gk)∨(z=1∧2≤gk∧Hid (c1=0))∨(z=2∧1≤gk∧Hid (c1=0∧c2=0))∨(z=3∧Hid (c1=0∧c2=0∧c3=0))))
 case atStart=>exact ⟨rfl,0,rfl,.inl ⟨rfl,Nat.le_refl _⟩⟩
 case round=>
  obtain ⟨rfl,z,rfl,hz⟩:=hrel;rcases hz with ⟨rfl,yY⟩ | ⟨rfl,yY,H⟩ | ⟨rfl,yY,H⟩ | ⟨rfl,H⟩
  · by_cases h:c1=0
    · have hb:(c1==0)=true:=beq_iff_eq.2 h;(go_wp2_with fail);refine (K1.out _).mono ?_;rintro e w' ⟨rfl,rfl⟩;go_wp2;go_roundg 2
      (case measure=>omega);case rel=>exact ⟨rfl,1,rfl,.inr (.inl ⟨rfl,Nat.le_refl _,aj h⟩)⟩
    {have hb:(c1==0)=false:=beq_eq_false_iff_ne.2 h;have HF:=aj (show R=c1 by rw [HR.out,if_neg h]);(go_wp2_with fail);refine (K1.out _).mono ?_;rintro e w' ⟨rfl,rfl⟩;go_wp2;go_ret;exact ⟨by rw [HF.out];rfl,rfl⟩}
  · by_cases h:c2=0
    · have hb:(c2==0)=true:=beq_iff_eq.2 h;(go_wp2_with fail);refine (K2.out _).mono ?_;rintro e w' ⟨rfl,rfl⟩;go_wp2;go_roundg 1
      (case measure=>omega);case rel=>exact ⟨rfl,2,rfl,.inr (.inr (.inl ⟨rfl,Nat.le_refl _,aj ⟨H.out,h⟩⟩))⟩
    {have hb:(c2==0)=false:=beq_eq_false_iff_ne.2 h;have HF:=aj (show R=c2 by rw [HR.out,if_pos H.out,if_neg h]);(go_wp2_with fail);refine (K2.out _).mono ?_;rintro e w' ⟨rfl,rfl⟩;go_wp2;go_ret;exact ⟨by rw [HF.out];rfl,rfl⟩}
  · by_cases h:c3=0
    · have hb:(c3==0)=true:=beq_iff_eq.2 h;(go_wp2_with fail);refine (K3.out _).mono ?_;rintro e w' ⟨rfl,rfl⟩;go_wp2;go_roundg 0
      (case measure=>omega);case rel=>exact ⟨rfl,3,rfl,.inr (.inr (.inr ⟨rfl,aj ⟨H.out.1,H.out.2,h⟩⟩))⟩
    {have hb:(c3==0)=false:=beq_eq_false_iff_ne.2 h;have HF:=aj (show R=c3 by rw [HR.out,if_pos H.out.1,if_pos H.out.2]);(go_wp2_with fail);refine (K3.out _).mono ?_;rintro e w' ⟨rfl,rfl⟩;go_wp2;go_ret;exact ⟨by rw [HF.out];rfl,rfl⟩}
  {have HF:=aj (show R=0 by rw [HR.out,if_pos H.out.1,if_pos H.out.2.1];exact H.out.2.2);go_wp2;go_ret;exact ⟨by rw [HF.out];rfl,rfl⟩}
theorem ZP (w:World) (k1:Int) (t1 x1:List UInt8) (k2:Int) (t2 x2:List UInt8) (k3:Int) (t3 x3:List UInt8) (l1:Int) (u1 y1:List UInt8) (l2:Int) (u2 y2:List UInt8) (l3:Int) (u3 y3:List UInt8):∃ W,W=aW (aW w k1 t1 x1 k2 t2 x2 k3 t3 x3) l1 u1 y1 l2 u2 y2 l3 u3 y3∧aC W w.heap.size [.int .i64 k1,aA t1,aA x1,.int .i64 k2,aA t2,aA x2,.int .i64 k3,aA t3,aA x3] 67∧aC W (w.heap.size+1) [.int .i64 l1,aA u1,aA y1,.int .i64 l2,aA u2,aA y2,.int .i64 l3,aA u3,aA y3] 67∧Below w.heap.size w W:=
 ⟨_,rfl,(f_ w _ _ _ _ _ _ _ _ _).alloc _,aC.new' (by unfold aW;simp) rfl,((Below.refl _ _).alloc aF _).alloc aI _⟩
theorem wu {w:World} {P:Program} {ops:Array Oper} {o:Oper} {a:Act} {K:Act→World→Prop} {Q:Exit→Act→World→Prop} {E:Prop} (hgd:o.guard=none) (s x:Operand) (t:TypeId)
  (ho:o.op=.call { callee:=.builtin .append,args:=#[s,x],argTypes:=#[t,t] })
  (base:Nat) (e:TypeId) (i:TypeInfo) (z:Value) (size bytes:Nat) (ht:P.underlying t=some (.slice e)) (hi:P.info? e=some i) (hz:i.zero=some z)
  (hsize:i.size=size) (hby:i.bytes=bytes) (hzs:z.cells.size=size) (hsz:0<size)
  (v:Value) (n:Nat) (xs:List Value) (hs:a.eval s=v) (hown:w.ownsRow base e size v n xs)
  (ad:Addr) (m c:Nat) (us:List Value) (hm:us.length=m*size) (hx:a.eval x=.slice (some ad) m c) (hc:∀ j u,us[j]?=some u→w.cell? (ad.add j)=some u) (h1:∀ u∈us,u.oneCell'=true)
  (h63:n+m≤maxLen) (hbytes:(n+m)*bytes≤140737488355328) (hbase:base≤w.heap.size)
  (h:∀ v' w',w'.ownsRow base e size v' (n+m) (xs++us)→w.grownBy w' v.ownBlock→Moved w v v'→K (a.put o.dst v') w') :
  if Region.wanted o (yielded ops a.tmps)=true then Oper.wp P o a w K Q else E:=by
 have hwd:Region.wanted o (yielded ops a.tmps)=true:=by simp [Region.wanted,hgd]
 rw [if_pos hwd];obtain ⟨v',w',hr,h2,h3,h4⟩:=yc (P:=P) (w:=w) base t o.type e i z size bytes ht hi hz hsize hby hzs hsz v n xs hown ad m c us hm hc h1 h63 hbytes hbase;have hk:=h v' w' h2 h3 h4;unfold Oper.wp execOp;simp only [ho,resolve,invoke,builtin,Sem.run_bind,Sem.run_pure,Result.andThen_ok,List.map_toArray,List.map_cons,List.map_nil,hs,hx,hr];exact hk
end Go.Proofs.YtjaebndajhppgaaGreatDoor
