/- lines.shows: the three Shows of a triple. -/
import Derived.Test.YtemkbmhcohijnaaGreatDoorPrIs
import Derived.Test.YtemkbmhcohijnaaGreatDoorTmShow2
namespace Go.Proofs.YtemkbmhcohijnaaGreatDoor
set_option linter.unusedVariables false
set_option linter.unusedSimpArgs false
set_option maxRecDepth 100000
open Go.ChangeShapes Go.WideShapes Go.ChangeAt Go.RowKit
/-- What shows leaves: a slice of three texts. -/
def ShowsPost (w : World) (a1 a2 a3 : List UInt8) (e : Ending) (w' : World) : Prop :=
  ∃ b, e = .returned (.slice (some ⟨b, 0, none⟩) 3 3) ∧ w.heap.size ≤ b ∧ Blk w' b [str a1, str a2, str a3] 9 ∧ Below w.heap.size w w'
set_option maxHeartbeats 2000000 in
theorem shows_any (k1 : Int) (t1 x1 : List UInt8) (k2 : Int) (t2 x2 : List UInt8) (k3 : Int) (t3 x3 : List UInt8) (w : World) (ht1 : t1.length ≤ 1000000000) (hx1 : x1.length ≤ 1000000000) (ht2 : t2.length ≤ 1000000000) (hx2 : x2.length ≤ 1000000000) (ht3 : t3.length ≤ 1000000000) (hx3 : x3.length ≤ 1000000000) :
    Calls Tryz.prog 24 #[triV k1 t1 x1 k2 t2 x2 k3 t3 x3] w (ShowsPost w (Tm.show k1 t1 x1) (Tm.show k2 t2 x2) (Tm.show k3 t3 x3)) := by
  have HB := hid (show Below w.heap.size w (new9 w k1 t1 x1 k2 t2 x2 k3 t3 x3) from (Below.refl _ _).alloc (Nat.le_refl _) _)
  have HU := hid (new9_new w k1 t1 x1 k2 t2 x2 k3 t3 x3)
  have S1 := hid (fun W => tshow_any k1 t1 x1 W ht1 hx1)
  have S2 := hid (fun W => tshow_any k2 t2 x2 W ht2 hx2)
  have S3 := hid (fun W => tshow_any k3 t3 x3 W ht3 hx3)
  obtain ⟨a1, h1⟩ : ∃ a, a = Tm.show k1 t1 x1 := ⟨_, rfl⟩
  obtain ⟨a2, h2⟩ : ∃ a, a = Tm.show k2 t2 x2 := ⟨_, rfl⟩
  obtain ⟨a3, h3⟩ : ∃ a, a = Tm.show k3 t3 x3 := ⟨_, rfl⟩
  rw [← h1, ← h2, ← h3]
  rw [← h1] at S1
  rw [← h2] at S2
  rw [← h3] at S3
  clear h1 h2 h3
  go_enter Tryz.func24, Tryz.ntmps24
  go_wp2
  obtain ⟨w1, hw1⟩ : ∃ w1, w1 = new9 w k1 t1 x1 k2 t2 x2 k3 t3 x3 := ⟨_, rfl⟩
  show Code.wp _ _ _ _ (new9 w k1 t1 x1 k2 t2 x2 k3 t3 x3)
  rw [← hw1] at HB HU ⊢
  clear hw1
  have kc0 := fun p : Later w1.heap.size w1 => p.keep (HU.out.cell (i := 0) rfl)
  have kc1 := fun p : Later w1.heap.size w1 => p.keep (HU.out.cell (i := 1) rfl)
  have kc2 := fun p : Later w1.heap.size w1 => p.keep (HU.out.cell (i := 2) rfl)
  have kc3 := fun p : Later w1.heap.size w1 => p.keep (HU.out.cell (i := 3) rfl)
  have kc4 := fun p : Later w1.heap.size w1 => p.keep (HU.out.cell (i := 4) rfl)
  have kc5 := fun p : Later w1.heap.size w1 => p.keep (HU.out.cell (i := 5) rfl)
  have kc6 := fun p : Later w1.heap.size w1 => p.keep (HU.out.cell (i := 6) rfl)
  have kc7 := fun p : Later w1.heap.size w1 => p.keep (HU.out.cell (i := 7) rfl)
  have kc8 := fun p : Later w1.heap.size w1 => p.keep (HU.out.cell (i := 8) rfl)
  refine wp_region_later_tail 9 w1.heap.size (by kernel_rfl) (by kernel_rfl) ?_
  simp only [List.take_succ_cons, List.take_zero, List.drop_succ_cons, List.drop_zero]
  repeat (go_big_quiet_step (first | (go_at_call 39; with_reducible exact Later.call (Nat.le_refl _) (S1.out _)) | (go_at_call 39; with_reducible exact Later.call (Nat.le_refl _) (S2.out _)) | (go_at_call 39; with_reducible exact Later.call (Nat.le_refl _) (S3.out _))))
  refine wpQuiet_nil ?_
  rintro wq ⟨q, hq⟩
  have hlow : Below w1.heap.size w1 wq := by rw [hq]; exact q.low
  have HBq := hid (below_then HB.out hlow)
  clear kc0 kc1 kc2 kc3 kc4 kc5 kc6 kc7 kc8 hq q hlow
  go_wp2
  go_ret
  exact ⟨wq.heap.size, rfl, HBq.out.size, Blk.new' rfl rfl, HBq.out.alloc HBq.out.size _⟩
end Go.Proofs.YtemkbmhcohijnaaGreatDoor
