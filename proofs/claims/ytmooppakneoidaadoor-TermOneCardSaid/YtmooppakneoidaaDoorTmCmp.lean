/- term's Cmp. -/
import Derived.Test.YtmooppakneoidaaDoorTmShow2
namespace Go.Proofs.YtmooppakneoidaaDoor
set_option linter.unusedVariables false
set_option linter.unusedSimpArgs false
set_option maxRecDepth 100000
open Go.ChangeShapes Go.WideShapes Go.ChangeAt Go.RowKit

theorem scmp_any (a b : List UInt8) (w : World) : Calls Tryd.prog 28 #[str a, str b] w fun e w' => e = .returned (.int .i64 (Tm.cmp a b)) ∧ w = w' := by
  refine (Tryd.strings_Compare ⟨a.toArray⟩ ⟨b.toArray⟩ w).mono ?_
  rintro e w' ⟨he, hw⟩
  exact ⟨by rw [he, Tm.cmp_lib], hw.symm⟩
set_option maxHeartbeats 2000000 in
theorem tcmp_any (k k2 : Int) (t x t2 x2 : List UInt8) (W : World) (ht : t.length ≤ 1000000000) (hx : x.length ≤ 1000000000) (ht2 : t2.length ≤ 1000000000) (hx2 : x2.length ≤ 1000000000) :
    Calls Tryd.prog 14 #[tmV k t x, tmV k2 t2 x2] W fun e W' => e = .returned (.int .i64 (Tm.cmp (Tm.show k t x) (Tm.show k2 t2 x2))) ∧ Below W.heap.size W W' := by
  have S1 := hid (fun W => tshow_any k t x W ht hx)
  have S2 := hid (fun W => tshow_any k2 t2 x2 W ht2 hx2)
  obtain ⟨a, ha⟩ : ∃ a, a = Tm.show k t x := ⟨_, rfl⟩
  obtain ⟨b, hb⟩ : ∃ b, b = Tm.show k2 t2 x2 := ⟨_, rfl⟩
  rw [← ha] at S1 ⊢
  rw [← hb] at S2 ⊢
  clear ha hb
  go_enter Tryd.func14, Tryd.ntmps14
  go_wp2
  obtain ⟨w2, hw2⟩ : ∃ w2, w2 = ((W.alloc (.cells #[.int .i64 k, str t, str x] 23)).alloc (.cells #[.int .i64 k2, str t2, str x2] 23)) := ⟨_, rfl⟩
  have HB := hid (show Below W.heap.size W w2 by rw [hw2]; exact ((Below.refl W.heap.size W).alloc (Nat.le_refl _) _).alloc (by simp) _)
  have hb1 := ((Below.refl (W.alloc (.cells #[.int .i64 k, str t, str x] 23)).heap.size (W.alloc (.cells #[.int .i64 k, str t, str x] 23))).alloc (Nat.le_refl _) (.cells #[.int .i64 k2, str t2, str x2] 23))
  rw [← hw2] at hb1 ⊢
  obtain ⟨c0, c1, c2, _⟩ := tm_cells hb1
  have d0 : w2.cell? ⟨W.heap.size + 1, 0, none⟩ = some (.int .i64 k2) := by
    have := cell_new (W.alloc (.cells #[.int .i64 k, str t, str x] 23)) #[.int .i64 k2, str t2, str x2] 23 (0, 0) 0
    rw [← hw2] at this; simpa using this
  have d1 : w2.cell? ⟨W.heap.size + 1, 1, none⟩ = some (str t2) := by
    have := cell_new (W.alloc (.cells #[.int .i64 k, str t, str x] 23)) #[.int .i64 k2, str t2, str x2] 23 (0, 0) 1
    rw [← hw2] at this; simpa using this
  have d2 : w2.cell? ⟨W.heap.size + 1, 2, none⟩ = some (str x2) := by
    have := cell_new (W.alloc (.cells #[.int .i64 k, str t, str x] 23)) #[.int .i64 k2, str t2, str x2] 23 (0, 0) 2
    rw [← hw2] at this; simpa using this
  clear hw2 hb1
  have kc0 := fun p : Later w2.heap.size w2 => p.keep c0
  have kc1 := fun p : Later w2.heap.size w2 => p.keep c1
  have kc2 := fun p : Later w2.heap.size w2 => p.keep c2
  have kd0 := fun p : Later w2.heap.size w2 => p.keep d0
  have kd1 := fun p : Later w2.heap.size w2 => p.keep d1
  have kd2 := fun p : Later w2.heap.size w2 => p.keep d2
  clear c0 c1 c2 d0 d1 d2
  refine wp_region_later w2.heap.size (by kernel_rfl) (by kernel_rfl) ?_
  repeat (go_big_quiet_step (first
    | (go_at_call 28; exact Later.call_same ((scmp_any _ _ _).mono fun _ _ h => ⟨h.1, h.2.symm⟩))
    | (go_at_call 12; with_reducible exact Later.call (Nat.le_refl _) (S1.out _))
    | (go_at_call 12; with_reducible exact Later.call (Nat.le_refl _) (S2.out _))))
  refine wpQuiet_nil ?_
  rintro _ ⟨p, rfl⟩
  have HP := hid (below_then HB.out p.low)
  clear kc0 kc1 kc2 kd0 kd1 kd2
  go_wp2
  go_ret
  exact ⟨rfl, HP.out⟩
end Go.Proofs.YtmooppakneoidaaDoor
