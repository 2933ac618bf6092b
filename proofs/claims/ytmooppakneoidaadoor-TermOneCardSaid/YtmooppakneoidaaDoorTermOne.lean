/- TermOne: of two terms that may be the texts are one just if they are; a text is read as its term, for every input. -/
import Derived.Test.YtmooppakneoidaaDoorTmLaid
import Derived.Test.YtmooppakneoidaaDoorTmRIs
import Derived.Test.YtmooppakneoidaaDoorLnTermF
import Derived.Test.YtmooppakneoidaaDoorTmOk
import Derived.Test.YtmooppakneoidaaDoorTmCmp
namespace Go.Proofs.YtmooppakneoidaaDoor
set_option linter.unusedVariables false
set_option linter.unusedSimpArgs false
set_option maxRecDepth 100000
open Go.ChangeShapes Go.WideShapes Go.ChangeAt Go.RowKit

/-- Of n terms in a row none, or one, is long. -/
theorem long_no (b n : Nat) (T X : Nat → List UInt8) (w : World) (hn : n ≤ 1000) (hc : ∀ i, i < n → w.cell? ⟨b, i * 3 + 1, none⟩ = some (str (T i)) ∧ w.cell? ⟨b, i * 3 + 2, none⟩ = some (str (X i))) (h : ∀ i, i < n → (T i).length ≤ 300 ∧ (X i).length ≤ 300) :
    Calls Tryd.prog 10 #[.slice (some ⟨b, 0, none⟩) n n] w fun e w' => e = .returned (.bool false) ∧ w = w' := by
  have HC := hid hc
  have H := hid h
  clear hc h
  go_enter Tryd.func10, Tryd.ntmps10
  go_wp2
  go_loop [3] (fun s3 => ∃ i : Nat, i ≤ n ∧ s3 = .int .i64 i) (fun s3 => n - (intOf s3).toNat)
  case atStart => exact ⟨0, by omega, rfl⟩
  case round =>
    obtain ⟨i, hi, rfl⟩ := hrel
    by_cases hlt : i < n
    · obtain ⟨c1, c2⟩ := HC.out i hlt
      obtain ⟨h1, h2⟩ := H.out i hlt
      obtain ⟨t, ht⟩ : ∃ t, t = T i := ⟨_, rfl⟩
      obtain ⟨x, hx⟩ : ∃ x, x = X i := ⟨_, rfl⟩
      rw [← ht] at c1 h1
      rw [← hx] at c2 h2
      clear ht hx
      go_wp2
      go_round
      case rel => exact ⟨i + 1, by omega, by go_num⟩
      case measure => simp [intOf]; omega
    · obtain rfl : i = n := by omega
      go_wp2
      go_ret
      exact ⟨rfl, rfl⟩
theorem long_yes (b n k : Nat) (T X : Nat → List UInt8) (w : World) (hn : n ≤ 1000) (hk : k < n) (hc : ∀ i, i < n → w.cell? ⟨b, i * 3 + 1, none⟩ = some (str (T i)) ∧ w.cell? ⟨b, i * 3 + 2, none⟩ = some (str (X i))) (h : ∀ i, i < k → (T i).length ≤ 300 ∧ (X i).length ≤ 300) (hl : (T k).length ≤ 9223372036854775807 ∧ (X k).length ≤ 9223372036854775807) (hy : 300 < (T k).length ∨ 300 < (X k).length) :
    Calls Tryd.prog 10 #[.slice (some ⟨b, 0, none⟩) n n] w fun e w' => e = .returned (.bool true) ∧ w = w' := by
  have HC := hid hc
  have H := hid h
  clear hc h
  go_enter Tryd.func10, Tryd.ntmps10
  go_wp2
  go_loop [3] (fun s3 => ∃ i : Nat, i ≤ k ∧ s3 = .int .i64 i) (fun s3 => k - (intOf s3).toNat)
  case atStart => exact ⟨0, by omega, rfl⟩
  case round =>
    obtain ⟨i, hi, rfl⟩ := hrel
    have hin : i < n := by omega
    by_cases hlt : i < k
    · obtain ⟨c1, c2⟩ := HC.out i hin
      obtain ⟨h1, h2⟩ := H.out i hlt
      obtain ⟨t, ht⟩ : ∃ t, t = T i := ⟨_, rfl⟩
      obtain ⟨x, hx⟩ : ∃ x, x = X i := ⟨_, rfl⟩
      rw [← ht] at c1 h1
      rw [← hx] at c2 h2
      clear ht hx
      go_wp2
      go_round
      case rel => exact ⟨i + 1, by omega, by go_num⟩
      case measure => simp [intOf]; omega
    · obtain rfl : i = k := by omega
      obtain ⟨c1, c2⟩ := HC.out i hin
      obtain ⟨l1, l2⟩ := hl
      obtain ⟨t, ht⟩ : ∃ t, t = T i := ⟨_, rfl⟩
      obtain ⟨x, hx⟩ : ∃ x, x = X i := ⟨_, rfl⟩
      rw [← ht] at c1 hy l1
      rw [← hx] at c2 hy l2
      clear ht hx
      by_cases h1 : 300 < t.length
      · clear hy
        go_wp2
        go_ret
        exact ⟨rfl, rfl⟩
      · have h2 : 300 < x.length := by omega
        clear hy
        go_wp2
        go_ret
        exact ⟨rfl, rfl⟩
def two (a b : List UInt8) (i : Nat) : List UInt8 := if i = 0 then a else b
theorem two_cells (w : World) (k k2 : Int) (t x u y : List UInt8) (i : Nat) (hi : i < 2) :
    (w.alloc (.cells #[.int .i64 k, str t, str x, .int .i64 k2, str u, str y] 23)).cell? ⟨w.heap.size, i * 3 + 1, none⟩ = some (str (two t u i)) ∧ (w.alloc (.cells #[.int .i64 k, str t, str x, .int .i64 k2, str u, str y] 23)).cell? ⟨w.heap.size, i * 3 + 2, none⟩ = some (str (two x y i)) := by
  rw [cell_new, cell_new]
  rcases (show i = 0 ∨ i = 1 by omega) with rfl | rfl <;> exact ⟨rfl, rfl⟩
theorem one_long (k k2 : Int) (t x u y : List UInt8) (W : World) (h1 : t.length ≤ 9223372036854775807) (h2 : x.length ≤ 9223372036854775807) (h3 : u.length ≤ 9223372036854775807) (h4 : y.length ≤ 9223372036854775807)
    (h : 300 < t.length ∨ 300 < x.length ∨ 300 < u.length ∨ 300 < y.length) :
    Calls Tryd.prog 3 #[tmV k t x, tmV k2 u y] W fun e W' => e = .returned (.bool true) ∧ Below W.heap.size W W' := by
  have LG : Hid (∀ w : World, Calls Tryd.prog 10 #[.slice (some ⟨w.heap.size, 0, none⟩) 2 2] (w.alloc (.cells #[.int .i64 k, str t, str x, .int .i64 k2, str u, str y] 23)) fun e w' => e = .returned (.bool true) ∧ (w.alloc (.cells #[.int .i64 k, str t, str x, .int .i64 k2, str u, str y] 23)) = w') := fun w => by
    by_cases ha : 300 < t.length ∨ 300 < x.length
    · exact long_yes w.heap.size 2 0 (two t u) (two x y) _ (by omega) (by omega) (fun i hi => two_cells w k k2 t x u y i hi) (fun i hi => by omega) ⟨h1, h2⟩ ha
    · refine long_yes w.heap.size 2 1 (two t u) (two x y) _ (by omega) (by omega) (fun i hi => two_cells w k k2 t x u y i hi) (fun i hi => ?_) ⟨h3, h4⟩ ?_
      · obtain rfl : i = 0 := by omega
        exact ⟨show t.length ≤ 300 by omega, show x.length ≤ 300 by omega⟩
      · show 300 < u.length ∨ 300 < y.length
        omega
  clear h h1 h2 h3 h4
  have hsz : ((W.alloc (.cells #[.int .i64 k, str t, str x] 23)).alloc (.cells #[.int .i64 k2, str u, str y] 23)).heap.size = W.heap.size + 1 + 1 := by simp
  go_enter Tryd.func3, Tryd.ntmps3
  go_wp2_with fail
  rw [← hsz]
  refine (LG.out _).mono ?_
  rintro e w' ⟨rfl, rfl⟩
  have HB := hid ((((Below.refl W.heap.size W).alloc (Nat.le_refl _) (.cells #[.int .i64 k, str t, str x] 23)).alloc (by simp) (.cells #[.int .i64 k2, str u, str y] 23)).alloc (by simp; omega) (.cells #[.int .i64 k, str t, str x, .int .i64 k2, str u, str y] 23))
  go_wp2
  go_ret
  exact ⟨rfl, HB.out⟩
/-- The two boxes, and the row of both behind them. -/
theorem one_boxes (W : World) (k k2 : Int) (t x u y : List UInt8) : ∃ w3, w3 = ((W.alloc (.cells #[.int .i64 k, str t, str x] 23)).alloc (.cells #[.int .i64 k2, str u, str y] 23)).alloc (.cells #[.int .i64 k, str t, str x, .int .i64 k2, str u, str y] 23) ∧
    Hid (Blk w3 W.heap.size [.int .i64 k, str t, str x] 23) ∧ Hid (Blk w3 (W.heap.size + 1) [.int .i64 k2, str u, str y] 23) ∧ Hid (Below W.heap.size W w3) := by
  refine ⟨_, rfl, ?_, ?_, ?_⟩
  · exact ((Blk.new W [.int .i64 k, str t, str x] 23).alloc _).alloc _
  · exact (Blk.new' (w := W.alloc (.cells #[.int .i64 k, str t, str x] 23)) (by simp) rfl).alloc _
  · exact (((Below.refl W.heap.size W).alloc (Nat.le_refl _) _).alloc (by simp) _).alloc (by simp; omega) _
theorem one_not (k k2 : Int) (t x u y : List UInt8) (W : World) (hV : Vars W) (h : t.length ≤ 300 ∧ x.length ≤ 300 ∧ u.length ≤ 300 ∧ y.length ≤ 300) (hi : Tm.is k t x = false ∨ (Tm.is k t x = true ∧ Tm.is k2 u y = false)) :
    Calls Tryd.prog 3 #[tmV k t x, tmV k2 u y] W fun e W' => e = .returned (.bool true) ∧ Below W.heap.size W W' := by
  have LG : Hid (∀ w : World, Calls Tryd.prog 10 #[.slice (some ⟨w.heap.size, 0, none⟩) 2 2] (w.alloc (.cells #[.int .i64 k, str t, str x, .int .i64 k2, str u, str y] 23)) fun e w' => e = .returned (.bool false) ∧ (w.alloc (.cells #[.int .i64 k, str t, str x, .int .i64 k2, str u, str y] 23)) = w') := fun w => by
    refine long_no w.heap.size 2 (two t u) (two x y) _ (by omega) (fun i hi => two_cells w k k2 t x u y i hi) (fun i hi => ?_)
    rcases (show i = 0 ∨ i = 1 by omega) with rfl | rfl
    · exact ⟨h.1, h.2.1⟩
    · exact ⟨h.2.2.1, h.2.2.2⟩
  have HV := hid hV
  have I1 := hid (fun w h => ris_any k t x w (by omega) (by omega) h)
  have I2 := hid (fun w h => ris_any k2 u y w (by omega) (by omega) h)
  have hsz : ((W.alloc (.cells #[.int .i64 k, str t, str x] 23)).alloc (.cells #[.int .i64 k2, str u, str y] 23)).heap.size = W.heap.size + 1 + 1 := by simp
  obtain ⟨w3, hw3, HA, HB, HC⟩ := one_boxes W k k2 t x u y
  clear h hV
  rcases hi with hi | ⟨hi, hj⟩
  · rw [hi] at I1
    clear hi
    go_enter Tryd.func3, Tryd.ntmps3
    go_wp2_with fail
    rw [← hsz]
    refine (LG.out _).mono ?_
    rintro e w' ⟨rfl, rfl⟩
    rw [← hw3]
    clear hw3 hsz LG
    have a0 := HA.out.cell (i := 0) rfl
    have a1 := HA.out.cell (i := 1) rfl
    have a2 := HA.out.cell (i := 2) rfl
    go_wp2_with fail
    refine (I1.out _ (HV.out.keep HC.out)).mono ?_
    rintro e w4 ⟨rfl, hb⟩
    have HD := hid (below_then HC.out hb)
    clear hb a0 a1 a2
    go_wp2
    go_ret
    exact ⟨rfl, HD.out⟩
  · rw [hi] at I1
    rw [hj] at I2
    clear hi hj
    go_enter Tryd.func3, Tryd.ntmps3
    go_wp2_with fail
    rw [← hsz]
    refine (LG.out _).mono ?_
    rintro e w' ⟨rfl, rfl⟩
    rw [← hw3]
    clear hw3 hsz LG
    have a0 := HA.out.cell (i := 0) rfl
    have a1 := HA.out.cell (i := 1) rfl
    have a2 := HA.out.cell (i := 2) rfl
    go_wp2_with fail
    refine (I1.out _ (HV.out.keep HC.out)).mono ?_
    rintro e w4 ⟨rfl, hb⟩
    have HD := hid (below_then HC.out hb)
    have b0 := (HB.out.keep hb).cell (i := 0) rfl
    have b1 := (HB.out.keep hb).cell (i := 1) rfl
    have b2 := (HB.out.keep hb).cell (i := 2) rfl
    clear hb a0 a1 a2
    go_wp2_with fail
    refine (I2.out _ (HV.out.keep HD.out)).mono ?_
    rintro e w5 ⟨rfl, hb⟩
    have HE := hid (below_then HD.out hb)
    clear hb b0 b1 b2
    go_wp2
    go_ret
    exact ⟨rfl, HE.out⟩
theorem eq_term (k k2 : Int) (t x u y : List UInt8) (w : World) : (binOp .eql 23 (tmV k t x) (tmV k2 u y)).run Tryd.prog w = .ok (.bool (decide (k = k2 ∧ t = u ∧ x = y))) w := by
  by_cases h1 : k = k2 <;> by_cases h2 : t = u <;> by_cases h3 : x = y
  all_goals
    simp [go_sem, h1, h2, h3]
    done
theorem one_yes (n m : Nat) (t x u y : List UInt8) (W : World) (hV : Vars W) (hi : Tm.is (n : Int) t x = true) (hj : Tm.is (m : Int) u y = true) :
    Calls Tryd.prog 3 #[tmV (n : Int) t x, tmV (m : Int) u y] W fun e W' => e = .returned (.bool true) ∧ Below W.heap.size W W' := by
  have hln := Tm.show_len hi
  have hlm := Tm.show_len hj
  have LG : Hid (∀ w : World, Calls Tryd.prog 10 #[.slice (some ⟨w.heap.size, 0, none⟩) 2 2] (w.alloc (.cells #[.int .i64 (n : Int), str t, str x, .int .i64 (m : Int), str u, str y] 23)) fun e w' => e = .returned (.bool false) ∧ (w.alloc (.cells #[.int .i64 (n : Int), str t, str x, .int .i64 (m : Int), str u, str y] 23)) = w') := fun w => by
    refine long_no w.heap.size 2 (two t u) (two x y) _ (by omega) (fun i hi => two_cells w n m t x u y i hi) (fun i hi => ?_)
    rcases (show i = 0 ∨ i = 1 by omega) with rfl | rfl
    · exact ⟨show t.length ≤ 300 by omega, show x.length ≤ 300 by omega⟩
    · exact ⟨show u.length ≤ 300 by omega, show y.length ≤ 300 by omega⟩
  have HV := hid hV
  have I1 := hid (fun w h => ris_any n t x w (by omega) (by omega) h)
  rw [hi] at I1
  have I2 := hid (fun w h => ris_any m u y w (by omega) (by omega) h)
  rw [hj] at I2
  obtain ⟨_, hnn, hn1, hn5⟩ := Tm.is_kind hi
  obtain ⟨_, hmm, hm1, hm5⟩ := Tm.is_kind hj
  have SA := hid (fun w => tshow_any (n : Int) t x w (by omega) (by omega))
  rw [Tm.show_some (by omega)] at SA
  have SB := hid (fun w => tshow_any (m : Int) u y w (by omega) (by omega))
  rw [Tm.show_some (by omega)] at SB
  have CM := hid (fun w => tcmp_any (n : Int) (m : Int) t x u y w (by omega) (by omega) (by omega) (by omega))
  rw [Tm.show_some (by omega), Tm.show_some (by omega)] at CM
  have hrb : Tm.rtermB (Tm.showT n t x) = some (n, t, x, []) := by
    unfold Tm.rtermB
    rw [Tm.show_read hi]
    simp only
    rw [if_pos hi]; rfl
  have TF := hid (fun w h => rtermf_ok (Tm.showT n t x) t x n w h (by omega) (Tm.show_valid hi) hrb (by omega) rfl (by omega) (by omega))
  have KN := hid (fun w h => known_any w h)
  have hinj := Tm.show_inj hi hj
  have hcz := Tm.cmp_zero (a := Tm.showT n t x) (b := Tm.showT m u y)
  have E1 := fun w => eq_term (n : Int) (m : Int) t x u y w
  have E2 := fun w => eq_term (n : Int) (n : Int) t x t x w
  rw [decide_eq_true (show (n : Int) = (n : Int) ∧ t = t ∧ x = x from ⟨rfl, rfl, rfl⟩)] at E2
  obtain ⟨b, hb⟩ : ∃ b, b = decide ((n : Int) = (m : Int) ∧ t = u ∧ x = y) := ⟨_, rfl⟩
  rw [← hb] at E1
  obtain ⟨X, hX⟩ : ∃ X, X = Tm.showT n t x := ⟨_, rfl⟩
  obtain ⟨Y, hY⟩ : ∃ Y, Y = Tm.showT m u y := ⟨_, rfl⟩
  rw [← hX] at SA CM TF hinj hcz hln
  rw [← hY] at SB CM hinj hcz hlm
  obtain ⟨c, hc⟩ : ∃ c, c = Tm.cmp X Y := ⟨_, rfl⟩
  rw [← hc] at CM hcz
  have hS : (X == Y) = b := by rw [hb, Bool.eq_iff_iff, beq_iff_eq, hinj, decide_eq_true_iff]; exact ⟨fun h => ⟨by omega, h.2⟩, fun h => ⟨by omega, h.2⟩⟩
  have hC : (c == 0) = b := by rw [hb, Bool.eq_iff_iff, beq_iff_eq, hcz, hinj, decide_eq_true_iff]; exact ⟨fun h => ⟨by omega, h.2⟩, fun h => ⟨by omega, h.2⟩⟩
  have hXl : (X.length : Int) ≤ 250 := by omega
  have hsz : ((W.alloc (.cells #[.int .i64 (n : Int), str t, str x] 23)).alloc (.cells #[.int .i64 (m : Int), str u, str y] 23)).heap.size = W.heap.size + 1 + 1 := by simp
  obtain ⟨w3, hw3, HA, HB, HC⟩ := one_boxes W n m t x u y
  have hE1 := hid E1
  have hE2 := hid E2
  clear hV hi hj hrb hinj hcz hln hlm hX hY hc hnn hmm hb E1 E2
  cases b
  all_goals
    go_enter Tryd.func3, Tryd.ntmps3
    go_wp2_with fail
    rw [← hsz]
    refine (LG.out _).mono ?_
    rintro e w' ⟨rfl, rfl⟩
    rw [← hw3]
    clear hw3 hsz LG
    have a0 := HA.out.cell (i := 0) rfl
    have a1 := HA.out.cell (i := 1) rfl
    have a2 := HA.out.cell (i := 2) rfl
    go_wp2_with fail
    refine (I1.out _ (HV.out.keep HC.out)).mono ?_
    rintro e w4 ⟨rfl, hb⟩
    have HD := hid (below_then HC.out hb)
    have HA4 := hid (HA.out.keep hb)
    have HB4 := hid (HB.out.keep hb)
    have b0 := HB4.out.cell (i := 0) rfl
    have b1 := HB4.out.cell (i := 1) rfl
    have b2 := HB4.out.cell (i := 2) rfl
    clear hb a0 a1 a2
    go_wp2_with fail
    refine (I2.out _ (HV.out.keep HD.out)).mono ?_
    rintro e w5 ⟨rfl, hb⟩
    have HE := hid (below_then HD.out hb)
    have HA5 := hid (HA4.out.keep hb)
    have HB5 := hid (HB4.out.keep hb)
    clear hb b0 b1 b2
    have ka0 := fun q : Later w5.heap.size w5 => q.keep (HA5.out.cell (i := 0) rfl)
    have ka1 := fun q : Later w5.heap.size w5 => q.keep (HA5.out.cell (i := 1) rfl)
    have ka2 := fun q : Later w5.heap.size w5 => q.keep (HA5.out.cell (i := 2) rfl)
    have kb0 := fun q : Later w5.heap.size w5 => q.keep (HB5.out.cell (i := 0) rfl)
    have kb1 := fun q : Later w5.heap.size w5 => q.keep (HB5.out.cell (i := 1) rfl)
    have kb2 := fun q : Later w5.heap.size w5 => q.keep (HB5.out.cell (i := 2) rfl)
    go_wp2_with fail
    refine wp_region_later w5.heap.size (by kernel_rfl) (by kernel_rfl) ?_
    repeat (go_big_quiet_step (first
      | (go_at_call 12; with_reducible exact Later.call (Nat.le_refl _) (SA.out _))
      | (go_at_call 12; with_reducible exact Later.call (Nat.le_refl _) (SB.out _))))
    refine wpQuiet_nil ?_
    rintro _ ⟨q, rfl⟩
    have HF := hid (below_then HE.out q.low)
    have HA6 := hid (HA5.out.keep q.low)
    have HB6 := hid (HB5.out.keep q.low)
    clear ka0 ka1 ka2 kb0 kb1 kb2
    obtain ⟨w6, hw6⟩ : ∃ w6, w6 = q.it := ⟨_, rfl⟩
    rw [← hw6] at HF HA6 HB6 ⊢
    clear hw6
    go_wp2_with fail
    refine (TF.out _ (HV.out.keep HF.out)).mono ?_
    rintro e w7 ⟨rfl, hb⟩
    have HG := hid (below_then HF.out hb)
    have HA7 := hid (HA6.out.keep hb)
    have HB7 := hid (HB6.out.keep hb)
    clear hb
    go_wp2_with fail
    obtain ⟨w8, hw8, kc0, kc1, kc2, HG8⟩ := tm_box w7 (.int .i64 (n : Int)) (str t) (str x) 23
    rw [← hw8]
    have HA8 := hid (show Blk w8 W.heap.size [.int .i64 (n : Int), str t, str x] 23 by rw [hw8]; exact HA7.out.alloc _)
    have HB8 := hid (show Blk w8 (W.heap.size + 1) [.int .i64 (m : Int), str u, str y] 23 by rw [hw8]; exact HB7.out.alloc _)
    have HH := hid (below_then HG.out HG8.out)
    clear hw8
    have ka0 := fun q : Later w8.heap.size w8 => q.keep (HA8.out.cell (i := 0) rfl)
    have ka1 := fun q : Later w8.heap.size w8 => q.keep (HA8.out.cell (i := 1) rfl)
    have ka2 := fun q : Later w8.heap.size w8 => q.keep (HA8.out.cell (i := 2) rfl)
    have kb0 := fun q : Later w8.heap.size w8 => q.keep (HB8.out.cell (i := 0) rfl)
    have kb1 := fun q : Later w8.heap.size w8 => q.keep (HB8.out.cell (i := 1) rfl)
    have kb2 := fun q : Later w8.heap.size w8 => q.keep (HB8.out.cell (i := 2) rfl)
    have hE1' := hE1.out
    have hE2' := hE2.out
    refine wp_region_later w8.heap.size (by kernel_rfl) (by kernel_rfl) ?_
    repeat (go_big_quiet_step (first
      | (go_at_call 14; with_reducible exact Later.call (Nat.le_refl _) (CM.out _))
      | (go_at_call 15; exact Later.call (Nat.le_refl _) (KN.out _ (HV.out.keep (below_then HH.out (Later.low _)))))))
    refine wpQuiet_nil ?_
    rintro _ ⟨q2, rfl⟩
    have HP := hid (below_then HH.out q2.low)
    clear ka0 ka1 ka2 kb0 kb1 kb2 kc0 kc1 kc2
    go_wp2
    go_ret
    exact ⟨rfl, HP.out⟩
theorem termOne_any (k k2 : Int) (t x u y : List UInt8) (W : World) (hk : -9223372036854775808 ≤ k ∧ k ≤ 9223372036854775807) (hk2 : -9223372036854775808 ≤ k2 ∧ k2 ≤ 9223372036854775807) (h1 : t.length ≤ 9223372036854775807) (h2 : x.length ≤ 9223372036854775807) (h3 : u.length ≤ 9223372036854775807) (h4 : y.length ≤ 9223372036854775807) (hV : Vars W) :
    Calls Tryd.prog 3 #[tmV k t x, tmV k2 u y] W fun e W' => e = .returned (.bool true) ∧ Below W.heap.size W W' := by
  by_cases h : 300 < t.length ∨ 300 < x.length ∨ 300 < u.length ∨ 300 < y.length
  · exact one_long k k2 t x u y W h1 h2 h3 h4 h
  · cases hi : Tm.is k t x
    · exact one_not k k2 t x u y W hV (by omega) (.inl hi)
    · cases hj : Tm.is k2 u y
      · exact one_not k k2 t x u y W hV (by omega) (.inr ⟨hi, hj⟩)
      · obtain ⟨n, rfl, _⟩ := Tm.is_kind hi
        obtain ⟨m, rfl, _⟩ := Tm.is_kind hj
        exact one_yes n m t x u y W hV hi hj

theorem termOne_walk (H : Type) (enc : TypeId × Value → H) (W : World) (base : Nat) (args : Array Value) (ds gs : List (DataW H)) (before : List MemPlace)
    (hval : ∀ (j : Nat) t v, Tryd.f3.params[j]? = some t → args[j]? = some v → Value.okWide Tryd.prog W .any base t v)
    (hW : DataW.Whole enc Tryd.prog Tryd.f3.params.toList Rows.termOneSpec.vars false W args.toList ds gs before)
    (hz : (DataW.weightsEach Tryd.prog (Tryd.f3.params.toList ++ Rows.termOneSpec.plain.varTypes Tryd.prog) (ds ++ gs)).all (· ≤ reachBytes) = true)
    (hL : laidMetH Tryd.prog Rows.termOneRow.laid W) (hsh : W.ShapedOpen Tryd.prog) :
    Calls Tryd.prog 3 args W fun e W' => e = .returned (.bool true) ∧ Below W.heap.size W W' := by
  obtain ⟨p, q, hA, _, _, _, _⟩ := hW
  rw [Tryd.params3] at hA hval
  rw [Tryd.params3] at hz
  obtain ⟨v0, vs0, d0, ds0, p0, q0, hargs, rfl, rfl, h0, r0⟩ := trodAll_cons hA
  obtain ⟨v1, vs1, d1, ds1, p1, q1, rfl, rfl, rfl, h1, r1⟩ := trodAll_cons r0
  obtain ⟨rfl, rfl, rfl⟩ := trodAll_nil r1
  obtain rfl : args = #[v0, v1] := by cases args; simp_all
  obtain ⟨k0, t0, x0, rfl, b0, l0, m0⟩ := arg_term (hval 0 23 v0 rfl rfl) h0
  obtain ⟨k1, t1, x1, rfl, b1, l1, m1⟩ := arg_term (hval 1 23 v1 rfl rfl) h1
  exact termOne_any k0 k1 t0 x0 t1 x1 W b0 b1 l0 m0 l1 m1 (vars_of hL hsh)

theorem termOne_lifted (os : Os) (started : os.Started) (H : Type) (enc : TypeId × Value → H) (F : Stop.Interp) :
    ReturnsInHanded {} Tryd.checked os 3 .any ((OpenSpec.ofChange Rows.termOneSpec).preRow enc Tryd.prog Tryd.f3 Rows.termOneRow.domain false Rows.termOneRow.laid) (((OpenSpec.ofChange Rows.termOneSpec).at F).post enc Tryd.prog Tryd.f3 false true false false) := by
  obtain ⟨places, hx⟩ : ∃ places, DataW.whole enc Tryd.prog ((laidWorld os).forCall (fun _ _ => 0) ⟨#[], #[.agg #[.int .i64 0, .string ByteArray.empty, .string ByteArray.empty], .agg #[.int .i64 0, .string ByteArray.empty, .string ByteArray.empty]], []⟩).memory Tryd.f3.params.toList Rows.termOneSpec.vars false (#[.agg #[.int .i64 0, .string ByteArray.empty, .string ByteArray.empty], .agg #[.int .i64 0, .string ByteArray.empty, .string ByteArray.empty]] : Array Value).toList 8 = some ([.agg [.lit (.int .i64 0), .lit (.string []), .lit (.string [])], .agg [.lit (.int .i64 0), .lit (.string []), .lit (.string [])]], [], places) := ⟨[], by kernel_rfl⟩
  refine returnsInHanded_of_row (C := Tryd.checked) (s := OpenSpec.ofChange Rows.termOneSpec) own started (by kernel_rfl) Tryd.func3
    (witness_row_at (enc := enc) (C := Tryd.checked) false (laidWorld os) #[.agg #[.int .i64 0, .string ByteArray.empty, .string ByteArray.empty], .agg #[.int .i64 0, .string ByteArray.empty, .string ByteArray.empty]] rfl (by kernel_rfl) (by kernel_rfl) (by kernel_rfl)
      (OpenSpec.preRow_of_cond 8 hx (by kernel_rfl) (fun k hk => by cases hk) (by kernel_rfl) (laidMet_of_run' 8 (by kernel_rfl) (by kernel_rfl)))) ?_
  intro W base args ds gs before hval hW _ _ hz hL hsh _
  refine (termOne_walk H enc W base args ds gs before hval hW hz hL hsh).mono fun e W' ⟨he, hb⟩ => ⟨_, he, ?_⟩
  exact law_post (fn := Tryd.f3) (s := Rows.termOneSpec) (tb := 4) rfl (fun ds hd => by match ds, hd with | [d0, d1], _ => rfl) rfl Tryd.underlying4 (by kernel_rfl) hW hb

theorem termOne_said : Rows.TermOneSaid :=
  OpenClaim.holds_of_cond 3 Tryd.f3 rfl rfl rfl rfl rfl rfl rfl ⟨rfl, rfl, rfl, rfl, rfl⟩ rfl rfl rfl rfl rfl (by kernel_rfl) Tryd.func3 (by kernel_rfl)
    (of_decide_eq_true (by kernel_rfl)) (by unfold Func.isWrapper; first | (rw [if_pos (by decide +kernel)]; kernel_rfl) | (rw [if_neg (by decide +kernel)]; exact ⟨rfl, rfl⟩))
    (fun os started H enc _ F => by rw [OpenClaim.pre_eq_preRow]; exact termOne_lifted os started H enc F)

theorem termOne_plain (f : FuncId) (fn : Func) (hf : Tryd.pinned.checked.prog.funcNamed Rows.termOneRow.func = some f) (hfn : Tryd.pinned.checked.prog.funcs[f]? = some fn) :
    false = Tryd.pinned.checked.prog.looks [] ∧ ∀ (j : Nat) t, fn.params[j]? = some t → Tryd.pinned.checked.prog.wantsStandIn t = false := by
  obtain rfl : f = 3 := Option.some.inj ((show Tryd.prog.funcNamed Rows.termOneRow.func = some 3 by kernel_rfl).symm.trans hf) |>.symm
  obtain rfl : fn = Tryd.f3 := (Option.some.inj (Tryd.func3.symm.trans hfn)).symm
  refine ⟨by kernel_rfl, fun j t ht => ?_⟩
  have h := Array.mem_of_getElem? ht
  have hall : Tryd.f3.params.all (fun t => !Tryd.prog.wantsStandIn t) = true := by kernel_rfl
  have := Array.all_eq_true_iff_forall_mem.1 hall t h
  show Tryd.prog.wantsStandIn t = false
  simpa using this

/-- THE STATEMENT. -/
theorem termOne_card : Rows.TermOneCardSaid :=
  Claim7.holds_tied_plain_at .later [] _ _ _ _ termOne_said (fun _ h => by cases h) (by kernel_rfl) (fun _ h => by cases h) termOne_row_tie rfl ⟨rfl, rfl⟩ (by kernel_rfl) rfl termOne_plain (by kernel_rfl)
end Go.Proofs.YtmooppakneoidaaDoor
