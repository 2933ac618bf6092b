/- The document's own answers on bits; what every law on bits asks besides. -/
import Derived.Test.YtmjnacbimafahaaDoorBitsSel
namespace Go.Proofs.YtmjnacbimafahaaDoor
set_option linter.unusedVariables false
open Go.ChangeShapes Go.WideShapes Go.ChangeAt Go.RowKit

theorem rrank_any (a : Option Addr) (cap : Nat) (l : List Bool) (i : Int) (w : World) (hl : l.length ≤ 4096) (h : RowAt w a l.length fun i => .bool (l.getD i false)) :
    Calls Tryd.prog 14 #[.slice a l.length cap, .int .i64 i] w fun e w' => e = .returned (.int .i64 (Bm.rank l i : Nat)) ∧ w' = w := by
  go_enter Tryd.func14, Tryd.ntmps14
  go_wp2
  go_loop [5, 6] (fun s5 s6 => ∃ k : Nat, k ≤ l.length ∧ (k : Int) ≤ max i 0 ∧ s6 = .int .i64 k ∧ s5 = .int .i64 (Bm.cnt l k)) (fun _ s6 => l.length - (intOf s6).toNat)
  case atStart => exact ⟨0, Nat.zero_le _, by omega, rfl, by rw [Bm.cnt_zero]; rfl⟩
  case round =>
    obtain ⟨k, hk, hki, rfl, rfl⟩ := hrel
    have hcl := Bm.cnt_le l k
    by_cases hlt : (k : Int) < i
    · by_cases hl2 : k < l.length
      · obtain ⟨b, off, rfl, hc⟩ := h.get hl2
        have c0 := hc k hl2
        clear hc
        have hs := hid (Bm.cnt_succ l k)
        cases hb : l.getD k false <;> rw [hb] at c0 hs
        · have HB := hid hb
          clear hb
          go_wp2
          go_round
          case rel => exact ⟨k + 1, by omega, by omega, by go_num, by rw [hs.out]; simp⟩
          case measure => simp [intOf]; omega
        · have HB := hid hb
          clear hb
          go_wp2
          go_round
          case rel => exact ⟨k + 1, by omega, by omega, by go_num, by rw [hs.out]; simp⟩
          case measure => simp [intOf]; omega
      · go_wp2
        go_ret
        exact ⟨ret_int (by unfold Bm.rank; rw [Bm.cnt_over l (show l.length ≤ i.toNat by omega), show k = l.length by omega]), rfl⟩
    · go_wp2
      go_ret
      exact ⟨ret_int (by unfold Bm.rank; rw [show i.toNat = k by omega]), rfl⟩

theorem rsel_any (a : Option Addr) (cap : Nat) (l : List Bool) (i : Int) (w : World) (hl : l.length ≤ 4096) (h : RowAt w a l.length fun i => .bool (l.getD i false)) :
    Calls Tryd.prog 16 #[.slice a l.length cap, .int .i64 i] w fun e w' => e = .returned (.int .i64 (Bm.sel l i)) ∧ w' = w := by
  go_enter Tryd.func16, Tryd.ntmps16
  go_wp2
  go_loop [5, 6] (fun s5 s6 => ∃ k : Nat, k ≤ l.length ∧ s6 = .int .i64 k ∧ s5 = .int .i64 (Bm.cnt l k) ∧ Hid (∀ t, t < k → l.getD t false = true → (Bm.cnt l t : Int) ≠ i)) (fun _ s6 => l.length - (intOf s6).toNat)
  case atStart => exact ⟨0, Nat.zero_le _, rfl, by rw [Bm.cnt_zero]; rfl, fun t ht => absurd ht (Nat.not_lt_zero _)⟩
  case round =>
    obtain ⟨k, hk, rfl, rfl, HN⟩ := hrel
    have hcl := Bm.cnt_le l k
    by_cases hl2 : k < l.length
    · obtain ⟨b, off, rfl, hc⟩ := h.get hl2
      have c0 := hc k hl2
      clear hc
      have hs := hid (Bm.cnt_succ l k)
      cases hb : l.getD k false <;> rw [hb] at c0 hs
      · have HB := hid hb
        clear hb
        go_wp2
        go_round
        case rel =>
          refine ⟨k + 1, by omega, by go_num, by rw [hs.out]; simp, fun t ht h1 => ?_⟩
          by_cases he : t = k
          · subst he; rw [HB.out] at h1; cases h1
          · exact HN.out t (by omega) h1
        case measure => simp [intOf]; omega
      · have HB := hid hb
        clear hb
        by_cases he : (Bm.cnt l k : Int) = i
        · have he' : ((Bm.cnt l k : Int) == i) = true := by simpa using he
          have HE := hid (Bm.sel_eq HB.out he)
          clear he
          go_wp2
          go_ret
          exact ⟨ret_int (by rw [HE.out]), rfl⟩
        · have he' : ((Bm.cnt l k : Int) == i) = false := by simpa using he
          have HE := hid he
          clear he
          go_wp2
          go_round
          case rel =>
            refine ⟨k + 1, by omega, by go_num, by rw [hs.out]; simp, fun t ht h1 => ?_⟩
            by_cases he : t = k
            · subst he; exact HE.out
            · exact HN.out t (by omega) h1
          case measure => simp [intOf]; omega
    · obtain rfl : k = l.length := by omega
      go_wp2
      go_ret
      exact ⟨ret_int (by rw [Bm.sel_none HN.out]), rfl⟩

theorem rnext_any (a : Option Addr) (cap : Nat) (l : List Bool) (i : Int) (w : World) (hl : l.length ≤ 4096) (hA : RowAt w a l.length fun i => .bool (l.getD i false)) :
    Calls Tryd.prog 18 #[.slice a l.length cap, .int .i64 i] w fun e w' => e = .returned (.int .i64 (Bm.next l i)) ∧ w' = w := by
  go_enter Tryd.func18, Tryd.ntmps18
  go_wp2
  all_goals
    go_loop [5] (fun s5 => ∃ k : Nat, i ≤ k ∧ s5 = .int .i64 k ∧ Hid (∀ t : Nat, i ≤ t → t < k → t < l.length → l.getD t false = false)) (fun s5 => l.length - (intOf s5).toNat)
    case atStart => exact ⟨i.toNat, by omega, congrArg _ (by omega), fun t h1 h2 => by omega⟩
    case round =>
      obtain ⟨k, hik, rfl, HN⟩ := hrel
      by_cases hl2 : k < l.length
      · obtain ⟨b, off, rfl, hc⟩ := hA.get hl2
        have c0 := hc k hl2
        clear hc
        cases hb : l.getD k false <;> rw [hb] at c0
        · have HB := hid hb
          clear hb
          go_wp2
          go_round
          case rel =>
            refine ⟨k + 1, by omega, by go_num, fun t h0 ht h1 => ?_⟩
            by_cases he : t = k
            · subst he; exact HB.out
            · exact HN.out t h0 (by omega) h1
          case measure => simp [intOf]; omega
        · have HB := hid hb
          clear hb
          go_wp2
          go_ret
          exact ⟨ret_int (by rw [Bm.next_eq hik HB.out fun t h1 h2 => HN.out t h1 h2 (by omega)]), rfl⟩
      · go_wp2
        go_ret
        exact ⟨ret_int (by rw [Bm.next_none fun t h1 h2 => HN.out t h1 (by omega) h2]), rfl⟩

/-- All that a Vec tells, in whatever world has grown from w. -/
structure VecAt (w : World) (p : Nat) (l : List Bool) : Prop where
  len : ∀ W, Below w.heap.size w W → Calls Tryd.prog 11 #[.pointer (some ⟨p, 0, none⟩)] W fun e w' => e = .returned (.int .i64 l.length) ∧ Below w.heap.size w w'
  get : ∀ W (i : Int), Below w.heap.size w W → Calls Tryd.prog 12 #[.pointer (some ⟨p, 0, none⟩), .int .i64 i] W fun e w' => e = .returned (.bool (decide (0 ≤ i) && l.getD i.toNat false)) ∧ Below w.heap.size w w'
  rank : ∀ W (i : Int), Below w.heap.size w W → Calls Tryd.prog 13 #[.pointer (some ⟨p, 0, none⟩), .int .i64 i] W fun e w' => e = .returned (.int .i64 (Bm.rank l i : Nat)) ∧ Below w.heap.size w w'
  sel : ∀ W (i : Int), Below w.heap.size w W → Calls Tryd.prog 15 #[.pointer (some ⟨p, 0, none⟩), .int .i64 i] W fun e w' => e = .returned (.int .i64 (Bm.sel l i)) ∧ Below w.heap.size w w'
  next : ∀ W (i : Int), Below w.heap.size w W → Calls Tryd.prog 17 #[.pointer (some ⟨p, 0, none⟩), .int .i64 i] W fun e w' => e = .returned (.int .i64 (Bm.next l i)) ∧ Below w.heap.size w w'
theorem VecAt.mk' {w : World} {p : Nat} {l : List Bool} (h : IsVec w p l) (hT : Tab w) (hl : l.length ≤ 4096) : VecAt w p l where
  len W hW := (len_any p l W (h.keep hW)).mono fun e w' ⟨he, hw⟩ => ⟨he, by rw [hw]; exact hW⟩
  get W i hW := (get_any p l i W (h.keep hW) hl).mono fun e w' ⟨he, n, hw⟩ => ⟨he, by rw [hw]; exact below_drawn hW n⟩
  rank W i hW := (rank_any p l i W (h.keep hW) hl).mono fun e w' ⟨he, n, hw⟩ => ⟨he, by rw [hw]; exact below_drawn hW n⟩
  sel W i hW := (sel_any p l i W (h.keep hW) (hT.keep hW) hl).mono fun e w' ⟨he, hw⟩ => ⟨he, below_then hW hw⟩
  next W i hW := (next_any p l i W (h.keep hW) (hT.keep hW) hl).mono fun e w' ⟨he, hw⟩ => ⟨he, below_then hW hw⟩

theorem known_any (w : World) (hT : Tab w) : Calls Tryd.prog 19 #[] w fun e w' => e = .returned (.bool true) ∧ Below w.heap.size w w' := by
  have N := hid (fun W (b : Nat) (h : ∀ i, i < 4 → W.cell? ⟨b, 0 + i, none⟩ = some (.bool ([false, true, false, true].getD i false))) =>
    new_any (some ⟨b, 0, none⟩) 4 [false, true, false, true] W (by decide) (Or.inr ⟨b, 0, rfl, h⟩))
  have s1 : Bm.sel [false, true, false, true] 1 = 3 := by decide
  have r2 : Bm.rank [false, true, false, true] 2 = 1 := by decide
  have n2 : Bm.next [false, true, false, true] 2 = 3 := by decide
  go_enter Tryd.func19, Tryd.ntmps19
  go_wp2_with fail
  have hb0 : Below w.heap.size w (w.alloc (.cells #[.bool false, .bool true, .bool false, .bool true] 4)) := (Below.refl _ _).alloc (Nat.le_refl _) _
  refine (N.out _ w.heap.size (fun i hi => ?_)).mono ?_
  · rw [Nat.zero_add, World.cell?_alloc_at _ _ _ _ rfl]
    match i, hi with
    | 0, _ => rfl
    | 1, _ => rfl
    | 2, _ => rfl
    | 3, _ => rfl
  rintro e w1 ⟨p, rfl, hb1, hv, _⟩
  have hb2 := below_then hb0 hb1
  have V := hid (VecAt.mk' hv (hT.keep hb2) (by decide))
  clear hb0 hb1 hv
  go_wp2_with fail
  refine (V.out.sel w1 1 (Below.refl _ _)).mono ?_
  rw [s1]
  rintro e w2 ⟨rfl, hc1⟩
  go_wp2_with fail
  refine (V.out.rank w2 2 hc1).mono ?_
  rw [r2]
  rintro e w3 ⟨rfl, hc2⟩
  go_wp2_with fail
  refine (V.out.next w3 2 hc2).mono ?_
  rw [n2]
  rintro e w4 ⟨rfl, hc3⟩
  go_wp2_with fail
  refine (V.out.len w4 hc3).mono ?_
  rintro e w5 ⟨rfl, hc4⟩
  go_wp2
  go_ret
  exact ⟨rfl, below_then hb2 hc4⟩
/-- What the document's own functions tell of a row, in whatever world has grown from w. -/
structure RefAt (w : World) (v : Value) (l : List Bool) : Prop where
  rank : ∀ W (i : Int), Below w.heap.size w W → Calls Tryd.prog 14 #[v, .int .i64 i] W fun e w' => e = .returned (.int .i64 (Bm.rank l i : Nat)) ∧ Below w.heap.size w w'
  sel : ∀ W (i : Int), Below w.heap.size w W → Calls Tryd.prog 16 #[v, .int .i64 i] W fun e w' => e = .returned (.int .i64 (Bm.sel l i)) ∧ Below w.heap.size w w'
  next : ∀ W (i : Int), Below w.heap.size w W → Calls Tryd.prog 18 #[v, .int .i64 i] W fun e w' => e = .returned (.int .i64 (Bm.next l i)) ∧ Below w.heap.size w w'
theorem RefAt.mk' {w : World} {a : Option Addr} {cap : Nat} {l : List Bool} (h : RowAt w a l.length fun i => .bool (l.getD i false)) (hl : l.length ≤ 4096) : RefAt w (.slice a l.length cap) l where
  rank W i hW := (rrank_any a cap l i W hl (h.keep hW)).mono fun e w' ⟨he, hw⟩ => ⟨he, by rw [hw]; exact hW⟩
  sel W i hW := (rsel_any a cap l i W hl (h.keep hW)).mono fun e w' ⟨he, hw⟩ => ⟨he, by rw [hw]; exact hW⟩
  next W i hW := (rnext_any a cap l i W hl (h.keep hW)).mono fun e w' ⟨he, hw⟩ => ⟨he, by rw [hw]; exact hW⟩


/-- What every law on bits begins with: a Vec of the row, in a world that has grown; the document's functions of the row; the known example. -/
theorem start_bits {a : Option Addr} {cap n : Nat} {l : List Bool} {W : World} (hT : Tab W) (hn : n = l.length) (h : n ≤ 4096) (hR : RowAt W a n fun i => .bool (l.getD i false)) :
    Calls Tryd.prog 10 #[.slice a n cap] W fun e w1 => ∃ p, e = .returned (.pointer (some ⟨p, 0, none⟩)) ∧ Below W.heap.size W w1 ∧ VecAt w1 p l ∧ RefAt w1 (.slice a n cap) l ∧
      (∀ W', Below w1.heap.size w1 W' → Calls Tryd.prog 19 #[] W' fun e w' => e = .returned (.bool true) ∧ Below W'.heap.size W' w') := by
  subst hn
  refine (new_any a cap l W h hR).mono ?_
  rintro e w1 ⟨p, rfl, hb, hv, _⟩
  exact ⟨p, rfl, hb, VecAt.mk' hv (hT.keep hb) h, RefAt.mk' (hR.keep hb) h, fun W' hW => known_any W' (hT.keep (below_then hb hW))⟩
end Go.Proofs.YtmjnacbimafahaaDoor
