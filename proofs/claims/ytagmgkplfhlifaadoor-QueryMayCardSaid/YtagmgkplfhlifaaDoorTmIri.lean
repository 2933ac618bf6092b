/- term's IsIRI: runes. -/
import Derived.Test.YtagmgkplfhlifaaDoorStr
import Derived.Test.YtagmgkplfhlifaaDoorTmRune
import Derived.Test.YtagmgkplfhlifaaDoorShelf
import Derived.Lib.LaidU8T
namespace Go.Proofs.YtagmgkplfhlifaaDoor
set_option linter.unusedVariables false
set_option linter.unusedSimpArgs false
set_option maxRecDepth 100000
open Go.ChangeShapes Go.WideShapes Go.ChangeAt Go.RowKit

/-- The library's two tables of runes lie as they are. -/
def T8 (w : World) : Prop := Lib.Utf8Tabs 0 1 w
theorem T8.keep {w w' : World} (h : T8 w) (hb : Below w.heap.size w w') : T8 w' := Utf8Tabs_below h hb
theorem valid_any (p : List UInt8) (w : World) (hl : p.length ≤ 9223372036854775807) (hT : T8 w) :
    Calls Tryd.prog 66 #[str p] w fun e w' => e = .returned (.bool (Lib.validD p)) ∧ Below w.heap.size w w' :=
  (Any.utf8_ValidString Tryd.lays196 ⟨p.toArray⟩ w hl hT).mono fun _ _ h => h
theorem noiri_fin : ∀ c : Fin 128, decide (0 ≤ Lib.indexByte [34, 60, 62, 92, 94, 96, 123, 124, 125] (c.val.toUInt8)) = [34, 60, 62, 92, 94, 96, 123, 124, 125].contains c.val := by decide
theorem tinr_any (r : Nat) (w : World) (hr : r ≤ 1114111) :
    Calls Tryd.prog 80 #[.int .i32 (r : Nat)] w fun e w' => e = .returned (.bool (Tm.irune r)) ∧ w = w' := by
  have CR := hid (fun h => Tryd.strings_ContainsRune_ascii ⟨#[34, 60, 62, 92, 94, 96, 123, 124, 125]⟩ (r : Int) w (by omega) h)
  unfold Tm.irune
  by_cases h1 : 160 ≤ r
  · go_enter Tryd.func80, Tryd.ntmps80
    go_wp2
    go_ret
    exact ⟨by simp [h1], rfl⟩
  · have b1 : decide (160 ≤ r) = false := decide_eq_false h1
    by_cases h2 : 33 ≤ r
    · by_cases h3 : r ≤ 126
      · have h4 := noiri_fin ⟨r, by omega⟩
        have CR1 := CR.out (by omega)
        simp only [Int.toNat_natCast] at CR1 h4
        rw [h4] at CR1
        obtain ⟨b, hb⟩ : ∃ b, b = ([34, 60, 62, 92, 94, 96, 123, 124, 125] : List Nat).contains r := ⟨_, rfl⟩
        rw [← hb] at CR1
        have e : (decide (160 ≤ r) || (decide (33 ≤ r) && decide (r ≤ 126) && !([34, 60, 62, 92, 94, 96, 123, 124, 125] : List Nat).contains r)) = !b := by rw [← hb, b1, decide_eq_true h2, decide_eq_true h3]; rfl
        rw [e]
        have CR2 := hid CR1
        clear CR1 h4 hb e b1 CR
        cases b
        all_goals
          go_enter Tryd.func80, Tryd.ntmps80
          go_wp2_with (go_at_call 93; refine CR2.out.mono ?_; rintro e w' ⟨rfl, rfl⟩)
          go_ret
          exact ⟨rfl, rfl⟩
      · have b2 : decide (r ≤ 126) = false := decide_eq_false h3
        go_enter Tryd.func80, Tryd.ntmps80
        go_wp2
        go_ret
        exact ⟨rfl, rfl⟩
    · have b2 : decide (33 ≤ r) = false := decide_eq_false h2
      go_enter Tryd.func80, Tryd.ntmps80
      go_wp2
      go_ret
      exact ⟨rfl, rfl⟩
theorem below_iter {w w' : World} (h : Below w.heap.size w w') (s : ByteArray) (pos : Nat) : Below w.heap.size w (w'.iter s pos) := h.alloc h.size _
theorem decode_rune (p : List UInt8) (pos : Nat) : (Utf8.decode ⟨p.toArray⟩ pos).1 ≤ 1114111 ∧ 1 ≤ (Utf8.decode ⟨p.toArray⟩ pos).2 := by
  have e := Lib.decodeL_drop ⟨p.toArray⟩ pos
  simp only at e
  rw [← e]
  exact ⟨Lib.decodeL_rune _, Lib.decodeL_width _⟩
theorem irunes_step (p : List UInt8) (pos : Nat) (h : pos < p.length) : Tm.runesAll Tm.irune p.length (p.drop pos) = (Tm.irune (Utf8.decode ⟨p.toArray⟩ pos).1 && Tm.runesAll Tm.irune p.length (p.drop (pos + (Utf8.decode ⟨p.toArray⟩ pos).2))) := by
  have e := Lib.decodeL_drop ⟨p.toArray⟩ pos
  simp only at e
  obtain ⟨n, hn⟩ : ∃ n, p.length = n + 1 := ⟨p.length - 1, by omega⟩
  have hne : p.drop pos ≠ [] := by intro h0; have := congrArg List.length h0; simp at this; omega
  have hd := (decode_rune p pos).2
  rw [hn, Tm.runesAll_step _ _ _ hne, e, List.drop_drop, Tm.runesAll_fuel _ n (n + 1) _ (by rw [List.length_drop]; omega) (by rw [List.length_drop]; omega)]
theorem tiri_any (p : List UInt8) (w : World) (hl : p.length ≤ 9223372036854775807) (hT : T8 w) :
    Calls Tryd.prog 65 #[str p] w fun e w' => e = .returned (.bool (Tm.isIRI p)) ∧ Below w.heap.size w w' := by
  have VA := hid (fun w h => valid_any p w hl h)
  unfold Tm.isIRI
  by_cases h0 : p = []
  · subst h0
    go_enter Tryd.func65, Tryd.ntmps65
    go_wp2
    go_ret
    exact ⟨rfl, Below.refl _ _⟩
  have h1 : 1 ≤ p.length := by have := List.length_pos_iff.2 h0; omega
  have he : p.isEmpty = false := by simpa using h0
  rw [decide_eq_true h1, Bool.true_and]
  by_cases h60 : 60 < p.length
  · rw [decide_eq_false (show ¬ p.length ≤ 60 by omega)]
    go_enter Tryd.func65, Tryd.ntmps65
    go_wp2
    go_ret
    exact ⟨rfl, Below.refl _ _⟩
  rw [decide_eq_true (show p.length ≤ 60 by omega), Bool.true_and]
  cases hv : Lib.validD p
  · rw [hv] at VA
    clear hv
    go_enter Tryd.func65, Tryd.ntmps65
    go_wp2_with (go_at_call 66; refine (VA.out _ hT).mono ?_; rintro e w' ⟨rfl, hb⟩)
    go_ret
    exact ⟨rfl, hb⟩
  · rw [hv] at VA
    obtain ⟨ANS, hA⟩ : ∃ b, b = Tm.runesAll Tm.irune p.length p := ⟨_, rfl⟩
    rw [← hA, Bool.true_and]
    have HA := hid (show ANS = Tm.runesAll Tm.irune p.length (p.drop 0) by rw [hA]; rfl)
    clear hv hA
    go_enter Tryd.func65, Tryd.ntmps65
    go_wp2_with (go_at_call 66; refine (VA.out _ hT).mono ?_; rintro e w1 ⟨rfl, hb⟩)
    have HB := hid hb
    clear hb
    go_loopw [4] (fun s4 wr => ∃ pos : Nat, wr = w1.iter ⟨p.toArray⟩ pos ∧ Hid (ANS = Tm.runesAll Tm.irune p.length (p.drop pos))) (fun _ wr => p.length - wr.iterPos w1.heap.size)
    case atStart => exact ⟨0, rfl, HA⟩
    case round =>
      obtain ⟨pos, rfl, HP⟩ := hrel
      by_cases hlt : pos < p.length
      · have hnx : ∀ ty, (Instr.next (.pointer (some ⟨w1.heap.size, 0, none⟩)) true ty).run Tryd.prog (w1.iter ⟨p.toArray⟩ pos) = _ := fun ty => run_next_any w1 ⟨p.toArray⟩ pos ty hlt
        obtain ⟨hr1, hr2⟩ := decode_rune p pos
        have HS := hid (irunes_step p pos hlt)
        obtain ⟨r, hr⟩ : ∃ r, r = (Utf8.decode ⟨p.toArray⟩ pos).1 := ⟨_, rfl⟩
        obtain ⟨k, hk⟩ : ∃ k, k = (Utf8.decode ⟨p.toArray⟩ pos).2 := ⟨_, rfl⟩
        rw [← hr] at hnx hr1 HS
        rw [← hk] at hnx hr2 HS
        have IN := hid (fun w => tinr_any r w hr1)
        clear hr hk
        cases hi : Tm.irune r
        · rw [hi] at IN HS
          clear hi
          go_wp2_with (go_at_call 80; refine (IN.out _).mono ?_; rintro e w' ⟨rfl, rfl⟩)
          go_ret
          exact ⟨by rw [HP.out, HS.out]; rfl, below_iter HB.out _ _⟩
        · rw [hi] at IN HS
          clear hi
          go_wp2_with (go_at_call 80; refine (IN.out _).mono ?_; rintro e w' ⟨rfl, rfl⟩)
          go_roundw
          case rel => exact ⟨pos + k, rfl, by rw [HP.out, HS.out]; rfl⟩
          case measure => simp <;> omega
      · have hnx : ∀ ty, (Instr.next (.pointer (some ⟨w1.heap.size, 0, none⟩)) true ty).run Tryd.prog (w1.iter ⟨p.toArray⟩ pos) = _ := fun ty => run_next_end w1 ⟨p.toArray⟩ pos ty hlt
        have HE := hid (show ANS = true by rw [HP.out, List.drop_eq_nil_of_le (by omega), Tm.runesAll_nil])
        go_wp2
        go_ret
        exact ⟨by rw [HE.out]; rfl, below_iter HB.out _ _⟩
end Go.Proofs.YtagmgkplfhlifaaDoor
