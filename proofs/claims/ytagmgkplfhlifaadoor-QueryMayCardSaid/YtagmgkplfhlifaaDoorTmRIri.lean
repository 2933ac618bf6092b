/- The document's IsIRI: by a row of runes. -/
import Derived.Test.YtagmgkplfhlifaaDoorTmIri
import Derived.Laws.IdiomStrings
namespace Go.Proofs.YtagmgkplfhlifaaDoor
set_option linter.unusedVariables false
set_option linter.unusedSimpArgs false
set_option maxRecDepth 100000
open Go.ChangeShapes Go.WideShapes Go.ChangeAt Go.RowKit

theorem rrune_nine (r : Nat) (w : World) (h : r = 34 ∨ r = 60 ∨ r = 62 ∨ r = 92 ∨ r = 94 ∨ r = 96 ∨ r = 123 ∨ r = 124 ∨ r = 125) :
    Calls Tryd.prog 67 #[.int .i32 (r : Nat)] w fun e w' => e = .returned (.bool false) ∧ w = w' := by
  rcases h with rfl | rfl | rfl | rfl | rfl | rfl | rfl | rfl | rfl
  all_goals
    go_enter Tryd.func67, Tryd.ntmps67
    go_wp2
    go_ret
    exact ⟨rfl, rfl⟩
theorem rrune_any (r : Nat) (w : World) :
    Calls Tryd.prog 67 #[.int .i32 (r : Nat)] w fun e w' => e = .returned (.bool (Tm.irune r)) ∧ w = w' := by
  by_cases h : r = 34 ∨ r = 60 ∨ r = 62 ∨ r = 92 ∨ r = 94 ∨ r = 96 ∨ r = 123 ∨ r = 124 ∨ r = 125
  · have e : Tm.irune r = false := by rcases h with rfl | rfl | rfl | rfl | rfl | rfl | rfl | rfl | rfl <;> decide
    rw [e]; exact rrune_nine r w h
  · have hh : r ≠ 34 ∧ r ≠ 60 ∧ r ≠ 62 ∧ r ≠ 92 ∧ r ≠ 94 ∧ r ≠ 96 ∧ r ≠ 123 ∧ r ≠ 124 ∧ r ≠ 125 := by omega
    obtain ⟨h1, h2, h3, h4, h5, h6, h7, h8, h9⟩ := hh
    have e : Tm.irune r = (decide (33 ≤ r ∧ r ≤ 126) || decide (160 ≤ r)) := by
      unfold Tm.irune
      have : ([34, 60, 62, 92, 94, 96, 123, 124, 125] : List Nat).contains r = false := by simp [h1, h2, h3, h4, h5, h6, h7, h8, h9]
      rw [this, Bool.not_false, Bool.and_true, Bool.or_comm]
      congr 1
      by_cases a : 33 ≤ r <;> by_cases b : r ≤ 126 <;> simp [a, b]
    rw [e]
    have b1 : ((r : Int) == 34) = false := beq_eq_false_iff_ne.2 (by omega)
    have b2 : ((r : Int) == 60) = false := beq_eq_false_iff_ne.2 (by omega)
    have b3 : ((r : Int) == 62) = false := beq_eq_false_iff_ne.2 (by omega)
    have b4 : ((r : Int) == 92) = false := beq_eq_false_iff_ne.2 (by omega)
    have b5 : ((r : Int) == 94) = false := beq_eq_false_iff_ne.2 (by omega)
    have b6 : ((r : Int) == 96) = false := beq_eq_false_iff_ne.2 (by omega)
    have b7 : ((r : Int) == 123) = false := beq_eq_false_iff_ne.2 (by omega)
    have b8 : ((r : Int) == 124) = false := beq_eq_false_iff_ne.2 (by omega)
    have b9 : ((r : Int) == 125) = false := beq_eq_false_iff_ne.2 (by omega)
    clear h h1 h2 h3 h4 h5 h6 h7 h8 h9 e
    rcases (show r < 33 ∨ (33 ≤ r ∧ r ≤ 126) ∨ (126 < r ∧ r < 160) ∨ 160 ≤ r by omega) with h | ⟨h, h'⟩ | ⟨h, h'⟩ | h
    all_goals
      go_enter Tryd.func67, Tryd.ntmps67
      go_wp2
      go_ret
      refine ⟨ret_bool ?_, rfl⟩
      rw [Bool.eq_iff_iff]
      all_goals (simp <;> omega)
/-- A text's runes (n: a bound on their number). -/
def Tm.runes : Nat → List UInt8 → List Nat
  | 0, _ => []
  | _ + 1, [] => []
  | n + 1, b :: t => (Lib.decodeL (b :: t)).1 :: Tm.runes n ((b :: t).drop (Lib.decodeL (b :: t)).2)
theorem Tm.runesAll_runes (f : Nat → Bool) : ∀ (n : Nat) (l : List UInt8), Tm.runesAll f n l = (Tm.runes n l).all f
  | 0, _ => rfl
  | _ + 1, [] => rfl
  | n + 1, b :: t => by rw [Tm.runesAll, Tm.runesAll_runes f n]; rfl
theorem Tm.runes_len : ∀ (n : Nat) (l : List UInt8), (Tm.runes n l).length ≤ n
  | 0, _ => by simp [Tm.runes]
  | _ + 1, [] => by simp [Tm.runes]
  | n + 1, b :: t => by have := Tm.runes_len n ((b :: t).drop (Lib.decodeL (b :: t)).2); rw [Tm.runes, List.length_cons]; omega
def i32v (r : Nat) : Value := .int .i32 (r : Nat)
theorem runesFrom_eq (l : List UInt8) : ∀ (n i : Nat) (acc : Array Value), Conv.runesFrom ⟨l.toArray⟩ n i acc = acc ++ ((Tm.runes n (l.drop i)).map i32v).toArray
  | 0, i, acc => by simp [Conv.runesFrom, Tm.runes]
  | n + 1, i, acc => by
    unfold Conv.runesFrom
    by_cases h : i < l.length
    · have e := Lib.decodeL_drop ⟨l.toArray⟩ i
      simp only at e
      rw [if_pos (show i < (⟨l.toArray⟩ : ByteArray).size from h)]
      have hne : l.drop i ≠ [] := by intro h0; have := congrArg List.length h0; simp at this; omega
      obtain ⟨b, t, hbt⟩ : ∃ b t, l.drop i = b :: t := by
        cases hd : l.drop i with
        | nil => exact absurd hd hne
        | cons b t => exact ⟨b, t, rfl⟩
      simp only
      rw [runesFrom_eq l n, hbt, Tm.runes, ← hbt, List.drop_drop, e]
      simp [i32v]
    · rw [if_neg (show ¬ i < (⟨l.toArray⟩ : ByteArray).size from h), List.drop_eq_nil_of_le (by omega)]
      simp [Tm.runes]
theorem riri_any (p : List UInt8) (w : World) (hl : p.length ≤ 9223372036854775807) (hT : T8 w) :
    Calls Tryd.prog 53 #[str p] w fun e w' => e = .returned (.bool (Tm.isIRI p)) ∧ Below w.heap.size w w' := by
  have VA := hid (fun w h => valid_any p w hl h)
  unfold Tm.isIRI
  cases hv : Lib.validD p
  · rw [hv] at VA
    rw [Bool.and_false, Bool.false_and]
    clear hv
    go_enter Tryd.func53, Tryd.ntmps53
    go_wp2_with (go_at_call 66; refine (VA.out _ hT).mono ?_; rintro e w' ⟨rfl, hb⟩)
    go_ret
    exact ⟨rfl, hb⟩
  rw [hv] at VA
  clear hv
  by_cases h1 : p.length < 1
  · rw [decide_eq_false (by omega)]
    go_enter Tryd.func53, Tryd.ntmps53
    go_wp2_with (go_at_call 66; refine (VA.out _ hT).mono ?_; rintro e w' ⟨rfl, hb⟩)
    go_ret
    exact ⟨rfl, hb⟩
  have h1' : 1 ≤ p.length := by omega
  rw [decide_eq_true h1', Bool.true_and]
  by_cases h60 : 60 < p.length
  · rw [decide_eq_false (show ¬ p.length ≤ 60 by omega)]
    go_enter Tryd.func53, Tryd.ntmps53
    go_wp2_with (go_at_call 66; refine (VA.out _ hT).mono ?_; rintro e w' ⟨rfl, hb⟩)
    go_ret
    exact ⟨rfl, hb⟩
  rw [decide_eq_true (show p.length ≤ 60 by omega), Bool.true_and, Bool.true_and, Tm.runesAll_runes]
  have hrl := Tm.runes_len p.length p
  have CV : ∀ W, Hid (∃ cap, (convert 9 94 (str p)).run Tryd.prog W = .ok (.slice (some ⟨W.heap.size, 0, none⟩) (Tm.runes p.length p).length cap) (W.drew.alloc (.cells (((Tm.runes p.length p).map i32v).toArray ++ Array.replicate (cap - (Tm.runes p.length p).length) (.int .i32 0)) 21)) ∧ (Tm.runes p.length p).length ≤ cap) := fun W => by
    have e := runesFrom_eq p p.length 0 #[]
    have e2 : Conv.runesFrom ⟨p.toArray⟩ (⟨p.toArray⟩ : ByteArray).size 0 #[] = ((Tm.runes p.length p).map i32v).toArray := by
      show Conv.runesFrom ⟨p.toArray⟩ p.length 0 #[] = _
      rw [e]; simp
    have h := run_runes_of_string (P := Tryd.prog) W 9 94 21 ⟨p.toArray⟩ Tryd.underlying9 Tryd.underlying94 Tryd.underlying21 (by rw [e2]; simp; omega)
    rw [e2] at h
    have hs : ((Tm.runes p.length p).map i32v).toArray.size = (Tm.runes p.length p).length := by simp
    rw [hs] at h
    exact ⟨_, h, grownCap_ge _ _ _ _⟩
  obtain ⟨R, hR⟩ : ∃ R, R = Tm.runes p.length p := ⟨_, rfl⟩
  rw [← hR] at CV hrl ⊢
  clear hR
  obtain ⟨n, hn⟩ : ∃ n, n = R.length := ⟨_, rfl⟩
  have HN := hid hn
  rw [← hn] at CV hrl
  clear hn
  go_enter Tryd.func53, Tryd.ntmps53
  go_wp2_with fail
  refine (VA.out _ hT).mono ?_
  rintro e w1 ⟨rfl, hb⟩
  obtain ⟨cap, cv, hcap⟩ := (CV w1).out
  have HB := hid (show Below w.heap.size w (w1.drew.alloc (.cells ((R.map i32v).toArray ++ Array.replicate (cap - n) (.int .i32 0)) 21)) from (hb.drew).alloc hb.size _)
  have HC := hid (fun i (hi : i < n) => show (w1.drew.alloc (.cells ((R.map i32v).toArray ++ Array.replicate (cap - n) (.int .i32 0)) 21)).cell? ⟨w1.heap.size, i, none⟩ = some (.int .i32 ((R.getD i 0 : Nat) : Int)) by
    have hi' : i < R.length := by have := HN.out; omega
    have := cell_new w1.drew ((R.map i32v).toArray ++ Array.replicate (cap - n) (.int .i32 0)) 21 (0, 0) i
    rw [show w1.drew.heap.size = w1.heap.size from rfl] at this
    rw [this, Array.getElem?_append_left (by simpa using hi')]
    simp [List.getD, hi', i32v])
  obtain ⟨w2, hw2⟩ : ∃ w2, w2 = w1.drew.alloc (.cells ((R.map i32v).toArray ++ Array.replicate (cap - n) (.int .i32 0)) 21) := ⟨_, rfl⟩
  rw [← hw2] at cv HB HC
  clear CV hb hw2
  go_wp2
  go_loop [4] (fun s4 => ∃ k : Nat, k ≤ n ∧ s4 = .int .i64 k ∧ Hid ((R.take k).all Tm.irune = true)) (fun s4 => n - (intOf s4).toNat)
  case atStart => exact ⟨0, by omega, rfl, by simp [Hid]⟩
  case round =>
    obtain ⟨k, hk, rfl, HK⟩ := hrel
    by_cases hlt : k < n
    · have c0 := HC.out k hlt
      have hkr : k < R.length := by have := HN.out; omega
      have HS := hid (show ∀ b, Tm.irune (R.getD k 0) = b → ((b = true → (R.take (k + 1)).all Tm.irune = true) ∧ (b = false → R.all Tm.irune = false)) from fun b hb => by
        have e : R.getD k 0 = R[k] := by simp [List.getD, hkr]
        rw [e] at hb
        refine ⟨fun h => ?_, fun h => ?_⟩
        · rw [List.take_add_one, List.getElem?_eq_getElem hkr, List.all_append, HK.out]; simp [hb, h]
        · rw [List.all_eq_false]; exact ⟨R[k], List.getElem_mem hkr, by rw [hb, h]; simp⟩)
      obtain ⟨x, hx⟩ : ∃ x, x = R.getD k 0 := ⟨_, rfl⟩
      rw [← hx] at c0 HS
      have RR := hid (fun w => rrune_any x w)
      clear hx HK hkr
      cases hb : Tm.irune x
      · rw [hb] at RR
        have HF := hid ((HS.out _ hb).2 rfl)
        clear hb HS
        go_wp2_with (go_at_call 67; refine (RR.out _).mono ?_; rintro e w' ⟨rfl, rfl⟩)
        go_ret
        exact ⟨by rw [HF.out]; rfl, HB.out⟩
      · rw [hb] at RR
        have HF := hid ((HS.out _ hb).1 rfl)
        clear hb HS
        go_wp2_with (go_at_call 67; refine (RR.out _).mono ?_; rintro e w' ⟨rfl, rfl⟩)
        go_round
        case rel => exact ⟨k + 1, by omega, by go_num, HF⟩
        case measure => simp [intOf]; omega
    · have HF := hid (show R.all Tm.irune = true by have h := HK.out; rwa [List.take_of_length_le (by have := HN.out; omega)] at h)
      clear HK
      go_wp2
      go_ret
      exact ⟨by rw [HF.out]; rfl, HB.out⟩
end Go.Proofs.YtagmgkplfhlifaaDoor
