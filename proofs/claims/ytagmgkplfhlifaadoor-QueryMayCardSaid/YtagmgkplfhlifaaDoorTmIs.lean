/- term's Is: languages by their parts, and all kinds. -/
import Derived.Test.YtagmgkplfhlifaaDoorTmIri
import Derived.Test.YtagmgkplfhlifaaDoorTexts
import Derived.Test.YtagmgkplfhlifaaDoorGTm
import Derived.Test.YtagmgkplfhlifaaDoorShelf2
namespace Go.Proofs.YtagmgkplfhlifaaDoor
set_option linter.unusedVariables false
set_option linter.unusedSimpArgs false
set_option maxRecDepth 100000
open Go.ChangeShapes Go.WideShapes Go.ChangeAt Go.RowKit

/-- The library's MaxLen holds some number. -/
def MaxAt (w : World) : Prop := ∃ m : Int, w.cell? ⟨2, 0, none⟩ = some (.int .i64 m)
theorem MaxAt.keep {w w' : World} (h : MaxAt w) (hb : Below w.heap.size w w') : MaxAt w' := by
  obtain ⟨m, hm⟩ := h; exact ⟨m, below_keep hb hm⟩
/-- What the library's variables hold. -/
def Vars (w : World) : Prop := T8 w ∧ MaxAt w
theorem Vars.keep {w w' : World} (h : Vars w) (hb : Below w.heap.size w w') : Vars w' := ⟨h.1.keep hb, h.2.keep hb⟩
theorem ttext_any (p : List UInt8) (w : World) (hl : p.length ≤ 9223372036854775807) (hT : T8 w) :
    Calls Tryd.prog 72 #[str p] w fun e w' => e = .returned (.bool (decide (p.length ≤ 30) && Lib.validD p)) ∧ Below w.heap.size w w' := by
  have VA := hid (fun w h => valid_any p w hl h)
  by_cases h : p.length ≤ 30
  · rw [decide_eq_true h, Bool.true_and]
    obtain ⟨b, hb⟩ : ∃ b, b = Lib.validD p := ⟨_, rfl⟩
    rw [← hb] at VA ⊢
    clear hb
    go_enter Tryd.func72, Tryd.ntmps72
    go_wp2_with (go_at_call 66; refine (VA.out _ hT).mono ?_; rintro e w' ⟨rfl, hb⟩)
    go_ret
    exact ⟨rfl, hb⟩
  · have h' : 30 < p.length := by omega
    rw [decide_eq_false h, Bool.false_and]
    clear h
    go_enter Tryd.func72, Tryd.ntmps72
    go_wp2
    go_ret
    exact ⟨rfl, Below.refl _ _⟩
theorem Tm.parts_le (c : UInt8) : ∀ l : List UInt8, ∀ x ∈ Tm.parts c l, x.length ≤ l.length
  | [], x, h => by simp [Tm.parts] at h; subst h; simp
  | b :: t, x, h => by
    have ih := Tm.parts_le c t
    unfold Tm.parts at h
    obtain ⟨p, r, e⟩ : ∃ p r, Tm.parts c t = p :: r := by
      cases hp : Tm.parts c t with
      | nil => exact absurd hp (Tm.parts_ne c t)
      | cons p r => exact ⟨p, r, rfl⟩
    rw [e] at h ih
    split at h
    · rcases List.mem_cons.1 h with rfl | h
      · simp
      · have := ih x h; simp; omega
    · simp only [List.headD_cons, List.tail_cons, List.mem_cons] at h
      rcases h with rfl | h
      · have := ih p (by simp); simp; omega
      · have := ih x (by simp [h]); simp; omega
theorem split_any (p : List UInt8) (w : World) (hl : p.length < 4294967281) (hm : MaxAt w) :
    Calls Tryd.prog 86 #[str p, str [45]] w fun e w' => (∃ cap, e = .returned (.slice (some ⟨w.heap.size, 0, none⟩) (Tm.parts 45 p).length cap) ∧ TextsAt w' (.slice (some ⟨w.heap.size, 0, none⟩) (Tm.parts 45 p).length cap) (Tm.parts 45 p)) ∧ Below w.heap.size w w' := by
  obtain ⟨m, hm⟩ := hm
  refine (Tryd.strings_Split ⟨p.toArray⟩ ⟨#[45]⟩ m w hl hm (by decide)).mono ?_
  rintro e w' ⟨rfl, rfl⟩
  have h1 : (Lib.splitB ⟨#[45]⟩ 0 (Lib.countB ⟨p.toArray⟩ ⟨#[45]⟩) ⟨p.toArray⟩).map (·.data.toList) = Tm.parts 45 p := by
    rw [Lib.splitB_data, ← Tm.split_parts]; rfl
  have h2 : Lib.countB ⟨p.toArray⟩ ⟨#[45]⟩ + 1 = (Tm.parts 45 p).length := by
    rw [← h1, List.length_map, Lib.splitB_all _ (by decide) 0 _ _ rfl]
  have h3 : (Lib.splitB ⟨#[45]⟩ 0 (Lib.countB ⟨p.toArray⟩ ⟨#[45]⟩) ⟨p.toArray⟩).map Value.string = (Tm.parts 45 p).map str := by
    rw [← h1, List.map_map]
    refine List.map_congr_left fun s _ => ?_
    show Value.string s = str s.data.toList
    rw [str_of]
  have h4 := Tm.parts_len 45 p
  have h5 : p.count 45 ≤ p.length := List.count_le_length
  rw [h2, h3]
  refine ⟨⟨_, rfl, SlAt.built rfl rfl (by simp) (by unfold maxLen; omega)⟩, (Below.refl _ _).alloc (Nat.le_refl _) _⟩
theorem Tm.partsOk_all (d : Bool) : ∀ L : List (List UInt8), Tm.partsOk d L = true ↔ ∀ j, j < L.length → Tm.partOk (if j = 0 then d else true) (L.getD j []) = true
  | [] => by simp [Tm.partsOk]
  | p :: r => by
    unfold Tm.partsOk
    rw [Bool.and_eq_true, List.all_eq_true]
    constructor
    · rintro ⟨h1, h2⟩ j hj
      cases j with
      | zero => simpa using h1
      | succ j =>
        have hj' : j < r.length := by simpa using hj
        simpa [List.getD, hj'] using h2 _ (List.getElem_mem hj')
    · intro h
      refine ⟨by simpa using h 0 (by simp), fun x hx => ?_⟩
      obtain ⟨j, hj, e⟩ := List.mem_iff_getElem.1 hx
      have := h (j + 1) (by simpa using hj)
      simpa [List.getD, hj, e] using this
theorem tlanguage_any (p : List UInt8) (w : World) (hl : p.length ≤ 9223372036854775807) (hm : MaxAt w) :
    Calls Tryd.prog 73 #[str p] w fun e w' => e = .returned (.bool (Tm.lang p)) ∧ Below w.heap.size w w' := by
  rw [Tm.lang_parts]
  by_cases h16 : 16 < p.length
  · rw [decide_eq_false (by omega), Bool.false_and]
    go_enter Tryd.func73, Tryd.ntmps73
    go_wp2
    go_ret
    exact ⟨rfl, Below.refl _ _⟩
  rw [decide_eq_true (by omega), Bool.true_and]
  have SP := hid (fun w h => split_any p w (by omega) h)
  have hpl := Tm.parts_le 45 p
  have HLE := hid (fun j => show ((Tm.parts 45 p).getD j []).length ≤ 16 by
    by_cases hj : j < (Tm.parts 45 p).length
    · have := hpl _ (List.getElem_mem hj); simp [List.getD, hj]; omega
    · simp [List.getD, hj])
  have hn : (Tm.parts 45 p).length ≤ 17 := by rw [Tm.parts_len]; have : p.count 45 ≤ p.length := List.count_le_length; omega
  have HP := hid (Tm.partsOk_all false (Tm.parts 45 p))
  obtain ⟨L, hL⟩ : ∃ L, L = Tm.parts 45 p := ⟨_, rfl⟩
  rw [← hL] at SP HLE HP hn ⊢
  clear hpl hL
  obtain ⟨n, hnn⟩ : ∃ n, n = L.length := ⟨_, rfl⟩
  rw [← hnn] at SP HP hn
  have HNN := hid hnn
  clear hnn
  go_enter Tryd.func73, Tryd.ntmps73
  go_wp2_with (go_at_call 86; refine (SP.out _ hm).mono ?_; rintro e w1 ⟨⟨cap, rfl, hT⟩, hb⟩)
  have HB := hid hb
  have HR := hid hT.row.2
  clear hb hT
  go_loop [11, 3, 4] (fun s11 _ _ => ∃ k : Nat, k ≤ n ∧ s11 = .int .i64 k ∧ Hid (∀ j, j < k → Tm.partOk (if j = 0 then false else true) (L.getD j []) = true)) (fun s11 _ _ => n - (intOf s11).toNat)
  case atStart => exact ⟨0, by omega, rfl, fun j hj => by omega⟩
  case round =>
    obtain ⟨k, hk, rfl, HK⟩ := hrel
    by_cases hlt : k < n
    · obtain ⟨b, off, hab, hc⟩ := HR.out.get hlt
      simp only [Option.some.injEq, Addr.mk.injEq] at hab
      obtain ⟨rfl, rfl, _⟩ := hab
      have c0 := hc k hlt
      rw [Nat.zero_add] at c0
      have hx16 := HLE.out k
      have HX := hid (show ∀ b, b = Tm.partOk (if k = 0 then false else true) (L.getD k []) → b = false → Tm.partsOk false L = false from fun b hb hf => by
        rw [Bool.eq_false_iff]; intro ht; have := HP.out.1 ht k hlt; rw [← hb, hf] at this; cases this)
      have HY := hid (show Tm.partOk (if k = 0 then false else true) (L.getD k []) = true → ∀ j, j < k + 1 → Tm.partOk (if j = 0 then false else true) (L.getD j []) = true from fun ht j hj => by
        by_cases he : j = k
        · rw [he]; exact ht
        · exact HK.out j (by omega))
      obtain ⟨x, hx⟩ : ∃ x, x = L.getD k [] := ⟨_, rfl⟩
      rw [← hx] at c0 hx16 HX HY
      clear hc hx HK
      rcases Nat.eq_zero_or_pos k with h0 | h0
      · subst h0
        have PA := hid (fun w => tpart_any x false w (by omega))
        simp only [if_true] at HX HY
        cases hb : Tm.partOk false x
        · rw [hb] at PA HX
          clear hb HY
          go_wp2_with (go_at_call 87; refine (PA.out _).mono ?_; rintro e w' ⟨rfl, hw⟩; subst hw)
          go_ret
          exact ⟨by rw [HX.out _ rfl rfl]; rfl, HB.out⟩
        · rw [hb] at PA HX HY
          clear hb
          go_wp2_with (go_at_call 87; refine (PA.out _).mono ?_; rintro e w' ⟨rfl, hw⟩; subst hw)
          go_round
          case rel => exact ⟨1, by omega, by go_num, HY.out (by trivial)⟩
          case measure => simp [intOf]; omega
      · have PA := hid (fun w => tpart_any x true w (by omega))
        rw [if_neg (by omega)] at HX HY
        cases hb : Tm.partOk true x
        · rw [hb] at PA HX
          clear hb HY
          go_wp2_with (go_at_call 87; refine (PA.out _).mono ?_; rintro e w' ⟨rfl, hw⟩; subst hw)
          go_ret
          exact ⟨by rw [HX.out _ rfl rfl]; rfl, HB.out⟩
        · rw [hb] at PA HX HY
          clear hb
          go_wp2_with (go_at_call 87; refine (PA.out _).mono ?_; rintro e w' ⟨rfl, hw⟩; subst hw)
          go_round
          case rel => exact ⟨k + 1, by omega, by go_num, HY.out (by trivial)⟩
          case measure => simp [intOf]; omega
    · obtain rfl : k = n := by omega
      have HT := hid (show Tm.partsOk false L = true from HP.out.2 HK.out)
      clear HK
      go_wp2
      go_ret
      exact ⟨by rw [HT.out]; rfl, HB.out⟩
/-- May a literal's text be? -/
def Tm.text (t : List UInt8) : Bool := decide (t.length ≤ 30) && Lib.validD t
/-- May a term be? -/
def Tm.is (k : Int) (t x : List UInt8) : Bool :=
  if k = 1 then x.isEmpty && Tm.isIRI t else if k = 2 then x.isEmpty && Tm.label t else if k = 3 then x.isEmpty && Tm.text t
  else if k = 4 then Tm.lang x && Tm.text t else if k = 5 then Tm.isIRI x && Tm.text t else false
set_option maxHeartbeats 1000000 in
theorem tis_any (k : Int) (t x : List UInt8) (w : World) (ht : t.length ≤ 9223372036854775807) (hx : x.length ≤ 9223372036854775807) (hV : Vars w) :
    Calls Tryd.prog 56 #[tmV k t x] w fun e w' => e = .returned (.bool (Tm.is k t x)) ∧ Below w.heap.size w w' := by
  have HW := hid (show Below w.heap.size w (w.alloc (.cells #[.int .i64 k, str t, str x] 49)) from (Below.refl _ _).alloc (Nat.le_refl _) _)
  have HV := hid (hV.keep HW.out)
  clear hV
  unfold Tm.is
  rcases (show k = 1 ∨ k = 2 ∨ k = 3 ∨ k = 4 ∨ k = 5 ∨ (k ≠ 1 ∧ k ≠ 2 ∧ k ≠ 3 ∧ k ≠ 4 ∧ k ≠ 5) by omega) with h | h | h | h | h | h
  · subst h
    rw [if_pos rfl]
    have C := hid (fun w h => tiri_any t w ht h)
    obtain ⟨b, hb⟩ : ∃ b, b = Tm.isIRI t := ⟨_, rfl⟩
    rw [← hb] at C ⊢
    clear hb
    by_cases h0 : x = []
    · subst h0
      go_enter Tryd.func56, Tryd.ntmps56
      go_wp2_with (go_at_call 65; refine (C.out _ HV.out.1).mono ?_; rintro e w' ⟨rfl, hb⟩)
      go_ret
      exact ⟨rfl, (tm_cells hb).2.2.2⟩
    · have h1 : x.isEmpty = false := by simpa using h0
      rw [h1, Bool.false_and]
      go_enter Tryd.func56, Tryd.ntmps56
      go_wp2
      go_ret
      exact ⟨rfl, HW.out⟩
  · subst h
    rw [if_neg (by decide), if_pos rfl]
    have C := hid (fun w => tlabel_any t w ht)
    obtain ⟨b, hb⟩ : ∃ b, b = Tm.label t := ⟨_, rfl⟩
    rw [← hb] at C ⊢
    clear hb
    by_cases h0 : x = []
    · subst h0
      go_enter Tryd.func56, Tryd.ntmps56
      go_wp2_with (go_at_call 71; refine (C.out _).mono ?_; rintro e w' ⟨rfl, hw⟩; subst hw)
      go_ret
      exact ⟨rfl, HW.out⟩
    · have h1 : x.isEmpty = false := by simpa using h0
      rw [h1, Bool.false_and]
      go_enter Tryd.func56, Tryd.ntmps56
      go_wp2
      go_ret
      exact ⟨rfl, HW.out⟩
  · subst h
    rw [if_neg (by decide), if_neg (by decide), if_pos rfl]
    have C := hid (fun w h => ttext_any t w ht h)
    obtain ⟨b, hb⟩ : ∃ b, b = Tm.text t := ⟨_, rfl⟩
    rw [show (decide (t.length ≤ 30) && Lib.validD t) = b from hb.symm] at C
    rw [← hb]
    clear hb
    by_cases h0 : x = []
    · subst h0
      go_enter Tryd.func56, Tryd.ntmps56
      go_wp2_with (go_at_call 72; refine (C.out _ HV.out.1).mono ?_; rintro e w' ⟨rfl, hb⟩)
      go_ret
      exact ⟨rfl, (tm_cells hb).2.2.2⟩
    · have h1 : x.isEmpty = false := by simpa using h0
      rw [h1, Bool.false_and]
      go_enter Tryd.func56, Tryd.ntmps56
      go_wp2
      go_ret
      exact ⟨rfl, HW.out⟩
  · subst h
    rw [if_neg (by decide), if_neg (by decide), if_neg (by decide), if_pos rfl]
    have C := hid (fun w h => ttext_any t w ht h)
    have D := hid (fun w h => tlanguage_any x w hx h)
    obtain ⟨b, hb⟩ : ∃ b, b = Tm.text t := ⟨_, rfl⟩
    rw [show (decide (t.length ≤ 30) && Lib.validD t) = b from hb.symm] at C
    rw [← hb]
    obtain ⟨d, hd⟩ : ∃ b, b = Tm.lang x := ⟨_, rfl⟩
    rw [← hd] at D ⊢
    clear hb hd
    cases d
    · go_enter Tryd.func56, Tryd.ntmps56
      go_wp2_with (go_at_call 73; refine (D.out _ HV.out.2).mono ?_; rintro e w' ⟨rfl, hb⟩)
      go_ret
      exact ⟨rfl, (tm_cells hb).2.2.2⟩
    · go_enter Tryd.func56, Tryd.ntmps56
      go_wp2_with fail
      refine (D.out _ HV.out.2).mono ?_
      rintro e w' ⟨rfl, hb⟩
      obtain ⟨k0, k1, k2, hB⟩ := tm_cells hb
      have HV2 := hid (HV.out.keep hb)
      have HB := hid hB
      clear hb hB
      go_wp2_with (go_at_call 72; refine (C.out _ HV2.out.1).mono ?_; rintro e w2 ⟨rfl, hb⟩)
      go_ret
      exact ⟨rfl, below_then HB.out hb⟩
  · subst h
    rw [if_neg (by decide), if_neg (by decide), if_neg (by decide), if_neg (by decide), if_pos rfl]
    have C := hid (fun w h => ttext_any t w ht h)
    have D := hid (fun w h => tiri_any x w hx h)
    obtain ⟨b, hb⟩ : ∃ b, b = Tm.text t := ⟨_, rfl⟩
    rw [show (decide (t.length ≤ 30) && Lib.validD t) = b from hb.symm] at C
    rw [← hb]
    obtain ⟨d, hd⟩ : ∃ b, b = Tm.isIRI x := ⟨_, rfl⟩
    rw [← hd] at D ⊢
    clear hb hd
    cases d
    · go_enter Tryd.func56, Tryd.ntmps56
      go_wp2_with (go_at_call 65; refine (D.out _ HV.out.1).mono ?_; rintro e w' ⟨rfl, hb⟩)
      go_ret
      exact ⟨rfl, (tm_cells hb).2.2.2⟩
    · go_enter Tryd.func56, Tryd.ntmps56
      go_wp2_with fail
      refine (D.out _ HV.out.1).mono ?_
      rintro e w' ⟨rfl, hb⟩
      obtain ⟨k0, k1, k2, hB⟩ := tm_cells hb
      have HV2 := hid (HV.out.keep hb)
      have HB := hid hB
      clear hb hB
      go_wp2_with (go_at_call 72; refine (C.out _ HV2.out.1).mono ?_; rintro e w2 ⟨rfl, hb⟩)
      go_ret
      exact ⟨rfl, below_then HB.out hb⟩
  · obtain ⟨h1, h2, h3, h4, h5⟩ := h
    rw [if_neg h1, if_neg h2, if_neg h3, if_neg h4, if_neg h5]
    have b1 : (k == 1) = false := beq_eq_false_iff_ne.2 h1
    have b2 : (k == 2) = false := beq_eq_false_iff_ne.2 h2
    have b3 : (k == 3) = false := beq_eq_false_iff_ne.2 h3
    have b4 : (k == 4) = false := beq_eq_false_iff_ne.2 h4
    have b5 : (k == 5) = false := beq_eq_false_iff_ne.2 h5
    clear h1 h2 h3 h4 h5
    go_enter Tryd.func56, Tryd.ntmps56
    go_wp2
    go_ret
    exact ⟨rfl, HW.out⟩
end Go.Proofs.YtagmgkplfhlifaaDoor
