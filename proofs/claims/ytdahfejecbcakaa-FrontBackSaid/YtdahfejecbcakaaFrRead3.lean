/- A dictionary of texts: Read. -/
import Derived.Test.YtdahfejecbcakaaFrRead2
namespace Go.Proofs.Ytdahfejecbcakaa
set_option linter.unusedVariables false
set_option linter.unusedSimpArgs false
set_option maxRecDepth 100000
open Go.ChangeShapes Go.WideShapes Go.ChangeAt Go.RowKit

theorem Fr.ent_len {b : List Nat} (hb : ∀ i, b.getD i 0 < 256) {x y : List UInt8} {p q : Nat} (h : Fr.ent b x p = some (y, q)) : y.length ≤ 510 := by
  unfold Fr.ent at h
  split at h
  · cases h
  · simp only [Option.some.injEq, Prod.mk.injEq] at h
    obtain ⟨rfl, _⟩ := h
    have h0 := hb p
    have h1 := hb (p + 1)
    unfold Fr.txt
    rw [List.length_append, List.length_take, List.length_map, List.length_take]
    omega
theorem Fr.st_lens {b : List Nat} (hb : ∀ i, b.getD i 0 < 256) : ∀ {k : Nat} {L : List (List UInt8)} {x : List UInt8} {p : Nat}, Fr.st b k = some (L, x, p) → ∀ t ∈ L, t.length ≤ 510
  | 0, L, x, p, h => by
    simp only [Fr.st, Option.some.injEq, Prod.mk.injEq] at h
    obtain ⟨rfl, _⟩ := h
    intro t ht; cases ht
  | k + 1, L, x, p, h => by
    rw [Fr.st] at h
    split at h
    · cases h
    · rename_i M y q h1
      split at h
      · cases h
      · rename_i z r h2
        simp only [Option.some.injEq, Prod.mk.injEq] at h
        obtain ⟨rfl, _, _⟩ := h
        intro t ht
        rcases List.mem_append.1 ht with ht | ht
        · exact Fr.st_lens hb h1 t ht
        · obtain rfl : t = z := by simpa using ht
          exact Fr.ent_len hb h2
theorem getD_le {L : List (List UInt8)} {m : Nat} (h : ∀ t ∈ L, t.length ≤ m) (i : Nat) : (L.getD i []).length ≤ m := by
  simp only [List.getD]
  cases h1 : L[i]? with
  | none => simp
  | some t => exact h t (List.mem_of_getElem? h1)
/-- What readTexts reads. -/
def Fr.rdf (b : List Nat) : Option (List (List UInt8)) := if b.length < 2 ∨ 300 < Fr.cnt b then none else (Fr.st b (Fr.cnt b)).map (·.1)
theorem readTexts_any (v : Value) (b : List Nat) (W : World) (h : BytesAt W v b) (hb : ∀ i, b.getD i 0 < 256) :
    Calls Try.prog 36 #[v] W fun e W' => ∃ u ok, e = .returned (.tuple #[u, .bool ok]) ∧ Below W.heap.size W W' ∧ ((Fr.rdf b = none ∧ ok = false) ∨ ∃ L, Fr.rdf b = some L ∧ ok = true ∧ TextsAt W' u L ∧ ∀ i, (L.getD i []).length ≤ 510) := by
  obtain ⟨a, cap, rfl, hc1, hc2, hc3, hR⟩ := h.open
  unfold Fr.rdf
  by_cases h1 : b.length < 2
  · rw [if_pos (.inl h1)]
    refine (readTexts_short a _ cap W h1).mono ?_
    rintro e w' ⟨rfl, rfl⟩
    exact ⟨_, _, rfl, Below.refl _ _, .inl ⟨rfl, rfl⟩⟩
  · by_cases h2 : 300 < Fr.cnt b
    · rw [if_pos (.inr h2)]
      refine (readTexts_many a _ cap b W (by omega) hR hb h2).mono ?_
      rintro e w' ⟨rfl, hbl⟩
      exact ⟨_, _, rfl, hbl, .inl ⟨rfl, rfl⟩⟩
    · rw [if_neg (by omega)]
      refine (readTexts_few a _ cap _ b W (by omega) rfl hc1 hc2 hR hb rfl (by omega)).mono ?_
      rintro e w' ⟨u, ok, rfl, hbl, hr⟩
      refine ⟨u, ok, rfl, hbl, ?_⟩
      rcases hr with ⟨h3, h4⟩ | ⟨L, x, p, h3, h4, h5⟩
      · exact .inl ⟨by rw [h3]; rfl, h4⟩
      · exact .inr ⟨L, by rw [h3]; rfl, h4, h5, getD_le (Fr.st_lens hb h3)⟩
theorem res_none {b : List Nat} (h : Fr.rdf b = none) : Fr.res b = none := by
  unfold Fr.rdf at h
  unfold Fr.res Fr.rd
  by_cases h1 : b.length < 2
  · rw [if_pos h1]
  · rw [if_neg h1]
    by_cases h2 : 300 < Fr.cnt b
    · cases hs : Fr.st b (Fr.cnt b) with
      | none => rfl
      | some s =>
        obtain ⟨L, x, p⟩ := s
        obtain ⟨hl, _, _⟩ := Fr.st_len hs
        show (if Fr.May L ∧ Fr.byt L L.length = b then some L else none) = none
        rw [if_neg (fun hh => by have := hh.1.1; omega)]
    · rw [if_neg (by omega)] at h
      cases hs : Fr.st b (Fr.cnt b) with
      | none => rfl
      | some s => rw [hs] at h; cases h
theorem res_some {b : List Nat} {L : List (List UInt8)} (h : Fr.rdf b = some L) : Fr.res b = if Fr.May L ∧ Fr.byt L L.length = b then some L else none := by
  unfold Fr.rdf at h
  unfold Fr.res Fr.rd
  split at h
  · cases h
  · rename_i hn
    rw [if_neg (by omega)]
    cases hs : Fr.st b (Fr.cnt b) with
    | none => rw [hs] at h; cases h
    | some s =>
      rw [hs] at h
      obtain rfl : s.1 = L := by simpa using h
      rfl
theorem strOf_list (l : List Nat) : (strOf l).toList = l.map fun x => UInt8.ofNat x := by
  unfold strOf
  rw [ByteArray.toList_eq]
theorem strOf_eq {k l : List Nat} (hk : ∀ i, k.getD i 0 < 256) (hl : ∀ i, l.getD i 0 < 256) : ((strOf k).toList == (strOf l).toList) = decide (k = l) := by
  by_cases h : k = l
  · rw [h, decide_eq_true rfl]; simp
  · rw [decide_eq_false h]
    refine beq_eq_false_iff_ne.2 fun e => h (strOf_inj hk hl ?_)
    rw [strOf_list, strOf_list] at e
    unfold strOf
    rw [e]
theorem bequal_any (u v : Value) (k l : List Nat) (W : World) (hu : BytesAt W u k) (hv : BytesAt W v l) (hk : ∀ i, k.getD i 0 < 256) (hl : ∀ i, l.getD i 0 < 256) :
    Calls Try.prog 37 #[u, v] W fun e W' => e = .returned (.bool (decide (k = l))) ∧ W = W' := by
  have h1 := conv_row (P := Try.prog) Try.underlying35 Try.underlying5 Try.underlying9 W u k hu
  have h2 := conv_row (P := Try.prog) Try.underlying35 Try.underlying5 Try.underlying9 W v l hv
  have h3 := strOf_eq hk hl
  obtain ⟨x, hx⟩ : ∃ x, x = strOf k := ⟨_, rfl⟩
  obtain ⟨y, hy⟩ : ∃ x, x = strOf l := ⟨_, rfl⟩
  rw [← hx] at h1 h3
  rw [← hy] at h2 h3
  have H3 := hid h3
  clear hx hy h3
  go_enter Try.func37, Try.ntmps37
  go_wp2
  go_ret
  exact ⟨ret_bool H3.out, rfl⟩
theorem byt_getD {L : List (List UInt8)} (hm : Fr.May L) (i : Nat) : (Fr.byt L L.length).getD i 0 < 256 := by
  simp only [List.getD]
  cases h : (Fr.byt L L.length)[i]? with
  | none => simp
  | some x => exact Fr.byt_lt hm L.length (Nat.le_refl _) x (List.mem_of_getElem? h)
theorem read_any (v : Value) (b : List Nat) (W : World) (h : BytesAt W v b) (hb : ∀ i, b.getD i 0 < 256) :
    Calls Try.prog 23 #[v] W fun e W' => Below W.heap.size W W' ∧ ((Fr.res b = none ∧ e = .returned (.tuple #[.pointer none, .int .i64 2])) ∨ ∃ L p, Fr.res b = some L ∧ Fr.May L ∧ Fr.byt L L.length = b ∧ e = .returned (.tuple #[.pointer (some ⟨p, 0, none⟩), .int .i64 0]) ∧ IsDict W' p L) := by
  have RT := hid (readTexts_any v b W h hb)
  have HV := hid h
  clear h
  go_enter Try.func23, Try.ntmps23
  go_wp2_with fail
  refine RT.out.mono ?_
  rintro e w1 ⟨u, ok, rfl, hb1, hr⟩
  rcases hr with ⟨hr, rfl⟩ | ⟨L, hr, rfl, hT, hl⟩
  · have HRES := hid (res_none hr)
    clear hr
    go_wp2
    go_ret2
    exact ⟨hb1, .inl ⟨HRES.out, rfl⟩⟩
  · have HRES := hid (res_some hr)
    clear hr
    by_cases hm : Fr.May L
    · have NW := hid (new_ok u L w1 hT hm)
      have HM := hid hm
      have HB1 := hid hb1
      have BY := hid (fun p w h => bytes_any p L w h hm)
      clear hm hT hb1 hl
      go_wp2_with fail
      refine NW.out.mono ?_
      rintro e w2 ⟨p, rfl, hb2, hD, _, _⟩
      have HB2 := hid (below_then HB1.out hb2)
      have HD := hid hD
      clear hb2 hD
      go_wp2_with fail
      refine (BY.out p w2 HD.out).mono ?_
      rintro e w3 ⟨v3, rfl, hb3, hown⟩
      have HB3 := hid (below_then HB2.out hb3)
      have HD3 := hid (HD.out.keep hb3)
      have BE := hid (bequal_any v3 v (Fr.byt L L.length) b w3 (byt_at hown) (HV.out.keep HB3.out) (byt_getD HM.out) hb)
      clear hb3 hown
      by_cases he : Fr.byt L L.length = b
      · rw [decide_eq_true he] at BE
        have HE := hid he
        clear he
        go_wp2_with fail
        refine BE.out.mono ?_
        rintro e w' ⟨rfl, rfl⟩
        go_wp2
        go_ret2
        exact ⟨HB3.out, .inr ⟨L, p, by rw [HRES.out, if_pos ⟨HM.out, HE.out⟩], HM.out, HE.out, rfl, HD3.out⟩⟩
      · rw [decide_eq_false he] at BE
        have HE := hid he
        clear he
        go_wp2_with fail
        refine BE.out.mono ?_
        rintro e w' ⟨rfl, rfl⟩
        go_wp2
        go_ret2
        exact ⟨HB3.out, .inl ⟨by rw [HRES.out, if_neg (fun h => HE.out h.2)], rfl⟩⟩
    · have NW := hid (new_no u L w1 hT (fun i => Nat.le_trans (hl i) (by omega)) hm)
      have HM := hid hm
      clear hm hT hl
      go_wp2_with fail
      refine NW.out.mono ?_
      rintro e w' ⟨rfl, rfl⟩
      go_wp2
      go_ret2
      exact ⟨hb1, .inl ⟨by rw [HRES.out, if_neg (fun h => HM.out h.1)], rfl⟩⟩
end Go.Proofs.Ytdahfejecbcakaa
