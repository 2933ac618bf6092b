/- Files of sections: what Pack writes and Unpack takes; no two rows of sections have one file, and a file one byte of which is turned is none. -/
import Derived.Test.YtgbhnkiballeeaaCrcMath
namespace Go.Proofs.Ytgbhnkiballeeaa.Bx
set_option linter.unusedVariables false
set_option linter.unusedSimpArgs false
open Go Go.RowKit Go.Proofs.Ytgbhnkiballeeaa
/-- A section: its ID and its body. -/
abbrev Sec := Int × List Nat
def three (n : Nat) : List Nat := [n / 65536 % 256, n / 256 % 256, n % 256]
def val3 (a b c : Nat) : Nat := 65536 * a + 256 * b + c
theorem val_three (n : Nat) (h : n < 16777216) : val3 (n / 65536 % 256) (n / 256 % 256) (n % 256) = n := by unfold val3; omega
theorem three_inj {n m : Nat} (hn : n < 16777216) (hm : m < 16777216) (h : three n = three m) : n = m := by
  unfold three at h
  injection h with h1 h2
  injection h2 with h2 h3
  injection h3 with h3 _
  omega
theorem three_length (n : Nat) : (three n).length = 3 := rfl
def entry (s : Sec) : List Nat := (s.1 % 256).toNat :: (three s.2.length ++ three (Cr.sum s.2))
theorem entry_length (s : Sec) : (entry s).length = 7 := rfl
def entries (L : List Sec) : List Nat := L.flatMap entry
def bodies (L : List Sec) : List Nat := L.flatMap fun s => s.2
def head (L : List Sec) : List Nat := [84, 82, 73, 86, 1, L.length % 256] ++ entries L
def file (L : List Sec) : List Nat := head L ++ three (Cr.sum (head L)) ++ bodies L
def sizes (L : List Sec) : Nat := (L.map fun s => s.2.length).sum
def total (L : List Sec) : Nat := 9 + 7 * L.length + sizes L
/-- IDs rise from p on. -/
def rise : Int → List Sec → Prop
  | _, [] => True
  | p, s :: L => p < s.1 ∧ s.1 ≤ 255 ∧ rise s.1 L
def May (L : List Sec) : Prop := L.length ≤ 8 ∧ rise 0 L ∧ total L ≤ 100000
theorem entries_cons (s : Sec) (L : List Sec) : entries (s :: L) = entry s ++ entries L := rfl
theorem bodies_cons (s : Sec) (L : List Sec) : bodies (s :: L) = s.2 ++ bodies L := rfl
theorem entries_length (L : List Sec) : (entries L).length = 7 * L.length := by
  induction L with
  | nil => rfl
  | cons s L ih => rw [entries_cons, List.length_append, ih, entry_length]; simp; omega
theorem bodies_length (L : List Sec) : (bodies L).length = sizes L := by
  induction L with
  | nil => rfl
  | cons s L ih => rw [bodies_cons, List.length_append, ih]; simp [sizes]
theorem head_length (L : List Sec) : (head L).length = 6 + 7 * L.length := by
  unfold head; rw [List.length_append, entries_length]; rfl
theorem file_length (L : List Sec) : (file L).length = total L := by
  unfold file total; rw [List.length_append, List.length_append, head_length, bodies_length, three_length]; omega
theorem rise_mem {p : Int} {L : List Sec} (h : rise p L) : ∀ s ∈ L, p < s.1 ∧ s.1 ≤ 255 := by
  induction L generalizing p with
  | nil => intro s hs; cases hs
  | cons t L ih =>
    intro s hs
    obtain ⟨h1, h2, h3⟩ := h
    rcases List.mem_cons.1 hs with rfl | hs
    · exact ⟨h1, h2⟩
    · have := ih h3 s hs; exact ⟨by omega, this.2⟩
theorem size_le {L : List Sec} {s : Sec} (h : s ∈ L) : s.2.length ≤ sizes L := by
  induction L with
  | nil => cases h
  | cons t L ih =>
    simp only [sizes, List.map_cons, List.sum_cons] at ih ⊢
    rcases List.mem_cons.1 h with rfl | h
    · omega
    · have := ih h; omega
/-- All the bytes are bytes. -/
def Bytes (L : List Sec) : Prop := ∀ s ∈ L, ∀ i, s.2.getD i 0 < 256
/-! ### a file's sections -/
def cutL (b : List Nat) : Nat → Nat → Nat → Option (List Sec)
  | 0, _, _ => some []
  | n + 1, e, q =>
    if val3 (b.getD (e + 1) 0) (b.getD (e + 2) 0) (b.getD (e + 3) 0) + q ≤ b.length then
      (cutL b n (e + 7) (q + val3 (b.getD (e + 1) 0) (b.getD (e + 2) 0) (b.getD (e + 3) 0))).map
        fun L => (((b.getD e 0 : Nat) : Int), (b.drop q).take (val3 (b.getD (e + 1) 0) (b.getD (e + 2) 0) (b.getD (e + 3) 0))) :: L
    else none
def cutAll (b : List Nat) : Option (List Sec) :=
  if 6 ≤ b.length ∧ b.getD 5 0 ≤ 8 ∧ 9 + 7 * b.getD 5 0 ≤ b.length ∧ b.length ≤ 100000 then cutL b (b.getD 5 0) 6 (9 + 7 * b.getD 5 0) else none
theorem getD_of_drop {b x : List Nat} {e k : Nat} (h : b.drop e = x) : b.getD (e + k) 0 = x.getD k 0 := by
  rw [← h]; simp [List.getD, List.getElem?_drop]
theorem cutL_back (b : List Nat) : ∀ (L : List Sec) (e q : Nat) (X Y : List Nat), b.drop e = entries L ++ X → b.drop q = bodies L ++ Y → q ≤ b.length → (∀ s ∈ L, 0 ≤ s.1 ∧ s.1 ≤ 255 ∧ s.2.length < 16777216) → cutL b L.length e q = some L := by
  intro L
  induction L with
  | nil => intro e q X Y _ _ _ _; rfl
  | cons s L ih =>
    intro e q X Y he hq hql hs
    obtain ⟨h1, h2, h3⟩ := hs s (List.mem_cons_self ..)
    have hv : val3 (b.getD (e + 1) 0) (b.getD (e + 2) 0) (b.getD (e + 3) 0) = s.2.length := by
      rw [getD_of_drop he, getD_of_drop he, getD_of_drop he]
      exact val_three _ h3
    have h0 : b.getD e 0 = (s.1 % 256).toNat := by
      have := getD_of_drop (k := 0) he
      rw [Nat.add_zero] at this
      rw [this]; rfl
    rw [bodies_cons, List.append_assoc] at hq
    have hlen := congrArg List.length hq
    rw [List.length_drop, List.length_append] at hlen
    rw [List.length_cons, cutL, hv, if_pos (by omega), h0]
    have he' : b.drop (e + 7) = entries L ++ X := by
      rw [← List.drop_drop, he, entries_cons, List.append_assoc]
      exact List.drop_left (l₁ := entry s)
    have hq' : b.drop (q + s.2.length) = bodies L ++ Y := by
      rw [← List.drop_drop, hq]; exact List.drop_left
    have hlen' := congrArg List.length hq'
    rw [List.length_drop] at hlen'
    rw [ih (e + 7) (q + s.2.length) X Y he' hq' (by omega) (fun t ht => hs t (List.mem_cons_of_mem _ ht))]
    simp only [Option.map_some, Option.some.injEq]
    congr 1
    rw [hq, List.take_left]
    exact Prod.ext (by show (((s.1 % 256).toNat : Nat) : Int) = s.1; omega) rfl
theorem file_head (L : List Sec) : (file L).take (6 + 7 * L.length) = head L := by
  unfold file; rw [List.append_assoc, ← head_length L]; exact List.take_left
theorem file_get5 (L : List Sec) : (file L).getD 5 0 = L.length % 256 := by
  simp [file, head]
theorem file_drop6 (L : List Sec) : (file L).drop 6 = entries L ++ (three (Cr.sum (head L)) ++ bodies L) := by
  unfold file head
  rw [List.append_assoc, List.append_assoc]
  exact List.drop_left (l₁ := [84, 82, 73, 86, 1, L.length % 256])
theorem file_body (L : List Sec) : (file L).drop (9 + 7 * L.length) = bodies L := by
  unfold file
  have : (head L ++ three (Cr.sum (head L))).length = 9 + 7 * L.length := by rw [List.length_append, head_length, three_length]; omega
  rw [← this]; exact List.drop_left
theorem cutAll_back (L : List Sec) (h : May L) : cutAll (file L) = some L := by
  obtain ⟨h1, h2, h3⟩ := h
  have hlen := file_length L
  have h5 : (file L).getD 5 0 = L.length := by rw [file_get5]; omega
  have ht : 9 + 7 * L.length ≤ total L := by unfold total; omega
  unfold cutAll
  rw [h5, if_pos ⟨by omega, h1, by omega, by omega⟩]
  refine cutL_back _ L 6 _ _ [] (file_drop6 L) (by rw [file_body, List.append_nil]) (by omega) (fun s hs => ?_)
  have hr := rise_mem h2 s hs
  have := size_le hs
  exact ⟨by omega, hr.2, by unfold total at h3; omega⟩
open Classical in
noncomputable def unp (b : List Nat) : Option (List Sec) := match cutAll b with
  | some L => if May L ∧ file L = b then some L else none
  | none => none
theorem unp_some {b : List Nat} {L : List Sec} : unp b = some L ↔ May L ∧ file L = b := by
  unfold unp
  constructor
  · intro h
    split at h
    · split at h
      · rename_i h2; cases h; exact h2
      · cases h
    · cases h
  · rintro ⟨h1, rfl⟩
    rw [cutAll_back L h1]
    simp only
    rw [if_pos ⟨h1, rfl⟩]
theorem unp_none {b : List Nat} (h : ∀ L, May L → file L ≠ b) : unp b = none := by
  cases hu : unp b with
  | none => rfl
  | some L => obtain ⟨h1, h2⟩ := unp_some.1 hu; exact absurd h2 (h L h1)
theorem file_inj {L L' : List Sec} (h : May L) (h' : May L') (e : file L = file L') : L = L' := by
  have h1 := cutAll_back L h
  have h2 := cutAll_back L' h'
  rw [e, h2] at h1
  exact (Option.some.inj h1).symm
/-! ### what an entry tells -/
def keys (L : List Sec) : List (Nat × Nat) := L.map fun s => (s.2.length, Cr.sum s.2)
theorem keys_of_entries : ∀ (L L' : List Sec), L.length = L'.length → entries L = entries L' → (∀ s ∈ L, s.2.length < 16777216 ∧ Cr.sum s.2 < 16777216) → (∀ s ∈ L', s.2.length < 16777216 ∧ Cr.sum s.2 < 16777216) → keys L = keys L' := by
  intro L
  induction L with
  | nil => intro L' h _ _ _; cases L' with
    | nil => rfl
    | cons s L' => simp at h
  | cons s L ih =>
    intro L' h he hb hb'
    cases L' with
    | nil => simp at h
    | cons s' L' =>
      rw [entries_cons, entries_cons] at he
      obtain ⟨e1, e2⟩ := List.append_inj he (by rw [entry_length, entry_length])
      unfold entry at e1
      injection e1 with _ e1
      obtain ⟨e3, e4⟩ := List.append_inj e1 (by rw [three_length, three_length])
      have hs := hb s (List.mem_cons_self ..)
      have hs' := hb' s' (List.mem_cons_self ..)
      have e5 := three_inj hs.1 hs'.1 e3
      have e6 := three_inj hs.2 hs'.2 e4
      have := ih L' (by simpa using h) e2 (fun t ht => hb t (List.mem_cons_of_mem _ ht)) (fun t ht => hb' t (List.mem_cons_of_mem _ ht))
      simp only [keys, List.map_cons] at this ⊢
      rw [this, e5, e6]
theorem sizes_of_keys {L L' : List Sec} (h : keys L = keys L') : sizes L = sizes L' := by
  have := congrArg (fun l : List (Nat × Nat) => (l.map Prod.fst).sum) h
  simp only [keys, List.map_map] at this
  exact this
/-- What may be packed has small sizes and sums. -/
theorem small {L : List Sec} (h : May L) (hb : Bytes L) : ∀ s ∈ L, s.2.length < 16777216 ∧ Cr.sum s.2 < 16777216 := fun s hs => by
  have h1 := size_le hs
  have h2 := h.2.2
  unfold total at h2
  exact ⟨by omega, Cr.sum_lt _ (hb s hs)⟩
theorem entries_take (L : List Sec) (n : Nat) : entries (L.take n) = (entries L).take (7 * n) := by
  induction L generalizing n with
  | nil => simp [entries]
  | cons s L ih =>
    cases n with
    | zero => simp [entries]
    | succ n =>
      have ht : (entry s).take (7 * (n + 1)) = entry s := List.take_of_length_le (by rw [entry_length]; omega)
      rw [List.take_succ_cons, entries_cons, entries_cons, ih, List.take_append, ht, entry_length, show 7 * (n + 1) - 7 = 7 * n by omega]
theorem sizes_take (L : List Sec) (n : Nat) : sizes (L.take n) ≤ sizes L := by
  have h : sizes L = sizes (L.take n) + sizes (L.drop n) := by
    unfold sizes
    rw [← List.sum_append, ← List.map_append, List.take_append_drop]
  omega
/-- Files that agree in their entries, as far as both have some, are of as many sections. -/
theorem same_count {L L' : List Sec} {X X' : List Nat} (h : May L) (h' : May L') (hb : Bytes L) (hb' : Bytes L') (he : entries L ++ X = entries L' ++ X') (hle : L.length ≤ L'.length) :
    total L + 7 * (L'.length - L.length) ≤ total L' := by
  have e1 : entries L = entries (L'.take L.length) := by
    rw [entries_take]
    have := congrArg (List.take (7 * L.length)) he
    rw [← entries_length, List.take_left, List.take_append_of_le_length (by rw [entries_length, entries_length]; omega), entries_length] at this
    exact this
  have hk := keys_of_entries L (L'.take L.length) (by simp; omega) e1 (small h hb) (fun s hs => small h' hb' s (List.mem_of_mem_take hs))
  have hs := sizes_of_keys hk
  have := sizes_take L' L.length
  unfold total
  omega
/-- Two files one of which begins the other are one. -/
theorem prefix_one {L L' : List Sec} {x : List Nat} (h : May L) (h' : May L') (hb : Bytes L) (hb' : Bytes L') (e : file L ++ x = file L') : x = [] := by
  have hl := file_length L
  have hl' := file_length L'
  have h5 : L.length = L'.length := by
    have h1 := file_get5 L
    have h2 := file_get5 L'
    rw [← e, List.getD, List.getElem?_append_left (by rw [hl]; unfold total; omega)] at h2
    rw [List.getD] at h1
    have := h.1; have := h'.1
    omega
  have h6 := file_drop6 L'
  rw [← e, List.drop_append_of_le_length (by rw [hl]; unfold total; omega), file_drop6 L, List.append_assoc] at h6
  have t1 := same_count h h' hb hb' h6 (by omega)
  have t2 := same_count h' h hb' hb h6.symm (by omega)
  have := congrArg List.length e
  rw [List.length_append] at this
  exact List.eq_nil_of_length_eq_zero (by omega)
theorem bodies_turn : ∀ (L L' : List Sec) (k c : Nat), keys L = keys L' → bodies L' = (bodies L).set k c → k < (bodies L).length → c = (bodies L).getD k 0 := by
  intro L
  induction L with
  | nil => intro L' k c _ _ hk; exact absurd hk (Nat.not_lt_zero _)
  | cons s L ih =>
    intro L' k c hkey hb hk
    cases L' with
    | nil => simp [keys] at hkey
    | cons s' L' =>
      simp only [keys, List.map_cons, List.cons.injEq, Prod.mk.injEq] at hkey
      obtain ⟨⟨e1, e2⟩, e3⟩ := hkey
      rw [bodies_cons, bodies_cons] at hb
      rw [bodies_cons] at hk ⊢
      by_cases hlt : k < s.2.length
      · rw [List.set_append_left _ _ hlt] at hb
        obtain ⟨e4, _⟩ := List.append_inj hb (by rw [List.length_set]; exact e1.symm)
        rw [List.getD, List.getElem?_append_left hlt, List.getElem?_eq_getElem hlt, Option.getD_some]
        refine Cr.sum_set s.2 k c _ hlt ?_
        rw [List.set_getElem_self, ← e4, e2]
      · rw [List.set_append_right _ _ (by omega)] at hb
        obtain ⟨_, e5⟩ := List.append_inj hb e1.symm
        rw [List.getD, List.getElem?_append_right (by omega)]
        exact ih L' (k - s.2.length) c e3 e5 (by rw [List.length_append] at hk; omega)
theorem set_getD {l : List Nat} {i j c : Nat} (h : i ≠ j) : (l.set i c).getD j 0 = l.getD j 0 := by
  simp [List.getD, List.getElem?_set_ne h]
theorem set_getD_self {l : List Nat} {i c : Nat} (h : i < l.length) : (l.set i c).getD i 0 = c := by
  simp [List.getD, h]
/-- A file one byte of which is another is none. -/
theorem turned {L L' : List Sec} {q c : Nat} (h : May L) (h' : May L') (hb : Bytes L) (hb' : Bytes L') (hq : q < (file L).length) (e : file L' = (file L).set q c) : c = (file L).getD q 0 := by
  apply Classical.byContradiction
  intro hc
  have hl := file_length L
  have hl' := file_length L'
  have hll := congrArg List.length e
  rw [List.length_set, hl, hl'] at hll
  have h8 := h.1
  have h8' := h'.1
  have ht : 9 + 7 * L.length ≤ total L := by unfold total; omega
  have hself : (file L').getD q 0 = c := by rw [e]; exact set_getD_self hq
  by_cases q5 : q < 5
  · have : ∀ K : List Sec, (file K).getD q 0 = [84, 82, 73, 86, 1].getD q 0 := fun K => by
      match q, q5 with
      | 0, _ => rfl
      | 1, _ => rfl
      | 2, _ => rfl
      | 3, _ => rfl
      | 4, _ => rfl
    rw [this] at hself
    exact hc (by rw [this]; exact hself.symm)
  by_cases q6 : q = 5
  · subst q6
    have h6 := file_drop6 L'
    rw [e, List.drop_set_of_lt (by omega), file_drop6 L] at h6
    have f5 := file_get5 L
    have f5' := file_get5 L'
    rw [hself] at f5'
    have hne : L.length ≠ L'.length := by intro heq; apply hc; rw [f5, f5', heq]
    rcases Nat.lt_or_gt_of_ne hne with hlt | hlt
    · have := same_count h h' hb hb' h6 (by omega); omega
    · have := same_count h' h hb' hb h6.symm (by omega); omega
  have hn : L.length = L'.length := by
    have f5 := file_get5 L
    have f5' := file_get5 L'
    rw [e, set_getD (by omega), f5] at f5'
    omega
  have hhl := head_length L
  have hhl' := head_length L'
  have hsum : Cr.sum (head L) < 16777216 ∧ Cr.sum (head L') < 16777216 := by
    have hby : ∀ K : List Sec, ∀ i, (head K).getD i 0 < 256 := fun K i => by
      have hall : ∀ x ∈ head K, x < 256 := by
        intro x hx
        unfold head at hx
        rw [List.mem_append] at hx
        rcases hx with hx | hx
        · simp at hx; omega
        · unfold entries at hx
          rw [List.mem_flatMap] at hx
          obtain ⟨s, _, hs⟩ := hx
          unfold entry three at hs
          simp at hs; omega
      rcases Nat.lt_or_ge i (head K).length with hi | hi
      · rw [List.getD, List.getElem?_eq_getElem hi]; exact hall _ (List.getElem_mem _)
      · rw [List.getD, List.getElem?_eq_none hi]; decide
    exact ⟨Cr.sum_lt _ (hby L), Cr.sum_lt _ (hby L')⟩
  have e2 := e
  unfold file at e2
  rw [List.append_assoc, List.append_assoc] at e2
  by_cases q7 : q < 6 + 7 * L.length
  · rw [List.set_append_left _ _ (by omega)] at e2
    obtain ⟨a1, a2⟩ := List.append_inj e2 (by rw [List.length_set]; omega)
    obtain ⟨a3, _⟩ := List.append_inj a2 (by rw [three_length, three_length])
    have hs := three_inj hsum.2 hsum.1 a3
    rw [a1] at hs
    have hqh : q < (head L).length := by omega
    have := Cr.sum_set (head L) q c ((head L)[q]) hqh (by rw [List.set_getElem_self]; exact hs)
    apply hc
    rw [this]
    unfold file
    rw [List.append_assoc, List.getD, List.getElem?_append_left hqh, List.getElem?_eq_getElem hqh]; rfl
  · rw [List.set_append_right _ _ (by omega)] at e2
    obtain ⟨a1, a2⟩ := List.append_inj e2 (by omega)
    by_cases q8 : q - (head L).length < 3
    · rw [List.set_append_left _ _ (by rw [three_length]; exact q8)] at a2
      obtain ⟨a3, _⟩ := List.append_inj a2 (by rw [List.length_set, three_length, three_length])
      rw [a1] at a3
      apply hc
      have := congrArg (fun l : List Nat => l.getD (q - (head L).length) 0) a3
      simp only [set_getD_self (show q - (head L).length < (three (Cr.sum (head L))).length by rw [three_length]; exact q8)] at this
      rw [← this]
      unfold file
      rw [List.append_assoc, List.getD, List.getD, List.getElem?_append_right (by omega), List.getElem?_append_left (by rw [three_length]; exact q8)]
    · rw [List.set_append_right _ _ (by rw [three_length]; omega)] at a2
      obtain ⟨_, a4⟩ := List.append_inj a2 (by rw [three_length, three_length])
      unfold head at a1
      obtain ⟨_, a5⟩ := List.append_inj a1 (by rfl)
      have hk := keys_of_entries L L' hn a5.symm (small h hb) (small h' hb')
      have hbl : q - (head L).length - 3 < (bodies L).length := by
        rw [bodies_length]; unfold total at hl; omega
      have := bodies_turn L L' _ c hk a4 (by rw [three_length]; exact hbl)
      apply hc
      rw [this]
      unfold file
      rw [List.append_assoc, List.getD, List.getD, List.getElem?_append_right (by omega), List.getElem?_append_right (by rw [three_length]; omega)]
/-! ### one section after another -/
def riseB : Int → List Sec → Bool
  | _, [] => true
  | p, s :: L => (decide (p < s.1) && decide (s.1 ≤ 255)) && riseB s.1 L
theorem riseB_iff (L : List Sec) : ∀ p, riseB p L = true ↔ rise p L := by
  induction L with
  | nil => intro p; simp [riseB, rise]
  | cons s L ih => intro p; simp only [riseB, rise, Bool.and_eq_true, decide_eq_true_eq, ih]; constructor <;> (intro h; obtain ⟨h1, h2⟩ := h; simp_all)
def mayB (L : List Sec) : Bool := decide (L.length ≤ 8) && riseB 0 L && decide (total L ≤ 100000)
theorem mayB_iff (L : List Sec) : mayB L = true ↔ May L := by
  unfold mayB May
  simp only [Bool.and_eq_true, decide_eq_true_eq, riseB_iff]
  constructor
  · rintro ⟨⟨h1, h2⟩, h3⟩; exact ⟨h1, h2, h3⟩
  · rintro ⟨h1, h2, h3⟩; exact ⟨⟨h1, h2⟩, h3⟩
theorem drop_cons (L : List Sec) (i : Nat) (h : i < L.length) : L.drop i = L[i] :: L.drop (i + 1) := List.drop_eq_getElem_cons h
theorem riseB_drop (L : List Sec) (p : Int) (i : Nat) (h : i < L.length) : riseB p (L.drop i) = ((decide (p < L[i].1) && decide (L[i].1 ≤ 255)) && riseB L[i].1 (L.drop (i + 1))) := by
  rw [drop_cons L i h]; rfl
theorem sizes_drop (L : List Sec) (i : Nat) (h : i < L.length) : sizes (L.drop i) = L[i].2.length + sizes (L.drop (i + 1)) := by
  rw [drop_cons L i h]; rfl
theorem entries_snoc (L : List Sec) (i : Nat) (h : i < L.length) : entries (L.take (i + 1)) = entries (L.take i) ++ entry L[i] := by
  rw [List.take_add_one, List.getElem?_eq_getElem h]
  unfold entries
  rw [List.flatMap_append]; simp
theorem bodies_snoc (L : List Sec) (i : Nat) (h : i < L.length) : bodies (L.take (i + 1)) = bodies (L.take i) ++ L[i].2 := by
  rw [List.take_add_one, List.getElem?_eq_getElem h]
  unfold bodies
  rw [List.flatMap_append]; simp
end Go.Proofs.Ytgbhnkiballeeaa.Bx
