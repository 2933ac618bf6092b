/- Plain facts on triples of numbers, in three orders: what lies ahead of what, a step from order to order, which rows match. -/
import Derived.Test.YtagadfgginneeaaWvMath
namespace Go.Proofs.Ytagadfgginneeaa.Rg
set_option linter.unusedVariables false
set_option linter.unusedSimpArgs false
/-- A triple of numbers. -/
abbrev T := Int × Int × Int
def at' (t : T) (c : Nat) : Int := if c = 0 then t.1 else if c = 1 then t.2.1 else t.2.2
def nx (c : Nat) : Nat := (c + 1) % 3
def pv (c : Nat) : Nat := (c + 2) % 3
def rot (c : Nat) (t : T) : T := (at' t c, at' t (nx c), at' t (pv c))
def cmp (a b : T) : Int := if a.1 < b.1 then -1 else if b.1 < a.1 then 1 else if a.2.1 < b.2.1 then -1 else if b.2.1 < a.2.1 then 1 else if a.2.2 < b.2.2 then -1 else if b.2.2 < a.2.2 then 1 else 0
def lt (a b : T) : Prop := a.1 < b.1 ∨ a.1 = b.1 ∧ (a.2.1 < b.2.1 ∨ a.2.1 = b.2.1 ∧ a.2.2 < b.2.2)
instance (a b : T) : Decidable (lt a b) := by unfold lt; infer_instance
theorem cmp_neg (a b : T) : cmp a b < 0 ↔ lt a b := by
  unfold cmp lt; (repeat' split) <;> omega
theorem cmp_cases (a b : T) : cmp a b = -1 ∨ cmp a b = 0 ∨ cmp a b = 1 := by
  unfold cmp; (repeat' split) <;> omega
theorem lt_irrefl (a : T) : ¬ lt a a := by unfold lt; omega
theorem lt_trans {a b c : T} (h : lt a b) (k : lt b c) : lt a c := by unfold lt at *; omega
theorem lt_asymm {a b : T} (h : lt a b) : ¬ lt b a := by unfold lt at *; omega
theorem ext {a b : T} (h1 : a.1 = b.1) (h2 : a.2.1 = b.2.1) (h3 : a.2.2 = b.2.2) : a = b := Prod.ext h1 (Prod.ext h2 h3)
theorem lt_total {a b : T} (h : ¬ lt a b) (k : ¬ lt b a) : a = b := by
  unfold lt at *; exact ext (by omega) (by omega) (by omega)
theorem c3 {c : Nat} (h : c < 3) : c = 0 ∨ c = 1 ∨ c = 2 := by omega
theorem rot_inj {c : Nat} (hc : c < 3) {a b : T} (h : rot c a = rot c b) : a = b := by
  unfold rot at h
  simp only [Prod.mk.injEq] at h
  rcases c3 hc with rfl | rfl | rfl <;> simp [at', nx, pv] at h <;> exact ext (by omega) (by omega) (by omega)
/-- The order that column c begins. -/
def ltc (c : Nat) (a b : T) : Prop := lt (rot c a) (rot c b)
instance (c : Nat) (a b : T) : Decidable (ltc c a b) := by unfold ltc; infer_instance
def cf (c : Nat) (a b : T) : Int := cmp (rot c a) (rot c b)
theorem rot_zero (a : T) : rot 0 a = a := rfl
/-- The rows of the order that column c begins. -/
def O (l : List T) (c : Nat) : List T := l.mergeSort fun x y => !decide (cf c y x < 0)
theorem O_perm (l : List T) (c : Nat) : (O l c).Perm l := List.mergeSort_perm _ _
theorem O_length (l : List T) (c : Nat) : (O l c).length = l.length := (O_perm l c).length_eq
theorem O_sorted (l : List T) (c : Nat) (hc : c < 3) (hn : l.Nodup) : (O l c).Pairwise (ltc c) := by
  have h1 : (O l c).Pairwise fun x y => (!decide (cf c y x < 0)) = true := List.pairwise_mergeSort (fun a b d h k => by
    simp only [Bool.not_eq_true', decide_eq_false_iff_not, cf, cmp_neg] at h k ⊢
    unfold lt at *; omega) (fun a b => by
    simp only [Bool.or_eq_true, Bool.not_eq_true', decide_eq_false_iff_not, cf, cmp_neg]
    by_cases h : lt (rot c b) (rot c a)
    · exact Or.inr (lt_asymm h)
    · exact Or.inl h) l
  have h2 : (O l c).Nodup := (O_perm l c).symm.nodup hn
  refine (h1.and h2).imp fun {a b} ⟨h, hne⟩ => ?_
  simp only [Bool.not_eq_true', decide_eq_false_iff_not, cf, cmp_neg] at h
  by_cases hlt : lt (rot c a) (rot c b)
  · exact hlt
  · exact absurd (rot_inj hc (lt_total hlt h)) hne
/-! ### what lies below -/
theorem take_lower {R : T → T → Prop} {L : List T} (hs : L.Pairwise R) {P : T → Bool} (hP : ∀ s t, R s t → P t = true → P s = true) : L.take (L.countP P) = L.filter P := by
  induction L with
  | nil => rfl
  | cons x L ih =>
    rw [List.pairwise_cons] at hs
    cases hx : P x
    · have h0 : ∀ y ∈ L, P y = false := fun y hy => by
        cases hy' : P y
        · rfl
        · have := hP x y (hs.1 y hy) hy'; rw [hx] at this; cases this
      have h1 : L.countP P = 0 := by rw [List.countP_eq_zero]; intro y hy; rw [h0 y hy]; decide
      have h2 : L.filter P = [] := by rw [List.filter_eq_nil_iff]; intro y hy; rw [h0 y hy]; decide
      rw [List.countP_cons, h1, List.filter_cons, h2]; simp [hx]
    · rw [List.countP_cons, List.filter_cons]; simp [hx, ih hs.2]
theorem drop_lower {R : T → T → Prop} {L : List T} (hs : L.Pairwise R) {P : T → Bool} (hP : ∀ s t, R s t → P t = true → P s = true) : L.drop (L.countP P) = L.filter fun t => !P t := by
  induction L with
  | nil => rfl
  | cons x L ih =>
    rw [List.pairwise_cons] at hs
    cases hx : P x
    · have h0 : ∀ y ∈ L, P y = false := fun y hy => by
        cases hy' : P y
        · rfl
        · have := hP x y (hs.1 y hy) hy'; rw [hx] at this; cases this
      have h1 : L.countP P = 0 := by rw [List.countP_eq_zero]; intro y hy; rw [h0 y hy]; decide
      have h2 : L.filter (fun t => !P t) = L := by rw [List.filter_eq_self]; intro y hy; rw [h0 y hy]; decide
      rw [List.countP_cons, h1, List.filter_cons, h2]; simp [hx]
    · rw [List.countP_cons, List.filter_cons]; simp [hx, ih hs.2]
theorem idx {R : T → T → Prop} [∀ a b, Decidable (R a b)] {L : List T} (hs : L.Pairwise R) (hi : ∀ a, ¬ R a a) (ha : ∀ a b, R a b → ¬ R b a) : ∀ (i : Nat) (h : i < L.length), L.countP (fun s => decide (R s L[i])) = i := by
  induction L with
  | nil => intro i h; exact absurd h (Nat.not_lt_zero _)
  | cons x L ih =>
    intro i h
    rw [List.pairwise_cons] at hs
    cases i with
    | zero =>
      rw [List.countP_eq_zero]
      intro y hy
      simp only [List.getElem_cons_zero, decide_eq_true_eq]
      rcases List.mem_cons.1 hy with rfl | hy
      · exact hi _
      · exact ha _ _ (hs.1 y hy)
    | succ i =>
      simp only [List.getElem_cons_succ]
      rw [List.countP_cons, ih hs.2 i (by simpa using h), if_pos (by simpa using hs.1 _ (List.getElem_mem _))]
theorem at_idx {l : List T} {c : Nat} (hc : c < 3) (hn : l.Nodup) {t : T} (ht : t ∈ l) : l.countP (fun s => decide (ltc c s t)) < l.length ∧ (O l c)[l.countP (fun s => decide (ltc c s t))]? = some t := by
  obtain ⟨i, hi, e⟩ := List.getElem_of_mem ((O_perm l c).mem_iff.2 ht)
  have h := idx (O_sorted l c hc hn) (fun a => lt_irrefl _) (fun a b h => lt_asymm h) i hi
  rw [e, (O_perm l c).countP_eq] at h
  rw [h]
  exact ⟨by rw [← O_length l c]; exact hi, by rw [List.getElem?_eq_getElem hi, e]⟩
theorem idx_at {l : List T} {c i : Nat} (hc : c < 3) (hn : l.Nodup) (hi : i < l.length) {t : T} (ht : (O l c)[i]? = some t) : l.countP (fun s => decide (ltc c s t)) = i ∧ t ∈ l := by
  have hi' : i < (O l c).length := by rw [O_length]; exact hi
  rw [List.getElem?_eq_getElem hi'] at ht
  cases ht
  have h := idx (O_sorted l c hc hn) (fun a => lt_irrefl _) (fun a b h => lt_asymm h) i hi'
  rw [(O_perm l c).countP_eq] at h
  exact ⟨h, (O_perm l c).mem_iff.1 (List.getElem_mem _)⟩
/-! ### a step -/
def Lower (c : Nat) (P : T → Bool) : Prop := ∀ s t, ltc c s t → P t = true → P s = true
/-- What lies ahead of P's rows with v, in the order of the column ahead. -/
def ahd (c : Nat) (v : Int) (P : T → Bool) (t : T) : Bool := decide (at' t (pv c) < v) || (decide (at' t (pv c) = v) && P t)
theorem pv_lt (c : Nat) : pv c < 3 := Nat.mod_lt _ (by decide)
theorem lower_ahd {c : Nat} (hc : c < 3) {P : T → Bool} (v : Int) (h : Lower c P) : Lower (pv c) (ahd c v P) := by
  intro s t hst ht
  unfold ahd at *
  simp only [Bool.or_eq_true, Bool.and_eq_true, decide_eq_true_eq] at ht ⊢
  have key : at' s (pv c) < at' t (pv c) ∨ at' s (pv c) = at' t (pv c) ∧ ltc c s t := by
    unfold ltc lt rot at *
    rcases c3 hc with rfl | rfl | rfl <;> simp [at', nx, pv] at hst ⊢ <;> omega
  rcases key with k | ⟨k, k2⟩
  · rcases ht with ht | ⟨ht, _⟩ <;> exact Or.inl (by omega)
  · rcases ht with ht | ⟨ht, hp⟩
    · exact Or.inl (by omega)
    · exact Or.inr ⟨by omega, h s t k2 hp⟩
theorem lower_idx {c : Nat} (t : T) : Lower c fun s => decide (ltc c s t) := by
  intro a b h k
  simp only [decide_eq_true_eq] at *
  exact lt_trans h k
/-- The place of the same row in the order of the column ahead. -/
theorem ahd_idx {c : Nat} (hc : c < 3) (s t : T) : ahd c (at' t (pv c)) (fun s => decide (ltc c s t)) s = decide (ltc (pv c) s t) := by
  unfold ahd
  rw [← Bool.decide_and, ← Bool.decide_or, decide_eq_decide]
  unfold ltc lt rot at *
  rcases c3 hc with rfl | rfl | rfl <;> simp [at', nx, pv] <;> omega
/-- The column ahead of c, in the order that c begins. -/
def A (l : List T) (c : Nat) : List Nat := (O l c).map fun t => (at' t (pv c)).toNat
theorem A_length (l : List T) (c : Nat) : (A l c).length = l.length := by rw [A, List.length_map, O_length]
/-- Numbers that may be. -/
def Ok (t : T) : Prop := ∀ c, c < 3 → 1 ≤ at' t c ∧ at' t c ≤ 1000
theorem A_le {l : List T} {c : Nat} (h : ∀ t ∈ l, Ok t) : ∀ x ∈ A l c, 1 ≤ x ∧ x ≤ 1000 := by
  intro x hx
  unfold A at hx
  rw [List.mem_map] at hx
  obtain ⟨t, ht, rfl⟩ := hx
  have := h t ((O_perm l c).mem_iff.1 ht) (pv c) (pv_lt c)
  omega
theorem countP_A (L : List T) (c : Nat) (h : ∀ t ∈ L, Ok t) (q : Int → Bool) : (L.map fun t => (at' t (pv c)).toNat).countP (fun x : Nat => q x) = L.countP fun t => q (at' t (pv c)) := by
  rw [List.countP_map]
  apply List.countP_congr
  intro t ht
  have := h t ht (pv c) (pv_lt c)
  simp only [Function.comp]
  rw [Int.toNat_of_nonneg (by omega)]
theorem step_eq {l : List T} {c : Nat} (hc : c < 3) (hn : l.Nodup) (h : ∀ t ∈ l, Ok t) {P : T → Bool} (hP : Lower c P) (v : Int) :
    (l.length : Int) - ((A l c).countP fun n : Nat => decide (v ≤ (n : Int)) && decide ((n : Int) ≤ 1000) : Nat) + (((A l c).take (l.countP P)).countP fun n : Nat => decide (v ≤ (n : Int)) && decide ((n : Int) ≤ v) : Nat) = (l.countP (ahd c v P) : Nat) := by
  have hO : ∀ t ∈ O l c, Ok t := fun t ht => h t ((O_perm l c).mem_iff.1 ht)
  have e1 : (A l c).countP (fun n : Nat => decide (v ≤ (n : Int)) && decide ((n : Int) ≤ 1000)) = l.countP fun t => decide (v ≤ at' t (pv c)) := by
    unfold A
    rw [countP_A (O l c) c hO (fun n => decide (v ≤ n) && decide (n ≤ 1000)), (O_perm l c).countP_eq]
    apply List.countP_congr
    intro t ht
    have := h t ht (pv c) (pv_lt c)
    simp; omega
  have e2 : (A l c).take (l.countP P) = ((O l c).filter P).map fun t => (at' t (pv c)).toNat := by
    unfold A
    rw [← List.map_take, ← (O_perm l c).countP_eq, take_lower (O_sorted l c hc hn) hP]
  have e3 : ((A l c).take (l.countP P)).countP (fun n : Nat => decide (v ≤ (n : Int)) && decide ((n : Int) ≤ v)) = l.countP fun t => decide (at' t (pv c) = v) && P t := by
    rw [e2, countP_A _ c (fun t ht => hO t (List.mem_filter.1 ht).1) (fun n => decide (v ≤ n) && decide (n ≤ v)), List.countP_filter, (O_perm l c).countP_eq]
    apply List.countP_congr
    intro t ht
    simp only [Bool.and_eq_true, decide_eq_true_eq]
    constructor
    · rintro ⟨⟨h1, h2⟩, h3⟩; exact ⟨by omega, h3⟩
    · rintro ⟨h1, h3⟩; exact ⟨⟨by omega, by omega⟩, h3⟩
  rw [e1, e3]
  clear e1 e2 e3 hO hP h hn
  induction l with
  | nil => rfl
  | cons t l ih =>
    simp only [List.countP_cons, List.length_cons, ahd, Bool.or_eq_true, Bool.and_eq_true, decide_eq_true_eq] at ih ⊢
    generalize at' t (pv c) = x
    generalize P t = b
    rcases Int.lt_trichotomy x v with hx | hx | hx
    · have a1 : ¬ v ≤ x := by omega
      have a2 : ¬ x = v := by omega
      cases b <;> simp [hx, a1, a2] <;> omega
    · subst hx
      cases b <;> simp <;> omega
    · have a1 : v ≤ x := by omega
      have a2 : ¬ x = v := by omega
      have a3 : ¬ x < v := by omega
      cases b <;> simp [a1, a2, a3] <;> omega
/-! ### what matches -/
def mt (p t : T) : Bool := (decide (p.1 = 0) || decide (p.1 = t.1)) && (decide (p.2.1 = 0) || decide (p.2.1 = t.2.1)) && (decide (p.2.2 = 0) || decide (p.2.2 = t.2.2))
def start (p : T) : Nat := if p.1 = 0 ∧ p.2.2 ≠ 0 then 0 else if p.2.1 = 0 ∧ p.1 ≠ 0 then 1 else if p.2.2 = 0 ∧ p.2.1 ≠ 0 then 2 else 0
/-- The way of find: the order, and what lies ahead of its range and of its end. -/
def way (p : T) : Nat → Nat → (T → Bool) → (T → Bool) → Nat × (T → Bool) × (T → Bool)
  | 0, c, P, Q => (c, P, Q)
  | k + 1, c, P, Q => if at' p (pv c) = 0 then (c, P, Q) else way p k (pv c) (ahd c (at' p (pv c)) P) (ahd c (at' p (pv c)) Q)
def fnd (p : T) : Nat × (T → Bool) × (T → Bool) := way p 3 (start p) (fun _ => false) (fun _ => true)
theorem start_lt (p : T) : start p < 3 := by unfold start; (repeat' split) <;> omega
theorem way_lower (p : T) : ∀ (k c : Nat) (P Q : T → Bool), c < 3 → Lower c P → Lower c Q → (∀ t, P t = true → Q t = true) →
    (way p k c P Q).1 < 3 ∧ Lower (way p k c P Q).1 (way p k c P Q).2.1 ∧ Lower (way p k c P Q).1 (way p k c P Q).2.2 ∧ ∀ t, (way p k c P Q).2.1 t = true → (way p k c P Q).2.2 t = true := by
  intro k
  induction k with
  | zero => intro c P Q hc h1 h2 h3; exact ⟨hc, h1, h2, h3⟩
  | succ k ih =>
    intro c P Q hc h1 h2 h3
    unfold way
    split
    · exact ⟨hc, h1, h2, h3⟩
    · refine ih _ _ _ (pv_lt c) (lower_ahd hc _ h1) (lower_ahd hc _ h2) fun t ht => ?_
      unfold ahd at *
      simp only [Bool.or_eq_true, Bool.and_eq_true, decide_eq_true_eq] at ht ⊢
      rcases ht with ht | ⟨a, b⟩
      · exact Or.inl ht
      · exact Or.inr ⟨a, h3 t b⟩
theorem fnd_lower (p : T) : (fnd p).1 < 3 ∧ Lower (fnd p).1 (fnd p).2.1 ∧ Lower (fnd p).1 (fnd p).2.2 ∧ ∀ t, (fnd p).2.1 t = true → (fnd p).2.2 t = true :=
  way_lower p 3 (start p) _ _ (start_lt p) (fun _ _ _ h => h) (fun _ _ _ h => h) (fun _ _ => rfl)
theorem fnd_match (p t : T) : ((fnd p).2.2 t && !(fnd p).2.1 t) = mt p t := by
  obtain ⟨a, b, c⟩ := p
  by_cases ha : a = 0 <;> by_cases hb : b = 0 <;> by_cases hc : c = 0 <;>
    simp [fnd, way, start, ahd, at', pv, mt, ha, hb, hc] <;> (try (rw [Bool.eq_iff_iff]; simp; omega))
/-- Where Next searches the column rises. -/
theorem fnd_rises (p : T) (col : Nat) (hc : col < 3) (h1 : ¬ (col = pv (fnd p).1 ∧ at' p col = 0)) (h2 : p ≠ (0, 0, 0)) (s t : T) (hs : mt p s = true) (ht : mt p t = true) (h : ltc (fnd p).1 s t) : at' s col ≤ at' t col := by
  obtain ⟨a, b, c⟩ := p
  revert h h1
  by_cases ha : a = 0 <;> by_cases hb : b = 0 <;> by_cases hc' : c = 0 <;>
    simp [ha, hb, hc'] at h2 <;> simp [mt, ha, hb, hc'] at hs ht <;> rcases c3 hc with rfl | rfl | rfl <;>
    simp [fnd, way, start, at', pv, ha, hb, hc', ltc, lt, rot, nx] <;> omega
/-- The rows that match, in find's order. -/
theorem rows_eq {l : List T} (hn : l.Nodup) (p : T) : ((O l (fnd p).1).take (l.countP (fnd p).2.2)).drop (l.countP (fnd p).2.1) = (O l (fnd p).1).filter (mt p) := by
  obtain ⟨hc, hP, hQ, hPQ⟩ := fnd_lower p
  have hs := O_sorted l _ hc hn
  have e1 : l.countP (fnd p).2.1 = ((O l (fnd p).1).filter (fnd p).2.2).countP (fnd p).2.1 := by
    rw [List.countP_filter, (O_perm l _).countP_eq]
    apply List.countP_congr
    intro t _
    simp only [Bool.and_eq_true]
    exact ⟨fun h => ⟨h, hPQ t h⟩, fun h => h.1⟩
  rw [← (O_perm l (fnd p).1).countP_eq (fnd p).2.2, take_lower hs hQ, e1, drop_lower (hs.filter _) hP, List.filter_filter]
  apply List.filter_congr
  intro t _
  rw [← fnd_match p t, Bool.and_comm]
theorem count_eq (l : List T) (p : T) : l.countP (fnd p).2.1 + l.countP (mt p) = l.countP (fnd p).2.2 := by
  obtain ⟨_, _, _, hPQ⟩ := fnd_lower p
  have hm := fnd_match p
  generalize (fnd p).2.1 = P at *
  generalize (fnd p).2.2 = Q at *
  induction l with
  | nil => rfl
  | cons t l ih =>
    simp only [List.countP_cons]
    have h1 := hPQ t
    have h2 := hm t
    rw [← h2]
    cases hp : P t <;> cases hq : Q t <;> simp [hp, hq] at h1 ⊢ <;> omega
end Go.Proofs.Ytagadfgginneeaa.Rg
