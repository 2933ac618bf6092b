/- How many steps parts have; what sequences and alternatives have. -/
import Derived.Test.YtobcbaeoedpefaaDoorAuLaw3
namespace Go.Proofs.YtobcbaeoedpefaaDoor
set_option linter.unusedVariables false
set_option linter.unusedSimpArgs false
open Go.ChangeShapes Go.WideShapes Go.ChangeAt Go.RowKit
open Au
theorem fst_shift : ∀ (r : Rx) (m k j : Nat), r.fst (m + k) (j + k) = r.fst m j
  | .leaf _, m, k, j => by simp only [Rx.fst]; exact decide_eq_decide.2 (by omega)
  | .seq a b, m, k, j => by simp only [Rx.fst]; rw [fst_shift a, show m + k + a.n = m + a.n + k by omega, fst_shift b]
  | .alt a b, m, k, j => by simp only [Rx.fst]; rw [fst_shift a, show m + k + a.n = m + a.n + k by omega, fst_shift b]
  | .star a, m, k, j | .plus a, m, k, j | .maybe a, m, k, j => by simp only [Rx.fst]; rw [fst_shift a]
theorem lst_shift : ∀ (r : Rx) (m k j : Nat), r.lst (m + k) (j + k) = r.lst m j
  | .leaf _, m, k, j => by simp only [Rx.lst]; exact decide_eq_decide.2 (by omega)
  | .seq a b, m, k, j => by simp only [Rx.lst]; rw [lst_shift a, show m + k + a.n = m + a.n + k by omega, lst_shift b]
  | .alt a b, m, k, j => by simp only [Rx.lst]; rw [lst_shift a, show m + k + a.n = m + a.n + k by omega, lst_shift b]
  | .star a, m, k, j | .plus a, m, k, j | .maybe a, m, k, j => by simp only [Rx.lst]; rw [lst_shift a]
theorem fol_shift : ∀ (r : Rx) (m k i j : Nat), r.fol (m + k) (i + k) (j + k) = r.fol m i j
  | .leaf _, m, k, i, j => rfl
  | .seq a b, m, k, i, j => by simp only [Rx.fol]; rw [fol_shift a, show m + k + a.n = m + a.n + k by omega, fol_shift b, fst_shift b, lst_shift a]
  | .alt a b, m, k, i, j => by simp only [Rx.fol]; rw [fol_shift a, show m + k + a.n = m + a.n + k by omega, fol_shift b]
  | .star a, m, k, i, j | .plus a, m, k, i, j => by simp only [Rx.fol]; rw [fol_shift a, fst_shift a, lst_shift a]
  | .maybe a, m, k, i, j => by simp only [Rx.fol]; rw [fol_shift a]
theorem sum_sub {l k : List Nat} (h : l.Sublist k) (g : Nat → Nat) : (l.map g).sum ≤ (k.map g).sum := by
  induction h with
  | slnil => simp
  | cons a _ ih => simp only [List.map_cons, List.sum_cons]; omega
  | cons_cons a _ ih => simp only [List.map_cons, List.sum_cons]; omega
theorem map_range_sub (sh : Nat → Nat) : ∀ (m n : Nat), (∀ i j, i < j → j < m → sh i < sh j) → (∀ i, i < m → sh i < n) → ((List.range m).map sh).Sublist (List.range n)
  | 0, n, _, _ => by simp
  | m + 1, n, hs, hn => by
    rw [List.range_succ, List.map_append]
    have h1 := map_range_sub sh m (sh m) (fun i j hij hj => hs i j hij (by omega)) (fun i hi => hs i m hi (by omega))
    have h2 : (List.range (sh m) ++ [sh m]).Sublist (List.range n) := by
      rw [← List.range_succ]
      exact List.range_sublist.2 (hn m (by omega))
    exact (h1.append (List.Sublist.refl _)).trans h2
theorem cnt_sub {a r : Rx} (sh : Nat → Nat) (hs : ∀ i j, i < j → sh i < sh j) (hn : ∀ i, i < 1 + a.n → sh i < 1 + r.n) (h : ∀ i j, i < 1 + a.n → j < 1 + a.n → a.nxt i j = true → r.nxt (sh i) (sh j) = true) : Rx.cnt a ≤ Rx.cnt r := by
  have hsub := map_range_sub sh (1 + a.n) (1 + r.n) (fun i j hij _ => hs i j hij) hn
  refine Nat.le_trans ?_ (sum_sub hsub _)
  unfold Rx.cnt
  rw [List.map_map]
  have key : ∀ l : List Nat, (∀ i ∈ l, i < 1 + a.n) → (l.map fun i => ((List.range (1 + a.n)).filter fun j => a.nxt i j).length).sum ≤ (l.map ((fun i => ((List.range (1 + r.n)).filter fun j => r.nxt i j).length) ∘ sh)).sum := by
    intro l
    induction l with
    | nil => intro _; simp
    | cons i l ih =>
      intro hl
      have h1 := ih (fun k hk => hl k (by simp [hk]))
      have h2 : ((List.range (1 + a.n)).filter fun j => a.nxt i j).length ≤ ((List.range (1 + r.n)).filter fun j => r.nxt (sh i) j).length := by
        have e1 : ((((List.range (1 + a.n)).filter fun j => a.nxt i j).map sh).filter fun j => r.nxt (sh i) j) = ((List.range (1 + a.n)).filter fun j => a.nxt i j).map sh := by
          rw [List.filter_eq_self]
          intro u hu
          obtain ⟨j, hj, rfl⟩ := List.mem_map.1 hu
          obtain ⟨hj1, hj2⟩ := List.mem_filter.1 hj
          exact h i j (hl i (by simp)) (List.mem_range.1 hj1) hj2
        have e2 : ((((List.range (1 + a.n)).filter fun j => a.nxt i j).map sh).filter fun j => r.nxt (sh i) j).Sublist ((List.range (1 + r.n)).filter fun j => r.nxt (sh i) j) :=
          ((List.filter_sublist.map sh).trans hsub).filter _
        have := e2.length_le
        rw [e1, List.length_map] at this
        exact this
      simp only [List.map_cons, List.sum_cons, Function.comp_apply] at h1 ⊢
      simp only [Function.comp_def] at h1 ⊢
      omega
  exact key _ (fun i hi => List.mem_range.1 hi)
theorem cnt_alt_left (a b : Rx) : Rx.cnt a ≤ Rx.cnt (.alt a b) := by
  refine cnt_sub id (fun _ _ h => h) (fun i hi => by rw [Rx.n_alt]; simp only [id]; omega) (fun i j hi hj h => ?_)
  simp only [id]
  unfold Rx.nxt at h ⊢
  by_cases h0 : i = 0
  · rw [if_pos h0] at h ⊢; simp only [Rx.fst]; rw [h, Bool.true_or]
  · rw [if_neg h0] at h ⊢; simp only [Rx.fol]; rw [h, Bool.true_or]
theorem cnt_alt_right (a b : Rx) : Rx.cnt b ≤ Rx.cnt (.alt a b) := by
  refine cnt_sub (fun i => if i = 0 then 0 else i + a.n) (fun i j h => ?_) (fun i hi => ?_) (fun i j hi hj h => ?_)
  · show (if i = 0 then 0 else i + a.n) < (if j = 0 then 0 else j + a.n)
    rw [if_neg (by omega : ¬ j = 0)]
    split <;> omega
  · rw [Rx.n_alt]; show (if i = 0 then 0 else i + a.n) < _; split <;> omega
  · show (Rx.alt a b).nxt (if i = 0 then 0 else i + a.n) (if j = 0 then 0 else j + a.n) = true
    unfold Rx.nxt at h ⊢
    by_cases h0 : i = 0
    · rw [if_pos h0] at h
      rw [if_pos h0, if_pos rfl]
      have hj1 := (Rx.fst_range b 1 j h)
      rw [if_neg (by omega)]
      simp only [Rx.fst]
      rw [fst_shift b, h, Bool.or_true]
    · rw [if_neg h0] at h
      have hj1 := (Rx.fol_range b 1 i j h)
      rw [if_neg h0, if_neg (by omega), if_neg (by omega)]
      simp only [Rx.fol]
      rw [fol_shift b, h, Bool.or_true]
/-! ### what parts may be, and have -/
theorem wf_lessK {x : Pt} : ∀ {d : Nat}, x.wf (d + 1) = true → x.wf d = true := by
  induction x using Pt.ind with
  | h k t L K ih =>
    intro d h
    rw [wf_mk] at h ⊢
    simp only [Bool.and_eq_true, decide_eq_true_eq, Pt.wfs_all] at h ⊢
    exact ⟨⟨⟨by omega, h.1.1.2⟩, h.1.2⟩, fun y hy => ih y hy (h.2 y hy)⟩
theorem kids_may {k : Int} {x y : Pt} (h : (Pt.mk k [] [] [x, y]).may = true) : x.may = true ∧ y.may = true := by
  unfold Pt.may at h
  rw [wf_mk, size_mk] at h
  simp only [Bool.and_eq_true, Pt.wfs_all, Pt.sizes] at h
  have h1 := h.1.2 x (by simp)
  have h3 := h.1.2 y (by simp)
  unfold Pt.may
  rw [Bool.and_eq_true, decide_eq_true_eq, Bool.and_eq_true, decide_eq_true_eq]
  have h2 : 1 + (x.size + (y.size + 0)) ≤ 30 := of_decide_eq_true h.2
  exact ⟨⟨wf_lessK h1, by omega⟩, ⟨wf_lessK h3, by omega⟩⟩
theorem alt_has (a b : Rx) (w : List S) : (Rx.alt a b).has w = (a.has w || b.has w) := by
  rw [Bool.eq_iff_iff, Rx.has_lang, Bool.or_eq_true, Rx.has_lang, Rx.has_lang]; rfl
theorem seq_has {a b : Rx} {w v : List S} (h : a.has w = true) (k : b.has v = true) : (Rx.seq a b).has (w ++ v) = true := (Rx.has_lang _ _).2 ⟨w, v, rfl, (Rx.has_lang _ _).1 h, (Rx.has_lang _ _).1 k⟩
theorem seq_has_any (a b : Rx) (w : List S) : (Rx.seq a b).has w = (List.range (w.length + 1)).any fun k => a.has (w.take k) && b.has (w.drop k) := by
  rw [Bool.eq_iff_iff, Rx.has_lang, List.any_eq_true]
  constructor
  · rintro ⟨u, v, rfl, hu, hv⟩
    refine ⟨u.length, by simp; omega, ?_⟩
    rw [List.take_left, List.drop_left, (Rx.has_lang _ _).2 hu, (Rx.has_lang _ _).2 hv]; rfl
  · rintro ⟨k, _, hk⟩
    rw [Bool.and_eq_true, Rx.has_lang, Rx.has_lang] at hk
    exact ⟨w.take k, w.drop k, (List.take_append_drop _ _).symm, hk.1, hk.2⟩
end Go.Proofs.YtobcbaeoedpefaaDoor
