/- Stage 13's laws: paths that are made of paths; words that are made of words; how many steps. -/
import Derived.Test.YtobcbaeoedpefaaDoorAuLaw2
namespace Go.Proofs.YtobcbaeoedpefaaDoor
set_option linter.unusedVariables false
set_option linter.unusedSimpArgs false
set_option maxRecDepth 100000
open Go.ChangeShapes Go.WideShapes Go.ChangeAt Go.RowKit
open Au
/-- A path of one Kid, which lies in a block of its own. -/
theorem pt_one {W : World} {b : Nat} {x : Pt} {v u : Value} (k : Int) (hk : -9223372036854775808 ≤ k ∧ k ≤ 9223372036854775807) (h : Blk W b [.int .i64 x.kind, str x.text, v, u] 25) (hP : PtAt W v u x) : PtAt W (.slice none 0 0) (.slice (some ⟨b, 0, none⟩) 1 1) (.mk k [] [] [x]) := by
  refine .mk k [] [] [x] _ _ 1 b 0 (fun _ => v) (fun _ => u) hk (by simp) (SlAt.nil _) (fun i => by simp) (Nat.le_refl _) (by unfold maxLen; omega) (fun h => by cases h) (fun _ => rfl) (fun i hi => ?_) (fun i hi => ?_)
  · obtain rfl : i = 0 := by simp at hi; omega
    exact ⟨h.cell rfl, h.cell rfl, h.cell rfl, h.cell rfl⟩
  · obtain rfl : i = 0 := by simp at hi; omega
    exact hP
/-- A path of two Kids. -/
theorem pt_two {W : World} {b : Nat} {x y : Pt} {v u v' u' : Value} (k : Int) (hk : -9223372036854775808 ≤ k ∧ k ≤ 9223372036854775807) (h : Blk W b [.int .i64 x.kind, str x.text, v, u, .int .i64 y.kind, str y.text, v', u'] 25) (hP : PtAt W v u x) (hQ : PtAt W v' u' y) : PtAt W (.slice none 0 0) (.slice (some ⟨b, 0, none⟩) 2 2) (.mk k [] [] [x, y]) := by
  refine .mk k [] [] [x, y] _ _ 2 b 0 (fun i => if i = 0 then v else v') (fun i => if i = 0 then u else u') hk (by simp) (SlAt.nil _) (fun i => by simp) (Nat.le_refl _) (by unfold maxLen; omega) (fun h => by cases h) (fun _ => rfl) (fun i hi => ?_) (fun i hi => ?_)
  · have hi2 : i = 0 ∨ i = 1 := by simp at hi; omega
    rcases hi2 with rfl | rfl
    · exact ⟨h.cell rfl, h.cell rfl, h.cell rfl, h.cell rfl⟩
    · exact ⟨h.cell rfl, h.cell rfl, h.cell rfl, h.cell rfl⟩
  · have hi2 : i = 0 ∨ i = 1 := by simp at hi; omega
    rcases hi2 with rfl | rfl
    · exact hP
    · exact hQ
theorem new_ok {x : Pt} {v u : Value} {w : World} (hP : PtAt w v u x) (hT : T8 w) (hm : x.may = true) (hc : Rx.cnt (x.rx false) ≤ 200) : Calls Tryd.prog 14 #[pv x v u] w fun e w' => ∃ p, e = .returned (.tuple #[.pointer (some ⟨p, 0, none⟩), .int .i64 0]) ∧ Below w.heap.size w w' ∧ IsAuto w.heap.size w' p (x.rx false) :=
  (new_any x v u w hP hT).mono fun e w' h => by
    obtain ⟨hb, h | h | h⟩ := h
    · rw [hm] at h; exact absurd h.1 (by simp)
    · have := h.2.1; omega
    · obtain ⟨_, _, p, h1, h2⟩ := h; exact ⟨p, h1, hb, h2⟩
theorem new_full {x : Pt} {v u : Value} {w : World} (hP : PtAt w v u x) (hT : T8 w) (hm : x.may = true) (hc : 200 < Rx.cnt (x.rx false)) : Calls Tryd.prog 14 #[pv x v u] w fun e w' => e = .returned (.tuple #[.pointer none, .int .i64 3]) ∧ Below w.heap.size w w' :=
  (new_any x v u w hP hT).mono fun e w' h => by
    obtain ⟨hb, h | h | h⟩ := h
    · rw [hm] at h; exact absurd h.1 (by simp)
    · exact ⟨h.2.2, hb⟩
    · have := h.2.1; omega
theorem new_bad {x : Pt} {v u : Value} {w : World} (hP : PtAt w v u x) (hT : T8 w) (hm : x.may = false) : Calls Tryd.prog 14 #[pv x v u] w fun e w' => e = .returned (.tuple #[.pointer none, .int .i64 1]) ∧ Below w.heap.size w w' :=
  (new_any x v u w hP hT).mono fun e w' h => by
    obtain ⟨hb, h | h | h⟩ := h
    · exact ⟨h.2, hb⟩
    · rw [hm] at h; exact absurd h.1 (by simp)
    · rw [hm] at h; exact absurd h.1 (by simp)
theorem new_some {x : Pt} {v u : Value} {w : World} (hP : PtAt w v u x) (hT : T8 w) : Calls Tryd.prog 14 #[pv x v u] w fun e w' => (∃ (p : Option Addr) (k : Int), e = .returned (.tuple #[.pointer p, .int .i64 k])) ∧ Below w.heap.size w w' :=
  (new_any x v u w hP hT).mono fun e w' h => by
    obtain ⟨hb, h | h | h⟩ := h
    · exact ⟨⟨_, _, h.2⟩, hb⟩
    · exact ⟨⟨_, _, h.2.2⟩, hb⟩
    · obtain ⟨_, _, p, h1, h2⟩ := h; exact ⟨⟨_, _, h1⟩, hb⟩
/-! ### how many places, how many steps -/
theorem n_wf : ∀ (x : Pt) (d : Nat) (b : Bool), x.wf d = true → (x.rx b).n ≤ 2 ^ (5 - d) := by
  intro x
  induction x using Pt.ind with
  | h k t L K ih =>
    intro d b h
    rw [wf_mk] at h
    simp only [Bool.and_eq_true, decide_eq_true_eq] at h
    obtain ⟨⟨⟨h1, h2⟩, _⟩, h4⟩ := h
    have h5 := (Pt.wfs_all _ _).1 h4
    have hk : K.length ≤ 2 := by unfold Pt.kidsOf at h2; split at h2 <;> (try split at h2) <;> (try split at h2) <;> omega
    have hp1 : 1 ≤ (2 : Nat) ^ (5 - d) := Nat.one_le_two_pow
    have hd6 : ∀ a ∈ K, d + 1 ≤ 5 := fun a ha => by have := (wf_size a (d + 1) (h5 a ha)).1; omega
    have hp : d + 1 ≤ 5 → (2 : Nat) ^ (5 - d) = 2 * 2 ^ (5 - (d + 1)) := fun hd => by rw [show 5 - d = (5 - (d + 1)) + 1 by omega, Nat.pow_succ, Nat.mul_comm]
    match K, hk, ih, h5, hd6 with
    | [], _, _, _, _ => rw [Pt.rx]; split <;> rw [Rx.n_leaf] <;> omega
    | [a], _, ih, h5, hd6 =>
      have i1 := ih a (by simp) (d + 1) b (h5 a (by simp))
      have i2 := ih a (by simp) (d + 1) (!b) (h5 a (by simp))
      have := hp (hd6 a (by simp))
      rw [Pt.rx]
      split
      · omega
      · split
        · rw [Rx.n_star]; omega
        · split
          · rw [Rx.n_plus]; omega
          · rw [Rx.n_maybe]; omega
    | [a, c], _, ih, h5, hd6 =>
      have i1 := ih a (by simp) (d + 1) b (h5 a (by simp))
      have i2 := ih c (by simp) (d + 1) b (h5 c (by simp))
      have := hp (hd6 a (by simp))
      rw [Pt.rx]
      split
      · split <;> rw [Rx.n_seq] <;> omega
      · rw [Rx.n_alt]; omega
theorem sum_le {α : Type} {f : α → Nat} {c : Nat} : ∀ {l : List α}, (∀ a ∈ l, f a ≤ c) → (l.map f).sum ≤ l.length * c
  | [], _ => by simp
  | a :: l, h => by
    have h1 := h a (by simp)
    have h2 := sum_le (l := l) (f := f) (c := c) fun b hb => h b (by simp [hb])
    simp only [List.map_cons, List.sum_cons, List.length_cons, Nat.add_mul, Nat.one_mul]
    omega
theorem cnt_le (r : Rx) : Rx.cnt r ≤ (1 + r.n) * (1 + r.n) := by
  unfold Rx.cnt
  have h := sum_le (l := List.range (1 + r.n)) (f := fun a => ((List.range (1 + r.n)).filter fun j => r.nxt a j).length) (c := 1 + r.n) fun a _ => by
    have := List.length_filter_le (fun j => r.nxt a j) (List.range (1 + r.n))
    simpa using this
  simpa using h
theorem cnt_small {x : Pt} {d : Nat} {b : Bool} (h : x.wf d = true) (hd : 2 ≤ d) : Rx.cnt (x.rx b) ≤ 200 := by
  have h1 := n_wf x d b h
  have h2 : (2 : Nat) ^ (5 - d) ≤ 2 ^ 3 := Nat.pow_le_pow_right (by omega) (by omega)
  have h3 := cnt_le (x.rx b)
  have h4 : (1 + (x.rx b).n) * (1 + (x.rx b).n) ≤ 9 * 9 := Nat.mul_le_mul (by omega) (by omega)
  omega
/-! ### words that are made of an argument's steps -/
/-- A row of steps of the call's own; its texts lie where they lay at W0. -/
structure SrOld (W0 w : World) (v : Value) (xs : List Value) (L : List Stp) : Prop where
  own : w.ownsRow W0.heap.size 48 5 v L.length xs
  cells : ∀ j (h : j < L.length), ∃ a n c, xs[j * 5]? = some (.int .i64 L[j].from_) ∧ xs[j * 5 + 1]? = some (.int .i64 L[j].to) ∧ xs[j * 5 + 2]? = some (.bool L[j].back) ∧ xs[j * 5 + 3]? = some (.bool L[j].not) ∧ xs[j * 5 + 4]? = some (.slice a n c) ∧ TextsAt W0 (.slice a n c) L[j].texts
theorem SrOld.nil (W0 w : World) : SrOld W0 w (.slice none 0 0) [] [] := ⟨World.ownsRow_nil _ _ _ _, fun j h => absurd h (by simp)⟩
theorem SrOld.keep {W0 w w' : World} {v : Value} {xs : List Value} {L : List Stp} (h : SrOld W0 w v xs L) (hb : Below w.heap.size w w') : SrOld W0 w' v xs L := by
  refine ⟨?_, h.cells⟩
  obtain ⟨h0, h1 | ⟨g, cap, cur, e, hB, hg, r⟩⟩ := h.own
  · exact ⟨h0, Or.inl h1⟩
  · exact ⟨h0, Or.inr ⟨g, cap, cur, e, hB, by rw [hb.block g (lt_of_block hg)]; exact hg, r⟩⟩
theorem SrOld.snoc {W0 w w' : World} {v v' : Value} {xs : List Value} {L : List Stp} (h : SrOld W0 w v xs L) {s : Stp} {a : Option Addr} {n c : Nat} (hown : w'.ownsRow W0.heap.size 48 5 v' (L.length + 1) (xs ++ [.int .i64 s.from_, .int .i64 s.to, .bool s.back, .bool s.not, .slice a n c]))
    (hT : TextsAt W0 (.slice a n c) s.texts) : SrOld W0 w' v' (xs ++ [.int .i64 s.from_, .int .i64 s.to, .bool s.back, .bool s.not, .slice a n c]) (L ++ [s]) := by
  have hxl : xs.length = L.length * 5 := h.own.1
  refine ⟨by simpa using hown, fun j hj => ?_⟩
  by_cases hjl : j < L.length
  · obtain ⟨a', n', c', h1, h2, h3, h4, h5, h6⟩ := h.cells j hjl
    rw [List.getElem_append_left hjl]
    exact ⟨a', n', c', by rw [List.getElem?_append_left (by omega)]; exact h1, by rw [List.getElem?_append_left (by omega)]; exact h2, by rw [List.getElem?_append_left (by omega)]; exact h3, by rw [List.getElem?_append_left (by omega)]; exact h4, by rw [List.getElem?_append_left (by omega)]; exact h5, h6⟩
  · have hje : j = L.length := by simp at hj; omega
    subst hje
    rw [List.getElem_append_right (Nat.le_refl _)]
    simp only [Nat.sub_self, List.getElem_cons_zero]
    exact ⟨a, n, c, by rw [List.getElem?_append_right (by omega), hxl]; simp, by rw [List.getElem?_append_right (by omega), hxl]; simp, by rw [List.getElem?_append_right (by omega), hxl]; simp, by rw [List.getElem?_append_right (by omega), hxl]; simp, by rw [List.getElem?_append_right (by omega), hxl]; simp, hT⟩
theorem SrOld.steps {W0 w : World} {v : Value} {xs : List Value} {L : List Stp} (h : SrOld W0 w v xs L) (hb : Below W0.heap.size W0 w) : StepsAt w v L := by
  obtain ⟨h0, h1 | ⟨g, cap, cur, rfl, hB, hg, hn, hm, hs, ht⟩⟩ := h.own
  · obtain ⟨rfl, hl⟩ := h1
    have : L = [] := List.eq_nil_of_length_eq_zero hl
    subst this
    exact StepsAt.nil w
  · obtain ⟨f, hf⟩ : ∃ f : Nat → Value, ∀ j, j < L.length → xs[j * 5 + 4]? = some (f j) := by
      refine ⟨fun j => xs.getD (j * 5 + 4) undef, fun j hj => ?_⟩
      obtain ⟨a, n, c, _, _, _, _, h5, _⟩ := h.cells j hj
      rw [h5]; simp [List.getD, h5]
    refine ⟨some ⟨g, 0, none⟩, cap, g, 0, f, rfl, hn, hm, (fun h => by cases h), fun _ => rfl, fun j hj => ?_, fun j hj => ?_⟩
    · obtain ⟨a, n, c, h1, h2, h3, h4, h5, h6⟩ := h.cells j hj
      rw [Nat.zero_add]
      exact ⟨(own_cell h.own h1).1, (own_cell h.own h2).1, (own_cell h.own h3).1, (own_cell h.own h4).1, (own_cell h.own (hf j hj)).1⟩
    · obtain ⟨a, n, c, h1, h2, h3, h4, h5, h6⟩ := h.cells j hj
      have := hf j hj
      rw [h5] at this
      rw [← Option.some.inj this]
      exact h6.keep hb
/-! ### the other way round -/
def turnStp (s : Stp) : Stp := ⟨0, 0, !s.back, false, s.texts⟩
theorem word_turn (L : List Stp) : wordOf ((L.map turnStp).reverse) = Rx.turnW (wordOf L) := by
  unfold wordOf Rx.turnW
  rw [List.map_reverse, List.map_map, List.map_map]
  rfl
theorem ones_turn {L : List Stp} (h : ones L) : ones (L.map turnStp).reverse := fun i hi => by
  rw [List.getElem_reverse]
  simp only [List.getElem_map]
  exact h _ _
end Go.Proofs.YtobcbaeoedpefaaDoor
