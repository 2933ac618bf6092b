/- An automaton in memory. -/
import Derived.Test.YtobcbaeoedpefaaDoorFrm
import Derived.Test.YtobcbaeoedpefaaDoorTexts
import Derived.Test.YtobcbaeoedpefaaDoorAuMath
import Derived.Deep.AppendLies
import Derived.Laws.BitsAllLaws
namespace Go.Proofs.YtobcbaeoedpefaaDoor
set_option linter.unusedVariables false
set_option linter.unusedSimpArgs false
set_option maxRecDepth 100000
open Go.ChangeShapes Go.WideShapes Go.ChangeAt Go.RowKit
open Au
def u32v (x : Nat) : Value := .int .u32 (x : Nat)
/-- It holds in every world whose blocks, but those of X, are this one's. -/
def Asd (X : Nat → Prop) (w : World) (P : World → Prop) : Prop := ∀ w'', (∀ k, k < w.heap.size → ¬ X k → w''.heap[k]? = w.heap[k]?) → P w''
theorem Asd.here {X : Nat → Prop} {w : World} {P : World → Prop} (h : Asd X w P) : P w := h w fun _ _ _ => rfl
theorem Asd.frm {X Y Z : Nat → Prop} {w w' : World} {P : World → Prop} (h : Asd X w P) (hf : Frm Y w w') (hYX : ∀ k, k < w.heap.size → Y k → X k) (hZX : ∀ k, k < w.heap.size → Z k → X k) : Asd Z w' P :=
  fun w'' hw => h w'' fun k hk hx => by rw [hw k (Nat.lt_of_lt_of_le hk hf.size) (fun hz => hx (hZX k hk hz)), hf.block k hk (fun hy => hx (hYX k hk hy))]
/-- The blocks of an automaton, and those of Y. -/
def AuB (p lb nb : Nat) (Y : Nat → Prop) (k : Nat) : Prop := k = p ∨ k = lb ∨ k = nb ∨ Y k
/-- An automaton at p; its labels, its steps; no block of Y is of it. -/
structure AuAt (B : Nat) (Y : Nat → Prop) (w : World) (p lb cl nb cn : Nat) (lxs : List Value) (ls : List Lb) (nx : List Nat) (last : Nat) : Prop where
  blk : Blk w p [.slice (some ⟨lb, 0, none⟩) ls.length cl, .slice (some ⟨nb, 0, none⟩) nx.length cn, u32v last] 61
  lown : w.ownsRow B 76 3 (.slice (some ⟨lb, 0, none⟩) ls.length cl) ls.length lxs
  nown : w.ownsRow B 59 1 (.slice (some ⟨nb, 0, none⟩) nx.length cn) nx.length (nx.map u32v)
  pB : B ≤ p
  lp : lb ≠ p
  np : nb ≠ p
  ln : lb ≠ nb
  yp : ¬ Y p
  yl : ¬ Y lb
  yn : ¬ Y nb
  labs : ∀ j (h : j < ls.length), ∃ a n c, lxs[j * 3]? = some (.bool ls[j].back) ∧ lxs[j * 3 + 1]? = some (.bool ls[j].not) ∧ lxs[j * 3 + 2]? = some (.slice a n c) ∧ Asd (AuB p lb nb Y) w (fun W => TextsAt W (.slice a n c) ls[j].texts)
theorem own_blk {w : World} {B e size g n cap : Nat} {xs : List Value} (h : w.ownsRow B e size (.slice (some ⟨g, 0, none⟩) n cap) n xs) : B ≤ g ∧ g < w.heap.size ∧ n ≤ cap ∧ cap ≤ maxLen ∧ xs.length = n * size ∧ ∃ cur : Array Value, w.heap[g]? = some (.cells cur e (0, 0)) ∧ cur.size = cap * size ∧ cur.toList.take (n * size) = xs := by
  obtain ⟨h0, h1 | ⟨g', cap', cur, hv, hb, hg, hn, hm, hs, ht⟩⟩ := h
  · cases h1.1
  · cases hv
    exact ⟨hb, lt_of_block hg, hn, hm, h0, cur, hg, hs, ht⟩
theorem own_cell {w : World} {B e size g n cap : Nat} {xs : List Value} (h : w.ownsRow B e size (.slice (some ⟨g, 0, none⟩) n cap) n xs) {j : Nat} {u : Value} (hj : xs[j]? = some u) : w.cell? ⟨g, j, none⟩ = some u ∧ w.frozen? ⟨g, j, none⟩ = false := by
  obtain ⟨_, _, _, _, hl, cur, hg, hs, ht⟩ := own_blk h
  have h1 : cur[j]? = some u := by
    rw [← ht, List.getElem?_take] at hj
    split at hj
    · rw [← Array.getElem?_toList]; exact hj
    · cases hj
  exact ⟨by simp [World.cell?, hg, h1], by simp [World.frozen?, hg]⟩
theorem own_set {w : World} {B e size g n cap : Nat} {xs : List Value} (h : w.ownsRow B e size (.slice (some ⟨g, 0, none⟩) n cap) n xs) (j : Nat) (u : Value) (hj : j < n * size) : (w.setCell ⟨g, j, none⟩ u).ownsRow B e size (.slice (some ⟨g, 0, none⟩) n cap) n (xs.set j u) := by
  obtain ⟨hB, hlt, hn, hm, hl, cur, hg, hs, ht⟩ := own_blk h
  refine ⟨by simp [hl], Or.inr ⟨g, cap, cur.setIfInBounds j u, rfl, hB, ?_, hn, hm, by simp [hs], ?_⟩⟩
  · have hb : Blk w g cur.toList e := by unfold Blk; rw [hg]
    have h2 := hb.set j u
    unfold Blk at h2
    rw [h2]
    congr 2
    apply Array.ext'
    simp
  · rw [← ht]
    simp [List.take_set]
theorem own_frm {X : Nat → Prop} {w w' : World} {B e size g n cap : Nat} {xs : List Value} (h : w.ownsRow B e size (.slice (some ⟨g, 0, none⟩) n cap) n xs) (hf : Frm X w w') (hx : ¬ X g) : w'.ownsRow B e size (.slice (some ⟨g, 0, none⟩) n cap) n xs := by
  obtain ⟨hB, hlt, hn, hm, hl, cur, hg, hs, ht⟩ := own_blk h
  exact ⟨hl, Or.inr ⟨g, cap, cur, rfl, hB, by rw [hf.block g hlt hx, hg], hn, hm, hs, ht⟩⟩
section
variable {B : Nat} {Y : Nat → Prop} {w w' : World} {p lb cl nb cn : Nat} {lxs : List Value} {ls : List Lb} {nx : List Nat} {last : Nat}
/-- What happens in the blocks of Y, or in new ones, does not touch it. -/
theorem AuAt.frm {Z : Nat → Prop} (h : AuAt B Y w p lb cl nb cn lxs ls nx last) (hf : Frm Z w w') (hZ : ∀ k, k < w.heap.size → Z k → Y k) : AuAt B Y w' p lb cl nb cn lxs ls nx last where
  blk := h.blk.frm hf fun hz => h.yp (hZ _ h.blk.lt hz)
  lown := own_frm h.lown hf fun hz => h.yl (hZ _ (own_blk h.lown).2.1 hz)
  nown := own_frm h.nown hf fun hz => h.yn (hZ _ (own_blk h.nown).2.1 hz)
  pB := h.pB
  lp := h.lp
  np := h.np
  ln := h.ln
  yp := h.yp
  yl := h.yl
  yn := h.yn
  labs := fun j hj => by
    obtain ⟨a, n, c, h1, h2, h3, h4⟩ := h.labs j hj
    exact ⟨a, n, c, h1, h2, h3, h4.frm hf (fun k hk hz => Or.inr (Or.inr (Or.inr (hZ k hk hz)))) (fun k _ hz => hz)⟩
theorem AuAt.keep (h : AuAt B Y w p lb cl nb cn lxs ls nx last) (hb : Below w.heap.size w w') : AuAt B Y w' p lb cl nb cn lxs ls nx last := h.frm (Z := fun _ => False) (Frm.of_below hb) (fun _ _ h => h.elim)
/-- New blocks may be kept apart from it. -/
theorem AuAt.more {Z : Nat → Prop} (h : AuAt B Y w p lb cl nb cn lxs ls nx last) (hZ : ∀ k, Z k → Y k ∨ w.heap.size ≤ k) : AuAt B Z w p lb cl nb cn lxs ls nx last where
  blk := h.blk
  lown := h.lown
  nown := h.nown
  pB := h.pB
  lp := h.lp
  np := h.np
  ln := h.ln
  yp := fun hz => (hZ _ hz).elim h.yp fun hl => absurd h.blk.lt (by omega)
  yl := fun hz => (hZ _ hz).elim h.yl fun hl => absurd (own_blk h.lown).2.1 (by omega)
  yn := fun hz => (hZ _ hz).elim h.yn fun hl => absurd (own_blk h.nown).2.1 (by omega)
  labs := fun j hj => by
    obtain ⟨a, n, c, h1, h2, h3, h4⟩ := h.labs j hj
    refine ⟨a, n, c, h1, h2, h3, h4.frm (Frm.refl (fun _ => False) w) (fun _ _ h => h.elim) (fun k hk hz => ?_)⟩
    rcases hz with hz | hz | hz | hz
    · exact Or.inl hz
    · exact Or.inr (Or.inl hz)
    · exact Or.inr (Or.inr (Or.inl hz))
    · exact (hZ k hz).elim (fun h => Or.inr (Or.inr (Or.inr h))) (fun hl => by omega)
/-- A store into its steps. -/
theorem AuAt.setNext (h : AuAt B Y w p lb cl nb cn lxs ls nx last) (i x : Nat) (hi : i < nx.length) : AuAt B Y (w.setCell ⟨nb, i, none⟩ (u32v x)) p lb cl nb cn lxs ls (nx.set i x) last where
  blk := by have := h.blk.other (c := nb) (fun e => h.np e.symm) i (u32v x); simpa using this
  lown := own_frm (X := fun k => k = nb) h.lown (Frm.set (X := fun k => k = nb) (Frm.refl _ w) (Or.inl rfl) _ _) (fun e => h.ln e)
  nown := by
    have := own_set h.nown i (u32v x) (by omega)
    rw [← List.map_set] at this
    simpa using this
  pB := h.pB
  lp := h.lp
  np := h.np
  ln := h.ln
  yp := h.yp
  yl := h.yl
  yn := h.yn
  labs := fun j hj => by
    obtain ⟨a, n, c, h1, h2, h3, h4⟩ := h.labs j hj
    exact ⟨a, n, c, h1, h2, h3, h4.frm (Y := fun k => k = nb) (Frm.set (X := fun k => k = nb) (Frm.refl _ w) (Or.inl rfl) _ _) (fun k _ hz => Or.inr (Or.inr (Or.inl hz))) (fun k _ hz => hz)⟩
theorem AuAt.setLast (h : AuAt B Y w p lb cl nb cn lxs ls nx last) (x : Nat) : AuAt B Y (w.setCell ⟨p, 2, none⟩ (u32v x)) p lb cl nb cn lxs ls nx x where
  blk := by have := h.blk.set 2 (u32v x); simpa using this
  lown := own_frm (X := fun k => k = p) h.lown (Frm.set (X := fun k => k = p) (Frm.refl _ w) (Or.inl rfl) _ _) (fun e => h.lp e)
  nown := own_frm (X := fun k => k = p) h.nown (Frm.set (X := fun k => k = p) (Frm.refl _ w) (Or.inl rfl) _ _) (fun e => h.np e)
  pB := h.pB
  lp := h.lp
  np := h.np
  ln := h.ln
  yp := h.yp
  yl := h.yl
  yn := h.yn
  labs := fun j hj => by
    obtain ⟨a, n, c, h1, h2, h3, h4⟩ := h.labs j hj
    exact ⟨a, n, c, h1, h2, h3, h4.frm (Y := fun k => k = p) (Frm.set (X := fun k => k = p) (Frm.refl _ w) (Or.inl rfl) _ _) (fun k _ hz => Or.inl hz) (fun k _ hz => hz)⟩
theorem AuAt.nextCell (h : AuAt B Y w p lb cl nb cn lxs ls nx last) {i : Nat} (hi : i < nx.length) : w.cell? ⟨nb, i, none⟩ = some (u32v (nx.getD i 0)) ∧ w.frozen? ⟨nb, i, none⟩ = false :=
  own_cell h.nown (by rw [List.getElem?_map, List.getElem?_eq_getElem hi]; simp [List.getD, hi])
end
/-! ### sets of places -/
theorem only_any (i : Nat) (hi : i < 32) (w : World) : Calls Tryd.prog 30 #[.int .i64 i] w fun e w' => e = .returned (u32v (2 ^ i)) ∧ w' = w := by
  go_enter Tryd.func30, Tryd.ntmps30
  go_wp2
  go_ret
  refine ⟨?_, rfl⟩
  have h1 : (2 : Nat) ^ i < 4294967296 := by
    have h := Nat.pow_lt_pow_right (a := 2) (by omega) hi
    simpa using h
  show Ending.returned (.int .u32 ((2 : Int) ^ i % 4294967296)) = _
  unfold u32v
  rw [show ((2 : Int) ^ i) = ((2 ^ i : Nat) : Int) from (Int.natCast_pow 2 i).symm]
  obtain ⟨m, hm⟩ : ∃ m : Nat, m = 2 ^ i := ⟨_, rfl⟩
  rw [← hm] at h1 ⊢
  rw [show ((m : Nat) : Int) % 4294967296 = (m : Int) by omega]
theorem has_any (x i : Nat) (hx : x < 2 ^ 32) (hi : i < 64) (w : World) : Calls Tryd.prog 34 #[u32v x, .int .i64 i] w fun e w' => e = .returned (.bool (x.testBit i)) ∧ w' = w := by
  unfold u32v
  go_enter Tryd.func34, Tryd.ntmps34
  go_wp2
  go_ret
  refine ⟨?_, rfl⟩
  show Ending.returned (.bool (bits BinOp.and IntKind.u32 (↑x / 2 ^ min i 32) 1 == 1)) = _
  refine ret_bool ?_
  have hx' : x < 4294967296 := hx
  have e1 : ((x : Int) / 2 ^ min i 32) = ((x / 2 ^ min i 32 : Nat) : Int) := by
    rw [Int.natCast_ediv, Int.natCast_pow]; rfl
  have h2 : x / 2 ^ min i 32 ≤ x := Nat.div_le_self _ _
  rw [e1, show (1 : Int) = ((1 : Nat) : Int) from rfl, u32_and_nat _ _ (by omega) (by omega)]
  have h3 : (x / 2 ^ min i 32) &&& 1 = (x / 2 ^ min i 32) % 2 := Nat.and_one_is_mod _
  rw [h3]
  have h4 : x.testBit i = decide (x / 2 ^ min i 32 % 2 = 1) := by
    rw [Nat.testBit_eq_decide_div_mod_eq]
    by_cases h : i ≤ 32
    · rw [Nat.min_eq_left h]
    · rw [Nat.min_eq_right (by omega)]
      have a1 : x / 2 ^ i = 0 := Nat.div_eq_of_lt (Nat.lt_of_lt_of_le hx (Nat.pow_le_pow_right (by omega) (by omega)))
      have a2 : x / 2 ^ 32 = 0 := Nat.div_eq_of_lt hx
      rw [a1, a2]
  rw [h4, Bool.eq_iff_iff]
  simp only [beq_iff_eq, decide_eq_true_iff]
  omega
theorem or_u32 (a b : Nat) (ha : a < 2 ^ 32) (hb : b < 2 ^ 32) : bits .or .u32 (a : Int) (b : Int) = ((a ||| b : Nat) : Int) := u32_or_nat a b ha hb
theorem and_u32 (a b : Nat) (ha : a < 2 ^ 32) (hb : b < 2 ^ 32) : bits .and .u32 (a : Int) (b : Int) = ((a &&& b : Nat) : Int) := u32_and_nat a b ha hb
theorem or_lt32 {a b : Nat} (ha : a < 2 ^ 32) (hb : b < 2 ^ 32) : a ||| b < 2 ^ 32 := Nat.or_lt_two_pow ha hb
end Go.Proofs.YtobcbaeoedpefaaDoor
