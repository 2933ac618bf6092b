/- query's reader of paths: a path around another; what stands behind '!'. -/
import Derived.Test.YtagmgkplfhlifaaDoorQpIri
import Derived.Test.YtagmgkplfhlifaaDoorSmAt
namespace Go.Proofs.YtagmgkplfhlifaaDoor
set_option linter.unusedVariables false
set_option linter.unusedSimpArgs false
set_option maxRecDepth 100000
open Go.ChangeShapes Go.WideShapes Go.ChangeAt Go.RowKit
open Au
theorem path_ret {fn : Func} {tmps : Array Value} {Z : World} {b s : Nat} {v0 v1 v2 v3 : Value} (ht : tmps.getD s undef = .pointer (some ⟨b, 0, none⟩)) (hZ : Blk Z b [v0, v1, v2, v3] 25) (hf : fn.results = #[.cell s 25]) :
    (results fn tmps).run Tryd.prog Z = .ok (.agg #[v0, v1, v2, v3]) Z := by
  have h0 := hZ.cell (i := 0) rfl
  have h1 := hZ.cell (i := 1) rfl
  have h2 := hZ.cell (i := 2) rfl
  have h3 := hZ.cell (i := 3) rfl
  have ht' : tmps[s]?.getD undef = .pointer (some ⟨b, 0, none⟩) := by simpa using ht
  simp [results, hf, ht', go_sem, h0, h1, h2, h3]
theorem path_ret2 {fn : Func} {tmps : Array Value} {Z : World} {b s t : Nat} {v0 v1 v2 v3 v4 : Value} (ht : tmps.getD s undef = .pointer (some ⟨b, 0, none⟩)) (h4 : tmps.getD t undef = v4) (hZ : Blk Z b [v0, v1, v2, v3] 25) (hf : fn.results = #[.cell s 25, .tmp t]) :
    (results fn tmps).run Tryd.prog Z = .ok (.tuple #[.agg #[v0, v1, v2, v3], v4]) Z := by
  have h0 := hZ.cell (i := 0) rfl
  have h1 := hZ.cell (i := 1) rfl
  have h2 := hZ.cell (i := 2) rfl
  have h3 := hZ.cell (i := 3) rfl
  have ht' : tmps[s]?.getD undef = .pointer (some ⟨b, 0, none⟩) := by simpa using ht
  have h4' : tmps[t]?.getD undef = v4 := by simpa using h4
  simp [results, hf, ht', h4', go_sem, h0, h1, h2, h3]
set_option maxHeartbeats 2000000 in
theorem qaround_any (k : Int) (x : Pt) (a a' : Option Addr) (n c n' c' : Nat) (w : World) :
    Calls Tryd.prog 90 #[.int .i64 k, .agg #[.int .i64 x.kind, str x.text, .slice a n c, .slice a' n' c']] w fun e w' => ∃ b, e = .returned (.agg #[.int .i64 k, .string ⟨#[]⟩, .slice none 0 0, .slice (some ⟨b, 0, none⟩) 1 1]) ∧ w.heap.size ≤ b ∧ Blk w' b [.int .i64 x.kind, str x.text, .slice a n c, .slice a' n' c'] 25 ∧ Below w.heap.size w w' := by
  go_enter Tryd.func90, Tryd.ntmps90
  go_wp2
  refine bodyPost_ret (v := .agg #[.int .i64 k, .string ⟨#[]⟩, .slice none 0 0, .slice (some ⟨w.heap.size + 1 + 1, 0, none⟩) 1 1]) (path_ret (s := 4) rfl (b := w.heap.size + 1) ((Blk.new' (by simp) rfl).alloc _) Tryd.results90) rfl ?_
  exact ⟨w.heap.size + 1 + 1, rfl, by omega, Blk.new' (by simp) rfl, (((Below.refl _ _).alloc (Nat.le_refl _) _).alloc (by simp) _).alloc (by simp; omega) _⟩
/-- It holds in every world whose blocks, but those of X, are this one's. -/
def Asd (X : Nat → Prop) (w : World) (P : World → Prop) : Prop := ∀ w'', (∀ k, k < w.heap.size → ¬ X k → w''.heap[k]? = w.heap[k]?) → P w''
theorem Asd.here {X : Nat → Prop} {w : World} {P : World → Prop} (h : Asd X w P) : P w := h w fun _ _ _ => rfl
theorem Asd.frm {X Y Z : Nat → Prop} {w w' : World} {P : World → Prop} (h : Asd X w P) (hf : Frm Y w w') (hYX : ∀ k, k < w.heap.size → Y k → X k) (hZX : ∀ k, k < w.heap.size → Z k → X k) : Asd Z w' P :=
  fun w'' hw => h w'' fun k hk hx => by rw [hw k (Nat.lt_of_lt_of_le hk hf.size) (fun hz => hx (hZX k hk hz)), hf.block k hk (fun hy => hx (hYX k hk hy))]
theorem Asd.blk {X : Nat → Prop} {w : World} {b : Nat} {A : List Value} {t : TypeId} (h : Blk w b A t) (hb : ¬ X b) : Asd X w (fun W => Blk W b A t) := fun w'' hw => by
  have := h.lt
  show Blk w'' b A t
  unfold Blk at h ⊢
  rw [hw b this hb]; exact h
theorem Asd.and {X : Nat → Prop} {w : World} {P Q : World → Prop} {R : World → Prop} (h : Asd X w P) (k : Asd X w Q) (hR : ∀ W, P W → Q W → R W) : Asd X w R := fun w'' hw => hR _ (h w'' hw) (k w'' hw)
theorem Asd.all {X : Nat → Prop} {w : World} {P : World → Prop} (h : ∀ W, P W) : Asd X w P := fun w'' _ => h w''
theorem pt_none (W : World) (k : Int) (hk : -9223372036854775808 ≤ k ∧ k ≤ 9223372036854775807) (t : T) (ht : t.length ≤ 140737488351232) : PtAt W (.slice none 0 0) (.slice none 0 0) (.mk k t [] []) :=
  .mk k t [] [] _ none 0 0 0 (fun _ => undef) (fun _ => undef) hk ht (SlAt.nil _) (fun i => by simp) (Nat.le_refl _) (by unfold maxLen; omega) (fun _ => rfl) (fun h => absurd h (by simp)) (fun i hi => absurd hi (by simp)) (fun i hi => absurd hi (by simp))
theorem qpt_one {W : World} {b : Nat} {x : Pt} {v u : Value} (k : Int) (hk : -9223372036854775808 ≤ k ∧ k ≤ 9223372036854775807) (h : Blk W b [.int .i64 x.kind, str x.text, v, u] 25) (hP : PtAt W v u x) : PtAt W (.slice none 0 0) (.slice (some ⟨b, 0, none⟩) 1 1) (.mk k [] [] [x]) := by
  refine .mk k [] [] [x] _ _ 1 b 0 (fun _ => v) (fun _ => u) hk (by simp) (SlAt.nil _) (fun i => by simp) (Nat.le_refl _) (by unfold maxLen; omega) (fun h => by cases h) (fun _ => rfl) (fun i hi => ?_) (fun i hi => ?_)
  · obtain rfl : i = 0 := by simp at hi; omega
    exact ⟨h.cell rfl, h.cell rfl, h.cell rfl, h.cell rfl⟩
  · obtain rfl : i = 0 := by simp at hi; omega
    exact hP
theorem qpt_two {W : World} {b : Nat} {x y : Pt} {v u v' u' : Value} (k : Int) (hk : -9223372036854775808 ≤ k ∧ k ≤ 9223372036854775807) (h : Blk W b [.int .i64 x.kind, str x.text, v, u, .int .i64 y.kind, str y.text, v', u'] 25) (hP : PtAt W v u x) (hQ : PtAt W v' u' y) : PtAt W (.slice none 0 0) (.slice (some ⟨b, 0, none⟩) 2 2) (.mk k [] [] [x, y]) := by
  refine .mk k [] [] [x, y] _ _ 2 b 0 (fun i => if i = 0 then v else v') (fun i => if i = 0 then u else u') hk (by simp) (SlAt.nil _) (fun i => by simp) (Nat.le_refl _) (by unfold maxLen; omega) (fun h => by cases h) (fun _ => rfl) (fun i hi => ?_) (fun i hi => ?_)
  · have hi2 : i = 0 ∨ i = 1 := by simp at hi; omega
    rcases hi2 with rfl | rfl
    · exact ⟨h.cell rfl, h.cell rfl, h.cell rfl, h.cell rfl⟩
    · exact ⟨h.cell rfl, h.cell rfl, h.cell rfl, h.cell rfl⟩
  · have hi2 : i = 0 ∨ i = 1 := by simp at hi; omega
    rcases hi2 with rfl | rfl
    · exact hP
    · exact hQ
/-- A path in memory of which no string shares anything. -/
def PtB (W : World) (v u : Value) (x : Pt) : Prop := PtAt W v u x ∧ PtO W u x
theorem PtB.keep {W W' : World} (hb : Below W.heap.size W W') {v u : Value} {x : Pt} (h : PtB W v u x) : PtB W' v u x := ⟨h.1.keep hb, h.2.keep hb⟩
theorem ptb_none (W : World) (k : Int) (hk : -9223372036854775808 ≤ k ∧ k ≤ 9223372036854775807) (t : T) (ht : t.length ≤ 140737488351232) : PtB W (.slice none 0 0) (.slice none 0 0) (.mk k t [] []) :=
  ⟨pt_none W k hk t ht, .mk k t [] [] none 0 0 0 (fun _ => undef) (fun h => absurd h (by simp)) (fun i hi => absurd hi (by simp)) (fun i hi => absurd hi (by simp))⟩
theorem qptb_one {W : World} {b : Nat} {x : Pt} {v u : Value} (k : Int) (hk : -9223372036854775808 ≤ k ∧ k ≤ 9223372036854775807) (h : Blk W b [.int .i64 x.kind, str x.text, v, u] 25) (hP : PtB W v u x) : PtB W (.slice none 0 0) (.slice (some ⟨b, 0, none⟩) 1 1) (.mk k [] [] [x]) := by
  refine ⟨qpt_one k hk h hP.1, .mk k [] [] [x] _ 1 b 0 (fun _ => u) (fun _ => ⟨rfl, h.unfz⟩) (fun i hi => ?_) (fun i hi => ?_)⟩
  · obtain rfl : i = 0 := by simp at hi; omega
    exact h.cell rfl
  · obtain rfl : i = 0 := by simp at hi; omega
    exact hP.2
theorem qptb_two {W : World} {b : Nat} {x y : Pt} {v u v' u' : Value} (k : Int) (hk : -9223372036854775808 ≤ k ∧ k ≤ 9223372036854775807) (h : Blk W b [.int .i64 x.kind, str x.text, v, u, .int .i64 y.kind, str y.text, v', u'] 25) (hP : PtB W v u x) (hQ : PtB W v' u' y) : PtB W (.slice none 0 0) (.slice (some ⟨b, 0, none⟩) 2 2) (.mk k [] [] [x, y]) := by
  refine ⟨qpt_two k hk h hP.1 hQ.1, .mk k [] [] [x, y] _ 2 b 0 (fun i => if i = 0 then u else u') (fun _ => ⟨rfl, h.unfz⟩) (fun i hi => ?_) (fun i hi => ?_)⟩
  · have hi2 : i = 0 ∨ i = 1 := by simp at hi; omega
    rcases hi2 with rfl | rfl
    · exact h.cell rfl
    · exact h.cell rfl
  · have hi2 : i = 0 ∨ i = 1 := by simp at hi; omega
    rcases hi2 with rfl | rfl
    · exact hP.2
    · exact hQ.2
theorem qptb_not {W : World} {v : Value} {L : List T} (hL : TextsAt W v L) (hl : ∀ i, (L.getD i []).length ≤ 140737488351232) : PtB W v (.slice none 0 0) (.mk 8 [] L []) :=
  ⟨.mk 8 [] L [] v none 0 0 0 (fun _ => undef) (fun _ => undef) (by decide) (by simp) hL hl (Nat.le_refl _) (by unfold maxLen; omega) (fun _ => rfl) (fun h => absurd h (by simp)) (fun i hi => absurd hi (by simp)) (fun i hi => absurd hi (by simp)),
   .mk 8 [] L [] none 0 0 0 (fun _ => undef) (fun h => absurd h (by simp)) (fun i hi => absurd hi (by simp)) (fun i hi => absurd hi (by simp))⟩
/-- Four cells stored. -/
abbrev put4 (X : World) (b : Nat) (v0 v1 v2 v3 : Value) : World := (((X.setCell ⟨b, 0, none⟩ v0).setCell ⟨b, 1, none⟩ v1).setCell ⟨b, 2, none⟩ v2).setCell ⟨b, 3, none⟩ v3
theorem put4_blk {X : World} {b : Nat} {x0 x1 x2 x3 : Value} {t : TypeId} (h : Blk X b [x0, x1, x2, x3] t) (v0 v1 v2 v3 : Value) : Blk (put4 X b v0 v1 v2 v3) b [v0, v1, v2, v3] t := (((h.set 0 v0).set 1 v1).set 2 v2).set 3 v3
theorem put4_other {X : World} {b k : Nat} {A : List Value} {t : TypeId} (h : Blk X k A t) (hk : k ≠ b) (v0 v1 v2 v3 : Value) : Blk (put4 X b v0 v1 v2 v3) k A t := Blk.other (Blk.other (Blk.other (Blk.other h hk 0 v0) hk 1 v1) hk 2 v2) hk 3 v3
theorem put4_frm {Y : Nat → Prop} {w X : World} (h : Frm Y w X) {b : Nat} (hb : Y b ∨ w.heap.size ≤ b) (v0 v1 v2 v3 : Value) : Frm Y w (put4 X b v0 v1 v2 v3) := (((h.set hb 0 v0).set hb 1 v1).set hb 2 v2).set hb 3 v3
/-- What a reading leaves: the path is new memory. -/
def RdPost (q : Nat) (l : T) (i : Nat) (R : Res) (w : World) (e : Ending) (w' : World) : Prop :=
  ∃ (x : Pt) (a a' : Option Addr) (n c n' c' : Nat) (no : Int) (j : Nat), e = .returned (.tuple #[.agg #[.int .i64 x.kind, str x.text, .slice a n c, .slice a' n' c'], .int .i64 no]) ∧ i ≤ j ∧ j ≤ l.length ∧ Qr w' q l j ∧ Frm (isQ q) w w' ∧
    Asd (fun k => k < w.heap.size) w' (fun W => PtB W (.slice a n c) (.slice a' n' c') x) ∧ ((no = 0 ∧ R = .ok x (l.drop j)) ∨ (no ≠ 0 ∧ R = .err no (l.drop j)))
/-- A function reads as P does, wherever the reader stands. -/
def Reads (W0 : World) (q : Nat) (l : T) (f : FuncId) (args : Array Value) (P : T → Res) : Prop :=
  ∀ i w, Qr w q l i → i ≤ l.length → Below W0.heap.size W0 w → Calls Tryd.prog f args w (RdPost q l i (P (l.drop i)) w)
end Go.Proofs.YtagmgkplfhlifaaDoor
