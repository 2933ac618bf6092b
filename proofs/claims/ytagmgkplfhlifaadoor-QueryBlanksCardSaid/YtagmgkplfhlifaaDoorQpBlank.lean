/- A path's text, and with blanks between: plain facts. -/
import Derived.Test.YtagmgkplfhlifaaDoorQpRound
import Derived.Test.YtagmgkplfhlifaaDoorQpLen
import Derived.Test.YtagmgkplfhlifaaDoorQpOut
namespace Go.Proofs.YtagmgkplfhlifaaDoor
set_option linter.unusedVariables false
set_option linter.unusedSimpArgs false
set_option maxRecDepth 100000
open Go.ChangeShapes Go.WideShapes Go.ChangeAt Go.RowKit
open Au
namespace Au
theorem Qp.join_two (t u : T) (L : List T) (sep : T) : Lib.join (t :: u :: L) sep = t ++ sep ++ Lib.join (u :: L) sep := by
  rw [Lib.join_cons, Lib.join_cons]; simp [Lib.joinTail]
theorem Qp.notsG_two (g t u : T) (L : List T) : Qp.notsG g (t :: u :: L) = 60 :: (t ++ 62 :: (g ++ 124 :: (g ++ Qp.notsG g (u :: L)))) := by
  rw [Qp.notsG]
  intro h; cases h
theorem Qp.notsG_nil : ∀ L : List T, 0 < L.length → Qp.notsG [] L = 60 :: (Lib.join L [62, 124, 60] ++ [62])
  | [], h => by simp at h
  | [t], _ => by rw [Qp.notsG, Lib.join_one]
  | t :: u :: L, _ => by
    rw [Qp.notsG]
    · rw [Qp.notsG_nil (u :: L) (by simp), Qp.join_two]; simp
    · intro h; cases h
theorem Pt.showG_nil : ∀ (x : Pt) (d : Nat), x.wf d = true → x.showG [] = x.show := by
  intro x
  induction x using Pt.ind with
  | h k t L K ih =>
    intro d hw
    have kid : ∀ (x : Pt), x ∈ K → x.wf (d + 1) = true → x.kidG [] = x.showKid := fun x hx h => by
      have := ih x hx _ h
      unfold Pt.kidG Pt.showKid
      rw [this]; rfl
    rcases (Pt.wf_cases hw).2 with ⟨rfl, rfl, rfl, hI⟩ | ⟨rfl, rfl, rfl, h1, h4, hI⟩ | ⟨x, hk, rfl, rfl, rfl, hx⟩ | ⟨x, y, hk, rfl, rfl, rfl, hx, hy⟩
    · rw [Pt.showG_iri, Pt.show_iri]
    · rw [Pt.showG_not, Pt.show_not, Qp.notsG_nil L (by omega)]; simp
    · have h := kid x (by simp) hx
      rcases hk with rfl | rfl | rfl | rfl
      · rw [Pt.showG_back, Pt.show_back, h]; rfl
      · rw [Pt.showG_star, Pt.show_star, h]
      · rw [Pt.showG_plus, Pt.show_plus, h]
      · rw [Pt.showG_maybe, Pt.show_maybe, h]
    · have h := kid x (by simp) hx
      have h' := kid y (by simp) hy
      rcases hk with rfl | rfl
      · rw [Pt.showG_seq, Pt.show_seq, h, h']; simp
      · rw [Pt.showG_alt, Pt.show_alt, h, h']; simp
/-- Does a place stand within an IRI behind the sign c? -/
def Qp.inI (w : Bool) (c : UInt8) : Bool := c == 60 || (w && c != 62)
/-- A text with two blanks behind each sign that is not within an IRI, but '!'. -/
def Qp.bl : Bool → T → T
  | _, [] => []
  | w, c :: r => c :: ((if (!Qp.inI w c && c != 33) = true then [32, 32] else []) ++ Qp.bl (Qp.inI w c) r)
def Qp.blS : Bool → T → Bool
  | w, [] => w
  | w, c :: r => Qp.blS (Qp.inI w c) r
theorem Qp.bl_append : ∀ (a : T) (w : Bool) (b : T), Qp.bl w (a ++ b) = Qp.bl w a ++ Qp.bl (Qp.blS w a) b
  | [], w, b => rfl
  | c :: a, w, b => by
    rw [List.cons_append, Qp.bl, Qp.bl, Qp.blS, Qp.bl_append a (Qp.inI w c) b]; simp
theorem Qp.blS_append : ∀ (a : T) (w : Bool) (b : T), Qp.blS w (a ++ b) = Qp.blS (Qp.blS w a) b
  | [], w, b => rfl
  | c :: a, w, b => by rw [List.cons_append, Qp.blS, Qp.blS, Qp.blS_append a (Qp.inI w c) b]
theorem Qp.bl_len : ∀ (a : T) (w : Bool), a.length ≤ (Qp.bl w a).length ∧ (Qp.bl w a).length ≤ 3 * a.length
  | [], w => by simp [Qp.bl]
  | c :: a, w => by
    have := Qp.bl_len a (Qp.inI w c)
    rw [Qp.bl]
    split <;> simp only [List.length_cons, List.length_append, List.length_nil] <;> omega
theorem Qp.bl_tok {c : UInt8} (h : c ≠ 60) (h' : c ≠ 33) (r : T) : Qp.bl false (c :: r) = c :: ([32, 32] ++ Qp.bl false r) := by
  have e : Qp.inI false c = false := by unfold Qp.inI; simp [h]
  rw [Qp.bl, e, if_pos (by simp [h'])]
theorem Qp.bl_33 (r : T) : Qp.bl false (33 :: r) = 33 :: Qp.bl false r := by
  rw [Qp.bl, show Qp.inI false 33 = false by rfl, if_neg (by decide)]; rfl
theorem Qp.bl_in : ∀ (t r : T), (∀ c ∈ t, c ≠ 62) → Qp.bl true (t ++ 62 :: r) = t ++ 62 :: ([32, 32] ++ Qp.bl false r)
  | [], r, _ => by
    rw [List.nil_append, Qp.bl, show Qp.inI true 62 = false by rfl, if_pos (by decide)]; rfl
  | c :: t, r, h => by
    have hc := h c (by simp)
    have e : Qp.inI true c = true := by unfold Qp.inI; simp [hc]
    rw [List.cons_append, Qp.bl, e, if_neg (by simp), Qp.bl_in t r (fun x hx => h x (List.mem_cons_of_mem _ hx))]; rfl
theorem Qp.bl_iri {t : T} (h : Tm.isIRI t = true) (r : T) : Qp.bl false (60 :: (t ++ 62 :: r)) = 60 :: (t ++ 62 :: ([32, 32] ++ Qp.bl false r)) := by
  rw [Qp.bl, show Qp.inI false 60 = true by rfl, if_neg (by decide), Qp.bl_in t r (fun c hc => (Tm.isIRI_sign h c hc).1)]; rfl
theorem Qp.bl_nots : ∀ (L : List T) (r : T), 0 < L.length → (∀ t ∈ L, Tm.isIRI t = true) → Qp.bl false (60 :: (Lib.join L [62, 124, 60] ++ 62 :: r)) = Qp.notsG [32, 32] L ++ Qp.bl false r
  | [], r, h, _ => by simp at h
  | [t], r, _, hI => by
    rw [Lib.join_one, Qp.bl_iri (hI t (by simp)), Qp.notsG]; simp
  | t :: u :: L, r, _, hI => by
    have e : 60 :: (Lib.join (t :: u :: L) [62, 124, 60] ++ 62 :: r) = 60 :: (t ++ 62 :: (124 :: (60 :: (Lib.join (u :: L) [62, 124, 60] ++ 62 :: r)))) := by rw [Qp.join_two]; simp
    rw [e, Qp.bl_iri (hI t (by simp)), Qp.bl_tok (by decide) (by decide), Qp.bl_nots (u :: L) r (by simp) (fun x hx => hI x (List.mem_cons_of_mem _ hx)), Qp.notsG_two]; simp
theorem Pt.bl_show : ∀ (x : Pt) (d : Nat), x.wf d = true → ∀ r : T, Qp.bl false (x.show ++ r) = x.showG [32, 32] ++ Qp.bl false r := by
  intro x
  induction x using Pt.ind with
  | h k t L K ih =>
    intro d hw
    have kid : ∀ (x : Pt), x ∈ K → x.wf (d + 1) = true → ∀ r : T, Qp.bl false (x.showKid ++ r) = x.kidG [32, 32] ++ Qp.bl false r := fun x hx h r => by
      have := ih x hx _ h
      unfold Pt.kidG Pt.showKid
      split
      · exact this r
      · have e : (40 :: (x.show ++ [41])) ++ r = 40 :: (x.show ++ 41 :: r) := by simp
        rw [e, Qp.bl_tok (by decide) (by decide), this, Qp.bl_tok (by decide) (by decide)]; simp
    intro r
    rcases (Pt.wf_cases hw).2 with ⟨rfl, rfl, rfl, hI⟩ | ⟨rfl, rfl, rfl, h1, h4, hI⟩ | ⟨x, hk, rfl, rfl, rfl, hx⟩ | ⟨x, y, hk, rfl, rfl, rfl, hx, hy⟩
    · have e : (60 :: (t ++ [62])) ++ r = 60 :: (t ++ 62 :: r) := by simp
      rw [Pt.showG_iri, Pt.show_iri, e, Qp.bl_iri hI]; simp
    · have e : ([33, 40, 60] ++ Lib.join L [62, 124, 60] ++ [62, 41]) ++ r = 33 :: 40 :: (60 :: (Lib.join L [62, 124, 60] ++ 62 :: (41 :: r))) := by simp
      rw [Pt.showG_not, Pt.show_not, e, Qp.bl_33, Qp.bl_tok (by decide) (by decide), Qp.bl_nots L (41 :: r) (by omega) (fun t ht => List.all_eq_true.1 hI t ht), Qp.bl_tok (by decide) (by decide)]; simp
    · have h := kid x (by simp) hx
      rcases hk with rfl | rfl | rfl | rfl
      · rw [Pt.showG_back, Pt.show_back, List.cons_append, Qp.bl_tok (by decide) (by decide), h]; simp
      · rw [Pt.showG_star, Pt.show_star, List.append_assoc, h, show [42] ++ r = 42 :: r from rfl, Qp.bl_tok (by decide) (by decide)]; simp
      · rw [Pt.showG_plus, Pt.show_plus, List.append_assoc, h, show [43] ++ r = 43 :: r from rfl, Qp.bl_tok (by decide) (by decide)]; simp
      · rw [Pt.showG_maybe, Pt.show_maybe, List.append_assoc, h, show [63] ++ r = 63 :: r from rfl, Qp.bl_tok (by decide) (by decide)]; simp
    · have h := kid x (by simp) hx
      have h' := kid y (by simp) hy
      rcases hk with rfl | rfl
      · rw [Pt.showG_seq, Pt.show_seq, List.append_assoc, List.append_assoc, h, show [47] ++ (y.showKid ++ r) = 47 :: (y.showKid ++ r) from rfl, Qp.bl_tok (by decide) (by decide), h']; simp
      · rw [Pt.showG_alt, Pt.show_alt, List.append_assoc, List.append_assoc, h, show [124] ++ (y.showKid ++ r) = 124 :: (y.showKid ++ r) from rfl, Qp.bl_tok (by decide) (by decide), h']; simp
/-- The path's text, with blanks between and one ahead. -/
def Pt.blanked (x : Pt) : T := 32 :: Qp.bl false x.show
theorem Pt.whole_show {x : Pt} (h : x.wf 0 = true) : (x.fit 5 = true ∧ Qp.whole x.show = .ok x []) ∨ (x.fit 5 = false ∧ ∃ q, Qp.whole x.show = .err 3 q) :=
  Pt.round_whole (g := []) (fun c hc => by cases hc) h x.show (by
    have := skip_show (g := []) (fun c hc => by cases hc) h []
    rw [Pt.showG_nil x 0 h] at this ⊢
    simpa using this)
theorem Pt.whole_blanked {x : Pt} (h : x.wf 0 = true) : (x.fit 5 = true ∧ Qp.whole x.blanked = .ok x []) ∨ (x.fit 5 = false ∧ ∃ q, Qp.whole x.blanked = .err 3 q) := by
  have hg : Qp.Blanks [32, 32] := fun c hc => by simpa using hc
  refine Pt.round_whole hg h x.blanked ?_
  have e := Pt.bl_show x 0 h []
  rw [List.append_nil, show Qp.bl false [] = [] from rfl, List.append_nil] at e
  unfold Pt.blanked
  rw [e]
  have e2 := skip_show hg h []
  rw [List.append_nil, Qp.skip_g hg] at e2
  exact (Qp.skip_g (g := [32]) (fun c hc => by simpa using hc) (x.showG [32, 32])).trans e2
/-- What Path answers of a path's text. -/
theorem Pt.out_show {x : Pt} (h : x.wf 0 = true) : (600 < x.show.length ∧ Qp.outE x.show = 4) ∨ (x.show.length ≤ 600 ∧ x.fit 5 = true ∧ Qp.outE x.show = 0 ∧ Qp.outP x.show = x ∧ Qp.outN x.show = x.show.length) ∨ (x.show.length ≤ 600 ∧ x.fit 5 = false ∧ Qp.outE x.show = 3 ∧ Qp.outP x.show = .mk 0 [] [] []) := by
  by_cases hl : 600 < x.show.length
  · exact Or.inl ⟨hl, (out_long hl).2.2⟩
  · rcases Pt.whole_show h with ⟨hf, h1⟩ | ⟨hf, q, h1⟩
    · obtain ⟨a, b, c⟩ := out_ok (by omega) h1
      exact Or.inr (Or.inl ⟨by omega, hf, c, a, b⟩)
    · refine Or.inr (Or.inr ⟨by omega, hf, ?_, ?_⟩)
      · unfold Qp.outE; rw [if_neg hl, h1]
      · unfold Qp.outP; rw [if_neg hl, h1]
theorem Pt.out_blanked {x : Pt} (h : x.wf 0 = true) : (600 < x.blanked.length ∧ Qp.outE x.blanked = 4 ∧ Qp.outN x.blanked = 0) ∨ (x.blanked.length ≤ 600 ∧ x.fit 5 = true ∧ Qp.outE x.blanked = 0 ∧ Qp.outP x.blanked = x ∧ Qp.outN x.blanked = x.blanked.length) ∨ (x.blanked.length ≤ 600 ∧ x.fit 5 = false ∧ Qp.outE x.blanked = 3 ∧ Qp.outP x.blanked = .mk 0 [] [] []) := by
  by_cases hl : 600 < x.blanked.length
  · exact Or.inl ⟨hl, (out_long hl).2.2, (out_long hl).2.1⟩
  · rcases Pt.whole_blanked h with ⟨hf, h1⟩ | ⟨hf, q, h1⟩
    · obtain ⟨a, b, c⟩ := out_ok (by omega) h1
      exact Or.inr (Or.inl ⟨by omega, hf, c, a, b⟩)
    · refine Or.inr (Or.inr ⟨by omega, hf, ?_, ?_⟩)
      · unfold Qp.outE; rw [if_neg hl, h1]
      · unfold Qp.outP; rw [if_neg hl, h1]
end Au
end Go.Proofs.YtagmgkplfhlifaaDoor
