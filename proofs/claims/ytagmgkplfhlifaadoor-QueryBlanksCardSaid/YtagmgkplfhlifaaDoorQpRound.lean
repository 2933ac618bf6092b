/- A path's text, blanks between or not, is read as the path, if it is not too deep: plain facts. -/
import Derived.Test.YtagmgkplfhlifaaDoorQpShowA
import Derived.Test.YtagmgkplfhlifaaDoorQpMath
import Derived.Test.YtagmgkplfhlifaaDoorRrRow
namespace Go.Proofs.YtagmgkplfhlifaaDoor
set_option linter.unusedVariables false
set_option linter.unusedSimpArgs false
set_option maxRecDepth 100000
open Go.ChangeShapes Go.WideShapes Go.ChangeAt Go.RowKit
open Au
namespace Au
/-- The texts of a negated set, with g behind each sign. -/
def Qp.notsG (g : T) : List T → T
  | [] => []
  | [t] => 60 :: (t ++ 62 :: g)
  | t :: r => 60 :: (t ++ 62 :: (g ++ 124 :: (g ++ Qp.notsG g r)))
def Qp.showGOf (g : T) (k : Int) (t : T) (L : List T) (S : List T) : T :=
  if k = 1 then 60 :: (t ++ 62 :: g) else if k = 8 then 33 :: 40 :: (g ++ (Qp.notsG g L ++ 41 :: g))
  else if k = 2 then 94 :: (g ++ S.headD []) else if k = 3 then S.headD [] ++ 47 :: (g ++ S.getD 1 []) else if k = 4 then S.headD [] ++ 124 :: (g ++ S.getD 1 [])
  else if k = 5 then S.headD [] ++ 42 :: g else if k = 6 then S.headD [] ++ 43 :: g else if k = 7 then S.headD [] ++ 63 :: g else []
mutual
/-- A path's text with g behind each sign, but '!'. -/
def Pt.showG (g : T) : Pt → T | .mk k t L K => Qp.showGOf g k t L (Pt.showsG g K)
def Pt.showsG (g : T) : List Pt → List T | [] => [] | x :: r => (if x.kind = 1 then x.showG g else 40 :: (g ++ (x.showG g ++ 41 :: g))) :: Pt.showsG g r
end
def Pt.kidG (g : T) (x : Pt) : T := if x.kind = 1 then x.showG g else 40 :: (g ++ (x.showG g ++ 41 :: g))
theorem Pt.showG_iri (g t : T) : (Pt.mk 1 t [] []).showG g = 60 :: (t ++ 62 :: g) := by rw [Pt.showG]; rfl
theorem Pt.showG_not (g : T) (L : List T) : (Pt.mk 8 [] L []).showG g = 33 :: 40 :: (g ++ (Qp.notsG g L ++ 41 :: g)) := by rw [Pt.showG]; rfl
theorem Pt.showG_back (g : T) (x : Pt) : (Pt.mk 2 [] [] [x]).showG g = 94 :: (g ++ x.kidG g) := by rw [Pt.showG, Pt.showsG]; rfl
theorem Pt.showG_seq (g : T) (x y : Pt) : (Pt.mk 3 [] [] [x, y]).showG g = x.kidG g ++ 47 :: (g ++ y.kidG g) := by rw [Pt.showG, Pt.showsG, Pt.showsG]; rfl
theorem Pt.showG_alt (g : T) (x y : Pt) : (Pt.mk 4 [] [] [x, y]).showG g = x.kidG g ++ 124 :: (g ++ y.kidG g) := by rw [Pt.showG, Pt.showsG, Pt.showsG]; rfl
theorem Pt.showG_star (g : T) (x : Pt) : (Pt.mk 5 [] [] [x]).showG g = x.kidG g ++ 42 :: g := by rw [Pt.showG, Pt.showsG]; rfl
theorem Pt.showG_plus (g : T) (x : Pt) : (Pt.mk 6 [] [] [x]).showG g = x.kidG g ++ 43 :: g := by rw [Pt.showG, Pt.showsG]; rfl
theorem Pt.showG_maybe (g : T) (x : Pt) : (Pt.mk 7 [] [] [x]).showG g = x.kidG g ++ 63 :: g := by rw [Pt.showG, Pt.showsG]; rfl
namespace Qp
/-- Blanks alone. -/
def Blanks (g : T) : Prop := ∀ c ∈ g, c = 32
theorem skip_g {g : T} (hg : Blanks g) : ∀ r : T, skip (g ++ r) = skip r := by
  induction g with
  | nil => intro r; rfl
  | cons c g ih =>
    intro r
    have h0 : c = 32 := hg c (by simp)
    unfold skip at ih ⊢
    rw [List.cons_append, List.dropWhile_cons, if_pos (by rw [h0]; rfl)]
    exact ih (fun x hx => hg x (List.mem_cons_of_mem _ hx)) r
theorem skip_c {c : UInt8} (h : c ≠ 32) (r : T) : skip (c :: r) = c :: r := by
  unfold skip
  rw [List.dropWhile_cons, if_neg (by simpa using h)]
/-- It is read as x, and r is left, but for blanks (b); or it is too deep. -/
def ReadsAs (b : Bool) (R : Res) (x : Pt) (r : T) : Prop := (b = true ∧ ∃ r', R = .ok x r' ∧ skip r' = skip r) ∨ (b = false ∧ ∃ q, R = .err 3 q)
/-- Nothing that stands behind a step follows. -/
def SStop (r : T) : Prop := ∀ c u, skip r = c :: u → sg c = 0
def Stop (r : T) : Prop := skip r = [] ∨ ∃ u, skip r = 41 :: u
theorem Stop.s {r : T} (h : Stop r) : SStop r := fun c u e => by
  rcases h with h | ⟨v, h⟩
  · rw [h] at e; cases e
  · rw [h] at e; cases e; rfl
theorem Stop.no {r : T} (h : Stop r) {c : UInt8} (hc : c ≠ 41) : ∀ u, skip r ≠ c :: u := fun u e => by
  rcases h with h | ⟨v, h⟩
  · rw [h] at e; cases e
  · rw [h] at e; cases e; exact hc rfl
theorem sstop_c {c : UInt8} (h : c ≠ 32) (h0 : sg c = 0) (r : T) : SStop (c :: r) := fun d u e => by rw [skip_c h] at e; cases e; exact h0
theorem no_c {c d : UInt8} (h : c ≠ 32) (h0 : d ≠ c) (r : T) : ∀ u, skip (c :: r) ≠ d :: u := fun u e => by rw [skip_c h] at e; cases e; exact h0 rfl
theorem stepGo_stop {n : Nat} {x : Pt} {r1 r : T} (h : skip r1 = skip r) (hs : SStop r) : ∃ r', stepGo (n + 1) x r1 = .ok x r' ∧ skip r' = skip r := by
  unfold stepGo
  rw [h]
  cases hc : skip r with
  | nil => exact ⟨[], rfl, rfl⟩
  | cons c u =>
    simp only
    rw [if_pos (hs c u hc)]
    exact ⟨c :: u, rfl, by rw [← hc, skip_skip, ← h]⟩
theorem step_stop {bk : T → Res} {r0 r : T} {x : Pt} {b : Bool} (h : ReadsAs b (bk r0) x r) (hs : SStop r) : ReadsAs b (step bk r0) x r := by
  unfold step
  rcases h with ⟨hb, r', h1, h2⟩ | ⟨hb, q, h1⟩
  · rw [h1]; exact Or.inl ⟨hb, stepGo_stop h2 hs⟩
  · rw [h1]; exact Or.inr ⟨hb, q, rfl⟩
theorem step_sign {bk : T → Res} {r0 r1 r2 : T} {x : Pt} {c : UInt8} {k : Int} {b : Bool} (h : ReadsAs b (bk r0) x r1) (hc : skip r1 = c :: r2) (hk : sg c = k) (h0 : k ≠ 0) (hs : SStop r2) : ReadsAs b (step bk r0) (.mk k [] [] [x]) r2 := by
  unfold step
  rcases h with ⟨hb, r', h1, h2⟩ | ⟨hb, q, h1⟩
  · rw [h1]
    rw [hc] at h2
    have hl := skip_len r'
    rw [h2] at hl
    simp only [List.length_cons] at hl
    simp only
    rw [stepGo_sg h2 hk h0]
    obtain ⟨n, hn⟩ : ∃ n, r'.length = n + 1 := ⟨r'.length - 1, by omega⟩
    rw [hn]
    exact Or.inl ⟨hb, stepGo_stop rfl hs⟩
  · rw [h1]; exact Or.inr ⟨hb, q, rfl⟩
theorem rowGo_stop {part : T → Res} {sign : UInt8} {kind : Int} {n : Nat} {x : Pt} {r1 r : T} (h : skip r1 = skip r) (hs : ∀ u, skip r ≠ sign :: u) : ∃ r', rowGo part sign kind (n + 1) x r1 = .ok x r' ∧ skip r' = skip r :=
  ⟨skip r1, rowGo_end (by rw [h]; exact hs), by rw [skip_skip, h]⟩
theorem row_stop {part : T → Res} {sign : UInt8} {kind : Int} {r0 r : T} {x : Pt} {b : Bool} (h : ReadsAs b (part r0) x r) (hs : ∀ u, skip r ≠ sign :: u) : ReadsAs b (row part sign kind r0) x r := by
  unfold row
  rcases h with ⟨hb, r', h1, h2⟩ | ⟨hb, q, h1⟩
  · rw [h1]; exact Or.inl ⟨hb, rowGo_stop h2 hs⟩
  · rw [h1]; exact Or.inr ⟨hb, q, rfl⟩
theorem row_sign {part : T → Res} {sign : UInt8} {kind : Int} {r0 r1 r2 r3 : T} {x y : Pt} {b b' : Bool} (h : ReadsAs b (part r0) x r1) (hc : skip r1 = sign :: r2) (h2 : ReadsAs b' (part r2) y r3) (hs : ∀ u, skip r3 ≠ sign :: u) : ReadsAs (b && b') (row part sign kind r0) (.mk kind [] [] [x, y]) r3 := by
  unfold row
  rcases h with ⟨hb, r', h1, hr⟩ | ⟨hb, q, h1⟩
  · rw [h1]
    rw [hc] at hr
    have hl := skip_len r'
    rw [hr] at hl
    simp only [List.length_cons] at hl
    simp only
    rw [rowGo_one hr]
    rcases h2 with ⟨hb', r'', g1, g2⟩ | ⟨hb', q, g1⟩
    · rw [g1]
      simp only
      obtain ⟨n, hn⟩ : ∃ n, r'.length = n + 1 := ⟨r'.length - 1, by omega⟩
      rw [hn]
      exact Or.inl ⟨by rw [hb, hb']; rfl, rowGo_stop g2 hs⟩
    · rw [g1]; exact Or.inr ⟨by rw [hb']; simp, q, rfl⟩
  · rw [h1]; exact Or.inr ⟨by rw [hb]; rfl, q, rfl⟩
theorem lev_path : ∀ k, (lev k).2 = pathOf (lev k).1
  | 0 => by rw [lev_zero]
  | k + 1 => by rw [lev_succ]
theorem path_stop {bk : T → Res} {r0 r : T} {x : Pt} {b : Bool} (h : ReadsAs b (bk r0) x r) (hs : Stop r) : ReadsAs b (pathOf bk r0) x r :=
  row_stop (row_stop (step_stop h hs.s) (hs.no (by decide))) (hs.no (by decide))
theorem iri_tok {t r r0 : T} (hI : Tm.isIRI t = true) (h : skip r0 = 60 :: (t ++ 62 :: r)) : iri r0 = .ok t r := by
  have hno := fun c hc => (Tm.isIRI_sign hI c hc).1
  unfold iri
  rw [h]
  simp only [if_true]
  rw [cutGt_some (t ++ 62 :: r) t.length (fun i hi e => by
    rw [List.getElem?_append_left hi] at e
    exact hno 62 (List.mem_of_getElem? e) rfl) (by rw [List.getElem?_append_right (Nat.le_refl _), Nat.sub_self]; rfl)]
  have e1 : (t ++ 62 :: r).take t.length = t := List.take_left
  have e2 : (t ++ 62 :: r).drop (t.length + 1) = r := by rw [← List.drop_drop, List.drop_left]; rfl
  rw [e1, e2]
  simp only
  rw [if_pos hI]
theorem notsG_len (g : T) : ∀ L : List T, L.length ≤ (notsG g L).length
  | [] => by simp [notsG]
  | [t] => by simp [notsG]
  | t :: u :: r => by
    have := notsG_len g (u :: r)
    rw [notsG]
    · simp only [List.length_cons, List.length_append] at this ⊢; omega
    · intro h; cases h
theorem notGo_all {g : T} (hg : Blanks g) : ∀ (L : List T) (n : Nat) (l : List T) (c0 : UInt8) (r : T), 0 < L.length → L.length ≤ n → (∀ t ∈ L, Tm.isIRI t = true) → notGo n l (c0 :: (g ++ (notsG g L ++ 41 :: r))) = .ok (.mk 8 [] (l ++ L) []) r
  | [], n, l, c0, r, h, _, _ => by simp at h
  | [t], n, l, c0, r, _, hn, hI => by
    obtain ⟨m, rfl⟩ : ∃ m, n = m + 1 := ⟨n - 1, by simp at hn; omega⟩
    have hi : iri ((c0 :: (g ++ (notsG g [t] ++ 41 :: r))).drop 1) = .ok t (g ++ 41 :: r) := iri_tok (hI t (by simp)) (by
      show skip (g ++ (notsG g [t] ++ 41 :: r)) = _
      rw [skip_g hg, notsG, List.cons_append, skip_c (by decide)]
      simp)
    rw [notGo_rest m l _ t _ hi]
    unfold notRest
    rw [skip_g hg, skip_c (by decide)]
    rfl
  | t :: u :: L, n, l, c0, r, _, hn, hI => by
    obtain ⟨m, rfl⟩ : ∃ m, n = m + 1 := ⟨n - 1, by simp at hn; omega⟩
    have hi : iri ((c0 :: (g ++ (notsG g (t :: u :: L) ++ 41 :: r))).drop 1) = .ok t (g ++ 124 :: (g ++ (notsG g (u :: L) ++ 41 :: r))) := iri_tok (hI t (by simp)) (by
      show skip (g ++ (notsG g (t :: u :: L) ++ 41 :: r)) = _
      rw [skip_g hg, notsG]
      · rw [List.cons_append, skip_c (by decide)]; simp
      · intro h; cases h)
    rw [notGo_rest m l _ t _ hi]
    unfold notRest
    rw [skip_g hg, skip_c (by decide)]
    simp only [if_true]
    rw [notGo_all hg (u :: L) m (l ++ [t]) 124 r (by simp) (by simp at hn ⊢; omega) (fun x hx => hI x (List.mem_cons_of_mem _ hx))]
    simp
theorem nots_all {g : T} (hg : Blanks g) (L : List T) (r : T) (h0 : 0 < L.length) (hI : ∀ t ∈ L, Tm.isIRI t = true) : nots (40 :: (g ++ (notsG g L ++ 41 :: r))) = .ok (.mk 8 [] L []) r := by
  have hl := notsG_len g L
  unfold nots
  simp only [if_true]
  rw [notGo_all hg L _ [] 40 r h0 (by simp only [List.length_cons, List.length_append]; omega) hI]
  rfl
end Qp
def Qp.fitOf (k : Int) (F : List (Nat → Bool)) (n : Nat) : Bool :=
  if k = 2 then (match n with | 0 => false | m + 1 => F.headD (fun _ => true) m) else if k = 3 ∨ k = 4 then F.headD (fun _ => true) n && F.getD 1 (fun _ => true) n else if k = 1 ∨ k = 8 then true else F.headD (fun _ => true) n
mutual
/-- Is a path in its text no deeper than so many levels? -/
def Pt.fit : Pt → Nat → Bool | .mk k t L K => Qp.fitOf k (Pt.fits K)
def Pt.fits : List Pt → List (Nat → Bool) | [] => [] | x :: r => (fun n => if x.kind = 1 then true else match n with | 0 => false | m + 1 => x.fit m) :: Pt.fits r
end
def Pt.fitK (x : Pt) (n : Nat) : Bool := if x.kind = 1 then true else match n with | 0 => false | m + 1 => x.fit m
theorem Pt.fit_back (x : Pt) (n : Nat) : (Pt.mk 2 [] [] [x]).fit n = (match n with | 0 => false | m + 1 => x.fitK m) := by rw [Pt.fit, Pt.fits]; cases n <;> rfl
theorem Pt.fit_two (k : Int) (hk : k = 3 ∨ k = 4) (x y : Pt) (n : Nat) : (Pt.mk k [] [] [x, y]).fit n = (x.fitK n && y.fitK n) := by rw [Pt.fit, Pt.fits, Pt.fits]; rcases hk with rfl | rfl <;> rfl
theorem Pt.fit_one (k : Int) (hk : k = 5 ∨ k = 6 ∨ k = 7) (x : Pt) (n : Nat) : (Pt.mk k [] [] [x]).fit n = x.fitK n := by rw [Pt.fit, Pt.fits]; rcases hk with rfl | rfl | rfl <;> rfl
theorem Pt.fit_leaf (k : Int) (hk : k = 1 ∨ k = 8) (t : T) (L : List T) (n : Nat) : (Pt.mk k t L []).fit n = true := by rw [Pt.fit, Pt.fits]; rcases hk with rfl | rfl <;> rfl
/-- A path's text begins with no blank. -/
theorem Pt.showG_head (g : T) : ∀ (x : Pt) (d : Nat), x.wf d = true → (∃ c u, x.showG g = c :: u ∧ c ≠ 32) ∧ (∃ c u, x.kidG g = c :: u ∧ c ≠ 32) := by
  intro x
  induction x using Pt.ind with
  | h k t L K ih =>
    intro d hw
    have key : ∃ c u, (Pt.mk k t L K).showG g = c :: u ∧ c ≠ 32 := by
      rcases (Pt.wf_cases hw).2 with ⟨rfl, rfl, rfl, hI⟩ | ⟨rfl, rfl, rfl, h1, h4, hI⟩ | ⟨x, hk, rfl, rfl, rfl, hx⟩ | ⟨x, y, hk, rfl, rfl, rfl, hx, hy⟩
      · rw [Pt.showG_iri]; exact ⟨_, _, rfl, by decide⟩
      · rw [Pt.showG_not]; exact ⟨_, _, rfl, by decide⟩
      · obtain ⟨_, c, u, e, hc⟩ := ih x (by simp) _ hx
        rcases hk with rfl | rfl | rfl | rfl
        · rw [Pt.showG_back]; exact ⟨_, _, rfl, by decide⟩
        · rw [Pt.showG_star, e]; exact ⟨_, _, rfl, hc⟩
        · rw [Pt.showG_plus, e]; exact ⟨_, _, rfl, hc⟩
        · rw [Pt.showG_maybe, e]; exact ⟨_, _, rfl, hc⟩
      · obtain ⟨_, c, u, e, hc⟩ := ih x (by simp) _ hx
        rcases hk with rfl | rfl
        · rw [Pt.showG_seq, e]; exact ⟨_, _, rfl, hc⟩
        · rw [Pt.showG_alt, e]; exact ⟨_, _, rfl, hc⟩
    refine ⟨key, ?_⟩
    unfold Pt.kidG
    split
    · exact key
    · exact ⟨_, _, rfl, by decide⟩
theorem skip_kid {g : T} (hg : Qp.Blanks g) {x : Pt} {d : Nat} (hx : x.wf d = true) (r : T) : Qp.skip (g ++ (x.kidG g ++ r)) = x.kidG g ++ r := by
  obtain ⟨_, c, u, e, hc⟩ := Pt.showG_head g x d hx
  rw [Qp.skip_g hg, e, List.cons_append, Qp.skip_c hc]
theorem skip_show {g : T} (hg : Qp.Blanks g) {x : Pt} {d : Nat} (hx : x.wf d = true) (r : T) : Qp.skip (g ++ (x.showG g ++ r)) = x.showG g ++ r := by
  obtain ⟨⟨c, u, e, hc⟩, _⟩ := Pt.showG_head g x d hx
  rw [Qp.skip_g hg, e, List.cons_append, Qp.skip_c hc]
open Qp in
/-- THE ROUND TRIP: a path, and a Kid, in their texts. -/
theorem Pt.round {g : T} (hg : Qp.Blanks g) : ∀ (x : Pt) (d : Nat), x.wf d = true → ∀ (k : Nat) (r0 r : T),
    (Stop r → skip r0 = x.showG g ++ r → ReadsAs (x.fit k) ((lev k).2 r0) x r) ∧ (skip r0 = x.kidG g ++ r → ReadsAs (x.fitK k) ((lev k).1 r0) x r) := by
  intro x
  induction x using Pt.ind with
  | h k t L K ih =>
    intro d hw
    have path : ∀ (n : Nat) (r0 r : T), Stop r → skip r0 = (Pt.mk k t L K).showG g ++ r → ReadsAs ((Pt.mk k t L K).fit n) ((lev n).2 r0) (Pt.mk k t L K) r := by
      intro n r0 r hs hr
      rw [lev_path]
      rcases (Pt.wf_cases hw).2 with ⟨rfl, rfl, rfl, hI⟩ | ⟨rfl, rfl, rfl, h1, h4, hI⟩ | ⟨x, hk, rfl, rfl, rfl, hx⟩ | ⟨x, y, hk, rfl, rfl, rfl, hx, hy⟩
      · rw [Pt.showG_iri] at hr
        refine path_stop (Or.inl ⟨Pt.fit_leaf _ (by decide) _ _ _, g ++ r, ?_, skip_g hg r⟩) hs
        have hb : ∀ sub, back sub r0 = .ok (.mk 1 t [] []) (g ++ r) := fun sub => by
          rw [back_iri (by rw [hr]; show (60 : UInt8).toNat ≠ 94; decide) (by rw [hr]; show (60 : UInt8).toNat ≠ 40; decide) (by rw [hr]; show (60 : UInt8).toNat ≠ 33; decide), iri_tok (r := g ++ r) hI (by rw [skip_skip, hr]; simp)]
        cases n with
        | zero => rw [lev_zero]; exact hb none
        | succ n => rw [lev_succ]; exact hb (some (lev n))
      · rw [Pt.showG_not] at hr
        refine path_stop (Or.inl ⟨Pt.fit_leaf _ (by decide) _ _ _, g ++ r, ?_, skip_g hg r⟩) hs
        have hb : ∀ sub, back sub r0 = .ok (.mk 8 [] L []) (g ++ r) := fun sub => by
          rw [back_not (r1 := 40 :: (g ++ (notsG g L ++ 41 :: (g ++ r)))) (by rw [hr]; simp), nots_all hg L (g ++ r) (by omega) (fun t ht => List.all_eq_true.1 hI t ht)]
        cases n with
        | zero => rw [lev_zero]; exact hb none
        | succ n => rw [lev_succ]; exact hb (some (lev n))
      · have IH := fun n r0 r => ((ih x (by simp) _ hx) n r0 r).2
        rcases hk with rfl | rfl | rfl | rfl
        · rw [Pt.showG_back] at hr
          refine path_stop ?_ hs
          have hr' : skip r0 = 94 :: (g ++ (x.kidG g ++ r)) := by rw [hr]; simp
          rw [Pt.fit_back]
          cases n with
          | zero => rw [lev_zero]; exact Or.inr ⟨rfl, _, back_none hr' (Or.inl rfl)⟩
          | succ n =>
            rw [lev_succ]
            show ReadsAs (x.fitK n) (back (some (lev n)) r0) _ r
            rw [back_hat hr']
            rcases IH n (g ++ (x.kidG g ++ r)) r (skip_kid hg hx r) with ⟨hb, r', h1, h2⟩ | ⟨hb, q, h1⟩
            · rw [h1]; exact Or.inl ⟨hb, r', rfl, h2⟩
            · rw [h1]; exact Or.inr ⟨hb, q, rfl⟩
        · rw [Pt.showG_star] at hr
          rw [Pt.fit_one _ (by decide)]
          have h1 := IH n r0 (42 :: (g ++ r)) (by rw [hr]; simp)
          have h2 : SStop (g ++ r) := fun c u e => hs.s c u (by rw [skip_g hg] at e; exact e)
          rcases step_sign (k := 5) h1 (skip_c (by decide) _) rfl (by decide) h2 with ⟨hb, r', g1, g2⟩ | g1
          · exact row_stop (row_stop (Or.inl ⟨hb, r', g1, by rw [g2, skip_g hg]⟩) (hs.no (by decide))) (hs.no (by decide))
          · exact row_stop (row_stop (Or.inr g1) (hs.no (by decide))) (hs.no (by decide))
        · rw [Pt.showG_plus] at hr
          rw [Pt.fit_one _ (by decide)]
          have h1 := IH n r0 (43 :: (g ++ r)) (by rw [hr]; simp)
          have h2 : SStop (g ++ r) := fun c u e => hs.s c u (by rw [skip_g hg] at e; exact e)
          rcases step_sign (k := 6) h1 (skip_c (by decide) _) rfl (by decide) h2 with ⟨hb, r', g1, g2⟩ | g1
          · exact row_stop (row_stop (Or.inl ⟨hb, r', g1, by rw [g2, skip_g hg]⟩) (hs.no (by decide))) (hs.no (by decide))
          · exact row_stop (row_stop (Or.inr g1) (hs.no (by decide))) (hs.no (by decide))
        · rw [Pt.showG_maybe] at hr
          rw [Pt.fit_one _ (by decide)]
          have h1 := IH n r0 (63 :: (g ++ r)) (by rw [hr]; simp)
          have h2 : SStop (g ++ r) := fun c u e => hs.s c u (by rw [skip_g hg] at e; exact e)
          rcases step_sign (k := 7) h1 (skip_c (by decide) _) rfl (by decide) h2 with ⟨hb, r', g1, g2⟩ | g1
          · exact row_stop (row_stop (Or.inl ⟨hb, r', g1, by rw [g2, skip_g hg]⟩) (hs.no (by decide))) (hs.no (by decide))
          · exact row_stop (row_stop (Or.inr g1) (hs.no (by decide))) (hs.no (by decide))
      · have IX := fun n r0 r => ((ih x (by simp) _ hx) n r0 r).2
        have IY := fun n r0 r => ((ih y (by simp) _ hy) n r0 r).2
        rcases hk with rfl | rfl
        · rw [Pt.showG_seq] at hr
          rw [Pt.fit_two _ (by decide)]
          have h1 := step_stop (IX n r0 (47 :: (g ++ (y.kidG g ++ r))) (by rw [hr]; simp)) (sstop_c (by decide) rfl _)
          have h2 := step_stop (IY n (g ++ (y.kidG g ++ r)) r (skip_kid hg hy r)) hs.s
          exact row_stop (row_sign h1 (skip_c (by decide) _) h2 (hs.no (by decide))) (hs.no (by decide))
        · rw [Pt.showG_alt] at hr
          rw [Pt.fit_two _ (by decide)]
          have h1 := row_stop (sign := 47) (kind := 3) (step_stop (IX n r0 (124 :: (g ++ (y.kidG g ++ r))) (by rw [hr]; simp)) (sstop_c (by decide) rfl _)) (no_c (by decide) (by decide) _)
          have h2 := row_stop (sign := 47) (kind := 3) (step_stop (IY n (g ++ (y.kidG g ++ r)) r (skip_kid hg hy r)) hs.s) (hs.no (by decide))
          exact row_sign h1 (skip_c (by decide) _) h2 (hs.no (by decide))
    intro n r0 r
    refine ⟨path n r0 r, fun hr => ?_⟩
    unfold Pt.kidG at hr
    by_cases h1 : (Pt.mk k t L K).kind = 1
    · rw [if_pos h1] at hr
      have h1 : k = 1 := h1
      subst h1
      rcases (Pt.wf_cases hw).2 with ⟨_, rfl, rfl, hI⟩ | ⟨h, _⟩ | ⟨x, hk, _⟩ | ⟨x, y, hk, _⟩
      · rw [Pt.showG_iri] at hr
        refine Or.inl ⟨rfl, g ++ r, ?_, skip_g hg r⟩
        have hb : ∀ sub, back sub r0 = .ok (.mk 1 t [] []) (g ++ r) := fun sub => by
          rw [back_iri (by rw [hr]; show (60 : UInt8).toNat ≠ 94; decide) (by rw [hr]; show (60 : UInt8).toNat ≠ 40; decide) (by rw [hr]; show (60 : UInt8).toNat ≠ 33; decide), iri_tok (r := g ++ r) hI (by rw [skip_skip, hr]; simp)]
        cases n with
        | zero => rw [lev_zero]; exact hb none
        | succ n => rw [lev_succ]; exact hb (some (lev n))
      · omega
      · omega
      · omega
    · rw [if_neg h1] at hr
      have hr' : skip r0 = 40 :: (g ++ ((Pt.mk k t L K).showG g ++ 41 :: (g ++ r))) := by rw [hr]; simp
      have hfk : ∀ n, (Pt.mk k t L K).fitK (n + 1) = (Pt.mk k t L K).fit n := fun n => by unfold Pt.fitK; rw [if_neg h1]
      have hf0 : (Pt.mk k t L K).fitK 0 = false := by unfold Pt.fitK; rw [if_neg h1]
      cases n with
      | zero => rw [lev_zero]; exact Or.inr ⟨hf0, _, back_none hr' (Or.inr rfl)⟩
      | succ n =>
        rw [lev_succ, hfk]
        show ReadsAs _ (back (some (lev n)) r0) _ r
        rw [back_br hr']
        rcases path n (g ++ ((Pt.mk k t L K).showG g ++ 41 :: (g ++ r))) (41 :: (g ++ r)) (Or.inr ⟨_, skip_c (by decide) _⟩) (skip_show hg hw _) with ⟨hb, r', h1, h2⟩ | ⟨hb, q, h1⟩
        · rw [h1]
          rw [skip_c (by decide)] at h2
          simp only
          rw [h2]
          exact Or.inl ⟨hb, g ++ r, rfl, skip_g hg r⟩
        · rw [h1]; exact Or.inr ⟨hb, q, rfl⟩
open Qp in
/-- The whole text. -/
theorem Pt.round_whole {g : T} (hg : Blanks g) {x : Pt} (h : x.wf 0 = true) (r0 : T) (hr : skip r0 = x.showG g) : (x.fit 5 = true ∧ whole r0 = .ok x []) ∨ (x.fit 5 = false ∧ ∃ q, whole r0 = .err 3 q) := by
  unfold whole
  rcases (Pt.round hg x 0 h 5 r0 []).1 (Or.inl rfl) (by rw [hr]; simp) with ⟨hb, r', h1, h2⟩ | ⟨hb, q, h1⟩
  · rw [h1]
    simp only
    rw [h2]
    exact Or.inl ⟨hb, rfl⟩
  · rw [h1]; exact Or.inr ⟨hb, q, rfl⟩
end Au
end Go.Proofs.YtagmgkplfhlifaaDoor
