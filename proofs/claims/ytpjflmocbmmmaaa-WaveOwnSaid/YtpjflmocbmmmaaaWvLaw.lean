/- A wave: what the laws call, in one form. -/
import Derived.Test.YtpjflmocbmmmaaaWvKnown
import Derived.Test.YtpjflmocbmmmaaaRows0
namespace Go.Proofs.Ytpjflmocbmmmaaa
set_option linter.unusedVariables false
set_option linter.unusedSimpArgs false
set_option maxRecDepth 100000
open Go.ChangeShapes Go.WideShapes Go.ChangeAt Go.RowKit
theorem wdist_any (p wd : Nat) (l : List Nat) (fr ed : Int) (w : World) (h : IsWave w p l wd) :
    Calls Try.prog 25 #[.pointer (some ⟨p, 0, none⟩), .int .i64 fr, .int .i64 ed] w fun e w' => ∃ a cap, e = .returned (.slice a (Wv.disV (Wv.rng l fr ed) 0).length cap) ∧ RowAt w' a (Wv.disV (Wv.rng l fr ed) 0).length (fun i => .int .i64 ((Wv.disV (Wv.rng l fr ed) 0).getD i 0)) ∧ Below w.heap.size w w' := by
  have hl := Wv.rng_length l fr ed
  have h2 := Wv.hiEnd_le l.length ed
  have hn := h.2.1
  refine (wdist_core (.pointer (some ⟨p, 0, none⟩)) fr ed (Wv.rng l fr ed) w (by omega) (fun x hx => ?_) (fun x W _ _ hW => wnext_any p wd l fr ed x W (h.keep hW))).mono ?_
  · have := h.2.2.1 x (Wv.rng_mem hx)
    have := Nat.pow_le_pow_right (n := 2) (by omega) h.1
    omega
  · rintro e w' ⟨a, cap, rfl, _, _, _, h1, h2⟩
    exact ⟨a, cap, rfl, h1, h2⟩
theorem wdist_nil (fr ed : Int) (w : World) :
    Calls Try.prog 25 #[.pointer none, .int .i64 fr, .int .i64 ed] w fun e w' => ∃ a cap, e = .returned (.slice a 0 cap) ∧ Below w.heap.size w w' := by
  refine (wdist_core (.pointer none) fr ed [] w (by simp) (fun x hx => by cases hx) (fun x W _ _ hW => wnext_nil fr ed x W)).mono ?_
  rintro e w' ⟨a, cap, rfl, _, _, _, h1, h2⟩
  exact ⟨a, cap, rfl, h2⟩
theorem rdist_any (a : Option Addr) (n cap wd : Nat) (l : List Nat) (fr ed : Int) (w : World) (hn : n = l.length) (h : NatsAt w a l) (hc : n ≤ cap) (hm : cap ≤ maxLen) (h1000 : n ≤ 1000) (hw : wd ≤ 20) (hlt : ∀ x ∈ l, x < 2 ^ wd) :
    Calls Try.prog 26 #[.slice a n cap, .int .i64 fr, .int .i64 ed] w fun e w' => ∃ a cap, e = .returned (.slice a (Wv.disV (Wv.rng l fr ed) 0).length cap) ∧ RowAt w' a (Wv.disV (Wv.rng l fr ed) 0).length (fun i => .int .i64 ((Wv.disV (Wv.rng l fr ed) 0).getD i 0)) ∧ Below w.heap.size w w' := by
  have hl := Wv.rng_length l fr ed
  have h2 := Wv.hiEnd_le l.length ed
  refine (rdist_core (.slice a n cap) fr ed (Wv.rng l fr ed) w (by omega) (fun x hx => ?_) (fun x W _ _ hW => (rnext_any a n cap l fr ed x W hn (h.keep hW) hc hm (by omega)).mono fun e w' ⟨h1, h2⟩ => ⟨h1, by rw [h2]; exact Below.refl _ _⟩)).mono ?_
  · have := hlt x (Wv.rng_mem hx)
    have := Nat.pow_le_pow_right (n := 2) (by omega) hw
    omega
  · rintro e w' ⟨a, cap, rfl, _, _, _, h1, h2⟩
    exact ⟨a, cap, rfl, h1, h2⟩
/-- Numbers that may be packed are natural ones. -/
theorem may_split {L : List Int} {width : Int} (h : Pm.May L width) : ∃ (l : List Nat) (wd : Nat), width = (wd : Int) ∧ L = l.map fun x : Nat => (x : Int) := by
  refine ⟨L.map Int.toNat, width.toNat, by have := h.1; omega, ?_⟩
  rw [List.map_map]
  refine List.ext_getElem (by simp) fun i h1 h2 => ?_
  have := (h.2.2.2 i h1).1
  simp only [List.getD, List.getElem?_eq_getElem h1, Option.getD_some] at this
  simp only [List.getElem_map, Function.comp]; omega
theorem map_getD (l : List Nat) (i : Nat) : (l.map fun x : Nat => (x : Int)).getD i 0 = ((l.getD i 0 : Nat) : Int) := by
  simp only [List.getD, List.getElem?_map]; cases l[i]? <;> rfl
theorem natsAt_of {W : World} {a : Option Addr} {n : Nat} {l : List Nat} (hn : n = l.length) (h : RowAt W a n fun i => i64v ((l.map fun x : Nat => (x : Int)).getD i 0)) : NatsAt W a l := by
  unfold NatsAt
  rw [← hn]
  rcases h with h | ⟨b, off, h1, h2⟩
  · exact Or.inl h
  · exact Or.inr ⟨b, off, h1, fun i hi => by rw [h2 i hi]; show some (Value.int .i64 _) = some (Value.int .i64 _); rw [map_getD]⟩
theorem rmay_yes' (a : Option Addr) (n cap wd : Nat) (l : List Nat) (W W' : World) (hn : n = l.length) (hA : NatsAt W a l) (hM : Pm.May (l.map fun x : Nat => (x : Int)) wd) (hb : Below W.heap.size W W') :
    Calls Try.prog 12 #[.slice a n cap, .int .i64 wd] W' fun e w => e = .returned (.bool true) ∧ w = W' := by
  have h20 := hM.2.2.1
  rw [List.length_map, ← hn] at h20
  have hlt := (may_nat hM).2.2
  have hw := (may_nat hM).1
  have h2w := Nat.pow_le_pow_right (n := 2) (by omega) hw
  refine (rmay_any a n cap wd (l.map fun x : Nat => (x : Int)) W' true (by simpa using hn) (by omega) (by simp [hM]) (fun i hi => ?_) ?_).mono fun e w h => ⟨h.1, h.2.symm⟩
  · rw [map_getD]
    have : l.getD i 0 < 2 ^ wd := hlt _ (by rw [List.getD, List.getElem?_eq_getElem (by omega)]; exact List.getElem_mem _)
    omega
  · have h := NatsAt.keep hA hb
    unfold NatsAt at h
    rw [← hn] at h
    rcases h with h | ⟨b, off, h1, h2⟩
    · exact Or.inl h
    · exact Or.inr ⟨b, off, h1, fun i hi => by rw [h2 i hi]; show some (Value.int .i64 _) = some (Value.int .i64 _); rw [map_getD]⟩
theorem rmay_no' (a : Option Addr) (n cap : Nat) (width : Int) (L : List Int) (W : World) (hn : n = L.length) (hn2 : n ≤ 9223372036854775807) (hb : ∀ i, -9223372036854775808 ≤ L.getD i 0 ∧ L.getD i 0 ≤ 9223372036854775807) (hR : RowAt W a n fun i => i64v (L.getD i 0)) (hM : ¬ Pm.May L width) :
    Calls Try.prog 12 #[.slice a n cap, .int .i64 width] W fun e w => e = .returned (.bool false) ∧ w = W :=
  (rmay_any a n cap width L W false hn hn2 (by simp [hM]) (fun i _ => (hb i).2) hR).mono fun e w h => ⟨h.1, h.2.symm⟩
theorem rsame_yes (a b : Option Addr) (n cap cap2 : Nat) (l : List Int) (W : World) (hn : n = l.length) (hn2 : n ≤ 9223372036854775807) (hR : RowAt W a n fun i => .int .i64 (l.getD i 0)) (hR2 : RowAt W b n fun i => .int .i64 (l.getD i 0)) :
    Calls Try.prog 24 #[.slice a n cap, .slice b n cap2] W fun e W' => e = .returned (.bool true) ∧ Below W.heap.size W W' :=
  (rsame_any a b n n cap cap2 l l W true hn hn hn2 hn2 (by simp) hR hR2).mono fun e w ⟨h, q, h2⟩ => ⟨h, by rw [h2]; exact below_drawn (Below.refl _ _) q⟩
/-- A place beyond the ends. -/
theorem wacc_out' (p wd : Nat) (l : List Nat) (i : Int) (w : World) (h : IsWave w p l wd) (hi : i < 0 ∨ (l.length : Int) ≤ i) :
    Calls Try.prog 15 #[.pointer (some ⟨p, 0, none⟩), .int .i64 i] w fun e w' => e = .returned (.int .i64 (-1)) ∧ Below w.heap.size w w' := by
  obtain ⟨_, _, _, ad, cap, c0, _⟩ := h
  exact (wacc_out p l.length i w c0 hi).mono fun e w' h => ⟨h.1, by rw [h.2]; exact Below.refl _ _⟩
end Go.Proofs.Ytpjflmocbmmmaaa
