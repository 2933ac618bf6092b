/- slices.Clone of texts. -/
import Derived.Test.YtobcbaeoedpefaaDoorTexts
import Derived.Lib.SliceRun
namespace Go.Proofs.YtobcbaeoedpefaaDoor
set_option linter.unusedVariables false
set_option linter.unusedSimpArgs false
set_option maxRecDepth 100000
open Go.ChangeShapes Go.WideShapes Go.ChangeAt Go.RowKit
theorem Tryd.info9 : (Tryd.prog.info? 9).map (fun i => (i.zero, i.size, i.bytes)) = some (some (.string ByteArray.empty), 1, 16) := by kernel_rfl
theorem texts_range (L : List (List UInt8)) (n : Nat) (hn : n = L.length) : (List.range n).map (fun i => str (L[i]?.getD [])) = L.map str := by
  subst hn
  refine List.ext_getElem (by simp) fun i h1 h2 => ?_
  simp [show i < L.length by simpa using h1]
/-- What lies in blocks from B on alone. -/
def From (B : Nat) (w : World) (v : Value) (L : List (List UInt8)) : Prop := ∀ w'', (∀ k, B ≤ k → k < w.heap.size → w''.heap[k]? = w.heap[k]?) → TextsAt w'' v L
theorem from_own {w : World} {B n : Nat} {v : Value} {L : List (List UInt8)} (h : w.ownsRow B 9 1 v n (L.map str)) (hn : n = L.length) : From B w v L := by
  intro w'' hw
  refine SlAt.own (base := B) (t := 9) (n := n) ?_ hn
  obtain ⟨h1, h2⟩ := h
  refine ⟨h1, ?_⟩
  rcases h2 with h2 | ⟨g, cap, cur, e, hg, hh, r⟩
  · exact .inl h2
  · exact .inr ⟨g, cap, cur, e, hg, by rw [hw g hg (lt_of_block hh)]; exact hh, r⟩
theorem clone_any (v : Value) (L : List (List UInt8)) (W : World) (h : TextsAt W v L) (hL : L.length ≤ 300) :
    Calls Tryd.prog 35 #[v] W fun e W' => ∃ v', e = .returned v' ∧ Below W.heap.size W W' ∧ TextsAt W' v' L ∧ From W.heap.size W' v' L := by
  obtain ⟨i0, hi, hz0, hz1, hz2⟩ := info_parts Tryd.info9
  obtain ⟨a, cap, rfl, hc1, hc2, hc3, hR⟩ := h.open
  obtain ⟨n, hn⟩ : ∃ n, n = L.length := ⟨_, rfl⟩
  rw [← hn] at hc1 hc3 hR hL ⊢
  cases a with
  | none =>
    obtain ⟨h1, h2⟩ := hc3 rfl
    have hl : L = [] := List.eq_nil_of_length_eq_zero (by omega)
    subst hl
    obtain rfl : n = 0 := h1
    obtain rfl : cap = 0 := h2
    clear h hc1 hc2 hc3 hR hi hz0 hz1 hz2 hn hL
    have he := fun W => Go.Lib.run_eql_slice_nil (P := Tryd.prog) W 22 9 none 0 0 0 0 Tryd.underlying22
    go_enter Tryd.func35, Tryd.ntmps35
    go_wp2
    go_ret
    exact ⟨_, rfl, Below.refl _ _, SlAt.nil _, fun _ _ => SlAt.nil _⟩
  | some a =>
    have HR := hid hR
    have HN := hid hn
    clear hc3 hR hn h
    have he := fun W => Go.Lib.run_eql_slice_nil (P := Tryd.prog) W 22 9 (some a) n cap 0 0 Tryd.underlying22
    go_enter Tryd.func35, Tryd.ntmps35
    go_wp2_with (at_builtin; refine wpList_append_row rfl (.tmp 5) (.tmp 6) 22 rfl W.heap.size 9 i0 _ 16 Tryd.underlying22 hi hz0 hz1 hz2 rfl (.slice (some ⟨W.heap.size, 0, none⟩) 0 0) 0 [] rfl ?own (some a) n cap (fun i => str (L.getD i [])) rfl ?nil ?row ?one ?b1 ?b2 ?base ?_)
    case own => exact World.ownsRow_made W #[] 0 (Nat.le_refl _) (by unfold maxLen; omega) rfl
    case nil => exact fun h => by cases h
    case row => exact HR.out.keep ((Below.refl _ _).alloc (Nat.le_refl _) _)
    case one => intro j _; rfl
    case b1 => unfold maxLen; omega
    case b2 => omega
    case base => simp
    intro v1 w1 hown hgr
    rw [texts_range L n HN.out] at hown
    have hb : Below W.heap.size W w1 := ((Below.refl W.heap.size W).alloc (Nat.le_refl _) _).grown hgr (by simp) (fun k hk => by
      simp only [Value.ownBlock, Option.some.injEq] at hk; omega)
    have HO := hid hown
    have HB := hid hb
    clear hown hgr hb
    go_wp2
    go_ret
    exact ⟨_, rfl, HB.out, SlAt.own HO.out HN.out, from_own HO.out HN.out⟩
end Go.Proofs.YtobcbaeoedpefaaDoor
