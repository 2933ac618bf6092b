/- store's Load; what a store tells: Len, Triples, Terms, Term, Ring, Export. -/
import Derived.Test.YtjaebndajhppgaaGreatDoorSoBuild
import Derived.Test.YtjaebndajhppgaaGreatDoorGPar
import Derived.Test.YtjaebndajhppgaaGreatDoorPrPrintL
namespace Go.Proofs.YtjaebndajhppgaaGreatDoor
set_option linter.unusedVariables false
set_option linter.unusedSimpArgs false
set_option maxRecDepth 100000
open Go.ChangeShapes Go.WideShapes Go.ChangeAt Go.RowKit Go.Sort
/-- What Load answers: where the text is one, a store of its triples. -/
def LoadPost (w : World) (r : Nat × Nat × List TR) (e : Ending) (w' : World) : Prop :=
  (if r.1 = 0 then ∃ p, e = .returned (.tuple #[.pointer (some ⟨p, 0, none⟩), .int .i64 (r.2.1 : Nat), .int .i64 0]) ∧ IsStore w' p (Tm.rsort r.2.2)
   else e = .returned (.tuple #[.pointer none, .int .i64 (r.2.1 : Nat), .int .i64 (r.1 : Nat)])) ∧ Below w.heap.size w w'
set_option maxHeartbeats 2000000 in
theorem load_any (s : List UInt8) (w : World) (hV : Vars w) (hE : ErrAt w) (hl : s.length ≤ 20000) (R : Nat × Nat × List TR) (hans : Tm.plU s 0 [] = R)
    (ht : R.1 = 0 → (∀ t ∈ R.2.2, Tm.isTri t = true) ∧ R.2.2.length ≤ 100) : Calls Tryz.prog 13 #[str s] w (LoadPost w R) := by
  have PA := hid (pparse_any s w hV hE hl R hans)
  have BU := hid (fun hz W v hv => build_any (Tm.rsort R.2.2) (Tm.rsort_tri (ht hz).1) (Tm.rsort_srt (ht hz).1) (Nat.le_trans (Tm.rsort_len _) (ht hz).2) W v hv)
  obtain ⟨E, N, l⟩ := R
  simp only at ht BU
  clear hV hE hl hans ht
  by_cases hz : E = 0
  · subst hz
    replace BU := hid (BU.out rfl)
    go_enter Tryz.func13, Tryz.ntmps13
    go_wp2_with (first
      | (go_at_call 42; refine PA.out.mono ?_; rintro e w1 ⟨v, rfl, hT0, hB⟩; have hT := (show TrisAt w1 v ((Tm.rsort l).map ofT) from hT0); clear hT0; obtain ⟨va, vc, rfl, _, _, _⟩ := hT.open; rw [List.length_map] at hT ⊢; have HT := hid hT; have HB := hid hB; clear hT hB)
      | (go_at_call 43; refine (BU.out _ _ HT.out).mono ?_; rintro e w2 ⟨p, rfl, hS, hB2⟩; have HS := hid hS; have HB2 := hid hB2; clear hS hB2))
    go_ret3
    exact ⟨⟨p, rfl, HS.out⟩, below_then HB.out HB2.out⟩
  · have hz2 : ((E : Int) == 0) = false := beq_eq_false_iff_ne.2 (by omega)
    have HZ := hid hz
    clear hz
    go_enter Tryz.func13, Tryz.ntmps13
    go_wp2_with (go_at_call 42; refine PA.out.mono ?_; rintro e w1 ⟨v, rfl, hT, hB⟩; obtain ⟨va, vc, rfl, _, _, _⟩ := hT.open; have HB := hid hB; clear hT hB)
    go_ret3
    exact ⟨by rw [if_neg HZ.out]; rfl, HB.out⟩
theorem slen_any (p : Nat) (L : List TR) (w : World) (h : IsStore w p L) : Calls Tryz.prog 34 #[.pointer (some ⟨p, 0, none⟩)] w fun e w' => e = .returned (.int .i64 L.length) ∧ w' = w := by
  obtain ⟨vt, ve, r, h1, h2, h3, h4⟩ := h
  obtain ⟨a, c, rfl, _, _, _⟩ := h2.open
  rw [List.length_map] at h1
  have c0 := h1.cell (i := 0) rfl
  clear h1 h2 h3 h4
  go_enter Tryz.func34, Tryz.ntmps34
  go_wp2
  go_ret
  exact ⟨rfl, rfl⟩
theorem slen_nil (w : World) : Calls Tryz.prog 34 #[.pointer none] w fun e w' => e = .returned (.int .i64 0) ∧ w' = w := by
  go_enter Tryz.func34, Tryz.ntmps34
  go_wp2
  go_ret
  exact ⟨rfl, rfl⟩
theorem sring_any (p : Nat) (L : List TR) (w : World) (h : IsStore w p L) : Calls Tryz.prog 36 #[.pointer (some ⟨p, 0, none⟩)] w fun e w' => (∃ r, e = .returned (.pointer (some ⟨r, 0, none⟩)) ∧ IsRing w r (So.ids L)) ∧ w' = w := by
  obtain ⟨vt, ve, r, h1, h2, h3, h4⟩ := h
  have c2 := h1.cell (i := 2) rfl
  have H4 := hid h4
  clear h1 h2 h3 h4
  go_enter Tryz.func36, Tryz.ntmps36
  go_wp2
  go_ret
  exact ⟨⟨r, rfl, H4.out⟩, rfl⟩
theorem sring_nil (w : World) : Calls Tryz.prog 36 #[.pointer none] w fun e w' => e = .returned (.pointer none) ∧ w' = w := by
  go_enter Tryz.func36, Tryz.ntmps36
  go_wp2
  go_ret
  exact ⟨rfl, rfl⟩
theorem sexp_any (p : Nat) (L : List TR) (w : World) (h : IsStore w p L) (hl : ∀ t ∈ L, Tm.isTri t = true) (hn : L.length ≤ 1000000) : Calls Tryz.prog 24 #[.pointer (some ⟨p, 0, none⟩)] w fun e w' => e = .returned (str (Tm.printL L)) ∧ Below w.heap.size w w' := by
  obtain ⟨vt, ve, r, h1, h2, h3, h4⟩ := h
  have PP := hid (pprintL_any L hl hn w vt h2)
  obtain ⟨a, c, rfl, _, _, _⟩ := h2.open
  rw [List.length_map] at h1 PP
  have c0 := h1.cell (i := 0) rfl
  clear h1 h2 h3 h4
  go_enter Tryz.func24, Tryz.ntmps24
  go_wp2_with (go_at_call 67; refine PP.out.mono ?_; rintro e w1 ⟨rfl, hB⟩; have HB := hid hB; clear hB)
  go_ret
  exact ⟨rfl, HB.out⟩
theorem sexp_nil (w : World) : Calls Tryz.prog 24 #[.pointer none] w fun e w' => e = .returned (str []) ∧ w' = w := by
  go_enter Tryz.func24, Tryz.ntmps24
  go_wp2
  go_ret
  exact ⟨rfl, rfl⟩
theorem sterms_nil (w : World) : Calls Tryz.prog 30 #[.pointer none] w fun e w' => e = .returned (.slice none 0 0) ∧ w' = w := by
  go_enter Tryz.func30, Tryz.ntmps30
  go_wp2
  go_ret
  exact ⟨rfl, rfl⟩
theorem stri_nil (w : World) : Calls Tryz.prog 35 #[.pointer none] w fun e w' => e = .returned (.slice none 0 0) ∧ w' = w := by
  go_enter Tryz.func35, Tryz.ntmps35
  go_wp2
  go_ret
  exact ⟨rfl, rfl⟩
theorem term_ret2 {fn : Func} {tmps : Array Value} {Z : World} {b : Nat} {v0 v1 v2 v : Value} (ht : tmps.getD 4 undef = .pointer (some ⟨b, 0, none⟩)) (h5 : tmps.getD 5 undef = v) (hZ : Blk Z b [v0, v1, v2] 61) (hf : fn.results = #[.cell 4 61, .tmp 5]) :
    (results fn tmps).run Tryz.prog Z = .ok (.tuple #[.agg #[v0, v1, v2], v]) Z := by
  have h0 := hZ.cell (i := 0) rfl
  have h1 := hZ.cell (i := 1) rfl
  have h2 := hZ.cell (i := 2) rfl
  have ht' : tmps[4]?.getD undef = .pointer (some ⟨b, 0, none⟩) := by simpa using ht
  have h5' : tmps[5]?.getD undef = v := by simpa using h5
  simp [results, hf, ht', h5', go_sem, h0, h1, h2]
theorem sterm_nil (n : Int) (w : World) : Calls Tryz.prog 33 #[.pointer none, .int .i64 n] w fun e w' => e = .returned (.tuple #[tmV 0 [] [], .bool false]) ∧ Below w.heap.size w w' := by
  go_enter Tryz.func33, Tryz.ntmps33
  go_wp2
  refine bodyPost_ret (term_ret2 rfl rfl (Blk.new w [.int .i64 0, str [], str []] 61) rfl) rfl ?_
  exact ⟨rfl, (Below.refl _ _).alloc (Nat.le_refl _) _⟩
end Go.Proofs.YtjaebndajhppgaaGreatDoor
