/- The document's Term: a term's text is read as it. -/
import Derived.Test.YtmooppakneoidaaDoorLnTerm
import Derived.Test.YtmooppakneoidaaDoorTmRShow
namespace Go.Proofs.YtmooppakneoidaaDoor
set_option linter.unusedVariables false
set_option linter.unusedSimpArgs false
set_option maxRecDepth 100000
open Go.ChangeShapes Go.WideShapes Go.ChangeAt Go.RowKit

theorem struct_ret_b {fn : Func} {tmps : Array Value} {Z : World} {b : Nat} {v0 v1 v2 v3 : Value} (ht : tmps.getD 2 undef = .pointer (some ⟨b, 0, none⟩)) (h3 : tmps.getD 3 undef = v3) (hZ : Blk Z b [v0, v1, v2] 23) (hf : fn.results = #[.cell 2 23, .tmp 3]) :
    (results fn tmps).run Tryd.prog Z = .ok (.tuple #[.agg #[v0, v1, v2], v3]) Z := by
  have h0 := hZ.cell (i := 0) rfl
  have h1 := hZ.cell (i := 1) rfl
  have h2 := hZ.cell (i := 2) rfl
  have ht' : tmps[2]?.getD undef = .pointer (some ⟨b, 0, none⟩) := by simpa using ht
  have h3' : tmps[3]?.getD undef = v3 := by simpa using h3
  simp [results, hf, ht', h3', go_sem, h0, h1, h2]
theorem below_fresh {w X : World} {b : Nat} (h : Below w.heap.size w X) (hb : w.heap.size ≤ b) (i : Nat) (v : Value) : Below w.heap.size w (X.setCell ⟨b, i, none⟩ v) := h.setCell hb v
set_option maxHeartbeats 4000000 in
theorem rtermf_ok (s t x : List UInt8) (k : Nat) (W : World) (hV : Vars W) (hl : s.length ≤ 10000000) (hval : Lib.validD s = true) (hr : Tm.rtermB s = some (k, t, x, [])) (hk : 1 ≤ k ∧ k ≤ 5) (hs : Tm.showT k t x = s) (ht : t.length ≤ 1000000000) (hx : x.length ≤ 1000000000) :
    Calls Tryd.prog 13 #[str s] W fun e W' => e = .returned (.tuple #[tmV (k : Nat) t x, .bool true]) ∧ Below W.heap.size W W' := by
  have VA := hid (fun w h => valid_any s w (by omega) h)
  rw [hval] at VA
  have HV := hid hV
  have TR := hid (fun q w hb hr => rterm_any q s w W hb hl hr)
  rw [hr] at TR
  have SH := hid (fun w => rshow_any k t x w hk ht hx)
  rw [hs] at SH
  have hss : (s != s) = false := by simp
  clear hV hval hr hs
  go_enter Tryd.func13, Tryd.ntmps13
  go_wp2_with fail
  refine (VA.out _ (HV.out.1.keep ((Below.refl _ _).alloc (Nat.le_refl _) _))).mono ?_
  rintro e w1 ⟨rfl, hb⟩
  have HB1 := hid (((Below.refl W.heap.size W).alloc (Nat.le_refl _) (.cells #[.int .i64 0, .string ⟨#[]⟩, .string ⟨#[]⟩] 23)).trans (hb.mono (by simp)))
  have HT1 := hid ((Blk.new W [.int .i64 0, str [], str []] 23).keep hb)
  have hz1 : W.heap.size + 1 ≤ w1.heap.size := by have := hb.size; simpa using this
  clear hb
  go_wp2_with fail
  refine (TR.out w1.heap.size _ ⟨HV.out, HB1.out.alloc HB1.out.size _, HB1.out.size⟩ (Blk.new' rfl rfl)).mono ?_
  rintro e w2 ⟨hb2, rfl, hr2⟩
  have HR2 := hid hr2
  have HB2 := hid (hb2.into (HB1.out.alloc HB1.out.size (.cells #[str s, .bool false] 49)) HB1.out.size)
  have HT2 := hid (But.blk (HT1.out.alloc (.cells #[str s, .bool false] 49)) hb2 (by omega))
  have hz2 : w1.heap.size + 1 ≤ w2.heap.size := by have := hb2.size; simpa using this
  clear hr2 hb2
  have HT3 := hid (HT2.out.alloc (.cells #[.int .i64 (k : Nat), str t, str x] 23))
  have HR3 := hid (HR2.out.keep ((Below.refl _ _).alloc (Nat.le_refl _) (.cells #[.int .i64 (k : Nat), str t, str x] 23)))
  obtain ⟨c0, c1, f0, f1⟩ := HR3.out.cells
  go_wp2_with fail
  refine (SH.out _).mono ?_
  rintro e w3 ⟨rfl, hb⟩
  obtain ⟨k0, k1, k2, hB⟩ := tm_cells hb
  have HT4 := hid (HT3.out.keep hb)
  have HB4 := hid (below_then HB2.out hB)
  clear hb hB c0 c1 f0 f1
  have g0 := HT4.out.cell (i := 0) rfl
  have g1 := HT4.out.cell (i := 1) rfl
  have g2 := HT4.out.cell (i := 2) rfl
  have j0 := HT4.out.free 0
  have j1 := HT4.out.free 1
  have j2 := HT4.out.free 2
  go_wp2
  exact bodyPost_ret (v := .tuple #[tmV (k : Nat) t x, .bool true]) (struct_ret_b rfl rfl (((HT4.out.set 0 (.int .i64 (k : Nat))).set 1 (str t)).set 2 (str x)) Tryd.results13) rfl ⟨rfl, below_fresh (below_fresh (below_fresh HB4.out (Nat.le_refl _) 0 _) (Nat.le_refl _) 1 _) (Nat.le_refl _) 2 _⟩
end Go.Proofs.YtmooppakneoidaaDoor
