/- The program's reader of a line: three terms and a point. -/
import Derived.Test.YtmfnbmbedplgcaaGreatDoorPrTerm
import Derived.Test.YtmfnbmbedplgcaaGreatDoorLnMath
namespace Go.Proofs.YtmfnbmbedplgcaaGreatDoor
set_option linter.unusedVariables false
set_option linter.unusedSimpArgs false
set_option maxRecDepth 100000
open Go.ChangeShapes Go.WideShapes Go.ChangeAt Go.RowKit
theorem tri_ret {fn : Func} {tmps : Array Value} {Z : World} {b : Nat} {v0 v1 v2 v3 v4 v5 v6 v7 v8 u : Value} (ht : tmps.getD 2 undef = .pointer (some ⟨b, 0, none⟩)) (h3 : tmps.getD 3 undef = u) (hZ : Blk Z b [v0, v1, v2, v3, v4, v5, v6, v7, v8] 28) (hf : fn.results = #[.cell 2 28, .tmp 3]) :
    (results fn tmps).run Tryz.prog Z = .ok (.tuple #[.agg #[v0, v1, v2, v3, v4, v5, v6, v7, v8], u]) Z := by
  have h0 := hZ.cell (i := 0) rfl
  have h1 := hZ.cell (i := 1) rfl
  have h2 := hZ.cell (i := 2) rfl
  have h4 := hZ.cell (i := 3) rfl
  have h5 := hZ.cell (i := 4) rfl
  have h6 := hZ.cell (i := 5) rfl
  have h7 := hZ.cell (i := 6) rfl
  have h8 := hZ.cell (i := 7) rfl
  have h9 := hZ.cell (i := 8) rfl
  have ht' : tmps[2]?.getD undef = .pointer (some ⟨b, 0, none⟩) := by simpa using ht
  have h3' : tmps[3]?.getD undef = u := by simpa using h3
  simp [results, hf, ht', h3', go_sem, h0, h1, h2, h4, h5, h6, h7, h8, h9]
/-- A term's cells. -/
def t3c (a : Tm.T3) : List Value := [.int .i64 (a.1 : Nat), str a.2.1, str a.2.2]
abbrev z9 : List Value := [.int .i64 0, .string ⟨#[]⟩, .string ⟨#[]⟩, .int .i64 0, .string ⟨#[]⟩, .string ⟨#[]⟩, .int .i64 0, .string ⟨#[]⟩, .string ⟨#[]⟩]
/-- The terms that have been read, and room for the others. -/
def arrL : List Tm.T3 → List Value
  | [] => z9
  | [a] => [.int .i64 (a.1 : Nat), str a.2.1, str a.2.2, .int .i64 0, .string ⟨#[]⟩, .string ⟨#[]⟩, .int .i64 0, .string ⟨#[]⟩, .string ⟨#[]⟩]
  | [a, b] => [.int .i64 (a.1 : Nat), str a.2.1, str a.2.2, .int .i64 (b.1 : Nat), str b.2.1, str b.2.2, .int .i64 0, .string ⟨#[]⟩, .string ⟨#[]⟩]
  | a :: b :: c :: _ => [.int .i64 (a.1 : Nat), str a.2.1, str a.2.2, .int .i64 (b.1 : Nat), str b.2.1, str b.2.2, .int .i64 (c.1 : Nat), str c.2.1, str c.2.2]
/-- So many terms more. -/
def rts : Nat → List UInt8 → Option (List Tm.T3 × List UInt8)
  | 0, s => some ([], s)
  | n + 1, s => match Tm.rt s with
    | none => none
    | some (a, r) => (rts n r).map fun p => (a :: p.1, p.2)
theorem rts_some {n : Nat} {s r : List UInt8} {a : Tm.T3} (h : Tm.rt s = some (a, r)) : rts (n + 1) s = (rts n r).map fun p => (a :: p.1, p.2) := by rw [rts, h]
theorem rts_none {n : Nat} {s : List UInt8} (h : Tm.rt s = none) : rts (n + 1) s = none := by rw [rts, h]
/-- Three terms and what is behind them, as a triple that has its point. -/
def triOf : Option (List Tm.T3 × List UInt8) → Option ((Tm.T3 × Tm.T3 × Tm.T3) × List UInt8)
  | some ([a, b, c], v) => (Tm.point v).map fun z => ((a, b, c), z)
  | _ => none
theorem rts_rtri (s : List UInt8) : Tm.rtri s = triOf (rts 3 s) := by
  unfold Tm.rtri rts triOf
  cases Tm.rt s with
  | none => rfl
  | some p =>
    obtain ⟨a, r⟩ := p
    simp only
    unfold rts
    cases Tm.rt r with
    | none => rfl
    | some p =>
      obtain ⟨b, u⟩ := p
      simp only
      unfold rts
      cases Tm.rt u with
      | none => rfl
      | some p =>
        obtain ⟨c, v⟩ := p
        simp only [rts, Option.map_some]
        cases Tm.point v <;> rfl
theorem rt_none {s : List UInt8} (h : Tm.rterm s = none) : Tm.rt s = none := by unfold Tm.rt; rw [h]
theorem rt_some {s t x v : List UInt8} {k : Nat} (h : Tm.rterm s = some (k, t, x, v)) : Tm.rt s = some ((k, t, x), v.dropWhile blankC) := by unfold Tm.rt; rw [h]
/-- A new block of three cells. -/
def new3 (w : World) (v0 v1 v2 : Value) : World := w.alloc (.cells #[v0, v1, v2] 26)
theorem new3_blk {w : World} {b : Nat} {A : List Value} {t : TypeId} (h : Blk w b A t) (v0 v1 v2 : Value) : Blk (new3 w v0 v1 v2) b A t := h.alloc _
theorem new3_pr {w : World} {q i : Nat} {l : List UInt8} (h : Pr w q l i) (v0 v1 v2 : Value) : Pr (new3 w v0 v1 v2) q l i := new3_blk h v0 v1 v2
theorem new3_new (w : World) (v0 v1 v2 : Value) : Blk (new3 w v0 v1 v2) w.heap.size [v0, v1, v2] 26 := Blk.new' rfl rfl
theorem but_set {q b : Nat} {w X : World} (h : But q w X) (hb : w.heap.size ≤ b) (i : Nat) (v : Value) : But q w (X.setCell ⟨b, i, none⟩ v) :=
  ⟨h.os, h.tape, h.output, by have := h.size; simpa using this, fun k hk hn => by rw [Below.heap_setCell _ _ _ _ (by show k ≠ b; omega)]; exact h.block k hk hn⟩
theorem new3_but {w X : World} {q : Nat} (h : But q w X) (v0 v1 v2 : Value) : But q w (new3 X v0 v1 v2) := h.trans (But.below ((Below.refl _ _).alloc (Nat.le_refl _) _))
/-- What a triple's reading leaves. -/
def TriPost (q : Nat) (l : List UInt8) (w : World) (r : Option ((Tm.T3 × Tm.T3 × Tm.T3) × List UInt8)) (e : Ending) (w' : World) : Prop :=
  But q w w' ∧ match r with
    | none => e = .returned (.tuple #[.agg z9.toArray, .bool false])
    | some ((a, b, c), v) => e = .returned (.tuple #[.agg (arrL [a, b, c]).toArray, .bool true]) ∧ ∃ j, j ≤ l.length ∧ l.drop j = v ∧ Pr w' q l j
set_option maxHeartbeats 8000000 in
theorem ptri_any (q : Nat) (l : List UInt8) (i : Nat) (w : World) (hE : ErrAt w) (hq : q ≠ 4) (hr : Pr w q l i) (hl : l.length ≤ 10000000) (hi : i ≤ l.length) :
    Calls Tryz.prog 45 #[rdp q] w (TriPost q l w (Tm.rtri (l.drop i))) := by
  have HR := hid hr
  have hlt := hr.lt
  have PT := hid (fun W j hB hr hj => pterm_any q l j W (hE.but (w' := W) hB hq) hq hr hl hj)
  have BL := hid (fun W j hr hj => pblanks_any q l j W hr (by omega) hj)
  obtain ⟨ANS, hA⟩ : ∃ a, a = rts 3 (l.drop i) := ⟨_, rfl⟩
  rw [rts_rtri, ← hA]
  have HA := hid (show ANS = (rts (3 - 0) (l.drop i)).map (fun p => ([] ++ p.1, p.2)) by rw [hA]; cases rts 3 (l.drop i) <;> rfl)
  clear hr hE hA
  go_enter Tryz.func45, Tryz.ntmps45
  have HB0 := hid (show But q w ((w.alloc (.cells z9.toArray 28)).alloc (.cells z9.toArray 94)) from But.below (((Below.refl w.heap.size w).alloc (Nat.le_refl _) _).alloc (by simp) _))
  have HR0 := hid ((HR.out.keep ((Below.refl _ _).alloc (Nat.le_refl _) (.cells z9.toArray 28))).keep ((Below.refl _ _).alloc (Nat.le_refl _) (.cells z9.toArray 94)))
  have HT0 := hid ((Blk.new w z9 28).alloc (.cells z9.toArray 94))
  have HU0 := hid (show Blk ((w.alloc (.cells z9.toArray 28)).alloc (.cells z9.toArray 94)) (w.heap.size + 1) z9 94 from Blk.new' (by simp) rfl)
  go_wp2
  go_loopg [5, 6, 7, 8] 3 (fun gk s5 s6 s7 s8 wr => ∃ (al : List Tm.T3) (j : Nat) (z8 : Int), al.length ≤ 3 ∧ s8 = .int .i64 z8 ∧ z8 = (al.length : Int) ∧ 3 - al.length ≤ gk ∧ j ≤ l.length ∧ Hid (Pr wr q l j) ∧ Hid (But q w wr) ∧ Hid (Blk wr w.heap.size z9 28) ∧ Hid (Blk wr (w.heap.size + 1) (arrL al) 94) ∧ Hid (ANS = (rts (3 - al.length) (l.drop j)).map (fun p => (al ++ p.1, p.2))))
  case atStart => exact ⟨[], i, 0, by simp, rfl, rfl, by simp, hi, HR0, HB0, HT0, HU0, HA⟩
  case round =>
    obtain ⟨al, j, z8, has, rfl, h8, hg, hj, HR, HB, HT, HU, HA⟩ := hrel
    have hzr : w.heap.size + 2 ≤ wr.heap.size := by have := HU.out.lt; omega
    rcases al with _ | ⟨a, _ | ⟨b, _ | ⟨c, _ | ⟨d, r⟩⟩⟩⟩
    · obtain rfl : z8 = 0 := h8
      have PTj := hid (fun W hB hr => PT.out W j hB hr hj)
      cases hx : Tm.rterm (l.drop j) with
      | none =>
        rw [hx] at PTj
        have PT2 : Hid (∀ W, But q w W → Pr W q l j → Calls Tryz.prog 63 #[rdp q] W fun e w' => But q W w' ∧ (∃ (k : Nat) (t x : List UInt8), e = .returned (.tuple #[tmV (k : Nat) t x, .bool false])) ∧ ∃ j, j ≤ l.length ∧ Pr w' q l j) := PTj
        have HF := hid (show ANS = none by rw [HA.out]; show (rts 3 (l.drop j)).map _ = none; rw [rts_none (rt_none hx)]; rfl)
        clear PTj hx HA
        go_wp2_with fail
        refine (PT2.out _ HB.out HR.out).mono ?_
        rintro _ w2 ⟨hb2, ⟨k, t, x, rfl⟩, n, hn, hr2⟩
        have HB2 := hid (HB.out.trans hb2)
        have HT2 := hid (But.blk HT.out hb2 (by omega))
        have hz2 := hb2.size
        clear hb2 hr2
        have HB3 := hid (new3_but HB2.out (.int .i64 (k : Nat)) (str t) (str x))
        have HT3 := hid (new3_blk HT2.out (.int .i64 (k : Nat)) (str t) (str x))
        go_wp2_with (show wpList _ _ _ _ _ (new3 w2 (.int .i64 (k : Nat)) (str t) (str x)); obtain ⟨w3, hw3⟩ : ∃ w3, w3 = new3 w2 (.int .i64 (k : Nat)) (str t) (str x) := ⟨_, rfl⟩; rw [← hw3] at HB3 HT3 ⊢; clear hw3; have g0 := HT3.out.cell (i := 0) rfl; have k0 := HT3.out.free 0; have g1 := HT3.out.cell (i := 1) rfl; have k1 := HT3.out.free 1; have g2 := HT3.out.cell (i := 2) rfl; have k2 := HT3.out.free 2; have g3 := HT3.out.cell (i := 3) rfl; have k3 := HT3.out.free 3; have g4 := HT3.out.cell (i := 4) rfl; have k4 := HT3.out.free 4; have g5 := HT3.out.cell (i := 5) rfl; have k5 := HT3.out.free 5; have g6 := HT3.out.cell (i := 6) rfl; have k6 := HT3.out.free 6; have g7 := HT3.out.cell (i := 7) rfl; have k7 := HT3.out.free 7; have g8 := HT3.out.cell (i := 8) rfl; have k8 := HT3.out.free 8)
        have HZ := ((((((((HT3.out.set 0 (.int .i64 0)).set 1 (.string ⟨#[]⟩)).set 2 (.string ⟨#[]⟩)).set 3 (.int .i64 0)).set 4 (.string ⟨#[]⟩)).set 5 (.string ⟨#[]⟩)).set 6 (.int .i64 0)).set 7 (.string ⟨#[]⟩)).set 8 (.string ⟨#[]⟩)
        have HBZ := but_set (but_set (but_set (but_set (but_set (but_set (but_set (but_set (but_set HB3.out (Nat.le_refl _) 0 (.int .i64 0)) (Nat.le_refl _) 1 (.string ⟨#[]⟩)) (Nat.le_refl _) 2 (.string ⟨#[]⟩)) (Nat.le_refl _) 3 (.int .i64 0)) (Nat.le_refl _) 4 (.string ⟨#[]⟩)) (Nat.le_refl _) 5 (.string ⟨#[]⟩)) (Nat.le_refl _) 6 (.int .i64 0)) (Nat.le_refl _) 7 (.string ⟨#[]⟩)) (Nat.le_refl _) 8 (.string ⟨#[]⟩)
        exact bodyPost_ret (v := .tuple #[.agg z9.toArray, .bool false]) (tri_ret rfl rfl HZ Tryz.results45) rfl ⟨HBZ, by rw [HF.out]; exact rfl⟩
      | some r =>
        obtain ⟨k, t, x, v⟩ := r
        rw [hx] at PTj
        have PT2 : Hid (∀ W, But q w W → Pr W q l j → Calls Tryz.prog 63 #[rdp q] W fun e w' => But q W w' ∧ e = .returned (.tuple #[tmV (k : Nat) t x, .bool true]) ∧ ∃ n, n ≤ l.length ∧ l.drop n = v ∧ Pr w' q l n) := PTj
        have HA2 := hid (show ANS = (rts 2 (v.dropWhile blankC)).map (fun p => ([(k, t, x)] ++ p.1, p.2)) by
          rw [HA.out]
          show (rts 3 (l.drop j)).map _ = _
          rw [rts_some (rt_some hx)]
          simp only [Option.map_map]
          congr 1)
        clear PTj hx HA
        go_wp2_with fail
        refine (PT2.out _ HB.out HR.out).mono ?_
        rintro _ w2 ⟨hb2, rfl, n, hn, hnd, hr2⟩
        have HB2 := hid (new3_but (HB.out.trans hb2) (.int .i64 (k : Nat)) (str t) (str x))
        have HT2 := hid (new3_blk (But.blk HT.out hb2 (by omega)) (.int .i64 (k : Nat)) (str t) (str x))
        have HU1 := hid (But.blk HU.out hb2 (by omega))
        have HU2 := hid (new3_blk HU1.out (.int .i64 (k : Nat)) (str t) (str x))
        have HR2 := hid (new3_pr hr2 (.int .i64 (k : Nat)) (str t) (str x))
        have HD := hid hnd
        have hz2 := hb2.size
        clear hb2 hr2 hnd
        have hne : w.heap.size + 1 ≠ w2.heap.size := by omega
        have hnq : q ≠ w.heap.size + 1 := by omega
        have HE2 := hid (new3_new w2 (.int .i64 (k : Nat)) (str t) (str x))
        go_wp2_with (show wpList _ _ _ _ _ (new3 w2 (.int .i64 (k : Nat)) (str t) (str x)); obtain ⟨w3, hw3⟩ : ∃ w3, w3 = new3 w2 (.int .i64 (k : Nat)) (str t) (str x) := ⟨_, rfl⟩; rw [← hw3] at HB2 HT2 HU2 HR2 HE2 ⊢; clear hw3; have e0 := HE2.out.cell (i := 0) rfl; have g0 := HU2.out.cell (i := 0) rfl; have k0 := HU2.out.free 0; have e1 := HE2.out.cell (i := 1) rfl; have g1 := HU2.out.cell (i := 1) rfl; have k1 := HU2.out.free 1; have e2 := HE2.out.cell (i := 2) rfl; have g2 := HU2.out.cell (i := 2) rfl; have k2 := HU2.out.free 2)
        have HU3 := hid (((HU2.out.set 0 (.int .i64 (k : Nat))).set 1 (str t)).set 2 (str x))
        have HT3 := hid (Blk.other (Blk.other (Blk.other HT2.out (c := w.heap.size + 1) (by omega) 0 (.int .i64 (k : Nat))) (c := w.heap.size + 1) (by omega) 1 (str t)) (c := w.heap.size + 1) (by omega) 2 (str x))
        have HR3 := hid (show Pr _ q l n from Blk.other (Blk.other (Blk.other HR2.out hnq 0 (.int .i64 (k : Nat))) hnq 1 (str t)) hnq 2 (str x))
        have HB3 := hid (but_set (but_set (but_set HB2.out (b := w.heap.size + 1) (by omega) 0 (.int .i64 (k : Nat))) (b := w.heap.size + 1) (by omega) 1 (str t)) (b := w.heap.size + 1) (by omega) 2 (str x))
        refine (BL.out _ n HR3.out hn).mono ?_
        rintro _ w4 ⟨rfl, ⟨m, hm, hmd, hr4⟩, hb4⟩
        have HB4 := hid (HB3.out.trans hb4)
        have HT4 := hid (But.blk HT3.out hb4 (by omega))
        have HU4 := hid (show Blk w4 (w.heap.size + 1) (arrL [(k, t, x)]) 94 from But.blk HU3.out hb4 (by omega))
        have HR4 := hid hr4
        rw [HD.out] at hmd
        rw [← hmd] at HA2
        clear hb4 hr4 hmd
        go_wp2
        go_roundg 2
        case measure => simp at hg; omega
        case rel => exact ⟨[(k, t, x)], m, 1, by simp, by rfl, rfl, by simp, hm, HR4, HB4, HT4, HU4, HA2⟩
    · obtain rfl : z8 = 1 := h8
      have PTj := hid (fun W hB hr => PT.out W j hB hr hj)
      cases hx : Tm.rterm (l.drop j) with
      | none =>
        rw [hx] at PTj
        have PT2 : Hid (∀ W, But q w W → Pr W q l j → Calls Tryz.prog 63 #[rdp q] W fun e w' => But q W w' ∧ (∃ (k : Nat) (t x : List UInt8), e = .returned (.tuple #[tmV (k : Nat) t x, .bool false])) ∧ ∃ j, j ≤ l.length ∧ Pr w' q l j) := PTj
        have HF := hid (show ANS = none by rw [HA.out]; show (rts 2 (l.drop j)).map _ = none; rw [rts_none (rt_none hx)]; rfl)
        clear PTj hx HA
        go_wp2_with fail
        refine (PT2.out _ HB.out HR.out).mono ?_
        rintro _ w2 ⟨hb2, ⟨k, t, x, rfl⟩, n, hn, hr2⟩
        have HB2 := hid (HB.out.trans hb2)
        have HT2 := hid (But.blk HT.out hb2 (by omega))
        have hz2 := hb2.size
        clear hb2 hr2
        have HB3 := hid (new3_but HB2.out (.int .i64 (k : Nat)) (str t) (str x))
        have HT3 := hid (new3_blk HT2.out (.int .i64 (k : Nat)) (str t) (str x))
        go_wp2_with (show wpList _ _ _ _ _ (new3 w2 (.int .i64 (k : Nat)) (str t) (str x)); obtain ⟨w3, hw3⟩ : ∃ w3, w3 = new3 w2 (.int .i64 (k : Nat)) (str t) (str x) := ⟨_, rfl⟩; rw [← hw3] at HB3 HT3 ⊢; clear hw3; have g0 := HT3.out.cell (i := 0) rfl; have k0 := HT3.out.free 0; have g1 := HT3.out.cell (i := 1) rfl; have k1 := HT3.out.free 1; have g2 := HT3.out.cell (i := 2) rfl; have k2 := HT3.out.free 2; have g3 := HT3.out.cell (i := 3) rfl; have k3 := HT3.out.free 3; have g4 := HT3.out.cell (i := 4) rfl; have k4 := HT3.out.free 4; have g5 := HT3.out.cell (i := 5) rfl; have k5 := HT3.out.free 5; have g6 := HT3.out.cell (i := 6) rfl; have k6 := HT3.out.free 6; have g7 := HT3.out.cell (i := 7) rfl; have k7 := HT3.out.free 7; have g8 := HT3.out.cell (i := 8) rfl; have k8 := HT3.out.free 8)
        have HZ := ((((((((HT3.out.set 0 (.int .i64 0)).set 1 (.string ⟨#[]⟩)).set 2 (.string ⟨#[]⟩)).set 3 (.int .i64 0)).set 4 (.string ⟨#[]⟩)).set 5 (.string ⟨#[]⟩)).set 6 (.int .i64 0)).set 7 (.string ⟨#[]⟩)).set 8 (.string ⟨#[]⟩)
        have HBZ := but_set (but_set (but_set (but_set (but_set (but_set (but_set (but_set (but_set HB3.out (Nat.le_refl _) 0 (.int .i64 0)) (Nat.le_refl _) 1 (.string ⟨#[]⟩)) (Nat.le_refl _) 2 (.string ⟨#[]⟩)) (Nat.le_refl _) 3 (.int .i64 0)) (Nat.le_refl _) 4 (.string ⟨#[]⟩)) (Nat.le_refl _) 5 (.string ⟨#[]⟩)) (Nat.le_refl _) 6 (.int .i64 0)) (Nat.le_refl _) 7 (.string ⟨#[]⟩)) (Nat.le_refl _) 8 (.string ⟨#[]⟩)
        exact bodyPost_ret (v := .tuple #[.agg z9.toArray, .bool false]) (tri_ret rfl rfl HZ Tryz.results45) rfl ⟨HBZ, by rw [HF.out]; exact rfl⟩
      | some r =>
        obtain ⟨k, t, x, v⟩ := r
        rw [hx] at PTj
        have PT2 : Hid (∀ W, But q w W → Pr W q l j → Calls Tryz.prog 63 #[rdp q] W fun e w' => But q W w' ∧ e = .returned (.tuple #[tmV (k : Nat) t x, .bool true]) ∧ ∃ n, n ≤ l.length ∧ l.drop n = v ∧ Pr w' q l n) := PTj
        have HA2 := hid (show ANS = (rts 1 (v.dropWhile blankC)).map (fun p => ([a, (k, t, x)] ++ p.1, p.2)) by
          rw [HA.out]
          show (rts 2 (l.drop j)).map _ = _
          rw [rts_some (rt_some hx)]
          simp only [Option.map_map]
          congr 1)
        clear PTj hx HA
        go_wp2_with fail
        refine (PT2.out _ HB.out HR.out).mono ?_
        rintro _ w2 ⟨hb2, rfl, n, hn, hnd, hr2⟩
        have HB2 := hid (new3_but (HB.out.trans hb2) (.int .i64 (k : Nat)) (str t) (str x))
        have HT2 := hid (new3_blk (But.blk HT.out hb2 (by omega)) (.int .i64 (k : Nat)) (str t) (str x))
        have HU1 := hid (But.blk HU.out hb2 (by omega))
        have HU2 := hid (new3_blk HU1.out (.int .i64 (k : Nat)) (str t) (str x))
        have HR2 := hid (new3_pr hr2 (.int .i64 (k : Nat)) (str t) (str x))
        have HD := hid hnd
        have hz2 := hb2.size
        clear hb2 hr2 hnd
        have hne : w.heap.size + 1 ≠ w2.heap.size := by omega
        have hnq : q ≠ w.heap.size + 1 := by omega
        have HE2 := hid (new3_new w2 (.int .i64 (k : Nat)) (str t) (str x))
        go_wp2_with (show wpList _ _ _ _ _ (new3 w2 (.int .i64 (k : Nat)) (str t) (str x)); obtain ⟨w3, hw3⟩ : ∃ w3, w3 = new3 w2 (.int .i64 (k : Nat)) (str t) (str x) := ⟨_, rfl⟩; rw [← hw3] at HB2 HT2 HU2 HR2 HE2 ⊢; clear hw3; have e0 := HE2.out.cell (i := 0) rfl; have g0 := HU2.out.cell (i := 3) rfl; have k0 := HU2.out.free 3; have e1 := HE2.out.cell (i := 1) rfl; have g1 := HU2.out.cell (i := 4) rfl; have k1 := HU2.out.free 4; have e2 := HE2.out.cell (i := 2) rfl; have g2 := HU2.out.cell (i := 5) rfl; have k2 := HU2.out.free 5)
        have HU3 := hid (((HU2.out.set 3 (.int .i64 (k : Nat))).set 4 (str t)).set 5 (str x))
        have HT3 := hid (Blk.other (Blk.other (Blk.other HT2.out (c := w.heap.size + 1) (by omega) 3 (.int .i64 (k : Nat))) (c := w.heap.size + 1) (by omega) 4 (str t)) (c := w.heap.size + 1) (by omega) 5 (str x))
        have HR3 := hid (show Pr _ q l n from Blk.other (Blk.other (Blk.other HR2.out hnq 3 (.int .i64 (k : Nat))) hnq 4 (str t)) hnq 5 (str x))
        have HB3 := hid (but_set (but_set (but_set HB2.out (b := w.heap.size + 1) (by omega) 3 (.int .i64 (k : Nat))) (b := w.heap.size + 1) (by omega) 4 (str t)) (b := w.heap.size + 1) (by omega) 5 (str x))
        refine (BL.out _ n HR3.out hn).mono ?_
        rintro _ w4 ⟨rfl, ⟨m, hm, hmd, hr4⟩, hb4⟩
        have HB4 := hid (HB3.out.trans hb4)
        have HT4 := hid (But.blk HT3.out hb4 (by omega))
        have HU4 := hid (show Blk w4 (w.heap.size + 1) (arrL [a, (k, t, x)]) 94 from But.blk HU3.out hb4 (by omega))
        have HR4 := hid hr4
        rw [HD.out] at hmd
        rw [← hmd] at HA2
        clear hb4 hr4 hmd
        go_wp2
        go_roundg 1
        case measure => simp at hg; omega
        case rel => exact ⟨[a, (k, t, x)], m, 2, by simp, by rfl, rfl, by simp, hm, HR4, HB4, HT4, HU4, HA2⟩
    · obtain rfl : z8 = 2 := h8
      have PTj := hid (fun W hB hr => PT.out W j hB hr hj)
      cases hx : Tm.rterm (l.drop j) with
      | none =>
        rw [hx] at PTj
        have PT2 : Hid (∀ W, But q w W → Pr W q l j → Calls Tryz.prog 63 #[rdp q] W fun e w' => But q W w' ∧ (∃ (k : Nat) (t x : List UInt8), e = .returned (.tuple #[tmV (k : Nat) t x, .bool false])) ∧ ∃ j, j ≤ l.length ∧ Pr w' q l j) := PTj
        have HF := hid (show ANS = none by rw [HA.out]; show (rts 1 (l.drop j)).map _ = none; rw [rts_none (rt_none hx)]; rfl)
        clear PTj hx HA
        go_wp2_with fail
        refine (PT2.out _ HB.out HR.out).mono ?_
        rintro _ w2 ⟨hb2, ⟨k, t, x, rfl⟩, n, hn, hr2⟩
        have HB2 := hid (HB.out.trans hb2)
        have HT2 := hid (But.blk HT.out hb2 (by omega))
        have hz2 := hb2.size
        clear hb2 hr2
        have HB3 := hid (new3_but HB2.out (.int .i64 (k : Nat)) (str t) (str x))
        have HT3 := hid (new3_blk HT2.out (.int .i64 (k : Nat)) (str t) (str x))
        go_wp2_with (show wpList _ _ _ _ _ (new3 w2 (.int .i64 (k : Nat)) (str t) (str x)); obtain ⟨w3, hw3⟩ : ∃ w3, w3 = new3 w2 (.int .i64 (k : Nat)) (str t) (str x) := ⟨_, rfl⟩; rw [← hw3] at HB3 HT3 ⊢; clear hw3; have g0 := HT3.out.cell (i := 0) rfl; have k0 := HT3.out.free 0; have g1 := HT3.out.cell (i := 1) rfl; have k1 := HT3.out.free 1; have g2 := HT3.out.cell (i := 2) rfl; have k2 := HT3.out.free 2; have g3 := HT3.out.cell (i := 3) rfl; have k3 := HT3.out.free 3; have g4 := HT3.out.cell (i := 4) rfl; have k4 := HT3.out.free 4; have g5 := HT3.out.cell (i := 5) rfl; have k5 := HT3.out.free 5; have g6 := HT3.out.cell (i := 6) rfl; have k6 := HT3.out.free 6; have g7 := HT3.out.cell (i := 7) rfl; have k7 := HT3.out.free 7; have g8 := HT3.out.cell (i := 8) rfl; have k8 := HT3.out.free 8)
        have HZ := ((((((((HT3.out.set 0 (.int .i64 0)).set 1 (.string ⟨#[]⟩)).set 2 (.string ⟨#[]⟩)).set 3 (.int .i64 0)).set 4 (.string ⟨#[]⟩)).set 5 (.string ⟨#[]⟩)).set 6 (.int .i64 0)).set 7 (.string ⟨#[]⟩)).set 8 (.string ⟨#[]⟩)
        have HBZ := but_set (but_set (but_set (but_set (but_set (but_set (but_set (but_set (but_set HB3.out (Nat.le_refl _) 0 (.int .i64 0)) (Nat.le_refl _) 1 (.string ⟨#[]⟩)) (Nat.le_refl _) 2 (.string ⟨#[]⟩)) (Nat.le_refl _) 3 (.int .i64 0)) (Nat.le_refl _) 4 (.string ⟨#[]⟩)) (Nat.le_refl _) 5 (.string ⟨#[]⟩)) (Nat.le_refl _) 6 (.int .i64 0)) (Nat.le_refl _) 7 (.string ⟨#[]⟩)) (Nat.le_refl _) 8 (.string ⟨#[]⟩)
        exact bodyPost_ret (v := .tuple #[.agg z9.toArray, .bool false]) (tri_ret rfl rfl HZ Tryz.results45) rfl ⟨HBZ, by rw [HF.out]; exact rfl⟩
      | some r =>
        obtain ⟨k, t, x, v⟩ := r
        rw [hx] at PTj
        have PT2 : Hid (∀ W, But q w W → Pr W q l j → Calls Tryz.prog 63 #[rdp q] W fun e w' => But q W w' ∧ e = .returned (.tuple #[tmV (k : Nat) t x, .bool true]) ∧ ∃ n, n ≤ l.length ∧ l.drop n = v ∧ Pr w' q l n) := PTj
        have HA2 := hid (show ANS = (rts 0 (v.dropWhile blankC)).map (fun p => ([a, b, (k, t, x)] ++ p.1, p.2)) by
          rw [HA.out]
          show (rts 1 (l.drop j)).map _ = _
          rw [rts_some (rt_some hx)]
          simp only [Option.map_map]
          congr 1)
        clear PTj hx HA
        go_wp2_with fail
        refine (PT2.out _ HB.out HR.out).mono ?_
        rintro _ w2 ⟨hb2, rfl, n, hn, hnd, hr2⟩
        have HB2 := hid (new3_but (HB.out.trans hb2) (.int .i64 (k : Nat)) (str t) (str x))
        have HT2 := hid (new3_blk (But.blk HT.out hb2 (by omega)) (.int .i64 (k : Nat)) (str t) (str x))
        have HU1 := hid (But.blk HU.out hb2 (by omega))
        have HU2 := hid (new3_blk HU1.out (.int .i64 (k : Nat)) (str t) (str x))
        have HR2 := hid (new3_pr hr2 (.int .i64 (k : Nat)) (str t) (str x))
        have HD := hid hnd
        have hz2 := hb2.size
        clear hb2 hr2 hnd
        have hne : w.heap.size + 1 ≠ w2.heap.size := by omega
        have hnq : q ≠ w.heap.size + 1 := by omega
        have HE2 := hid (new3_new w2 (.int .i64 (k : Nat)) (str t) (str x))
        go_wp2_with (show wpList _ _ _ _ _ (new3 w2 (.int .i64 (k : Nat)) (str t) (str x)); obtain ⟨w3, hw3⟩ : ∃ w3, w3 = new3 w2 (.int .i64 (k : Nat)) (str t) (str x) := ⟨_, rfl⟩; rw [← hw3] at HB2 HT2 HU2 HR2 HE2 ⊢; clear hw3; have e0 := HE2.out.cell (i := 0) rfl; have g0 := HU2.out.cell (i := 6) rfl; have k0 := HU2.out.free 6; have e1 := HE2.out.cell (i := 1) rfl; have g1 := HU2.out.cell (i := 7) rfl; have k1 := HU2.out.free 7; have e2 := HE2.out.cell (i := 2) rfl; have g2 := HU2.out.cell (i := 8) rfl; have k2 := HU2.out.free 8)
        have HU3 := hid (((HU2.out.set 6 (.int .i64 (k : Nat))).set 7 (str t)).set 8 (str x))
        have HT3 := hid (Blk.other (Blk.other (Blk.other HT2.out (c := w.heap.size + 1) (by omega) 6 (.int .i64 (k : Nat))) (c := w.heap.size + 1) (by omega) 7 (str t)) (c := w.heap.size + 1) (by omega) 8 (str x))
        have HR3 := hid (show Pr _ q l n from Blk.other (Blk.other (Blk.other HR2.out hnq 6 (.int .i64 (k : Nat))) hnq 7 (str t)) hnq 8 (str x))
        have HB3 := hid (but_set (but_set (but_set HB2.out (b := w.heap.size + 1) (by omega) 6 (.int .i64 (k : Nat))) (b := w.heap.size + 1) (by omega) 7 (str t)) (b := w.heap.size + 1) (by omega) 8 (str x))
        refine (BL.out _ n HR3.out hn).mono ?_
        rintro _ w4 ⟨rfl, ⟨m, hm, hmd, hr4⟩, hb4⟩
        have HB4 := hid (HB3.out.trans hb4)
        have HT4 := hid (But.blk HT3.out hb4 (by omega))
        have HU4 := hid (show Blk w4 (w.heap.size + 1) (arrL [a, b, (k, t, x)]) 94 from But.blk HU3.out hb4 (by omega))
        have HR4 := hid hr4
        rw [HD.out] at hmd
        rw [← hmd] at HA2
        clear hb4 hr4 hmd
        go_wp2
        go_roundg 0
        case measure => simp at hg; omega
        case rel => exact ⟨[a, b, (k, t, x)], m, 3, by simp, by rfl, rfl, by simp, hm, HR4, HB4, HT4, HU4, HA2⟩
    · obtain rfl : z8 = 3 := h8
      have HA3 := hid (show ANS = some ([a, b, c], l.drop j) by rw [HA.out]; rfl)
      clear HA
      cases hd : l.drop j with
      | nil =>
        have HPN := hid (show Tm.point [] = none from rfl)
        have SN := hid (fun W hr => pskip_not q l [46] j W hr (by omega) hj (by decide) (by rw [hd]; simp))
        go_wp2_with fail
        refine (SN.out _ HR.out).mono ?_
        rintro _ w2 ⟨rfl, _, hb2⟩
        have HB3 := hid (HB.out.trans hb2)
        have HT3 := hid (But.blk HT.out hb2 (by omega))
        clear hb2
        have g0 := HT3.out.cell (i := 0) rfl
        have g1 := HT3.out.cell (i := 1) rfl
        have g2 := HT3.out.cell (i := 2) rfl
        have g3 := HT3.out.cell (i := 3) rfl
        have g4 := HT3.out.cell (i := 4) rfl
        have g5 := HT3.out.cell (i := 5) rfl
        have g6 := HT3.out.cell (i := 6) rfl
        have g7 := HT3.out.cell (i := 7) rfl
        have g8 := HT3.out.cell (i := 8) rfl
        have k0 := HT3.out.free 0
        have k1 := HT3.out.free 1
        have k2 := HT3.out.free 2
        have k3 := HT3.out.free 3
        have k4 := HT3.out.free 4
        have k5 := HT3.out.free 5
        have k6 := HT3.out.free 6
        have k7 := HT3.out.free 7
        have k8 := HT3.out.free 8
        go_wp2
        have HZ := ((((((((HT3.out.set 0 (.int .i64 0)).set 1 (.string ⟨#[]⟩)).set 2 (.string ⟨#[]⟩)).set 3 (.int .i64 0)).set 4 (.string ⟨#[]⟩)).set 5 (.string ⟨#[]⟩)).set 6 (.int .i64 0)).set 7 (.string ⟨#[]⟩)).set 8 (.string ⟨#[]⟩)
        have HBZ := but_set (but_set (but_set (but_set (but_set (but_set (but_set (but_set (but_set HB3.out (Nat.le_refl _) 0 (.int .i64 0)) (Nat.le_refl _) 1 (.string ⟨#[]⟩)) (Nat.le_refl _) 2 (.string ⟨#[]⟩)) (Nat.le_refl _) 3 (.int .i64 0)) (Nat.le_refl _) 4 (.string ⟨#[]⟩)) (Nat.le_refl _) 5 (.string ⟨#[]⟩)) (Nat.le_refl _) 6 (.int .i64 0)) (Nat.le_refl _) 7 (.string ⟨#[]⟩)) (Nat.le_refl _) 8 (.string ⟨#[]⟩)
        exact bodyPost_ret (v := .tuple #[.agg z9.toArray, .bool false]) (tri_ret rfl rfl HZ Tryz.results45) rfl ⟨HBZ, by rw [show triOf ANS = none by rw [HA3.out, hd]; exact (congrArg (fun o => Option.map (fun z => ((a, b, c), z)) o) HPN.out)]⟩
      | cons d u =>
        by_cases h46 : d = 46
        · have HPN := hid (show Tm.point (d :: u) = some (u.dropWhile blankC) by unfold Tm.point; simp only; rw [if_pos h46])
          obtain ⟨hjl, _, hdu⟩ := drop_get l j d u hd
          have SK := hid (fun W hr => pskip_is q l [46] j W hr (by omega) hj (by decide) (by rw [hd, h46]; rfl))
          have BLj : Hid (∀ W, Pr W q l (j + 1) → Calls Tryz.prog 43 #[rdp q] W fun x w' => x = .returned (.tuple #[]) ∧ (∃ n, n ≤ l.length ∧ l.drop n = u.dropWhile blankC ∧ Pr w' q l n) ∧ But q W w') := by
            intro W hr
            have := BL.out W (j + 1) hr hjl
            rw [hdu] at this
            exact this
          have HT4 := hid (show triOf ANS = some ((a, b, c), u.dropWhile blankC) by rw [HA3.out, hd]; show Option.map _ (Tm.point _) = _; rw [HPN.out]; rfl)
          clear hdu h46 hd
          go_wp2_with fail
          refine (SK.out _ HR.out).mono ?_
          rintro _ w2 ⟨rfl, hr2, hb2⟩
          have HB2 := hid (HB.out.trans hb2)
          have HT2 := hid (But.blk HT.out hb2 (by omega))
          have HU2 := hid (But.blk HU.out hb2 (by omega))
          have HR2 := hid hr2
          clear hr2 hb2
          go_wp2_with fail
          refine (BLj.out _ HR2.out).mono ?_
          rintro _ w3 ⟨rfl, ⟨n, hn, hnd, hr3⟩, hb3⟩
          have HB3 := hid (HB2.out.trans hb3)
          have HT3 := hid (But.blk HT2.out hb3 (by omega))
          have HU3 := hid (show Blk w3 (w.heap.size + 1) [.int .i64 (a.1 : Nat), str a.2.1, str a.2.2, .int .i64 (b.1 : Nat), str b.2.1, str b.2.2, .int .i64 (c.1 : Nat), str c.2.1, str c.2.2] 94 from But.blk HU2.out hb3 (by omega))
          have HR3 := hid hr3
          have HD := hid hnd
          clear hr3 hb3 hnd
          have e0 := HU3.out.cell (i := 0) rfl
          have e1 := HU3.out.cell (i := 1) rfl
          have e2 := HU3.out.cell (i := 2) rfl
          have e3 := HU3.out.cell (i := 3) rfl
          have e4 := HU3.out.cell (i := 4) rfl
          have e5 := HU3.out.cell (i := 5) rfl
          have e6 := HU3.out.cell (i := 6) rfl
          have e7 := HU3.out.cell (i := 7) rfl
          have e8 := HU3.out.cell (i := 8) rfl
          have g0 := HT3.out.cell (i := 0) rfl
          have g1 := HT3.out.cell (i := 1) rfl
          have g2 := HT3.out.cell (i := 2) rfl
          have g3 := HT3.out.cell (i := 3) rfl
          have g4 := HT3.out.cell (i := 4) rfl
          have g5 := HT3.out.cell (i := 5) rfl
          have g6 := HT3.out.cell (i := 6) rfl
          have g7 := HT3.out.cell (i := 7) rfl
          have g8 := HT3.out.cell (i := 8) rfl
          have k0 := HT3.out.free 0
          have k1 := HT3.out.free 1
          have k2 := HT3.out.free 2
          have k3 := HT3.out.free 3
          have k4 := HT3.out.free 4
          have k5 := HT3.out.free 5
          have k6 := HT3.out.free 6
          have k7 := HT3.out.free 7
          have k8 := HT3.out.free 8
          go_wp2
          have HZ := (((((((((HT3.out.set 0 (.int .i64 (a.1 : Nat))).set 1 (str a.2.1)).set 2 (str a.2.2)).set 3 (.int .i64 (b.1 : Nat))).set 4 (str b.2.1)).set 5 (str b.2.2)).set 6 (.int .i64 (c.1 : Nat))).set 7 (str c.2.1)).set 8 (str c.2.2))
          have HBZ := (but_set (but_set (but_set (but_set (but_set (but_set (but_set (but_set (but_set HB3.out (Nat.le_refl _) 0 (.int .i64 (a.1 : Nat))) (Nat.le_refl _) 1 (str a.2.1)) (Nat.le_refl _) 2 (str a.2.2)) (Nat.le_refl _) 3 (.int .i64 (b.1 : Nat))) (Nat.le_refl _) 4 (str b.2.1)) (Nat.le_refl _) 5 (str b.2.2)) (Nat.le_refl _) 6 (.int .i64 (c.1 : Nat))) (Nat.le_refl _) 7 (str c.2.1)) (Nat.le_refl _) 8 (str c.2.2))
          have HRZ : Pr _ q l n := (Blk.other (Blk.other (Blk.other (Blk.other (Blk.other (Blk.other (Blk.other (Blk.other (Blk.other HR3.out (c := w.heap.size) (by omega) 0 (.int .i64 (a.1 : Nat))) (c := w.heap.size) (by omega) 1 (str a.2.1)) (c := w.heap.size) (by omega) 2 (str a.2.2)) (c := w.heap.size) (by omega) 3 (.int .i64 (b.1 : Nat))) (c := w.heap.size) (by omega) 4 (str b.2.1)) (c := w.heap.size) (by omega) 5 (str b.2.2)) (c := w.heap.size) (by omega) 6 (.int .i64 (c.1 : Nat))) (c := w.heap.size) (by omega) 7 (str c.2.1)) (c := w.heap.size) (by omega) 8 (str c.2.2))
          exact bodyPost_ret (v := .tuple #[.agg (arrL [a, b, c]).toArray, .bool true]) (tri_ret rfl rfl HZ Tryz.results45) rfl ⟨HBZ, by rw [HT4.out]; exact ⟨rfl, n, hn, HD.out, HRZ⟩⟩
        · have HPN := hid (show Tm.point (d :: u) = none by unfold Tm.point; simp only; rw [if_neg h46])
          have SN := hid (fun W hr => pskip_not q l [46] j W hr (by omega) hj (by decide) (by rw [hd]; simpa using h46))
          go_wp2_with fail
          refine (SN.out _ HR.out).mono ?_
          rintro _ w2 ⟨rfl, _, hb2⟩
          have HB3 := hid (HB.out.trans hb2)
          have HT3 := hid (But.blk HT.out hb2 (by omega))
          clear hb2
          have g0 := HT3.out.cell (i := 0) rfl
          have g1 := HT3.out.cell (i := 1) rfl
          have g2 := HT3.out.cell (i := 2) rfl
          have g3 := HT3.out.cell (i := 3) rfl
          have g4 := HT3.out.cell (i := 4) rfl
          have g5 := HT3.out.cell (i := 5) rfl
          have g6 := HT3.out.cell (i := 6) rfl
          have g7 := HT3.out.cell (i := 7) rfl
          have g8 := HT3.out.cell (i := 8) rfl
          have k0 := HT3.out.free 0
          have k1 := HT3.out.free 1
          have k2 := HT3.out.free 2
          have k3 := HT3.out.free 3
          have k4 := HT3.out.free 4
          have k5 := HT3.out.free 5
          have k6 := HT3.out.free 6
          have k7 := HT3.out.free 7
          have k8 := HT3.out.free 8
          go_wp2
          have HZ := ((((((((HT3.out.set 0 (.int .i64 0)).set 1 (.string ⟨#[]⟩)).set 2 (.string ⟨#[]⟩)).set 3 (.int .i64 0)).set 4 (.string ⟨#[]⟩)).set 5 (.string ⟨#[]⟩)).set 6 (.int .i64 0)).set 7 (.string ⟨#[]⟩)).set 8 (.string ⟨#[]⟩)
          have HBZ := but_set (but_set (but_set (but_set (but_set (but_set (but_set (but_set (but_set HB3.out (Nat.le_refl _) 0 (.int .i64 0)) (Nat.le_refl _) 1 (.string ⟨#[]⟩)) (Nat.le_refl _) 2 (.string ⟨#[]⟩)) (Nat.le_refl _) 3 (.int .i64 0)) (Nat.le_refl _) 4 (.string ⟨#[]⟩)) (Nat.le_refl _) 5 (.string ⟨#[]⟩)) (Nat.le_refl _) 6 (.int .i64 0)) (Nat.le_refl _) 7 (.string ⟨#[]⟩)) (Nat.le_refl _) 8 (.string ⟨#[]⟩)
          exact bodyPost_ret (v := .tuple #[.agg z9.toArray, .bool false]) (tri_ret rfl rfl HZ Tryz.results45) rfl ⟨HBZ, by rw [show triOf ANS = none by rw [HA3.out, hd]; exact (congrArg (fun o => Option.map (fun z => ((a, b, c), z)) o) HPN.out)]⟩
    · simp at has
end Go.Proofs.YtmfnbmbedplgcaaGreatDoor
