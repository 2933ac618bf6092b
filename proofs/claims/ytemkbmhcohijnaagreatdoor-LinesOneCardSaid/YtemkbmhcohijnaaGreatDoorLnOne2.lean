/- The document's One: a line's triple. -/
import Derived.Test.YtemkbmhcohijnaaGreatDoorLnIs
import Derived.Test.YtemkbmhcohijnaaGreatDoorPrOne
namespace Go.Proofs.YtemkbmhcohijnaaGreatDoor
set_option linter.unusedVariables false
set_option linter.unusedSimpArgs false
set_option maxRecDepth 100000
open Go.ChangeShapes Go.WideShapes Go.ChangeAt Go.RowKit
set_option maxHeartbeats 4000000 in
theorem rterm_dead (q : Nat) (w : World) (hr : Rd w q [] true) :
    Calls Tryz.prog 20 #[rdp q] w (LitPost q w none) := by
  have HR := hid hr
  have HA0 := hid (fun w (hr : Rd w q [] true) => rhas_any q [] [60] true w hr (by simp) (by simp))
  rw [show decide (([] : List UInt8).take ([60] : List UInt8).length = [60]) = false from rfl] at HA0
  have HA1 := hid (fun w (hr : Rd w q [] true) => rhas_any q [] [95, 58] true w hr (by simp) (by simp))
  rw [show decide (([] : List UInt8).take ([95, 58] : List UInt8).length = [95, 58]) = false from rfl] at HA1
  have HA2 := hid (fun w (hr : Rd w q [] true) => rhas_any q [] [34] true w hr (by simp) (by simp))
  rw [show decide (([] : List UInt8).take ([34] : List UInt8).length = [34]) = false from rfl] at HA2
  have BL := hid (fun w (h : Rd w q [] true) => rblanks_any q [] true w h (by simp))
  clear hr
  go_enter Tryz.func20, Tryz.ntmps20
  have hlt := (HR.out).lt
  have HB2 := hid (show But q w ((w.alloc (.cells #[.int .i64 0, .string ⟨#[]⟩, .string ⟨#[]⟩] 23)).alloc (.cells #[.int .i64 0, .string ⟨#[]⟩, .string ⟨#[]⟩] 23)) from But.below (((Below.refl w.heap.size w).alloc (Nat.le_refl _) _).alloc (by simp) _))
  have HT2 := hid ((Blk.new w [.int .i64 0, str [], str []] 23).alloc (.cells #[.int .i64 0, .string ⟨#[]⟩, .string ⟨#[]⟩] 23))
  have HU2 := hid (show Blk ((w.alloc (.cells #[.int .i64 0, .string ⟨#[]⟩, .string ⟨#[]⟩] 23)).alloc (.cells #[.int .i64 0, .string ⟨#[]⟩, .string ⟨#[]⟩] 23)) (w.heap.size + 1) [.int .i64 0, str [], str []] 23 from Blk.new' (by simp) rfl)
  have HR2 := hid ((HR.out.keep ((Below.refl _ _).alloc (Nat.le_refl _) (.cells #[.int .i64 0, .string ⟨#[]⟩, .string ⟨#[]⟩] 23))).keep ((Below.refl _ _).alloc (Nat.le_refl _) (.cells #[.int .i64 0, .string ⟨#[]⟩, .string ⟨#[]⟩] 23)))
  have hq2 : q ≠ w.heap.size + 1 := by omega
  have hq0 : q ≠ w.heap.size := by omega
  go_wp2_with fail
  refine (HA0.out _ HR2.out).mono ?_
  rintro e w3 ⟨rfl, rfl⟩
  go_wp2_with fail
  refine (HA1.out _ HR2.out).mono ?_
  rintro e w3 ⟨rfl, rfl⟩
  go_wp2_with fail
  refine (HA2.out _ HR2.out).mono ?_
  rintro e w3 ⟨rfl, rfl⟩
  obtain ⟨w6, hw6⟩ : ∃ w6, w6 = (w.alloc (.cells #[.int .i64 0, .string ⟨#[]⟩, .string ⟨#[]⟩] 23)).alloc (.cells #[.int .i64 0, .string ⟨#[]⟩, .string ⟨#[]⟩] 23) := ⟨_, rfl⟩
  rw [← hw6] at HB2 HT2 HU2 HR2 ⊢
  clear hw6
  have HU6 := HU2
  have HT6 := HT2
  have HR6 := HR2
  have HB6 := HB2
  have d0 := HU6.out.cell (i := 0) rfl
  have d1 := HU6.out.cell (i := 1) rfl
  have d2 := HU6.out.cell (i := 2) rfl
  have e0 := HU6.out.free 0
  have e1 := HU6.out.free 1
  have e2 := HU6.out.free 2
  obtain ⟨r0, r1, p0, p1⟩ := HR6.out.cells
  go_wp2_with fail
  refine (BL.out _ HR6.out).mono ?_
  rintro e w9 ⟨rfl, hr9, hb⟩
  have HB9 := hid (HB6.out.trans hb)
  have HT9 := hid (But.blk HT6.out hb (by omega))
  have HU9 := hid (But.blk HU6.out hb (by omega))
  have HR9 := hid hr9
  clear hb hr9
  have d0 := HU9.out.cell (i := 0) rfl
  have d1 := HU9.out.cell (i := 1) rfl
  have d2 := HU9.out.cell (i := 2) rfl
  have g0 := HT9.out.cell (i := 0) rfl
  have g1 := HT9.out.cell (i := 1) rfl
  have g2 := HT9.out.cell (i := 2) rfl
  have k0 := HT9.out.free 0
  have k1 := HT9.out.free 1
  have k2 := HT9.out.free 2
  go_wp2
  have HX := lit_end (hT := HT9.out) (v0 := .int .i64 0) (v1 := .string ⟨([] : List UInt8).toArray⟩) (v2 := .string ⟨([] : List UInt8).toArray⟩) (hq := HR9.out) (hne := by omega) (hB := HB9.out) (hb := Nat.le_refl _)
  obtain ⟨hx1, hx2, hx3⟩ := HX
  exact bodyPost_ret (v := tmV 0 [] []) (struct_ret rfl hx1 Tryz.results20) rfl ⟨hx3, ⟨0, [], [], rfl⟩, hx2⟩
/-- A reader that may have erred. -/
def RdO (w : World) (q : Nat) : Option (List UInt8) → Prop
  | none => Rd w q [] true
  | some s => Rd w q s false
def rtO (o : Option (List UInt8)) : Option (Nat × List UInt8 × List UInt8 × List UInt8) := match o with
  | none => none
  | some s => Tm.rtermB s
def rest (r : Option (Nat × List UInt8 × List UInt8 × List UInt8)) : Option (List UInt8) := match r with
  | none => none
  | some p => some p.2.2.2
theorem rtO_any (q : Nat) (o : Option (List UInt8)) (w W0 : World) (hbase : Base0 W0 w q) (hl : ∀ s, o = some s → s.length ≤ 10000000) (hr : RdO w q o) :
    Calls Tryz.prog 20 #[rdp q] w fun e w' => (∃ (k : Int) (t x : List UInt8), e = .returned (tmV k t x) ∧ ∀ a, rtO o = some a → k = (a.1 : Int) ∧ t = a.2.1 ∧ x = a.2.2.1) ∧ RdO w' q (rest (rtO o)) ∧ But q w w' := by
  cases o with
  | none =>
    refine (rterm_dead q w hr).mono ?_
    rintro e w' ⟨hb, ⟨k, t, x, rfl⟩, hr⟩
    exact ⟨⟨k, t, x, rfl, fun a h => by cases h⟩, hr, hb⟩
  | some s =>
    refine (rterm_any q s w W0 hbase (hl s rfl) hr).mono ?_
    show ∀ e w', LitPost q w (Tm.rtermB s) e w' → _
    intro e w' h
    show (∃ (k : Int) (t x : List UInt8), e = .returned (tmV k t x) ∧ ∀ a, Tm.rtermB s = some a → k = (a.1 : Int) ∧ t = a.2.1 ∧ x = a.2.2.1) ∧ RdO w' q (rest (Tm.rtermB s)) ∧ But q w w'
    cases hx : Tm.rtermB s with
    | none =>
      rw [hx] at h
      obtain ⟨hb, ⟨k, t, x, rfl⟩, hr⟩ := h
      exact ⟨⟨k, t, x, rfl, fun a h => by cases h⟩, hr, hb⟩
    | some p =>
      obtain ⟨k, t, x, v⟩ := p
      rw [hx] at h
      obtain ⟨hb, rfl, hr⟩ := h
      exact ⟨⟨(k : Nat), t, x, rfl, fun a h => by cases h; exact ⟨rfl, rfl, rfl⟩⟩, hr, hb⟩
theorem rtermB_le {s : List UInt8} {a : Nat × List UInt8 × List UInt8 × List UInt8} (h : Tm.rtermB s = some a) : a.2.1.length ≤ 4 * s.length ∧ a.2.2.1.length ≤ 4 * s.length ∧ a.2.2.2.length ≤ s.length := by
  rw [Tm.rtermB_rt] at h
  cases hx : Tm.rt s with
  | none => rw [hx] at h; cases h
  | some p =>
    obtain ⟨b, r⟩ := p
    rw [hx] at h
    simp only at h
    split at h
    · simp only [Option.some.injEq] at h
      have := Tm.rt_len hx
      subst h
      exact ⟨this.1, this.2.1, this.2.2.1⟩
    · cases h
/-- What the third reading leaves decides. -/
theorem chain_none {s : List UInt8} (hv : Lib.validD s = true) (he : Tm.endd (s.dropWhile blankC) = false) (h : rest (rtO (rest (rtO (rest (rtO (some (s.dropWhile blankC))))))) = none) : Tm.one s = none := by
  unfold Tm.one
  rw [if_neg (by rw [hv]; decide), if_neg (by rw [he]; decide)]
  unfold Tm.rtri
  have h0 : rtO (some (s.dropWhile blankC)) = Tm.rtermB (s.dropWhile blankC) := rfl
  rw [h0, Tm.rtermB_rt] at h
  cases h1 : Tm.rt (s.dropWhile blankC) with
  | none => rfl
  | some p =>
    obtain ⟨a, r⟩ := p
    rw [h1] at h
    simp only at h ⊢
    cases g1 : Tm.isT a
    · cases Tm.rt r with
      | none => rfl
      | some p =>
        obtain ⟨b, u⟩ := p
        simp only
        cases Tm.rt u with
        | none => rfl
        | some p =>
          obtain ⟨c, v⟩ := p
          simp only
          cases Tm.point v with
          | none => rfl
          | some z => simp only; rw [if_neg]; rintro ⟨_, h⟩; unfold Tm.isTri at h; simp only [Bool.and_eq_true] at h; rw [g1] at h; simp at h
    · rw [g1, if_pos rfl] at h
      have h0 : rtO (rest (some (a.1, a.2.1, a.2.2, r))) = Tm.rtermB r := rfl
      rw [h0, Tm.rtermB_rt] at h
      cases h2 : Tm.rt r with
      | none => rfl
      | some p =>
        obtain ⟨b, u⟩ := p
        rw [h2] at h
        simp only at h ⊢
        cases g2 : Tm.isT b
        · cases Tm.rt u with
          | none => rfl
          | some p =>
            obtain ⟨c, v⟩ := p
            simp only
            cases Tm.point v with
            | none => rfl
            | some z => simp only; rw [if_neg]; rintro ⟨_, h⟩; unfold Tm.isTri at h; simp only [Bool.and_eq_true] at h; rw [g2] at h; simp at h
        · rw [g2, if_pos rfl] at h
          have h0 : rtO (rest (some (b.1, b.2.1, b.2.2, u))) = Tm.rtermB u := rfl
          rw [h0, Tm.rtermB_rt] at h
          cases h3 : Tm.rt u with
          | none => rfl
          | some p =>
            obtain ⟨c, v⟩ := p
            rw [h3] at h
            simp only at h ⊢
            cases g3 : Tm.isT c
            · cases Tm.point v with
              | none => rfl
              | some z => simp only; rw [if_neg]; rintro ⟨_, h⟩; unfold Tm.isTri at h; simp only [Bool.and_eq_true] at h; rw [g3] at h; simp at h
            · rw [g3, if_pos rfl] at h; cases h
theorem rest_some {o : Option (List UInt8)} {v : List UInt8} (h : rest (rtO o) = some v) : ∃ s a, o = some s ∧ Tm.rt s = some (a, v) ∧ Tm.isT a = true ∧ rtO o = some (a.1, a.2.1, a.2.2, v) := by
  cases o with
  | none => cases h
  | some s =>
    have h0 : rtO (some s) = Tm.rtermB s := rfl
    rw [h0, Tm.rtermB_rt] at h ⊢
    cases h1 : Tm.rt s with
    | none => rw [h1] at h; cases h
    | some p =>
      obtain ⟨a, r⟩ := p
      rw [h1] at h
      simp only at h ⊢
      cases g : Tm.isT a
      · rw [g] at h; cases h
      · rw [g, if_pos rfl] at h
        cases h
        exact ⟨s, a, rfl, h1, g, rfl⟩
theorem RdO.keep {w w' : World} {q : Nat} {o : Option (List UInt8)} (h : RdO w q o) (hb : Below w.heap.size w w') : RdO w' q o := by
  cases o <;> exact Rd.keep h hb
theorem RdO.other {w : World} {q b : Nat} {o : Option (List UInt8)} (h : RdO w q o) (hn : q ≠ b) (i : Nat) (v : Value) : RdO (w.setCell ⟨b, i, none⟩ v) q o := by
  cases o <;> exact Blk.other h hn i v
theorem rest_len {o : Option (List UInt8)} {n : Nat} (h : ∀ s, o = some s → s.length ≤ n) : ∀ s, rest (rtO o) = some s → s.length ≤ n := by
  intro s hs
  obtain ⟨u, a, h1, h2, _⟩ := rest_some hs
  have := (Tm.rt_len h2).2.2.1
  have := h u h1
  omega
theorem Base0.mk' {W0 w : World} {q : Nat} (hV : Vars W0) (hb : Below W0.heap.size W0 w) (hq : W0.heap.size ≤ q) : Base0 W0 w q := ⟨hV, hb, hq⟩
set_option maxHeartbeats 4000000 in
theorem rone_bad (s : List UInt8) (w : World) (hV : Vars w) (hl : s.length ≤ 1000000) (h1 : Lib.validD s = false) :
    Calls Tryz.prog 7 #[str s] w fun e w' => e = .returned (oneV (Tm.one s)) ∧ Below w.heap.size w w' := by
  have HN := hid (show Tm.one s = none by unfold Tm.one; rw [if_pos h1])
  have VA := hid (fun w h => valid_any s w (by omega) h)
  have HB1 := hid (show Below w.heap.size w (w.alloc (.cells z9.toArray 25)) from (Below.refl _ _).alloc (Nat.le_refl _) _)
  have HT1 := hid (Blk.new w z9 25)
  have HV := hid hV
  rw [h1] at VA
  clear hV h1
  go_enter Tryz.func7, Tryz.ntmps7
  go_wp2_with fail
  refine (VA.out _ (HV.out.keep HB1.out).1).mono ?_
  rintro e w2 ⟨rfl, hb2⟩
  have HB2 := hid (below_then HB1.out hb2)
  have HT2 := hid (HT1.out.keep hb2)
  clear hb2
  have g0 := HT2.out.cell (i := 0) rfl
  have g1 := HT2.out.cell (i := 1) rfl
  have g2 := HT2.out.cell (i := 2) rfl
  have g3 := HT2.out.cell (i := 3) rfl
  have g4 := HT2.out.cell (i := 4) rfl
  have g5 := HT2.out.cell (i := 5) rfl
  have g6 := HT2.out.cell (i := 6) rfl
  have g7 := HT2.out.cell (i := 7) rfl
  have g8 := HT2.out.cell (i := 8) rfl
  have k0 := HT2.out.free 0
  have k1 := HT2.out.free 1
  have k2 := HT2.out.free 2
  have k3 := HT2.out.free 3
  have k4 := HT2.out.free 4
  have k5 := HT2.out.free 5
  have k6 := HT2.out.free 6
  have k7 := HT2.out.free 7
  have k8 := HT2.out.free 8
  go_wp2
  exact bodyPost_ret (v := oneV none) (one_ret rfl rfl rfl (((((((((HT2.out.set 0 (.int .i64 0)).set 1 (.string ⟨#[]⟩)).set 2 (.string ⟨#[]⟩)).set 3 (.int .i64 0)).set 4 (.string ⟨#[]⟩)).set 5 (.string ⟨#[]⟩)).set 6 (.int .i64 0)).set 7 (.string ⟨#[]⟩)).set 8 (.string ⟨#[]⟩)) Tryz.results7) rfl ⟨by rw [HN.out], (below_set (below_set (below_set (below_set (below_set (below_set (below_set (below_set (below_set HB2.out (Nat.le_refl _) 0 (.int .i64 0)) (Nat.le_refl _) 1 (.string ⟨#[]⟩)) (Nat.le_refl _) 2 (.string ⟨#[]⟩)) (Nat.le_refl _) 3 (.int .i64 0)) (Nat.le_refl _) 4 (.string ⟨#[]⟩)) (Nat.le_refl _) 5 (.string ⟨#[]⟩)) (Nat.le_refl _) 6 (.int .i64 0)) (Nat.le_refl _) 7 (.string ⟨#[]⟩)) (Nat.le_refl _) 8 (.string ⟨#[]⟩))⟩
set_option maxHeartbeats 4000000 in
theorem rone_empty (s : List UInt8) (w : World) (hV : Vars w) (hl : s.length ≤ 1000000) (h1 : Lib.validD s = true) (hu : s.dropWhile blankC = []) :
    Calls Tryz.prog 7 #[str s] w fun e w' => e = .returned (oneV (Tm.one s)) ∧ Below w.heap.size w w' := by
  have HN := hid (show Tm.one s = some none by unfold Tm.one; rw [if_neg (by rw [h1]; decide), hu]; rfl)
  have VA := hid (fun w h => valid_any s w (by omega) h)
  have HB1 := hid (show Below w.heap.size w (w.alloc (.cells z9.toArray 25)) from (Below.refl _ _).alloc (Nat.le_refl _) _)
  have HT1 := hid (Blk.new w z9 25)
  have HV := hid hV
  rw [h1] at VA
  have HU := hid hu
  clear hV h1 hu
  go_enter Tryz.func7, Tryz.ntmps7
  go_wp2_with fail
  refine (VA.out _ (HV.out.keep HB1.out).1).mono ?_
  rintro e w2 ⟨rfl, hb2⟩
  have HB2 := hid (below_then HB1.out hb2)
  have HT2 := hid (HT1.out.keep hb2)
  clear hb2
  have hlt2 : w.heap.size < w2.heap.size := HT2.out.lt
  obtain ⟨q, hq⟩ : ∃ q, q = w2.heap.size := ⟨_, rfl⟩
  have HR3 := hid (show Rd (w2.alloc (.cells #[str s, .bool false] 43)) q s false from Blk.new' hq.symm rfl)
  have HB3 := hid (HB2.out.alloc HB2.out.size (.cells #[str s, .bool false] 43))
  have HT3 := hid (HT2.out.alloc (.cells #[str s, .bool false] 43))
  have hqw : w.heap.size < q := by omega
  have BL := hid (rblanks_any q s false _ HR3.out (by omega))
  rw [hq, HU.out] at BL
  go_wp2_with fail
  refine BL.out.mono ?_
  rintro e w4 ⟨rfl, hr4, hb4⟩
  rw [← hq] at hr4 hb4
  have HB4 := hid (hb4.into HB3.out (by omega))
  have HT4 := hid (But.blk HT3.out hb4 (by omega))
  have HR4 := hid hr4
  clear hr4 hb4 BL HR3 HB3 HT3
  subst hq
  obtain ⟨c0, c1, f0, f1⟩ := HR4.out.cells
  have g0 := HT4.out.cell (i := 0) rfl
  have g1 := HT4.out.cell (i := 1) rfl
  have g2 := HT4.out.cell (i := 2) rfl
  have g3 := HT4.out.cell (i := 3) rfl
  have g4 := HT4.out.cell (i := 4) rfl
  have g5 := HT4.out.cell (i := 5) rfl
  have g6 := HT4.out.cell (i := 6) rfl
  have g7 := HT4.out.cell (i := 7) rfl
  have g8 := HT4.out.cell (i := 8) rfl
  have k0 := HT4.out.free 0
  have k1 := HT4.out.free 1
  have k2 := HT4.out.free 2
  have k3 := HT4.out.free 3
  have k4 := HT4.out.free 4
  have k5 := HT4.out.free 5
  have k6 := HT4.out.free 6
  have k7 := HT4.out.free 7
  have k8 := HT4.out.free 8
  go_wp2
  exact bodyPost_ret (v := oneV (some none)) (one_ret rfl rfl rfl (((((((((HT4.out.set 0 (.int .i64 0)).set 1 (.string ⟨#[]⟩)).set 2 (.string ⟨#[]⟩)).set 3 (.int .i64 0)).set 4 (.string ⟨#[]⟩)).set 5 (.string ⟨#[]⟩)).set 6 (.int .i64 0)).set 7 (.string ⟨#[]⟩)).set 8 (.string ⟨#[]⟩)) Tryz.results7) rfl ⟨by rw [HN.out], (below_set (below_set (below_set (below_set (below_set (below_set (below_set (below_set (below_set HB4.out (Nat.le_refl _) 0 (.int .i64 0)) (Nat.le_refl _) 1 (.string ⟨#[]⟩)) (Nat.le_refl _) 2 (.string ⟨#[]⟩)) (Nat.le_refl _) 3 (.int .i64 0)) (Nat.le_refl _) 4 (.string ⟨#[]⟩)) (Nat.le_refl _) 5 (.string ⟨#[]⟩)) (Nat.le_refl _) 6 (.int .i64 0)) (Nat.le_refl _) 7 (.string ⟨#[]⟩)) (Nat.le_refl _) 8 (.string ⟨#[]⟩))⟩
set_option maxHeartbeats 4000000 in
theorem rone_remark (s : List UInt8) (w : World) (hV : Vars w) (hl : s.length ≤ 1000000) (h1 : Lib.validD s = true) (d : UInt8) (u : List UInt8) (hu : s.dropWhile blankC = d :: u) (hd : d = 35) :
    Calls Tryz.prog 7 #[str s] w fun e w' => e = .returned (oneV (Tm.one s)) ∧ Below w.heap.size w w' := by
  have HN := hid (show Tm.one s = some none by unfold Tm.one; rw [if_neg (by rw [h1]; decide), hu, hd]; rfl)
  have VA := hid (fun w h => valid_any s w (by omega) h)
  have HB1 := hid (show Below w.heap.size w (w.alloc (.cells z9.toArray 25)) from (Below.refl _ _).alloc (Nat.le_refl _) _)
  have HT1 := hid (Blk.new w z9 25)
  have HV := hid hV
  rw [h1] at VA
  have HU := hid hu
  have hul : u.length + 1 ≤ s.length := by have := dw_len blankC s; rw [hu] at this; simpa using this
  clear hV h1 hu
  go_enter Tryz.func7, Tryz.ntmps7
  go_wp2_with fail
  refine (VA.out _ (HV.out.keep HB1.out).1).mono ?_
  rintro e w2 ⟨rfl, hb2⟩
  have HB2 := hid (below_then HB1.out hb2)
  have HT2 := hid (HT1.out.keep hb2)
  clear hb2
  have hlt2 : w.heap.size < w2.heap.size := HT2.out.lt
  obtain ⟨q, hq⟩ : ∃ q, q = w2.heap.size := ⟨_, rfl⟩
  have HR3 := hid (show Rd (w2.alloc (.cells #[str s, .bool false] 43)) q s false from Blk.new' hq.symm rfl)
  have HB3 := hid (HB2.out.alloc HB2.out.size (.cells #[str s, .bool false] 43))
  have HT3 := hid (HT2.out.alloc (.cells #[str s, .bool false] 43))
  have hqw : w.heap.size < q := by omega
  have BL := hid (rblanks_any q s false _ HR3.out (by omega))
  rw [hq, HU.out] at BL
  go_wp2_with fail
  refine BL.out.mono ?_
  rintro e w4 ⟨rfl, hr4, hb4⟩
  rw [← hq] at hr4 hb4
  have HB4 := hid (hb4.into HB3.out (by omega))
  have HT4 := hid (But.blk HT3.out hb4 (by omega))
  have HR4 := hid hr4
  clear hr4 hb4 BL HR3 HB3 HT3
  subst hq
  obtain ⟨c0, c1, f0, f1⟩ := HR4.out.cells
  have hem : ((d :: u : List UInt8) == []) = false := rfl
  have HA4 := hid (rhas_any w2.heap.size (d :: u) [35] false w4 HR4.out (by simp only [List.length_cons]; omega) (by simp))
  rw [show decide (((d :: u) : List UInt8).take ([35] : List UInt8).length = [35]) = true from by subst hd; rfl] at HA4
  go_wp2_with fail
  refine HA4.out.mono ?_
  rintro e w5 ⟨rfl, rfl⟩
  have g0 := HT4.out.cell (i := 0) rfl
  have g1 := HT4.out.cell (i := 1) rfl
  have g2 := HT4.out.cell (i := 2) rfl
  have g3 := HT4.out.cell (i := 3) rfl
  have g4 := HT4.out.cell (i := 4) rfl
  have g5 := HT4.out.cell (i := 5) rfl
  have g6 := HT4.out.cell (i := 6) rfl
  have g7 := HT4.out.cell (i := 7) rfl
  have g8 := HT4.out.cell (i := 8) rfl
  have k0 := HT4.out.free 0
  have k1 := HT4.out.free 1
  have k2 := HT4.out.free 2
  have k3 := HT4.out.free 3
  have k4 := HT4.out.free 4
  have k5 := HT4.out.free 5
  have k6 := HT4.out.free 6
  have k7 := HT4.out.free 7
  have k8 := HT4.out.free 8
  go_wp2
  exact bodyPost_ret (v := oneV (some none)) (one_ret rfl rfl rfl (((((((((HT4.out.set 0 (.int .i64 0)).set 1 (.string ⟨#[]⟩)).set 2 (.string ⟨#[]⟩)).set 3 (.int .i64 0)).set 4 (.string ⟨#[]⟩)).set 5 (.string ⟨#[]⟩)).set 6 (.int .i64 0)).set 7 (.string ⟨#[]⟩)).set 8 (.string ⟨#[]⟩)) Tryz.results7) rfl ⟨by rw [HN.out], (below_set (below_set (below_set (below_set (below_set (below_set (below_set (below_set (below_set HB4.out (Nat.le_refl _) 0 (.int .i64 0)) (Nat.le_refl _) 1 (.string ⟨#[]⟩)) (Nat.le_refl _) 2 (.string ⟨#[]⟩)) (Nat.le_refl _) 3 (.int .i64 0)) (Nat.le_refl _) 4 (.string ⟨#[]⟩)) (Nat.le_refl _) 5 (.string ⟨#[]⟩)) (Nat.le_refl _) 6 (.int .i64 0)) (Nat.le_refl _) 7 (.string ⟨#[]⟩)) (Nat.le_refl _) 8 (.string ⟨#[]⟩))⟩
set_option maxHeartbeats 4000000 in
theorem rone_err (s : List UInt8) (w : World) (hV : Vars w) (hl : s.length ≤ 1000000) (h1 : Lib.validD s = true) (d : UInt8) (u : List UInt8) (hu : s.dropWhile blankC = d :: u) (hd : d ≠ 35) (h3 : rest (rtO (rest (rtO (rest (rtO (some (d :: u))))))) = none) :
    Calls Tryz.prog 7 #[str s] w fun e w' => e = .returned (oneV (Tm.one s)) ∧ Below w.heap.size w w' := by
  have HN := hid (show Tm.one s = none by exact chain_none h1 (show Tm.endd (s.dropWhile blankC) = false by rw [hu]; unfold Tm.endd; simp [hd]) (by rw [hu]; exact h3))
  have VA := hid (fun w h => valid_any s w (by omega) h)
  have HB1 := hid (show Below w.heap.size w (w.alloc (.cells z9.toArray 25)) from (Below.refl _ _).alloc (Nat.le_refl _) _)
  have HT1 := hid (Blk.new w z9 25)
  have HV := hid hV
  rw [h1] at VA
  have HU := hid hu
  have hul : u.length + 1 ≤ s.length := by have := dw_len blankC s; rw [hu] at this; simpa using this
  have H3 := hid h3
  clear hV h1 hu h3
  go_enter Tryz.func7, Tryz.ntmps7
  go_wp2_with fail
  refine (VA.out _ (HV.out.keep HB1.out).1).mono ?_
  rintro e w2 ⟨rfl, hb2⟩
  have HB2 := hid (below_then HB1.out hb2)
  have HT2 := hid (HT1.out.keep hb2)
  clear hb2
  have hlt2 : w.heap.size < w2.heap.size := HT2.out.lt
  obtain ⟨q, hq⟩ : ∃ q, q = w2.heap.size := ⟨_, rfl⟩
  have HR3 := hid (show Rd (w2.alloc (.cells #[str s, .bool false] 43)) q s false from Blk.new' hq.symm rfl)
  have HB3 := hid (HB2.out.alloc HB2.out.size (.cells #[str s, .bool false] 43))
  have HT3 := hid (HT2.out.alloc (.cells #[str s, .bool false] 43))
  have hqw : w.heap.size < q := by omega
  have BL := hid (rblanks_any q s false _ HR3.out (by omega))
  rw [hq, HU.out] at BL
  go_wp2_with fail
  refine BL.out.mono ?_
  rintro e w4 ⟨rfl, hr4, hb4⟩
  rw [← hq] at hr4 hb4
  have HB4 := hid (hb4.into HB3.out (by omega))
  have HT4 := hid (But.blk HT3.out hb4 (by omega))
  have HR4 := hid hr4
  clear hr4 hb4 BL HR3 HB3 HT3
  subst hq
  obtain ⟨c0, c1, f0, f1⟩ := HR4.out.cells
  have hem : ((d :: u : List UInt8) == []) = false := rfl
  have HA4 := hid (rhas_any w2.heap.size (d :: u) [35] false w4 HR4.out (by simp only [List.length_cons]; omega) (by simp))
  rw [show decide (((d :: u) : List UInt8).take ([35] : List UInt8).length = [35]) = false from by exact decide_eq_false (by simpa using hd)] at HA4
  go_wp2_with fail
  refine HA4.out.mono ?_
  rintro e w5 ⟨rfl, rfl⟩
  obtain ⟨o1, ho1⟩ : ∃ o, o = rest (rtO (some (d :: u))) := ⟨_, rfl⟩
  obtain ⟨o2, ho2⟩ : ∃ o, o = rest (rtO o1) := ⟨_, rfl⟩
  obtain ⟨o3, ho3⟩ : ∃ o, o = rest (rtO o2) := ⟨_, rfl⟩
  have hl0 : ∀ z, some (d :: u) = some z → z.length ≤ 10000000 := by intro z hz; cases hz; simp only [List.length_cons]; omega
  have hl1 : ∀ z, o1 = some z → z.length ≤ 10000000 := by rw [ho1]; exact rest_len hl0
  have hl2 : ∀ z, o2 = some z → z.length ≤ 10000000 := by rw [ho2]; exact rest_len hl1
  have T1 := hid (fun (W : World) (hb : Below w.heap.size w W) (hr : RdO W w2.heap.size (some (d :: u))) => rtO_any w2.heap.size (some (d :: u)) W w (Base0.mk' HV.out hb (by omega)) hl0 hr)
  have T2 := hid (fun (W : World) (hb : Below w.heap.size w W) (hr : RdO W w2.heap.size o1) => rtO_any w2.heap.size o1 W w (Base0.mk' HV.out hb (by omega)) hl1 hr)
  have T3 := hid (fun (W : World) (hb : Below w.heap.size w W) (hr : RdO W w2.heap.size o2) => rtO_any w2.heap.size o2 W w (Base0.mk' HV.out hb (by omega)) hl2 hr)
  rw [← ho1] at T1
  rw [← ho2] at T2
  rw [← ho3] at T3
  have HO1 := hid ho1
  have HO2 := hid ho2
  have HO3 := hid ho3
  clear ho1 ho2 ho3 hl0 hl1 hl2 c0 c1 f0 f1
  go_wp2_with fail
  refine (T1.out _ HB4.out HR4.out).mono ?_
  rintro _ w6 ⟨⟨k1, t1, x1, rfl, hx1⟩, hr6, hb6⟩
  have HX1 := hid hx1
  have HB6 := hid (show Below w.heap.size w (new9 w6 k1 t1 x1 0 [] [] 0 [] []) from (hb6.into HB4.out (by omega)).alloc (hb6.into HB4.out (by omega)).size _)
  have HT6 := hid (show Blk (new9 w6 k1 t1 x1 0 [] [] 0 [] []) w.heap.size z9 25 from (But.blk HT4.out hb6 (by omega)).alloc _)
  have HU6 := hid (new9_new w6 k1 t1 x1 0 [] [] 0 [] [])
  have HR6 := hid (show RdO (new9 w6 k1 t1 x1 0 [] [] 0 [] []) w2.heap.size o1 from hr6.keep ((Below.refl _ _).alloc (Nat.le_refl _) _))
  have hz6 := hb6.size
  have hq4 : w2.heap.size < w4.heap.size := HR4.out.lt
  clear hb6 hr6 hx1
  go_wp2_with fail
  refine (T2.out _ HB6.out HR6.out).mono ?_
  rintro _ w7 ⟨⟨k2, t2, x2, rfl, hx2⟩, hr7, hb7⟩
  have HX2 := hid hx2
  have HB7 := hid (hb7.into HB6.out (by omega))
  have HT7 := hid (But.blk HT6.out hb7 (by omega))
  have HU7 := hid (But.blk HU6.out hb7 (by omega))
  have HR7 := hid hr7
  clear hb7 hr7 hx2
  have j3 := HU7.out.cell (i := 3) rfl
  have j4 := HU7.out.cell (i := 4) rfl
  have j5 := HU7.out.cell (i := 5) rfl
  have m3 := HU7.out.free 3
  have m4 := HU7.out.free 4
  have m5 := HU7.out.free 5
  have hpw : w.heap.size ≤ w6.heap.size := by omega
  have hqp : w2.heap.size ≠ w6.heap.size := by omega
  have hwp : w.heap.size ≠ w6.heap.size := by omega
  have HB8 := hid (below_set (below_set (below_set HB7.out hpw 3 (.int .i64 k2)) hpw 4 (str t2)) hpw 5 (str x2))
  have HT8 := hid (((HT7.out.other hwp 3 (.int .i64 k2)).other hwp 4 (str t2)).other hwp 5 (str x2))
  have HU8 := hid (show Blk (((w7.setCell ⟨w6.heap.size, 3, none⟩ (.int .i64 k2)).setCell ⟨w6.heap.size, 4, none⟩ (str t2)).setCell ⟨w6.heap.size, 5, none⟩ (str x2)) w6.heap.size [.int .i64 k1, str t1, str x1, .int .i64 k2, str t2, str x2, .int .i64 0, str [], str []] 25 from ((HU7.out.set 3 (.int .i64 k2)).set 4 (str t2)).set 5 (str x2))
  have HR8 := hid (((HR7.out.other hqp 3 (.int .i64 k2)).other hqp 4 (str t2)).other hqp 5 (str x2))
  go_wp2_with fail
  refine (T3.out _ HB8.out HR8.out).mono ?_
  rintro _ w9 ⟨⟨k3, t3, x3, rfl, hx3⟩, hr9, hb9⟩
  have HX3 := hid hx3
  have HB9 := hid (hb9.into HB8.out (by omega))
  have HT9 := hid (But.blk HT8.out hb9 (by omega))
  have HU9 := hid (But.blk HU8.out hb9 (by omega))
  have HR9 := hid hr9
  clear hb9 hr9 hx3 j3 j4 j5 m3 m4 m5
  have j6 := HU9.out.cell (i := 6) rfl
  have j7 := HU9.out.cell (i := 7) rfl
  have j8 := HU9.out.cell (i := 8) rfl
  have m6 := HU9.out.free 6
  have m7 := HU9.out.free 7
  have m8 := HU9.out.free 8
  have HB0 := hid (below_set (below_set (below_set HB9.out hpw 6 (.int .i64 k3)) hpw 7 (str t3)) hpw 8 (str x3))
  have HT0 := hid (((HT9.out.other hwp 6 (.int .i64 k3)).other hwp 7 (str t3)).other hwp 8 (str x3))
  have HU0 := hid (show Blk (((w9.setCell ⟨w6.heap.size, 6, none⟩ (.int .i64 k3)).setCell ⟨w6.heap.size, 7, none⟩ (str t3)).setCell ⟨w6.heap.size, 8, none⟩ (str x3)) w6.heap.size [.int .i64 k1, str t1, str x1, .int .i64 k2, str t2, str x2, .int .i64 k3, str t3, str x3] 25 from ((HU9.out.set 6 (.int .i64 k3)).set 7 (str t3)).set 8 (str x3))
  have HR0 := hid (((HR9.out.other hqp 6 (.int .i64 k3)).other hqp 7 (str t3)).other hqp 8 (str x3))
  have HE := hid (show o3 = none by rw [HO3.out, HO2.out, HO1.out]; exact H3.out)
  have HR0 := hid (show Rd (((w9.setCell ⟨w6.heap.size, 6, none⟩ (.int .i64 k3)).setCell ⟨w6.heap.size, 7, none⟩ (str t3)).setCell ⟨w6.heap.size, 8, none⟩ (str x3)) w2.heap.size [] true by have := HR0.out; rw [HE.out] at this; exact this)
  go_wp2_with (show wpList _ _ _ (_ :: _ :: _ :: _ :: _ :: _ :: _ :: _ :: _) _ (((w9.setCell ⟨w6.heap.size, 6, none⟩ (.int .i64 k3)).setCell ⟨w6.heap.size, 7, none⟩ (str t3)).setCell ⟨w6.heap.size, 8, none⟩ (str x3)); obtain ⟨w0, hw0⟩ : ∃ w0, w0 = (((w9.setCell ⟨w6.heap.size, 6, none⟩ (.int .i64 k3)).setCell ⟨w6.heap.size, 7, none⟩ (str t3)).setCell ⟨w6.heap.size, 8, none⟩ (str x3)) := ⟨_, rfl⟩; rw [← hw0] at HB0 HT0 HU0 HR0 ⊢; clear hw0; have s1 := HR0.out.cell (i := 1) rfl; have g0 := HT0.out.cell (i := 0) rfl; have k0 := HT0.out.free 0; have g1 := HT0.out.cell (i := 1) rfl; have k1 := HT0.out.free 1; have g2 := HT0.out.cell (i := 2) rfl; have k2 := HT0.out.free 2; have g3 := HT0.out.cell (i := 3) rfl; have k3 := HT0.out.free 3; have g4 := HT0.out.cell (i := 4) rfl; have k4 := HT0.out.free 4; have g5 := HT0.out.cell (i := 5) rfl; have k5 := HT0.out.free 5; have g6 := HT0.out.cell (i := 6) rfl; have k6 := HT0.out.free 6; have g7 := HT0.out.cell (i := 7) rfl; have k7 := HT0.out.free 7; have g8 := HT0.out.cell (i := 8) rfl; have k8 := HT0.out.free 8)
  exact bodyPost_ret (v := oneV none) (one_ret rfl rfl rfl (((((((((HT0.out.set 0 (.int .i64 0)).set 1 (.string ⟨#[]⟩)).set 2 (.string ⟨#[]⟩)).set 3 (.int .i64 0)).set 4 (.string ⟨#[]⟩)).set 5 (.string ⟨#[]⟩)).set 6 (.int .i64 0)).set 7 (.string ⟨#[]⟩)).set 8 (.string ⟨#[]⟩)) Tryz.results7) rfl ⟨by rw [HN.out], (below_set (below_set (below_set (below_set (below_set (below_set (below_set (below_set (below_set HB0.out (Nat.le_refl _) 0 (.int .i64 0)) (Nat.le_refl _) 1 (.string ⟨#[]⟩)) (Nat.le_refl _) 2 (.string ⟨#[]⟩)) (Nat.le_refl _) 3 (.int .i64 0)) (Nat.le_refl _) 4 (.string ⟨#[]⟩)) (Nat.le_refl _) 5 (.string ⟨#[]⟩)) (Nat.le_refl _) 6 (.int .i64 0)) (Nat.le_refl _) 7 (.string ⟨#[]⟩)) (Nat.le_refl _) 8 (.string ⟨#[]⟩))⟩
end Go.Proofs.YtemkbmhcohijnaaGreatDoor
