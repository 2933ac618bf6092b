/- LnTerm, LnMath. -/
import Derived.Test.YtjaebndajhppgaaGreatDoorLnLit
namespace Go.Proofs.YtjaebndajhppgaaGreatDoor
set_option linter.unusedVariables false
set_option linter.unusedSimpArgs false
set_option maxRecDepth 100000
open Go.ChangeShapes Go.WideShapes Go.ChangeAt Go.RowKit

namespace Tm
/-- A term that must stand there, and the blanks behind it. -/
def rtermB (s : T) : Option (Nat × T × T × T) := match rterm s with
  | none => none
  | some (k, t, x, v) => if Tm.is (k : Int) t x = true then some (k, t, x, v.dropWhile blankC) else none
theorem rterm_up62 (r : T) : rterm (60 :: r) = (upU 62 false r).map (fun q : T × T => ((1 : Nat), q.1, ([] : T), q.2)) := rfl
theorem rterm_95 (r : T) : rterm (95 :: 58 :: r) = some (2, r.takeWhile alnum, [], r.dropWhile alnum) := rfl
theorem rterm_34 (r : T) : rterm (34 :: r) = rlit r := by
  unfold rlit
  show (match up (r.length + 1) 34 true r with
      | none => none
      | some (t, v) => if v.headD 0 = 64 then some (4, t, (v.tail.takeWhile alnumD).map lower, v.tail.dropWhile alnumD)
        else if v.take 3 = [94, 94, 60] then (up (v.length + 1) 62 false (v.drop 3)).map (fun q : T × T => ((5 : Nat), t, q.1, q.2))
        else some (3, t, [], v)) = _
  unfold upU
  cases up (r.length + 1) 34 true r with
  | none => rfl
  | some p =>
    obtain ⟨t, v⟩ := p
    simp only
    rw [up_fuel 62 false (v.length + 1) ((v.drop 3).length + 1) (v.drop 3) (by rw [List.length_drop]; omega) (by omega)]
theorem rterm_none {s : T} (h1 : s.take 1 ≠ [60]) (h2 : s.take 2 ≠ [95, 58]) (h3 : s.take 1 ≠ [34]) : rterm s = none := by
  cases s with
  | nil => rfl
  | cons c r =>
    have a1 : c ≠ 60 := fun e => h1 (by rw [e]; rfl)
    have a3 : c ≠ 34 := fun e => h3 (by rw [e]; rfl)
    show (if c = 60 then _ else if c = 95 then _ else if c = 34 then _ else none) = none
    rw [if_neg a1]
    by_cases a2 : c = 95
    · rw [if_pos a2, if_neg]
      intro e
      cases r with
      | nil => exact absurd e (by decide)
      | cons d r => simp only [List.headD_cons] at e; exact h2 (by rw [a2, e]; rfl)
    · rw [if_neg a2, if_neg a3]
theorem rlit_len {s : T} {k : Nat} {t x v : T} (h : rlit s = some (k, t, x, v)) : t.length ≤ 4 * s.length ∧ x.length ≤ 4 * s.length ∧ v.length ≤ s.length := by
  unfold rlit at h
  cases hu : upU 34 true s with
  | none => rw [hu] at h; cases h
  | some p =>
    obtain ⟨t', v'⟩ := p
    rw [hu] at h
    have h1 := upU_len s.length (Nat.le_refl _) hu
    simp only at h
    split at h
    · simp only [Option.some.injEq, Prod.mk.injEq] at h
      obtain ⟨rfl, rfl, rfl, rfl⟩ := h
      have h2 := tw_len alnumD v'.tail
      have h3 := congrArg List.length (List.takeWhile_append_dropWhile (p := alnumD) (l := v'.tail))
      rw [List.length_append] at h3
      rw [List.length_tail] at h2 h3
      rw [List.length_map]; omega
    · split at h
      · cases hv : upU 62 false (v'.drop 3) with
        | none => rw [hv] at h; cases h
        | some z =>
          obtain ⟨a, b⟩ := z
          rw [hv] at h
          simp only [Option.map_some, Option.some.injEq, Prod.mk.injEq] at h
          obtain ⟨rfl, rfl, rfl, rfl⟩ := h
          have h2 := upU_len _ (Nat.le_refl _) hv
          rw [List.length_drop] at h2; omega
      · simp only [Option.some.injEq, Prod.mk.injEq] at h
        obtain ⟨rfl, rfl, rfl, rfl⟩ := h
        simp; omega
end Tm
/-- A base world, whose variables are known, and all behind it. -/
structure Base0 (W0 w : World) (q : Nat) : Prop where
  vars : Vars W0
  below : Below W0.heap.size W0 w
  le : W0.heap.size ≤ q
theorem Base0.vars_at {W0 w w' : World} {q : Nat} (h : Base0 W0 w q) (hb : But q w w') : Vars w' := h.vars.keep (hb.into h.below h.le)
theorem Base0.to {W0 w w' : World} {q : Nat} (h : Base0 W0 w q) (hb : But q w w') : Base0 W0 w' q := ⟨h.vars, hb.into h.below h.le, h.le⟩
theorem dw_len (p : UInt8 → Bool) (l : List UInt8) : (l.dropWhile p).length ≤ l.length := by
  have := congrArg List.length (List.takeWhile_append_dropWhile (p := p) (l := l))
  rw [List.length_append] at this; omega
set_option maxHeartbeats 4000000 in
theorem rterm_no (q : Nat) (s : List UInt8) (w W0 : World) (hbase : Base0 W0 w q) (hl : s.length ≤ 10000000) (hr : Rd w q s false) (h1 : s.take 1 ≠ [60]) (h2 : s.take 2 ≠ [95, 58]) (h3 : s.take 1 ≠ [34]) :
    Calls Tryz.prog 135 #[rdp q] w (LitPost q w (Tm.rtermB s)) := by
  have HN := hid (show Tm.rtermB s = none by unfold Tm.rtermB; rw [Tm.rterm_none h1 h2 h3])
  rw [HN.out]
  have HR := hid hr
  have HA0 := hid (fun w (hr : Rd w q s false) => rhas_any q s [60] false w hr (by first | omega | (simp only [List.length_cons]; omega)) (by simp))
  rw [show decide ((s : List UInt8).take ([60] : List UInt8).length = [60]) = false from decide_eq_false h1] at HA0
  have HA1 := hid (fun w (hr : Rd w q s false) => rhas_any q s [95, 58] false w hr (by first | omega | (simp only [List.length_cons]; omega)) (by simp))
  rw [show decide ((s : List UInt8).take ([95, 58] : List UInt8).length = [95, 58]) = false from decide_eq_false h2] at HA1
  have HA2 := hid (fun w (hr : Rd w q s false) => rhas_any q s [34] false w hr (by first | omega | (simp only [List.length_cons]; omega)) (by simp))
  rw [show decide ((s : List UInt8).take ([34] : List UInt8).length = [34]) = false from decide_eq_false h3] at HA2
  have IS := hid (fun w h => ris_any 0 [] [] w (by simp) (by simp) h)
  rw [show Tm.is 0 [] [] = false from rfl] at IS
  have FA := hid (fun w (h : Rd w q s false) => rfail_any q s false w h)
  have BL := hid (fun w (h : Rd w q [] true) => rblanks_any q [] true w h (by simp))
  clear hr h1 h2 h3
  go_enter Tryz.func135, Tryz.ntmps135
  have hlt := (HR.out).lt
  have HB2 := hid (show But q w ((w.alloc (.cells #[.int .i64 0, .string ⟨#[]⟩, .string ⟨#[]⟩] 61)).alloc (.cells #[.int .i64 0, .string ⟨#[]⟩, .string ⟨#[]⟩] 61)) from But.below (((Below.refl w.heap.size w).alloc (Nat.le_refl _) _).alloc (by simp) _))
  have HT2 := hid ((Blk.new w [.int .i64 0, str [], str []] 61).alloc (.cells #[.int .i64 0, .string ⟨#[]⟩, .string ⟨#[]⟩] 61))
  have HU2 := hid (show Blk ((w.alloc (.cells #[.int .i64 0, .string ⟨#[]⟩, .string ⟨#[]⟩] 61)).alloc (.cells #[.int .i64 0, .string ⟨#[]⟩, .string ⟨#[]⟩] 61)) (w.heap.size + 1) [.int .i64 0, str [], str []] 61 from Blk.new' (by simp) rfl)
  have HR2 := hid ((HR.out.keep ((Below.refl _ _).alloc (Nat.le_refl _) (.cells #[.int .i64 0, .string ⟨#[]⟩, .string ⟨#[]⟩] 61))).keep ((Below.refl _ _).alloc (Nat.le_refl _) (.cells #[.int .i64 0, .string ⟨#[]⟩, .string ⟨#[]⟩] 61)))
  have hq2 : q ≠ w.heap.size + 1 := by omega
  have hq0 : q ≠ w.heap.size := by omega
  go_wp2_with fail
  refine (HA0.out _ HR2.out).mono ?_
  rintro e w3 ⟨rfl, rfl⟩
  go_wp2_with fail
  refine (HA1.out _ HR2.out).mono ?_
  rintro e w3 ⟨rfl, rfl⟩
  go_wp2_with fail
  refine (HA2.out _ HR2.out).mono ?_
  rintro e w3 ⟨rfl, rfl⟩
  obtain ⟨w6, hw6⟩ : ∃ w6, w6 = (w.alloc (.cells #[.int .i64 0, .string ⟨#[]⟩, .string ⟨#[]⟩] 61)).alloc (.cells #[.int .i64 0, .string ⟨#[]⟩, .string ⟨#[]⟩] 61) := ⟨_, rfl⟩
  rw [← hw6] at HB2 HT2 HU2 HR2 ⊢
  clear hw6
  have HU6 := HU2
  have HT6 := HT2
  have HR6 := HR2
  have HB6 := HB2
  have d0 := HU6.out.cell (i := 0) rfl
  have d1 := HU6.out.cell (i := 1) rfl
  have d2 := HU6.out.cell (i := 2) rfl
  have e0 := HU6.out.free 0
  have e1 := HU6.out.free 1
  have e2 := HU6.out.free 2
  obtain ⟨r0, r1, p0, p1⟩ := HR6.out.cells
  go_wp2_with fail
  refine (IS.out _ (hbase.vars_at HB6.out)).mono ?_
  rintro e w7 ⟨rfl, hb⟩
  have HB7 := hid (HB6.out.trans (But.below hb))
  have HT7 := hid (HT6.out.keep hb)
  have HU7 := hid (HU6.out.keep hb)
  have HR7 := hid (HR6.out.keep hb)
  clear hb d0 d1 d2 e0 e1 e2 r0 r1 p0 p1
  go_wp2_with fail
  refine (FA.out _ HR7.out).mono ?_
  rintro e w8 ⟨rfl, hr8, hb⟩
  have HB8 := hid (HB7.out.trans hb)
  have HT8 := hid (But.blk HT7.out hb (by omega))
  have HU8 := hid (But.blk HU7.out hb (by omega))
  have HR8 := hid hr8
  clear hb hr8
  go_wp2_with fail
  refine (BL.out _ HR8.out).mono ?_
  rintro e w9 ⟨rfl, hr9, hb⟩
  have HB9 := hid (HB8.out.trans hb)
  have HT9 := hid (But.blk HT8.out hb (by omega))
  have HU9 := hid (But.blk HU8.out hb (by omega))
  have HR9 := hid hr9
  clear hb hr9
  have d0 := HU9.out.cell (i := 0) rfl
  have d1 := HU9.out.cell (i := 1) rfl
  have d2 := HU9.out.cell (i := 2) rfl
  have g0 := HT9.out.cell (i := 0) rfl
  have g1 := HT9.out.cell (i := 1) rfl
  have g2 := HT9.out.cell (i := 2) rfl
  have k0 := HT9.out.free 0
  have k1 := HT9.out.free 1
  have k2 := HT9.out.free 2
  go_wp2
  have HX := lit_end (hT := HT9.out) (v0 := .int .i64 0) (v1 := .string ⟨([] : List UInt8).toArray⟩) (v2 := .string ⟨([] : List UInt8).toArray⟩) (hq := HR9.out) (hne := by omega) (hB := HB9.out) (hb := Nat.le_refl _)
  obtain ⟨hx1, hx2, hx3⟩ := HX
  exact bodyPost_ret (v := tmV 0 [] []) (struct_ret rfl hx1 Tryz.results135) rfl ⟨hx3, ⟨0, [], [], rfl⟩, hx2⟩
set_option maxHeartbeats 4000000 in
theorem rterm_err (q : Nat) (w : World) (hr : Rd w q [] true) :
    Calls Tryz.prog 135 #[rdp q] w (LitPost q w none) := by
  have HR := hid hr
  have HA0 := hid (fun w (hr : Rd w q [] true) => rhas_any q [] [60] true w hr (by simp) (by simp))
  rw [show decide (([] : List UInt8).take ([60] : List UInt8).length = [60]) = false from by decide] at HA0
  have HA1 := hid (fun w (hr : Rd w q [] true) => rhas_any q [] [95, 58] true w hr (by simp) (by simp))
  rw [show decide (([] : List UInt8).take ([95, 58] : List UInt8).length = [95, 58]) = false from by decide] at HA1
  have HA2 := hid (fun w (hr : Rd w q [] true) => rhas_any q [] [34] true w hr (by simp) (by simp))
  rw [show decide (([] : List UInt8).take ([34] : List UInt8).length = [34]) = false from by decide] at HA2
  have BL := hid (fun w (h : Rd w q [] true) => rblanks_any q [] true w h (by simp))
  clear hr
  go_enter Tryz.func135, Tryz.ntmps135
  have hlt := (HR.out).lt
  have HB2 := hid (show But q w ((w.alloc (.cells #[.int .i64 0, .string ⟨#[]⟩, .string ⟨#[]⟩] 61)).alloc (.cells #[.int .i64 0, .string ⟨#[]⟩, .string ⟨#[]⟩] 61)) from But.below (((Below.refl w.heap.size w).alloc (Nat.le_refl _) _).alloc (by simp) _))
  have HT2 := hid ((Blk.new w [.int .i64 0, str [], str []] 61).alloc (.cells #[.int .i64 0, .string ⟨#[]⟩, .string ⟨#[]⟩] 61))
  have HU2 := hid (show Blk ((w.alloc (.cells #[.int .i64 0, .string ⟨#[]⟩, .string ⟨#[]⟩] 61)).alloc (.cells #[.int .i64 0, .string ⟨#[]⟩, .string ⟨#[]⟩] 61)) (w.heap.size + 1) [.int .i64 0, str [], str []] 61 from Blk.new' (by simp) rfl)
  have HR2 := hid ((HR.out.keep ((Below.refl _ _).alloc (Nat.le_refl _) (.cells #[.int .i64 0, .string ⟨#[]⟩, .string ⟨#[]⟩] 61))).keep ((Below.refl _ _).alloc (Nat.le_refl _) (.cells #[.int .i64 0, .string ⟨#[]⟩, .string ⟨#[]⟩] 61)))
  have hq2 : q ≠ w.heap.size + 1 := by omega
  have hq0 : q ≠ w.heap.size := by omega
  go_wp2_with fail
  refine (HA0.out _ HR2.out).mono ?_
  rintro e w3 ⟨rfl, rfl⟩
  go_wp2_with fail
  refine (HA1.out _ HR2.out).mono ?_
  rintro e w3 ⟨rfl, rfl⟩
  go_wp2_with fail
  refine (HA2.out _ HR2.out).mono ?_
  rintro e w3 ⟨rfl, rfl⟩
  obtain ⟨w6, hw6⟩ : ∃ w6, w6 = (w.alloc (.cells #[.int .i64 0, .string ⟨#[]⟩, .string ⟨#[]⟩] 61)).alloc (.cells #[.int .i64 0, .string ⟨#[]⟩, .string ⟨#[]⟩] 61) := ⟨_, rfl⟩
  rw [← hw6] at HB2 HT2 HU2 HR2 ⊢
  clear hw6
  have HU6 := HU2
  have HT6 := HT2
  have HR6 := HR2
  have HB6 := HB2
  have d0 := HU6.out.cell (i := 0) rfl
  have d1 := HU6.out.cell (i := 1) rfl
  have d2 := HU6.out.cell (i := 2) rfl
  have e0 := HU6.out.free 0
  have e1 := HU6.out.free 1
  have e2 := HU6.out.free 2
  obtain ⟨r0, r1, p0, p1⟩ := HR6.out.cells
  have HB7 := HB6
  have HT7 := HT6
  have HU7 := HU6
  have HR7 := HR6
  have HB8 := HB7
  have HT8 := HT7
  have HU8 := HU7
  have HR8 := HR7
  go_wp2_with fail
  refine (BL.out _ HR8.out).mono ?_
  rintro e w9 ⟨rfl, hr9, hb⟩
  have HB9 := hid (HB8.out.trans hb)
  have HT9 := hid (But.blk HT8.out hb (by omega))
  have HU9 := hid (But.blk HU8.out hb (by omega))
  have HR9 := hid hr9
  clear hb hr9
  clear d0 d1 d2 e0 e1 e2 r0 r1 p0 p1
  have d0 := HU9.out.cell (i := 0) rfl
  have d1 := HU9.out.cell (i := 1) rfl
  have d2 := HU9.out.cell (i := 2) rfl
  have g0 := HT9.out.cell (i := 0) rfl
  have g1 := HT9.out.cell (i := 1) rfl
  have g2 := HT9.out.cell (i := 2) rfl
  have k0 := HT9.out.free 0
  have k1 := HT9.out.free 1
  have k2 := HT9.out.free 2
  go_wp2
  have HX := lit_end (hT := HT9.out) (v0 := .int .i64 0) (v1 := .string ⟨([] : List UInt8).toArray⟩) (v2 := .string ⟨([] : List UInt8).toArray⟩) (hq := HR9.out) (hne := by omega) (hB := HB9.out) (hb := Nat.le_refl _)
  obtain ⟨hx1, hx2, hx3⟩ := HX
  exact bodyPost_ret (v := tmV 0 [] []) (struct_ret rfl hx1 Tryz.results135) rfl ⟨hx3, ⟨0, [], [], rfl⟩, hx2⟩
set_option maxHeartbeats 4000000 in
theorem rterm_iri_ok (q : Nat) (s : List UInt8) (w W0 : World) (hbase : Base0 W0 w q) (hl : s.length ≤ 10000000) (u t v : List UInt8) (hs : s = 60 :: u) (hr : Rd w q s false) (hu : Tm.upU 62 false u = some (t, v)) (hi : Tm.is 1 t [] = true) :
    Calls Tryz.prog 135 #[rdp q] w (LitPost q w (Tm.rtermB s)) := by
  subst hs
  simp only [List.length_cons] at hl
  have HN := hid (show Tm.rtermB (60 :: u) = some (1, t, [], v.dropWhile blankC) by unfold Tm.rtermB; rw [Tm.rterm_up62, hu]; simp only [Option.map_some]; rw [if_pos (show Tm.is ((1 : Nat) : Int) t [] = true from hi)])
  rw [HN.out]
  have HR := hid hr
  have hlen := Tm.upU_len u.length (Nat.le_refl _) hu
  have UP := hid (fun w (hr : Rd w q u false) => rup_any q u false 62 false w hr (by omega) (by decide) (by decide))
  rw [hu] at UP
  have HA0 := hid (fun w (hr : Rd w q (60 :: u) false) => rhas_any q (60 :: u) [60] false w hr (by first | omega | (simp only [List.length_cons]; omega)) (by simp))
  rw [show decide (((60 :: u) : List UInt8).take ([60] : List UInt8).length = [60]) = true from decide_eq_true rfl] at HA0
  have UP2 : Hid (∀ w, Rd w q u false → Calls Tryz.prog 183 #[rdp q, .int .u8 62, .bool false] w fun x w' => x = .returned (str t) ∧ Rd w' q v false ∧ But q w w') := UP
  clear UP
  have IS := hid (fun w h => ris_any 1 t [] w (by omega) (by simp) h)
  rw [hi] at IS
  have BL := hid (fun w (h : Rd w q v false) => rblanks_any q v false w h (by omega))
  have hex : (⟨(60 :: u).toArray⟩ : ByteArray).extract 1 (u.length + 1) = ⟨u.toArray⟩ := by
    have := ba_drop (60 :: u) 1
    simpa using this
  have hul : u.length + 1 ≤ 9223372036854775807 := by omega
  have hu1 : (1 : Int) ≤ (u.length : Int) + 1 := by omega
  clear hr hu hlen hi
  go_enter Tryz.func135, Tryz.ntmps135
  have hlt := (HR.out).lt
  have HB2 := hid (show But q w ((w.alloc (.cells #[.int .i64 0, .string ⟨#[]⟩, .string ⟨#[]⟩] 61)).alloc (.cells #[.int .i64 0, .string ⟨#[]⟩, .string ⟨#[]⟩] 61)) from But.below (((Below.refl w.heap.size w).alloc (Nat.le_refl _) _).alloc (by simp) _))
  have HT2 := hid ((Blk.new w [.int .i64 0, str [], str []] 61).alloc (.cells #[.int .i64 0, .string ⟨#[]⟩, .string ⟨#[]⟩] 61))
  have HU2 := hid (show Blk ((w.alloc (.cells #[.int .i64 0, .string ⟨#[]⟩, .string ⟨#[]⟩] 61)).alloc (.cells #[.int .i64 0, .string ⟨#[]⟩, .string ⟨#[]⟩] 61)) (w.heap.size + 1) [.int .i64 0, str [], str []] 61 from Blk.new' (by simp) rfl)
  have HR2 := hid ((HR.out.keep ((Below.refl _ _).alloc (Nat.le_refl _) (.cells #[.int .i64 0, .string ⟨#[]⟩, .string ⟨#[]⟩] 61))).keep ((Below.refl _ _).alloc (Nat.le_refl _) (.cells #[.int .i64 0, .string ⟨#[]⟩, .string ⟨#[]⟩] 61)))
  have hq2 : q ≠ w.heap.size + 1 := by omega
  have hq0 : q ≠ w.heap.size := by omega
  go_wp2_with fail
  refine (HA0.out _ HR2.out).mono ?_
  rintro e w3 ⟨rfl, rfl⟩
  obtain ⟨w2, hw2⟩ : ∃ w2, w2 = (w.alloc (.cells #[.int .i64 0, .string ⟨#[]⟩, .string ⟨#[]⟩] 61)).alloc (.cells #[.int .i64 0, .string ⟨#[]⟩, .string ⟨#[]⟩] 61) := ⟨_, rfl⟩
  rw [← hw2] at HB2 HT2 HU2 HR2 ⊢
  clear hw2
  obtain ⟨c0, c1, p2, p3⟩ := HR2.out.cells
  go_wp2_with fail
  refine (UP2.out _ (HR2.out.set0 (t := u))).mono ?_
  rintro e w5 ⟨rfl, hr5, hb5⟩
  clear c0 c1 p2 p3
  have HU5 := hid (But.blk (Blk.other HU2.out (Ne.symm hq2) 0 (str u)) hb5 (Ne.symm hq2))
  have HT5 := hid (But.blk (Blk.other HT2.out (by omega) 0 (str u)) hb5 (by omega))
  have HB5 := hid ((HB2.out.trans (But.set q _ 0 (str u))).trans hb5)
  have HR5 := hid hr5
  clear hr5 hb5
  have j0 := HU5.out.cell (i := 0) rfl
  have j1 := HU5.out.cell (i := 1) rfl
  have j2 := HU5.out.cell (i := 2) rfl
  have f0 := HU5.out.free 0
  have f1 := HU5.out.free 1
  have f2 := HU5.out.free 2
  obtain ⟨s0, s1, s2, s3⟩ := HR5.out.cells
  have hq2' : w.heap.size + 1 ≠ q := Ne.symm hq2
  have HU6 := hid (((HU5.out.set 0 (.int .i64 1)).set 1 (.string ⟨(t : List UInt8).toArray⟩)).set 2 (.string ⟨([] : List UInt8).toArray⟩))
  have HT6 := hid (Blk.other (Blk.other (Blk.other HT5.out (c := w.heap.size + 1) (by omega) 0 (.int .i64 1)) (c := w.heap.size + 1) (by omega) 1 (.string ⟨(t : List UInt8).toArray⟩)) (c := w.heap.size + 1) (by omega) 2 (.string ⟨([] : List UInt8).toArray⟩))
  have HR6 := hid (show Rd _ q _ _ from Blk.other (Blk.other (Blk.other HR5.out hq2 0 (.int .i64 1)) hq2 1 (.string ⟨(t : List UInt8).toArray⟩)) hq2 2 (.string ⟨([] : List UInt8).toArray⟩))
  have HB6 := hid (((HB5.out.fresh (b := w.heap.size + 1) (by omega) 0 (.int .i64 1)).fresh (b := w.heap.size + 1) (by omega) 1 (.string ⟨(t : List UInt8).toArray⟩)).fresh (b := w.heap.size + 1) (by omega) 2 (.string ⟨([] : List UInt8).toArray⟩))
  go_wp2_with fail
  obtain ⟨w6, hw6⟩ : ∃ w6, w6 = (((w5.setCell ⟨w.heap.size + 1, 0, none⟩ (.int .i64 1)).setCell ⟨w.heap.size + 1, 1, none⟩ (.string ⟨(t : List UInt8).toArray⟩)).setCell ⟨w.heap.size + 1, 2, none⟩ (.string ⟨([] : List UInt8).toArray⟩)) := ⟨_, rfl⟩
  rw [← hw6] at HB6 HT6 HU6 HR6 ⊢
  clear hw6 j0 j1 j2 f0 f1 f2 s0 s1 s2 s3
  have d0 := HU6.out.cell (i := 0) rfl
  have d1 := HU6.out.cell (i := 1) rfl
  have d2 := HU6.out.cell (i := 2) rfl
  have e0 := HU6.out.free 0
  have e1 := HU6.out.free 1
  have e2 := HU6.out.free 2
  obtain ⟨r0, r1, p0, p1⟩ := HR6.out.cells
  go_wp2_with fail
  refine (IS.out _ (hbase.vars_at HB6.out)).mono ?_
  rintro e w7 ⟨rfl, hb⟩
  have HB7 := hid (HB6.out.trans (But.below hb))
  have HT7 := hid (HT6.out.keep hb)
  have HU7 := hid (HU6.out.keep hb)
  have HR7 := hid (HR6.out.keep hb)
  clear hb d0 d1 d2 e0 e1 e2 r0 r1 p0 p1
  have HB8 := HB7
  have HT8 := HT7
  have HU8 := HU7
  have HR8 := HR7
  go_wp2_with fail
  refine (BL.out _ HR8.out).mono ?_
  rintro e w9 ⟨rfl, hr9, hb⟩
  have HB9 := hid (HB8.out.trans hb)
  have HT9 := hid (But.blk HT8.out hb (by omega))
  have HU9 := hid (But.blk HU8.out hb (by omega))
  have HR9 := hid hr9
  clear hb hr9
  have d0 := HU9.out.cell (i := 0) rfl
  have d1 := HU9.out.cell (i := 1) rfl
  have d2 := HU9.out.cell (i := 2) rfl
  have g0 := HT9.out.cell (i := 0) rfl
  have g1 := HT9.out.cell (i := 1) rfl
  have g2 := HT9.out.cell (i := 2) rfl
  have k0 := HT9.out.free 0
  have k1 := HT9.out.free 1
  have k2 := HT9.out.free 2
  go_wp2
  have HX := lit_end (hT := HT9.out) (v0 := .int .i64 1) (v1 := .string ⟨(t : List UInt8).toArray⟩) (v2 := .string ⟨([] : List UInt8).toArray⟩) (hq := HR9.out) (hne := by omega) (hB := HB9.out) (hb := Nat.le_refl _)
  obtain ⟨hx1, hx2, hx3⟩ := HX
  exact bodyPost_ret (v := tmV 1 t []) (struct_ret rfl hx1 Tryz.results135) rfl ⟨hx3, rfl, hx2⟩
set_option maxHeartbeats 4000000 in
theorem rterm_iri_bad (q : Nat) (s : List UInt8) (w W0 : World) (hbase : Base0 W0 w q) (hl : s.length ≤ 10000000) (u t v : List UInt8) (hs : s = 60 :: u) (hr : Rd w q s false) (hu : Tm.upU 62 false u = some (t, v)) (hi : Tm.is 1 t [] = false) :
    Calls Tryz.prog 135 #[rdp q] w (LitPost q w (Tm.rtermB s)) := by
  subst hs
  simp only [List.length_cons] at hl
  have HN := hid (show Tm.rtermB (60 :: u) = none by unfold Tm.rtermB; rw [Tm.rterm_up62, hu]; simp only [Option.map_some]; rw [if_neg (show ¬ Tm.is ((1 : Nat) : Int) t [] = true by rw [show Tm.is ((1 : Nat) : Int) t [] = false from hi]; decide)])
  rw [HN.out]
  have HR := hid hr
  have hlen := Tm.upU_len u.length (Nat.le_refl _) hu
  have UP := hid (fun w (hr : Rd w q u false) => rup_any q u false 62 false w hr (by omega) (by decide) (by decide))
  rw [hu] at UP
  have HA0 := hid (fun w (hr : Rd w q (60 :: u) false) => rhas_any q (60 :: u) [60] false w hr (by first | omega | (simp only [List.length_cons]; omega)) (by simp))
  rw [show decide (((60 :: u) : List UInt8).take ([60] : List UInt8).length = [60]) = true from decide_eq_true rfl] at HA0
  have UP2 : Hid (∀ w, Rd w q u false → Calls Tryz.prog 183 #[rdp q, .int .u8 62, .bool false] w fun x w' => x = .returned (str t) ∧ Rd w' q v false ∧ But q w w') := UP
  clear UP
  have IS := hid (fun w h => ris_any 1 t [] w (by omega) (by simp) h)
  rw [hi] at IS
  have FA := hid (fun w (h : Rd w q v false) => rfail_any q v false w h)
  have BL := hid (fun w (h : Rd w q [] true) => rblanks_any q [] true w h (by simp))
  have hex : (⟨(60 :: u).toArray⟩ : ByteArray).extract 1 (u.length + 1) = ⟨u.toArray⟩ := by
    have := ba_drop (60 :: u) 1
    simpa using this
  have hul : u.length + 1 ≤ 9223372036854775807 := by omega
  have hu1 : (1 : Int) ≤ (u.length : Int) + 1 := by omega
  clear hr hu hlen hi
  go_enter Tryz.func135, Tryz.ntmps135
  have hlt := (HR.out).lt
  have HB2 := hid (show But q w ((w.alloc (.cells #[.int .i64 0, .string ⟨#[]⟩, .string ⟨#[]⟩] 61)).alloc (.cells #[.int .i64 0, .string ⟨#[]⟩, .string ⟨#[]⟩] 61)) from But.below (((Below.refl w.heap.size w).alloc (Nat.le_refl _) _).alloc (by simp) _))
  have HT2 := hid ((Blk.new w [.int .i64 0, str [], str []] 61).alloc (.cells #[.int .i64 0, .string ⟨#[]⟩, .string ⟨#[]⟩] 61))
  have HU2 := hid (show Blk ((w.alloc (.cells #[.int .i64 0, .string ⟨#[]⟩, .string ⟨#[]⟩] 61)).alloc (.cells #[.int .i64 0, .string ⟨#[]⟩, .string ⟨#[]⟩] 61)) (w.heap.size + 1) [.int .i64 0, str [], str []] 61 from Blk.new' (by simp) rfl)
  have HR2 := hid ((HR.out.keep ((Below.refl _ _).alloc (Nat.le_refl _) (.cells #[.int .i64 0, .string ⟨#[]⟩, .string ⟨#[]⟩] 61))).keep ((Below.refl _ _).alloc (Nat.le_refl _) (.cells #[.int .i64 0, .string ⟨#[]⟩, .string ⟨#[]⟩] 61)))
  have hq2 : q ≠ w.heap.size + 1 := by omega
  have hq0 : q ≠ w.heap.size := by omega
  go_wp2_with fail
  refine (HA0.out _ HR2.out).mono ?_
  rintro e w3 ⟨rfl, rfl⟩
  obtain ⟨w2, hw2⟩ : ∃ w2, w2 = (w.alloc (.cells #[.int .i64 0, .string ⟨#[]⟩, .string ⟨#[]⟩] 61)).alloc (.cells #[.int .i64 0, .string ⟨#[]⟩, .string ⟨#[]⟩] 61) := ⟨_, rfl⟩
  rw [← hw2] at HB2 HT2 HU2 HR2 ⊢
  clear hw2
  obtain ⟨c0, c1, p2, p3⟩ := HR2.out.cells
  go_wp2_with fail
  refine (UP2.out _ (HR2.out.set0 (t := u))).mono ?_
  rintro e w5 ⟨rfl, hr5, hb5⟩
  clear c0 c1 p2 p3
  have HU5 := hid (But.blk (Blk.other HU2.out (Ne.symm hq2) 0 (str u)) hb5 (Ne.symm hq2))
  have HT5 := hid (But.blk (Blk.other HT2.out (by omega) 0 (str u)) hb5 (by omega))
  have HB5 := hid ((HB2.out.trans (But.set q _ 0 (str u))).trans hb5)
  have HR5 := hid hr5
  clear hr5 hb5
  have j0 := HU5.out.cell (i := 0) rfl
  have j1 := HU5.out.cell (i := 1) rfl
  have j2 := HU5.out.cell (i := 2) rfl
  have f0 := HU5.out.free 0
  have f1 := HU5.out.free 1
  have f2 := HU5.out.free 2
  obtain ⟨s0, s1, s2, s3⟩ := HR5.out.cells
  have hq2' : w.heap.size + 1 ≠ q := Ne.symm hq2
  have HU6 := hid (((HU5.out.set 0 (.int .i64 1)).set 1 (.string ⟨(t : List UInt8).toArray⟩)).set 2 (.string ⟨([] : List UInt8).toArray⟩))
  have HT6 := hid (Blk.other (Blk.other (Blk.other HT5.out (c := w.heap.size + 1) (by omega) 0 (.int .i64 1)) (c := w.heap.size + 1) (by omega) 1 (.string ⟨(t : List UInt8).toArray⟩)) (c := w.heap.size + 1) (by omega) 2 (.string ⟨([] : List UInt8).toArray⟩))
  have HR6 := hid (show Rd _ q _ _ from Blk.other (Blk.other (Blk.other HR5.out hq2 0 (.int .i64 1)) hq2 1 (.string ⟨(t : List UInt8).toArray⟩)) hq2 2 (.string ⟨([] : List UInt8).toArray⟩))
  have HB6 := hid (((HB5.out.fresh (b := w.heap.size + 1) (by omega) 0 (.int .i64 1)).fresh (b := w.heap.size + 1) (by omega) 1 (.string ⟨(t : List UInt8).toArray⟩)).fresh (b := w.heap.size + 1) (by omega) 2 (.string ⟨([] : List UInt8).toArray⟩))
  go_wp2_with fail
  obtain ⟨w6, hw6⟩ : ∃ w6, w6 = (((w5.setCell ⟨w.heap.size + 1, 0, none⟩ (.int .i64 1)).setCell ⟨w.heap.size + 1, 1, none⟩ (.string ⟨(t : List UInt8).toArray⟩)).setCell ⟨w.heap.size + 1, 2, none⟩ (.string ⟨([] : List UInt8).toArray⟩)) := ⟨_, rfl⟩
  rw [← hw6] at HB6 HT6 HU6 HR6 ⊢
  clear hw6 j0 j1 j2 f0 f1 f2 s0 s1 s2 s3
  have d0 := HU6.out.cell (i := 0) rfl
  have d1 := HU6.out.cell (i := 1) rfl
  have d2 := HU6.out.cell (i := 2) rfl
  have e0 := HU6.out.free 0
  have e1 := HU6.out.free 1
  have e2 := HU6.out.free 2
  obtain ⟨r0, r1, p0, p1⟩ := HR6.out.cells
  go_wp2_with fail
  refine (IS.out _ (hbase.vars_at HB6.out)).mono ?_
  rintro e w7 ⟨rfl, hb⟩
  have HB7 := hid (HB6.out.trans (But.below hb))
  have HT7 := hid (HT6.out.keep hb)
  have HU7 := hid (HU6.out.keep hb)
  have HR7 := hid (HR6.out.keep hb)
  clear hb d0 d1 d2 e0 e1 e2 r0 r1 p0 p1
  go_wp2_with fail
  refine (FA.out _ HR7.out).mono ?_
  rintro e w8 ⟨rfl, hr8, hb⟩
  have HB8 := hid (HB7.out.trans hb)
  have HT8 := hid (But.blk HT7.out hb (by omega))
  have HU8 := hid (But.blk HU7.out hb (by omega))
  have HR8 := hid hr8
  clear hb hr8
  go_wp2_with fail
  refine (BL.out _ HR8.out).mono ?_
  rintro e w9 ⟨rfl, hr9, hb⟩
  have HB9 := hid (HB8.out.trans hb)
  have HT9 := hid (But.blk HT8.out hb (by omega))
  have HU9 := hid (But.blk HU8.out hb (by omega))
  have HR9 := hid hr9
  clear hb hr9
  have d0 := HU9.out.cell (i := 0) rfl
  have d1 := HU9.out.cell (i := 1) rfl
  have d2 := HU9.out.cell (i := 2) rfl
  have g0 := HT9.out.cell (i := 0) rfl
  have g1 := HT9.out.cell (i := 1) rfl
  have g2 := HT9.out.cell (i := 2) rfl
  have k0 := HT9.out.free 0
  have k1 := HT9.out.free 1
  have k2 := HT9.out.free 2
  go_wp2
  have HX := lit_end (hT := HT9.out) (v0 := .int .i64 1) (v1 := .string ⟨(t : List UInt8).toArray⟩) (v2 := .string ⟨([] : List UInt8).toArray⟩) (hq := HR9.out) (hne := by omega) (hB := HB9.out) (hb := Nat.le_refl _)
  obtain ⟨hx1, hx2, hx3⟩ := HX
  exact bodyPost_ret (v := tmV 1 t []) (struct_ret rfl hx1 Tryz.results135) rfl ⟨hx3, ⟨1, t, [], rfl⟩, hx2⟩
set_option maxHeartbeats 4000000 in
theorem rterm_iri_err (q : Nat) (s : List UInt8) (w W0 : World) (hbase : Base0 W0 w q) (hl : s.length ≤ 10000000) (u : List UInt8) (hs : s = 60 :: u) (hr : Rd w q s false) (hu : Tm.upU 62 false u = none) :
    Calls Tryz.prog 135 #[rdp q] w (LitPost q w (Tm.rtermB s)) := by
  subst hs
  simp only [List.length_cons] at hl
  have HN := hid (show Tm.rtermB (60 :: u) = none by unfold Tm.rtermB; rw [Tm.rterm_up62, hu]; rfl)
  rw [HN.out]
  have HR := hid hr
  have UP := hid (fun w (hr : Rd w q u false) => rup_any q u false 62 false w hr (by omega) (by decide) (by decide))
  rw [hu] at UP
  have HA0 := hid (fun w (hr : Rd w q (60 :: u) false) => rhas_any q (60 :: u) [60] false w hr (by first | omega | (simp only [List.length_cons]; omega)) (by simp))
  rw [show decide (((60 :: u) : List UInt8).take ([60] : List UInt8).length = [60]) = true from decide_eq_true rfl] at HA0
  have UP2 : Hid (∀ w, Rd w q u false → Calls Tryz.prog 183 #[rdp q, .int .u8 62, .bool false] w fun x w' => x = .returned (str []) ∧ Rd w' q [] true ∧ But q w w') := UP
  clear UP
  have BL := hid (fun w (h : Rd w q [] true) => rblanks_any q [] true w h (by simp))
  have hex : (⟨(60 :: u).toArray⟩ : ByteArray).extract 1 (u.length + 1) = ⟨u.toArray⟩ := by
    have := ba_drop (60 :: u) 1
    simpa using this
  have hul : u.length + 1 ≤ 9223372036854775807 := by omega
  have hu1 : (1 : Int) ≤ (u.length : Int) + 1 := by omega
  clear hr hu
  go_enter Tryz.func135, Tryz.ntmps135
  have hlt := (HR.out).lt
  have HB2 := hid (show But q w ((w.alloc (.cells #[.int .i64 0, .string ⟨#[]⟩, .string ⟨#[]⟩] 61)).alloc (.cells #[.int .i64 0, .string ⟨#[]⟩, .string ⟨#[]⟩] 61)) from But.below (((Below.refl w.heap.size w).alloc (Nat.le_refl _) _).alloc (by simp) _))
  have HT2 := hid ((Blk.new w [.int .i64 0, str [], str []] 61).alloc (.cells #[.int .i64 0, .string ⟨#[]⟩, .string ⟨#[]⟩] 61))
  have HU2 := hid (show Blk ((w.alloc (.cells #[.int .i64 0, .string ⟨#[]⟩, .string ⟨#[]⟩] 61)).alloc (.cells #[.int .i64 0, .string ⟨#[]⟩, .string ⟨#[]⟩] 61)) (w.heap.size + 1) [.int .i64 0, str [], str []] 61 from Blk.new' (by simp) rfl)
  have HR2 := hid ((HR.out.keep ((Below.refl _ _).alloc (Nat.le_refl _) (.cells #[.int .i64 0, .string ⟨#[]⟩, .string ⟨#[]⟩] 61))).keep ((Below.refl _ _).alloc (Nat.le_refl _) (.cells #[.int .i64 0, .string ⟨#[]⟩, .string ⟨#[]⟩] 61)))
  have hq2 : q ≠ w.heap.size + 1 := by omega
  have hq0 : q ≠ w.heap.size := by omega
  go_wp2_with fail
  refine (HA0.out _ HR2.out).mono ?_
  rintro e w3 ⟨rfl, rfl⟩
  obtain ⟨w2, hw2⟩ : ∃ w2, w2 = (w.alloc (.cells #[.int .i64 0, .string ⟨#[]⟩, .string ⟨#[]⟩] 61)).alloc (.cells #[.int .i64 0, .string ⟨#[]⟩, .string ⟨#[]⟩] 61) := ⟨_, rfl⟩
  rw [← hw2] at HB2 HT2 HU2 HR2 ⊢
  clear hw2
  obtain ⟨c0, c1, p2, p3⟩ := HR2.out.cells
  go_wp2_with fail
  refine (UP2.out _ (HR2.out.set0 (t := u))).mono ?_
  rintro e w5 ⟨rfl, hr5, hb5⟩
  clear c0 c1 p2 p3
  have HU5 := hid (But.blk (Blk.other HU2.out (Ne.symm hq2) 0 (str u)) hb5 (Ne.symm hq2))
  have HT5 := hid (But.blk (Blk.other HT2.out (by omega) 0 (str u)) hb5 (by omega))
  have HB5 := hid ((HB2.out.trans (But.set q _ 0 (str u))).trans hb5)
  have HR5 := hid hr5
  clear hr5 hb5
  have j0 := HU5.out.cell (i := 0) rfl
  have j1 := HU5.out.cell (i := 1) rfl
  have j2 := HU5.out.cell (i := 2) rfl
  have f0 := HU5.out.free 0
  have f1 := HU5.out.free 1
  have f2 := HU5.out.free 2
  obtain ⟨s0, s1, s2, s3⟩ := HR5.out.cells
  have hq2' : w.heap.size + 1 ≠ q := Ne.symm hq2
  have HU6 := hid (((HU5.out.set 0 (.int .i64 1)).set 1 (.string ⟨([] : List UInt8).toArray⟩)).set 2 (.string ⟨([] : List UInt8).toArray⟩))
  have HT6 := hid (Blk.other (Blk.other (Blk.other HT5.out (c := w.heap.size + 1) (by omega) 0 (.int .i64 1)) (c := w.heap.size + 1) (by omega) 1 (.string ⟨([] : List UInt8).toArray⟩)) (c := w.heap.size + 1) (by omega) 2 (.string ⟨([] : List UInt8).toArray⟩))
  have HR6 := hid (show Rd _ q _ _ from Blk.other (Blk.other (Blk.other HR5.out hq2 0 (.int .i64 1)) hq2 1 (.string ⟨([] : List UInt8).toArray⟩)) hq2 2 (.string ⟨([] : List UInt8).toArray⟩))
  have HB6 := hid (((HB5.out.fresh (b := w.heap.size + 1) (by omega) 0 (.int .i64 1)).fresh (b := w.heap.size + 1) (by omega) 1 (.string ⟨([] : List UInt8).toArray⟩)).fresh (b := w.heap.size + 1) (by omega) 2 (.string ⟨([] : List UInt8).toArray⟩))
  go_wp2_with fail
  obtain ⟨w6, hw6⟩ : ∃ w6, w6 = (((w5.setCell ⟨w.heap.size + 1, 0, none⟩ (.int .i64 1)).setCell ⟨w.heap.size + 1, 1, none⟩ (.string ⟨([] : List UInt8).toArray⟩)).setCell ⟨w.heap.size + 1, 2, none⟩ (.string ⟨([] : List UInt8).toArray⟩)) := ⟨_, rfl⟩
  rw [← hw6] at HB6 HT6 HU6 HR6 ⊢
  clear hw6 j0 j1 j2 f0 f1 f2 s0 s1 s2 s3
  have d0 := HU6.out.cell (i := 0) rfl
  have d1 := HU6.out.cell (i := 1) rfl
  have d2 := HU6.out.cell (i := 2) rfl
  have e0 := HU6.out.free 0
  have e1 := HU6.out.free 1
  have e2 := HU6.out.free 2
  obtain ⟨r0, r1, p0, p1⟩ := HR6.out.cells
  have HB7 := HB6
  have HT7 := HT6
  have HU7 := HU6
  have HR7 := HR6
  have HB8 := HB7
  have HT8 := HT7
  have HU8 := HU7
  have HR8 := HR7
  go_wp2_with fail
  refine (BL.out _ HR8.out).mono ?_
  rintro e w9 ⟨rfl, hr9, hb⟩
  have HB9 := hid (HB8.out.trans hb)
  have HT9 := hid (But.blk HT8.out hb (by omega))
  have HU9 := hid (But.blk HU8.out hb (by omega))
  have HR9 := hid hr9
  clear hb hr9
  clear d0 d1 d2 e0 e1 e2 r0 r1 p0 p1
  have d0 := HU9.out.cell (i := 0) rfl
  have d1 := HU9.out.cell (i := 1) rfl
  have d2 := HU9.out.cell (i := 2) rfl
  have g0 := HT9.out.cell (i := 0) rfl
  have g1 := HT9.out.cell (i := 1) rfl
  have g2 := HT9.out.cell (i := 2) rfl
  have k0 := HT9.out.free 0
  have k1 := HT9.out.free 1
  have k2 := HT9.out.free 2
  go_wp2
  have HX := lit_end (hT := HT9.out) (v0 := .int .i64 1) (v1 := .string ⟨([] : List UInt8).toArray⟩) (v2 := .string ⟨([] : List UInt8).toArray⟩) (hq := HR9.out) (hne := by omega) (hB := HB9.out) (hb := Nat.le_refl _)
  obtain ⟨hx1, hx2, hx3⟩ := HX
  exact bodyPost_ret (v := tmV 1 [] []) (struct_ret rfl hx1 Tryz.results135) rfl ⟨hx3, ⟨1, [], [], rfl⟩, hx2⟩
set_option maxHeartbeats 4000000 in
theorem rterm_bl_ok (q : Nat) (s : List UInt8) (w W0 : World) (hbase : Base0 W0 w q) (hl : s.length ≤ 10000000) (u a d : List UInt8) (hs : s = 95 :: 58 :: u) (hr : Rd w q s false) (ha : a = u.takeWhile Tm.alnum) (hd : d = u.dropWhile Tm.alnum) (hi : Tm.is 2 a [] = true) :
    Calls Tryz.prog 135 #[rdp q] w (LitPost q w (Tm.rtermB s)) := by
  subst hs
  simp only [List.length_cons] at hl
  have HN := hid (show Tm.rtermB (95 :: 58 :: u) = some (2, a, [], d.dropWhile blankC) by unfold Tm.rtermB; rw [Tm.rterm_95, ← ha, ← hd]; simp only; rw [if_pos (show Tm.is ((2 : Nat) : Int) a [] = true from hi)])
  rw [HN.out]
  have HR := hid hr
  have hal : a.length ≤ u.length := by rw [ha]; exact tw_len _ _
  have hdl : d.length ≤ u.length := by rw [hd]; exact dw_len _ _
  have RN := hid (fun w (hr : Rd w q u false) => rrun_any q u false false w hr (by omega))
  rw [alp_false, ← ha, ← hd] at RN
  have HA0 := hid (fun w (hr : Rd w q (95 :: 58 :: u) false) => rhas_any q (95 :: 58 :: u) [60] false w hr (by first | omega | (simp only [List.length_cons]; omega)) (by simp))
  rw [show decide (((95 :: 58 :: u) : List UInt8).take ([60] : List UInt8).length = [60]) = false from decide_eq_false (by simp)] at HA0
  have HA1 := hid (fun w (hr : Rd w q (95 :: 58 :: u) false) => rhas_any q (95 :: 58 :: u) [95, 58] false w hr (by first | omega | (simp only [List.length_cons]; omega)) (by simp))
  rw [show decide (((95 :: 58 :: u) : List UInt8).take ([95, 58] : List UInt8).length = [95, 58]) = true from decide_eq_true rfl] at HA1
  have IS := hid (fun w h => ris_any 2 a [] w (by omega) (by simp) h)
  rw [hi] at IS
  have BL := hid (fun w (h : Rd w q d false) => rblanks_any q d false w h (by omega))
  have hex : (⟨(95 :: 58 :: u).toArray⟩ : ByteArray).extract 2 (u.length + 1 + 1) = ⟨u.toArray⟩ := by
    have := ba_drop (95 :: 58 :: u) 2
    simpa using this
  have hul : u.length + 1 + 1 ≤ 9223372036854775807 := by omega
  have hu1 : (2 : Int) ≤ (u.length : Int) + 1 + 1 := by omega
  clear hr ha hd hi hal hdl
  go_enter Tryz.func135, Tryz.ntmps135
  have hlt := (HR.out).lt
  have HB2 := hid (show But q w ((w.alloc (.cells #[.int .i64 0, .string ⟨#[]⟩, .string ⟨#[]⟩] 61)).alloc (.cells #[.int .i64 0, .string ⟨#[]⟩, .string ⟨#[]⟩] 61)) from But.below (((Below.refl w.heap.size w).alloc (Nat.le_refl _) _).alloc (by simp) _))
  have HT2 := hid ((Blk.new w [.int .i64 0, str [], str []] 61).alloc (.cells #[.int .i64 0, .string ⟨#[]⟩, .string ⟨#[]⟩] 61))
  have HU2 := hid (show Blk ((w.alloc (.cells #[.int .i64 0, .string ⟨#[]⟩, .string ⟨#[]⟩] 61)).alloc (.cells #[.int .i64 0, .string ⟨#[]⟩, .string ⟨#[]⟩] 61)) (w.heap.size + 1) [.int .i64 0, str [], str []] 61 from Blk.new' (by simp) rfl)
  have HR2 := hid ((HR.out.keep ((Below.refl _ _).alloc (Nat.le_refl _) (.cells #[.int .i64 0, .string ⟨#[]⟩, .string ⟨#[]⟩] 61))).keep ((Below.refl _ _).alloc (Nat.le_refl _) (.cells #[.int .i64 0, .string ⟨#[]⟩, .string ⟨#[]⟩] 61)))
  have hq2 : q ≠ w.heap.size + 1 := by omega
  have hq0 : q ≠ w.heap.size := by omega
  go_wp2_with fail
  refine (HA0.out _ HR2.out).mono ?_
  rintro e w3 ⟨rfl, rfl⟩
  go_wp2_with fail
  refine (HA1.out _ HR2.out).mono ?_
  rintro e w3 ⟨rfl, rfl⟩
  obtain ⟨w2, hw2⟩ : ∃ w2, w2 = (w.alloc (.cells #[.int .i64 0, .string ⟨#[]⟩, .string ⟨#[]⟩] 61)).alloc (.cells #[.int .i64 0, .string ⟨#[]⟩, .string ⟨#[]⟩] 61) := ⟨_, rfl⟩
  rw [← hw2] at HB2 HT2 HU2 HR2 ⊢
  clear hw2
  obtain ⟨c0, c1, p2, p3⟩ := HR2.out.cells
  go_wp2_with fail
  refine (RN.out _ (HR2.out.set0 (t := u))).mono ?_
  rintro e w5 ⟨rfl, hr5, hb5⟩
  clear c0 c1 p2 p3
  have HU5 := hid (But.blk (Blk.other HU2.out (Ne.symm hq2) 0 (str u)) hb5 (Ne.symm hq2))
  have HT5 := hid (But.blk (Blk.other HT2.out (by omega) 0 (str u)) hb5 (by omega))
  have HB5 := hid ((HB2.out.trans (But.set q _ 0 (str u))).trans hb5)
  have HR5 := hid hr5
  clear hr5 hb5
  have j0 := HU5.out.cell (i := 0) rfl
  have j1 := HU5.out.cell (i := 1) rfl
  have j2 := HU5.out.cell (i := 2) rfl
  have f0 := HU5.out.free 0
  have f1 := HU5.out.free 1
  have f2 := HU5.out.free 2
  obtain ⟨s0, s1, s2, s3⟩ := HR5.out.cells
  have hq2' : w.heap.size + 1 ≠ q := Ne.symm hq2
  have HU6 := hid (((HU5.out.set 0 (.int .i64 2)).set 1 (.string ⟨(a : List UInt8).toArray⟩)).set 2 (.string ⟨([] : List UInt8).toArray⟩))
  have HT6 := hid (Blk.other (Blk.other (Blk.other HT5.out (c := w.heap.size + 1) (by omega) 0 (.int .i64 2)) (c := w.heap.size + 1) (by omega) 1 (.string ⟨(a : List UInt8).toArray⟩)) (c := w.heap.size + 1) (by omega) 2 (.string ⟨([] : List UInt8).toArray⟩))
  have HR6 := hid (show Rd _ q _ _ from Blk.other (Blk.other (Blk.other HR5.out hq2 0 (.int .i64 2)) hq2 1 (.string ⟨(a : List UInt8).toArray⟩)) hq2 2 (.string ⟨([] : List UInt8).toArray⟩))
  have HB6 := hid (((HB5.out.fresh (b := w.heap.size + 1) (by omega) 0 (.int .i64 2)).fresh (b := w.heap.size + 1) (by omega) 1 (.string ⟨(a : List UInt8).toArray⟩)).fresh (b := w.heap.size + 1) (by omega) 2 (.string ⟨([] : List UInt8).toArray⟩))
  go_wp2_with fail
  obtain ⟨w6, hw6⟩ : ∃ w6, w6 = (((w5.setCell ⟨w.heap.size + 1, 0, none⟩ (.int .i64 2)).setCell ⟨w.heap.size + 1, 1, none⟩ (.string ⟨(a : List UInt8).toArray⟩)).setCell ⟨w.heap.size + 1, 2, none⟩ (.string ⟨([] : List UInt8).toArray⟩)) := ⟨_, rfl⟩
  rw [← hw6] at HB6 HT6 HU6 HR6 ⊢
  clear hw6 j0 j1 j2 f0 f1 f2 s0 s1 s2 s3
  have d0 := HU6.out.cell (i := 0) rfl
  have d1 := HU6.out.cell (i := 1) rfl
  have d2 := HU6.out.cell (i := 2) rfl
  have e0 := HU6.out.free 0
  have e1 := HU6.out.free 1
  have e2 := HU6.out.free 2
  obtain ⟨r0, r1, p0, p1⟩ := HR6.out.cells
  go_wp2_with fail
  refine (IS.out _ (hbase.vars_at HB6.out)).mono ?_
  rintro e w7 ⟨rfl, hb⟩
  have HB7 := hid (HB6.out.trans (But.below hb))
  have HT7 := hid (HT6.out.keep hb)
  have HU7 := hid (HU6.out.keep hb)
  have HR7 := hid (HR6.out.keep hb)
  clear hb d0 d1 d2 e0 e1 e2 r0 r1 p0 p1
  have HB8 := HB7
  have HT8 := HT7
  have HU8 := HU7
  have HR8 := HR7
  go_wp2_with fail
  refine (BL.out _ HR8.out).mono ?_
  rintro e w9 ⟨rfl, hr9, hb⟩
  have HB9 := hid (HB8.out.trans hb)
  have HT9 := hid (But.blk HT8.out hb (by omega))
  have HU9 := hid (But.blk HU8.out hb (by omega))
  have HR9 := hid hr9
  clear hb hr9
  have d0 := HU9.out.cell (i := 0) rfl
  have d1 := HU9.out.cell (i := 1) rfl
  have d2 := HU9.out.cell (i := 2) rfl
  have g0 := HT9.out.cell (i := 0) rfl
  have g1 := HT9.out.cell (i := 1) rfl
  have g2 := HT9.out.cell (i := 2) rfl
  have k0 := HT9.out.free 0
  have k1 := HT9.out.free 1
  have k2 := HT9.out.free 2
  go_wp2
  have HX := lit_end (hT := HT9.out) (v0 := .int .i64 2) (v1 := .string ⟨(a : List UInt8).toArray⟩) (v2 := .string ⟨([] : List UInt8).toArray⟩) (hq := HR9.out) (hne := by omega) (hB := HB9.out) (hb := Nat.le_refl _)
  obtain ⟨hx1, hx2, hx3⟩ := HX
  exact bodyPost_ret (v := tmV 2 a []) (struct_ret rfl hx1 Tryz.results135) rfl ⟨hx3, rfl, hx2⟩
set_option maxHeartbeats 4000000 in
theorem rterm_bl_bad (q : Nat) (s : List UInt8) (w W0 : World) (hbase : Base0 W0 w q) (hl : s.length ≤ 10000000) (u a d : List UInt8) (hs : s = 95 :: 58 :: u) (hr : Rd w q s false) (ha : a = u.takeWhile Tm.alnum) (hd : d = u.dropWhile Tm.alnum) (hi : Tm.is 2 a [] = false) :
    Calls Tryz.prog 135 #[rdp q] w (LitPost q w (Tm.rtermB s)) := by
  subst hs
  simp only [List.length_cons] at hl
  have HN := hid (show Tm.rtermB (95 :: 58 :: u) = none by unfold Tm.rtermB; rw [Tm.rterm_95, ← ha, ← hd]; simp only; rw [if_neg (show ¬ Tm.is ((2 : Nat) : Int) a [] = true by rw [show Tm.is ((2 : Nat) : Int) a [] = false from hi]; decide)])
  rw [HN.out]
  have HR := hid hr
  have hal : a.length ≤ u.length := by rw [ha]; exact tw_len _ _
  have hdl : d.length ≤ u.length := by rw [hd]; exact dw_len _ _
  have RN := hid (fun w (hr : Rd w q u false) => rrun_any q u false false w hr (by omega))
  rw [alp_false, ← ha, ← hd] at RN
  have HA0 := hid (fun w (hr : Rd w q (95 :: 58 :: u) false) => rhas_any q (95 :: 58 :: u) [60] false w hr (by first | omega | (simp only [List.length_cons]; omega)) (by simp))
  rw [show decide (((95 :: 58 :: u) : List UInt8).take ([60] : List UInt8).length = [60]) = false from decide_eq_false (by simp)] at HA0
  have HA1 := hid (fun w (hr : Rd w q (95 :: 58 :: u) false) => rhas_any q (95 :: 58 :: u) [95, 58] false w hr (by first | omega | (simp only [List.length_cons]; omega)) (by simp))
  rw [show decide (((95 :: 58 :: u) : List UInt8).take ([95, 58] : List UInt8).length = [95, 58]) = true from decide_eq_true rfl] at HA1
  have IS := hid (fun w h => ris_any 2 a [] w (by omega) (by simp) h)
  rw [hi] at IS
  have FA := hid (fun w (h : Rd w q d false) => rfail_any q d false w h)
  have BL := hid (fun w (h : Rd w q [] true) => rblanks_any q [] true w h (by simp))
  have hex : (⟨(95 :: 58 :: u).toArray⟩ : ByteArray).extract 2 (u.length + 1 + 1) = ⟨u.toArray⟩ := by
    have := ba_drop (95 :: 58 :: u) 2
    simpa using this
  have hul : u.length + 1 + 1 ≤ 9223372036854775807 := by omega
  have hu1 : (2 : Int) ≤ (u.length : Int) + 1 + 1 := by omega
  clear hr ha hd hi hal hdl
  go_enter Tryz.func135, Tryz.ntmps135
  have hlt := (HR.out).lt
  have HB2 := hid (show But q w ((w.alloc (.cells #[.int .i64 0, .string ⟨#[]⟩, .string ⟨#[]⟩] 61)).alloc (.cells #[.int .i64 0, .string ⟨#[]⟩, .string ⟨#[]⟩] 61)) from But.below (((Below.refl w.heap.size w).alloc (Nat.le_refl _) _).alloc (by simp) _))
  have HT2 := hid ((Blk.new w [.int .i64 0, str [], str []] 61).alloc (.cells #[.int .i64 0, .string ⟨#[]⟩, .string ⟨#[]⟩] 61))
  have HU2 := hid (show Blk ((w.alloc (.cells #[.int .i64 0, .string ⟨#[]⟩, .string ⟨#[]⟩] 61)).alloc (.cells #[.int .i64 0, .string ⟨#[]⟩, .string ⟨#[]⟩] 61)) (w.heap.size + 1) [.int .i64 0, str [], str []] 61 from Blk.new' (by simp) rfl)
  have HR2 := hid ((HR.out.keep ((Below.refl _ _).alloc (Nat.le_refl _) (.cells #[.int .i64 0, .string ⟨#[]⟩, .string ⟨#[]⟩] 61))).keep ((Below.refl _ _).alloc (Nat.le_refl _) (.cells #[.int .i64 0, .string ⟨#[]⟩, .string ⟨#[]⟩] 61)))
  have hq2 : q ≠ w.heap.size + 1 := by omega
  have hq0 : q ≠ w.heap.size := by omega
  go_wp2_with fail
  refine (HA0.out _ HR2.out).mono ?_
  rintro e w3 ⟨rfl, rfl⟩
  go_wp2_with fail
  refine (HA1.out _ HR2.out).mono ?_
  rintro e w3 ⟨rfl, rfl⟩
  obtain ⟨w2, hw2⟩ : ∃ w2, w2 = (w.alloc (.cells #[.int .i64 0, .string ⟨#[]⟩, .string ⟨#[]⟩] 61)).alloc (.cells #[.int .i64 0, .string ⟨#[]⟩, .string ⟨#[]⟩] 61) := ⟨_, rfl⟩
  rw [← hw2] at HB2 HT2 HU2 HR2 ⊢
  clear hw2
  obtain ⟨c0, c1, p2, p3⟩ := HR2.out.cells
  go_wp2_with fail
  refine (RN.out _ (HR2.out.set0 (t := u))).mono ?_
  rintro e w5 ⟨rfl, hr5, hb5⟩
  clear c0 c1 p2 p3
  have HU5 := hid (But.blk (Blk.other HU2.out (Ne.symm hq2) 0 (str u)) hb5 (Ne.symm hq2))
  have HT5 := hid (But.blk (Blk.other HT2.out (by omega) 0 (str u)) hb5 (by omega))
  have HB5 := hid ((HB2.out.trans (But.set q _ 0 (str u))).trans hb5)
  have HR5 := hid hr5
  clear hr5 hb5
  have j0 := HU5.out.cell (i := 0) rfl
  have j1 := HU5.out.cell (i := 1) rfl
  have j2 := HU5.out.cell (i := 2) rfl
  have f0 := HU5.out.free 0
  have f1 := HU5.out.free 1
  have f2 := HU5.out.free 2
  obtain ⟨s0, s1, s2, s3⟩ := HR5.out.cells
  have hq2' : w.heap.size + 1 ≠ q := Ne.symm hq2
  have HU6 := hid (((HU5.out.set 0 (.int .i64 2)).set 1 (.string ⟨(a : List UInt8).toArray⟩)).set 2 (.string ⟨([] : List UInt8).toArray⟩))
  have HT6 := hid (Blk.other (Blk.other (Blk.other HT5.out (c := w.heap.size + 1) (by omega) 0 (.int .i64 2)) (c := w.heap.size + 1) (by omega) 1 (.string ⟨(a : List UInt8).toArray⟩)) (c := w.heap.size + 1) (by omega) 2 (.string ⟨([] : List UInt8).toArray⟩))
  have HR6 := hid (show Rd _ q _ _ from Blk.other (Blk.other (Blk.other HR5.out hq2 0 (.int .i64 2)) hq2 1 (.string ⟨(a : List UInt8).toArray⟩)) hq2 2 (.string ⟨([] : List UInt8).toArray⟩))
  have HB6 := hid (((HB5.out.fresh (b := w.heap.size + 1) (by omega) 0 (.int .i64 2)).fresh (b := w.heap.size + 1) (by omega) 1 (.string ⟨(a : List UInt8).toArray⟩)).fresh (b := w.heap.size + 1) (by omega) 2 (.string ⟨([] : List UInt8).toArray⟩))
  go_wp2_with fail
  obtain ⟨w6, hw6⟩ : ∃ w6, w6 = (((w5.setCell ⟨w.heap.size + 1, 0, none⟩ (.int .i64 2)).setCell ⟨w.heap.size + 1, 1, none⟩ (.string ⟨(a : List UInt8).toArray⟩)).setCell ⟨w.heap.size + 1, 2, none⟩ (.string ⟨([] : List UInt8).toArray⟩)) := ⟨_, rfl⟩
  rw [← hw6] at HB6 HT6 HU6 HR6 ⊢
  clear hw6 j0 j1 j2 f0 f1 f2 s0 s1 s2 s3
  have d0 := HU6.out.cell (i := 0) rfl
  have d1 := HU6.out.cell (i := 1) rfl
  have d2 := HU6.out.cell (i := 2) rfl
  have e0 := HU6.out.free 0
  have e1 := HU6.out.free 1
  have e2 := HU6.out.free 2
  obtain ⟨r0, r1, p0, p1⟩ := HR6.out.cells
  go_wp2_with fail
  refine (IS.out _ (hbase.vars_at HB6.out)).mono ?_
  rintro e w7 ⟨rfl, hb⟩
  have HB7 := hid (HB6.out.trans (But.below hb))
  have HT7 := hid (HT6.out.keep hb)
  have HU7 := hid (HU6.out.keep hb)
  have HR7 := hid (HR6.out.keep hb)
  clear hb d0 d1 d2 e0 e1 e2 r0 r1 p0 p1
  go_wp2_with fail
  refine (FA.out _ HR7.out).mono ?_
  rintro e w8 ⟨rfl, hr8, hb⟩
  have HB8 := hid (HB7.out.trans hb)
  have HT8 := hid (But.blk HT7.out hb (by omega))
  have HU8 := hid (But.blk HU7.out hb (by omega))
  have HR8 := hid hr8
  clear hb hr8
  go_wp2_with fail
  refine (BL.out _ HR8.out).mono ?_
  rintro e w9 ⟨rfl, hr9, hb⟩
  have HB9 := hid (HB8.out.trans hb)
  have HT9 := hid (But.blk HT8.out hb (by omega))
  have HU9 := hid (But.blk HU8.out hb (by omega))
  have HR9 := hid hr9
  clear hb hr9
  have d0 := HU9.out.cell (i := 0) rfl
  have d1 := HU9.out.cell (i := 1) rfl
  have d2 := HU9.out.cell (i := 2) rfl
  have g0 := HT9.out.cell (i := 0) rfl
  have g1 := HT9.out.cell (i := 1) rfl
  have g2 := HT9.out.cell (i := 2) rfl
  have k0 := HT9.out.free 0
  have k1 := HT9.out.free 1
  have k2 := HT9.out.free 2
  go_wp2
  have HX := lit_end (hT := HT9.out) (v0 := .int .i64 2) (v1 := .string ⟨(a : List UInt8).toArray⟩) (v2 := .string ⟨([] : List UInt8).toArray⟩) (hq := HR9.out) (hne := by omega) (hB := HB9.out) (hb := Nat.le_refl _)
  obtain ⟨hx1, hx2, hx3⟩ := HX
  exact bodyPost_ret (v := tmV 2 a []) (struct_ret rfl hx1 Tryz.results135) rfl ⟨hx3, ⟨2, a, [], rfl⟩, hx2⟩
set_option maxHeartbeats 4000000 in
theorem rterm_lit_ok (q : Nat) (s : List UInt8) (w W0 : World) (hbase : Base0 W0 w q) (hl : s.length ≤ 10000000) (u t x v : List UInt8) (k : Nat) (hs : s = 34 :: u) (hr : Rd w q s false) (hu : Tm.rlit u = some (k, t, x, v)) (hi : Tm.is (k : Int) t x = true) :
    Calls Tryz.prog 135 #[rdp q] w (LitPost q w (Tm.rtermB s)) := by
  subst hs
  simp only [List.length_cons] at hl
  have HN := hid (show Tm.rtermB (34 :: u) = some (k, t, x, v.dropWhile blankC) by unfold Tm.rtermB; rw [Tm.rterm_34, hu]; simp only; rw [if_pos hi])
  rw [HN.out]
  have HR := hid hr
  have hlen := Tm.rlit_len hu
  have LI := hid (fun w (hr : Rd w q u false) => rlit_any q u w hr (by omega))
  rw [hu] at LI
  have HA0 := hid (fun w (hr : Rd w q (34 :: u) false) => rhas_any q (34 :: u) [60] false w hr (by first | omega | (simp only [List.length_cons]; omega)) (by simp))
  rw [show decide (((34 :: u) : List UInt8).take ([60] : List UInt8).length = [60]) = false from decide_eq_false (by simp)] at HA0
  have HA1 := hid (fun w (hr : Rd w q (34 :: u) false) => rhas_any q (34 :: u) [95, 58] false w hr (by first | omega | (simp only [List.length_cons]; omega)) (by simp))
  rw [show decide (((34 :: u) : List UInt8).take ([95, 58] : List UInt8).length = [95, 58]) = false from decide_eq_false (by simp)] at HA1
  have HA2 := hid (fun w (hr : Rd w q (34 :: u) false) => rhas_any q (34 :: u) [34] false w hr (by first | omega | (simp only [List.length_cons]; omega)) (by simp))
  rw [show decide (((34 :: u) : List UInt8).take ([34] : List UInt8).length = [34]) = true from decide_eq_true rfl] at HA2
  have IS := hid (fun w h => ris_any (k : Int) t x w (by omega) (by omega) h)
  rw [hi] at IS
  have BL := hid (fun w (h : Rd w q v false) => rblanks_any q v false w h (by omega))
  have hex : (⟨(34 :: u).toArray⟩ : ByteArray).extract 1 (u.length + 1) = ⟨u.toArray⟩ := by
    have := ba_drop (34 :: u) 1
    simpa using this
  have hul : u.length + 1 ≤ 9223372036854775807 := by omega
  have hu1 : (1 : Int) ≤ (u.length : Int) + 1 := by omega
  clear hr hu hlen hi
  go_enter Tryz.func135, Tryz.ntmps135
  have hlt := (HR.out).lt
  have HB2 := hid (show But q w ((w.alloc (.cells #[.int .i64 0, .string ⟨#[]⟩, .string ⟨#[]⟩] 61)).alloc (.cells #[.int .i64 0, .string ⟨#[]⟩, .string ⟨#[]⟩] 61)) from But.below (((Below.refl w.heap.size w).alloc (Nat.le_refl _) _).alloc (by simp) _))
  have HT2 := hid ((Blk.new w [.int .i64 0, str [], str []] 61).alloc (.cells #[.int .i64 0, .string ⟨#[]⟩, .string ⟨#[]⟩] 61))
  have HU2 := hid (show Blk ((w.alloc (.cells #[.int .i64 0, .string ⟨#[]⟩, .string ⟨#[]⟩] 61)).alloc (.cells #[.int .i64 0, .string ⟨#[]⟩, .string ⟨#[]⟩] 61)) (w.heap.size + 1) [.int .i64 0, str [], str []] 61 from Blk.new' (by simp) rfl)
  have HR2 := hid ((HR.out.keep ((Below.refl _ _).alloc (Nat.le_refl _) (.cells #[.int .i64 0, .string ⟨#[]⟩, .string ⟨#[]⟩] 61))).keep ((Below.refl _ _).alloc (Nat.le_refl _) (.cells #[.int .i64 0, .string ⟨#[]⟩, .string ⟨#[]⟩] 61)))
  have hq2 : q ≠ w.heap.size + 1 := by omega
  have hq0 : q ≠ w.heap.size := by omega
  go_wp2_with fail
  refine (HA0.out _ HR2.out).mono ?_
  rintro e w3 ⟨rfl, rfl⟩
  go_wp2_with fail
  refine (HA1.out _ HR2.out).mono ?_
  rintro e w3 ⟨rfl, rfl⟩
  go_wp2_with fail
  refine (HA2.out _ HR2.out).mono ?_
  rintro e w3 ⟨rfl, rfl⟩
  obtain ⟨w2, hw2⟩ : ∃ w2, w2 = (w.alloc (.cells #[.int .i64 0, .string ⟨#[]⟩, .string ⟨#[]⟩] 61)).alloc (.cells #[.int .i64 0, .string ⟨#[]⟩, .string ⟨#[]⟩] 61) := ⟨_, rfl⟩
  rw [← hw2] at HB2 HT2 HU2 HR2 ⊢
  clear hw2
  obtain ⟨c0, c1, p2, p3⟩ := HR2.out.cells
  go_wp2_with fail
  refine (LI.out _ (HR2.out.set0 (t := u))).mono ?_
  rintro e w5 ⟨hb5, rfl, hr5⟩
  clear c0 c1 p2 p3
  have HU5 := hid (But.blk (Blk.other HU2.out (Ne.symm hq2) 0 (str u)) hb5 (Ne.symm hq2))
  have HT5 := hid (But.blk (Blk.other HT2.out (by omega) 0 (str u)) hb5 (by omega))
  have HB5 := hid ((HB2.out.trans (But.set q _ 0 (str u))).trans hb5)
  have HR5 := hid hr5
  clear hr5 hb5
  have j0 := HU5.out.cell (i := 0) rfl
  have j1 := HU5.out.cell (i := 1) rfl
  have j2 := HU5.out.cell (i := 2) rfl
  have f0 := HU5.out.free 0
  have f1 := HU5.out.free 1
  have f2 := HU5.out.free 2
  obtain ⟨s0, s1, s2, s3⟩ := HR5.out.cells
  have hq2' : w.heap.size + 1 ≠ q := Ne.symm hq2
  have HU6 := hid (((HU5.out.set 0 (.int .i64 (k : Int))).set 1 (.string ⟨(t : List UInt8).toArray⟩)).set 2 (.string ⟨(x : List UInt8).toArray⟩))
  have HT6 := hid (Blk.other (Blk.other (Blk.other HT5.out (c := w.heap.size + 1) (by omega) 0 (.int .i64 (k : Int))) (c := w.heap.size + 1) (by omega) 1 (.string ⟨(t : List UInt8).toArray⟩)) (c := w.heap.size + 1) (by omega) 2 (.string ⟨(x : List UInt8).toArray⟩))
  have HR6 := hid (show Rd _ q _ _ from Blk.other (Blk.other (Blk.other HR5.out hq2 0 (.int .i64 (k : Int))) hq2 1 (.string ⟨(t : List UInt8).toArray⟩)) hq2 2 (.string ⟨(x : List UInt8).toArray⟩))
  have HB6 := hid (((HB5.out.fresh (b := w.heap.size + 1) (by omega) 0 (.int .i64 (k : Int))).fresh (b := w.heap.size + 1) (by omega) 1 (.string ⟨(t : List UInt8).toArray⟩)).fresh (b := w.heap.size + 1) (by omega) 2 (.string ⟨(x : List UInt8).toArray⟩))
  go_wp2_with fail
  obtain ⟨w6, hw6⟩ : ∃ w6, w6 = (((w5.setCell ⟨w.heap.size + 1, 0, none⟩ (.int .i64 (k : Int))).setCell ⟨w.heap.size + 1, 1, none⟩ (.string ⟨(t : List UInt8).toArray⟩)).setCell ⟨w.heap.size + 1, 2, none⟩ (.string ⟨(x : List UInt8).toArray⟩)) := ⟨_, rfl⟩
  rw [← hw6] at HB6 HT6 HU6 HR6 ⊢
  clear hw6 j0 j1 j2 f0 f1 f2 s0 s1 s2 s3
  have d0 := HU6.out.cell (i := 0) rfl
  have d1 := HU6.out.cell (i := 1) rfl
  have d2 := HU6.out.cell (i := 2) rfl
  have e0 := HU6.out.free 0
  have e1 := HU6.out.free 1
  have e2 := HU6.out.free 2
  obtain ⟨r0, r1, p0, p1⟩ := HR6.out.cells
  go_wp2_with fail
  refine (IS.out _ (hbase.vars_at HB6.out)).mono ?_
  rintro e w7 ⟨rfl, hb⟩
  have HB7 := hid (HB6.out.trans (But.below hb))
  have HT7 := hid (HT6.out.keep hb)
  have HU7 := hid (HU6.out.keep hb)
  have HR7 := hid (HR6.out.keep hb)
  clear hb d0 d1 d2 e0 e1 e2 r0 r1 p0 p1
  have HB8 := HB7
  have HT8 := HT7
  have HU8 := HU7
  have HR8 := HR7
  go_wp2_with fail
  refine (BL.out _ HR8.out).mono ?_
  rintro e w9 ⟨rfl, hr9, hb⟩
  have HB9 := hid (HB8.out.trans hb)
  have HT9 := hid (But.blk HT8.out hb (by omega))
  have HU9 := hid (But.blk HU8.out hb (by omega))
  have HR9 := hid hr9
  clear hb hr9
  have d0 := HU9.out.cell (i := 0) rfl
  have d1 := HU9.out.cell (i := 1) rfl
  have d2 := HU9.out.cell (i := 2) rfl
  have g0 := HT9.out.cell (i := 0) rfl
  have g1 := HT9.out.cell (i := 1) rfl
  have g2 := HT9.out.cell (i := 2) rfl
  have k0 := HT9.out.free 0
  have k1 := HT9.out.free 1
  have k2 := HT9.out.free 2
  go_wp2
  have HX := lit_end (hT := HT9.out) (v0 := .int .i64 (k : Int)) (v1 := .string ⟨(t : List UInt8).toArray⟩) (v2 := .string ⟨(x : List UInt8).toArray⟩) (hq := HR9.out) (hne := by omega) (hB := HB9.out) (hb := Nat.le_refl _)
  obtain ⟨hx1, hx2, hx3⟩ := HX
  exact bodyPost_ret (v := tmV (k : Int) t x) (struct_ret rfl hx1 Tryz.results135) rfl ⟨hx3, rfl, hx2⟩
set_option maxHeartbeats 4000000 in
theorem rterm_lit_bad (q : Nat) (s : List UInt8) (w W0 : World) (hbase : Base0 W0 w q) (hl : s.length ≤ 10000000) (u t x v : List UInt8) (k : Nat) (hs : s = 34 :: u) (hr : Rd w q s false) (hu : Tm.rlit u = some (k, t, x, v)) (hi : Tm.is (k : Int) t x = false) :
    Calls Tryz.prog 135 #[rdp q] w (LitPost q w (Tm.rtermB s)) := by
  subst hs
  simp only [List.length_cons] at hl
  have HN := hid (show Tm.rtermB (34 :: u) = none by unfold Tm.rtermB; rw [Tm.rterm_34, hu]; simp only; rw [if_neg (by rw [hi]; decide)])
  rw [HN.out]
  have HR := hid hr
  have hlen := Tm.rlit_len hu
  have LI := hid (fun w (hr : Rd w q u false) => rlit_any q u w hr (by omega))
  rw [hu] at LI
  have HA0 := hid (fun w (hr : Rd w q (34 :: u) false) => rhas_any q (34 :: u) [60] false w hr (by first | omega | (simp only [List.length_cons]; omega)) (by simp))
  rw [show decide (((34 :: u) : List UInt8).take ([60] : List UInt8).length = [60]) = false from decide_eq_false (by simp)] at HA0
  have HA1 := hid (fun w (hr : Rd w q (34 :: u) false) => rhas_any q (34 :: u) [95, 58] false w hr (by first | omega | (simp only [List.length_cons]; omega)) (by simp))
  rw [show decide (((34 :: u) : List UInt8).take ([95, 58] : List UInt8).length = [95, 58]) = false from decide_eq_false (by simp)] at HA1
  have HA2 := hid (fun w (hr : Rd w q (34 :: u) false) => rhas_any q (34 :: u) [34] false w hr (by first | omega | (simp only [List.length_cons]; omega)) (by simp))
  rw [show decide (((34 :: u) : List UInt8).take ([34] : List UInt8).length = [34]) = true from decide_eq_true rfl] at HA2
  have IS := hid (fun w h => ris_any (k : Int) t x w (by omega) (by omega) h)
  rw [hi] at IS
  have FA := hid (fun w (h : Rd w q v false) => rfail_any q v false w h)
  have BL := hid (fun w (h : Rd w q [] true) => rblanks_any q [] true w h (by simp))
  have hex : (⟨(34 :: u).toArray⟩ : ByteArray).extract 1 (u.length + 1) = ⟨u.toArray⟩ := by
    have := ba_drop (34 :: u) 1
    simpa using this
  have hul : u.length + 1 ≤ 9223372036854775807 := by omega
  have hu1 : (1 : Int) ≤ (u.length : Int) + 1 := by omega
  clear hr hu hlen hi
  go_enter Tryz.func135, Tryz.ntmps135
  have hlt := (HR.out).lt
  have HB2 := hid (show But q w ((w.alloc (.cells #[.int .i64 0, .string ⟨#[]⟩, .string ⟨#[]⟩] 61)).alloc (.cells #[.int .i64 0, .string ⟨#[]⟩, .string ⟨#[]⟩] 61)) from But.below (((Below.refl w.heap.size w).alloc (Nat.le_refl _) _).alloc (by simp) _))
  have HT2 := hid ((Blk.new w [.int .i64 0, str [], str []] 61).alloc (.cells #[.int .i64 0, .string ⟨#[]⟩, .string ⟨#[]⟩] 61))
  have HU2 := hid (show Blk ((w.alloc (.cells #[.int .i64 0, .string ⟨#[]⟩, .string ⟨#[]⟩] 61)).alloc (.cells #[.int .i64 0, .string ⟨#[]⟩, .string ⟨#[]⟩] 61)) (w.heap.size + 1) [.int .i64 0, str [], str []] 61 from Blk.new' (by simp) rfl)
  have HR2 := hid ((HR.out.keep ((Below.refl _ _).alloc (Nat.le_refl _) (.cells #[.int .i64 0, .string ⟨#[]⟩, .string ⟨#[]⟩] 61))).keep ((Below.refl _ _).alloc (Nat.le_refl _) (.cells #[.int .i64 0, .string ⟨#[]⟩, .string ⟨#[]⟩] 61)))
  have hq2 : q ≠ w.heap.size + 1 := by omega
  have hq0 : q ≠ w.heap.size := by omega
  go_wp2_with fail
  refine (HA0.out _ HR2.out).mono ?_
  rintro e w3 ⟨rfl, rfl⟩
  go_wp2_with fail
  refine (HA1.out _ HR2.out).mono ?_
  rintro e w3 ⟨rfl, rfl⟩
  go_wp2_with fail
  refine (HA2.out _ HR2.out).mono ?_
  rintro e w3 ⟨rfl, rfl⟩
  obtain ⟨w2, hw2⟩ : ∃ w2, w2 = (w.alloc (.cells #[.int .i64 0, .string ⟨#[]⟩, .string ⟨#[]⟩] 61)).alloc (.cells #[.int .i64 0, .string ⟨#[]⟩, .string ⟨#[]⟩] 61) := ⟨_, rfl⟩
  rw [← hw2] at HB2 HT2 HU2 HR2 ⊢
  clear hw2
  obtain ⟨c0, c1, p2, p3⟩ := HR2.out.cells
  go_wp2_with fail
  refine (LI.out _ (HR2.out.set0 (t := u))).mono ?_
  rintro e w5 ⟨hb5, rfl, hr5⟩
  clear c0 c1 p2 p3
  have HU5 := hid (But.blk (Blk.other HU2.out (Ne.symm hq2) 0 (str u)) hb5 (Ne.symm hq2))
  have HT5 := hid (But.blk (Blk.other HT2.out (by omega) 0 (str u)) hb5 (by omega))
  have HB5 := hid ((HB2.out.trans (But.set q _ 0 (str u))).trans hb5)
  have HR5 := hid hr5
  clear hr5 hb5
  have j0 := HU5.out.cell (i := 0) rfl
  have j1 := HU5.out.cell (i := 1) rfl
  have j2 := HU5.out.cell (i := 2) rfl
  have f0 := HU5.out.free 0
  have f1 := HU5.out.free 1
  have f2 := HU5.out.free 2
  obtain ⟨s0, s1, s2, s3⟩ := HR5.out.cells
  have hq2' : w.heap.size + 1 ≠ q := Ne.symm hq2
  have HU6 := hid (((HU5.out.set 0 (.int .i64 (k : Int))).set 1 (.string ⟨(t : List UInt8).toArray⟩)).set 2 (.string ⟨(x : List UInt8).toArray⟩))
  have HT6 := hid (Blk.other (Blk.other (Blk.other HT5.out (c := w.heap.size + 1) (by omega) 0 (.int .i64 (k : Int))) (c := w.heap.size + 1) (by omega) 1 (.string ⟨(t : List UInt8).toArray⟩)) (c := w.heap.size + 1) (by omega) 2 (.string ⟨(x : List UInt8).toArray⟩))
  have HR6 := hid (show Rd _ q _ _ from Blk.other (Blk.other (Blk.other HR5.out hq2 0 (.int .i64 (k : Int))) hq2 1 (.string ⟨(t : List UInt8).toArray⟩)) hq2 2 (.string ⟨(x : List UInt8).toArray⟩))
  have HB6 := hid (((HB5.out.fresh (b := w.heap.size + 1) (by omega) 0 (.int .i64 (k : Int))).fresh (b := w.heap.size + 1) (by omega) 1 (.string ⟨(t : List UInt8).toArray⟩)).fresh (b := w.heap.size + 1) (by omega) 2 (.string ⟨(x : List UInt8).toArray⟩))
  go_wp2_with fail
  obtain ⟨w6, hw6⟩ : ∃ w6, w6 = (((w5.setCell ⟨w.heap.size + 1, 0, none⟩ (.int .i64 (k : Int))).setCell ⟨w.heap.size + 1, 1, none⟩ (.string ⟨(t : List UInt8).toArray⟩)).setCell ⟨w.heap.size + 1, 2, none⟩ (.string ⟨(x : List UInt8).toArray⟩)) := ⟨_, rfl⟩
  rw [← hw6] at HB6 HT6 HU6 HR6 ⊢
  clear hw6 j0 j1 j2 f0 f1 f2 s0 s1 s2 s3
  have d0 := HU6.out.cell (i := 0) rfl
  have d1 := HU6.out.cell (i := 1) rfl
  have d2 := HU6.out.cell (i := 2) rfl
  have e0 := HU6.out.free 0
  have e1 := HU6.out.free 1
  have e2 := HU6.out.free 2
  obtain ⟨r0, r1, p0, p1⟩ := HR6.out.cells
  go_wp2_with fail
  refine (IS.out _ (hbase.vars_at HB6.out)).mono ?_
  rintro e w7 ⟨rfl, hb⟩
  have HB7 := hid (HB6.out.trans (But.below hb))
  have HT7 := hid (HT6.out.keep hb)
  have HU7 := hid (HU6.out.keep hb)
  have HR7 := hid (HR6.out.keep hb)
  clear hb d0 d1 d2 e0 e1 e2 r0 r1 p0 p1
  go_wp2_with fail
  refine (FA.out _ HR7.out).mono ?_
  rintro e w8 ⟨rfl, hr8, hb⟩
  have HB8 := hid (HB7.out.trans hb)
  have HT8 := hid (But.blk HT7.out hb (by omega))
  have HU8 := hid (But.blk HU7.out hb (by omega))
  have HR8 := hid hr8
  clear hb hr8
  go_wp2_with fail
  refine (BL.out _ HR8.out).mono ?_
  rintro e w9 ⟨rfl, hr9, hb⟩
  have HB9 := hid (HB8.out.trans hb)
  have HT9 := hid (But.blk HT8.out hb (by omega))
  have HU9 := hid (But.blk HU8.out hb (by omega))
  have HR9 := hid hr9
  clear hb hr9
  have d0 := HU9.out.cell (i := 0) rfl
  have d1 := HU9.out.cell (i := 1) rfl
  have d2 := HU9.out.cell (i := 2) rfl
  have g0 := HT9.out.cell (i := 0) rfl
  have g1 := HT9.out.cell (i := 1) rfl
  have g2 := HT9.out.cell (i := 2) rfl
  have k0 := HT9.out.free 0
  have k1 := HT9.out.free 1
  have k2 := HT9.out.free 2
  go_wp2
  have HX := lit_end (hT := HT9.out) (v0 := .int .i64 (k : Int)) (v1 := .string ⟨(t : List UInt8).toArray⟩) (v2 := .string ⟨(x : List UInt8).toArray⟩) (hq := HR9.out) (hne := by omega) (hB := HB9.out) (hb := Nat.le_refl _)
  obtain ⟨hx1, hx2, hx3⟩ := HX
  exact bodyPost_ret (v := tmV (k : Int) t x) (struct_ret rfl hx1 Tryz.results135) rfl ⟨hx3, ⟨(k : Int), t, x, rfl⟩, hx2⟩
set_option maxHeartbeats 4000000 in
theorem rterm_lit_err (q : Nat) (s : List UInt8) (w W0 : World) (hbase : Base0 W0 w q) (hl : s.length ≤ 10000000) (u : List UInt8) (hs : s = 34 :: u) (hr : Rd w q s false) (hu : Tm.rlit u = none) :
    Calls Tryz.prog 135 #[rdp q] w (LitPost q w (Tm.rtermB s)) := by
  subst hs
  simp only [List.length_cons] at hl
  have HN := hid (show Tm.rtermB (34 :: u) = none by unfold Tm.rtermB; rw [Tm.rterm_34, hu])
  rw [HN.out]
  have HR := hid hr
  have LI := hid (fun w (hr : Rd w q u false) => rlit_any q u w hr (by omega))
  rw [hu] at LI
  have HA0 := hid (fun w (hr : Rd w q (34 :: u) false) => rhas_any q (34 :: u) [60] false w hr (by first | omega | (simp only [List.length_cons]; omega)) (by simp))
  rw [show decide (((34 :: u) : List UInt8).take ([60] : List UInt8).length = [60]) = false from decide_eq_false (by simp)] at HA0
  have HA1 := hid (fun w (hr : Rd w q (34 :: u) false) => rhas_any q (34 :: u) [95, 58] false w hr (by first | omega | (simp only [List.length_cons]; omega)) (by simp))
  rw [show decide (((34 :: u) : List UInt8).take ([95, 58] : List UInt8).length = [95, 58]) = false from decide_eq_false (by simp)] at HA1
  have HA2 := hid (fun w (hr : Rd w q (34 :: u) false) => rhas_any q (34 :: u) [34] false w hr (by first | omega | (simp only [List.length_cons]; omega)) (by simp))
  rw [show decide (((34 :: u) : List UInt8).take ([34] : List UInt8).length = [34]) = true from decide_eq_true rfl] at HA2
  have BL := hid (fun w (h : Rd w q [] true) => rblanks_any q [] true w h (by simp))
  have hex : (⟨(34 :: u).toArray⟩ : ByteArray).extract 1 (u.length + 1) = ⟨u.toArray⟩ := by
    have := ba_drop (34 :: u) 1
    simpa using this
  have hul : u.length + 1 ≤ 9223372036854775807 := by omega
  have hu1 : (1 : Int) ≤ (u.length : Int) + 1 := by omega
  clear hr hu
  go_enter Tryz.func135, Tryz.ntmps135
  have hlt := (HR.out).lt
  have HB2 := hid (show But q w ((w.alloc (.cells #[.int .i64 0, .string ⟨#[]⟩, .string ⟨#[]⟩] 61)).alloc (.cells #[.int .i64 0, .string ⟨#[]⟩, .string ⟨#[]⟩] 61)) from But.below (((Below.refl w.heap.size w).alloc (Nat.le_refl _) _).alloc (by simp) _))
  have HT2 := hid ((Blk.new w [.int .i64 0, str [], str []] 61).alloc (.cells #[.int .i64 0, .string ⟨#[]⟩, .string ⟨#[]⟩] 61))
  have HU2 := hid (show Blk ((w.alloc (.cells #[.int .i64 0, .string ⟨#[]⟩, .string ⟨#[]⟩] 61)).alloc (.cells #[.int .i64 0, .string ⟨#[]⟩, .string ⟨#[]⟩] 61)) (w.heap.size + 1) [.int .i64 0, str [], str []] 61 from Blk.new' (by simp) rfl)
  have HR2 := hid ((HR.out.keep ((Below.refl _ _).alloc (Nat.le_refl _) (.cells #[.int .i64 0, .string ⟨#[]⟩, .string ⟨#[]⟩] 61))).keep ((Below.refl _ _).alloc (Nat.le_refl _) (.cells #[.int .i64 0, .string ⟨#[]⟩, .string ⟨#[]⟩] 61)))
  have hq2 : q ≠ w.heap.size + 1 := by omega
  have hq0 : q ≠ w.heap.size := by omega
  go_wp2_with fail
  refine (HA0.out _ HR2.out).mono ?_
  rintro e w3 ⟨rfl, rfl⟩
  go_wp2_with fail
  refine (HA1.out _ HR2.out).mono ?_
  rintro e w3 ⟨rfl, rfl⟩
  go_wp2_with fail
  refine (HA2.out _ HR2.out).mono ?_
  rintro e w3 ⟨rfl, rfl⟩
  obtain ⟨w2, hw2⟩ : ∃ w2, w2 = (w.alloc (.cells #[.int .i64 0, .string ⟨#[]⟩, .string ⟨#[]⟩] 61)).alloc (.cells #[.int .i64 0, .string ⟨#[]⟩, .string ⟨#[]⟩] 61) := ⟨_, rfl⟩
  rw [← hw2] at HB2 HT2 HU2 HR2 ⊢
  clear hw2
  obtain ⟨c0, c1, p2, p3⟩ := HR2.out.cells
  go_wp2_with fail
  refine (LI.out _ (HR2.out.set0 (t := u))).mono ?_
  rintro e w5 ⟨hb5, ⟨kk, tt, xx, rfl⟩, hr5⟩
  clear c0 c1 p2 p3
  have HU5 := hid (But.blk (Blk.other HU2.out (Ne.symm hq2) 0 (str u)) hb5 (Ne.symm hq2))
  have HT5 := hid (But.blk (Blk.other HT2.out (by omega) 0 (str u)) hb5 (by omega))
  have HB5 := hid ((HB2.out.trans (But.set q _ 0 (str u))).trans hb5)
  have HR5 := hid hr5
  clear hr5 hb5
  have j0 := HU5.out.cell (i := 0) rfl
  have j1 := HU5.out.cell (i := 1) rfl
  have j2 := HU5.out.cell (i := 2) rfl
  have f0 := HU5.out.free 0
  have f1 := HU5.out.free 1
  have f2 := HU5.out.free 2
  obtain ⟨s0, s1, s2, s3⟩ := HR5.out.cells
  have hq2' : w.heap.size + 1 ≠ q := Ne.symm hq2
  have HU6 := hid (((HU5.out.set 0 (.int .i64 kk)).set 1 (.string ⟨(tt : List UInt8).toArray⟩)).set 2 (.string ⟨(xx : List UInt8).toArray⟩))
  have HT6 := hid (Blk.other (Blk.other (Blk.other HT5.out (c := w.heap.size + 1) (by omega) 0 (.int .i64 kk)) (c := w.heap.size + 1) (by omega) 1 (.string ⟨(tt : List UInt8).toArray⟩)) (c := w.heap.size + 1) (by omega) 2 (.string ⟨(xx : List UInt8).toArray⟩))
  have HR6 := hid (show Rd _ q _ _ from Blk.other (Blk.other (Blk.other HR5.out hq2 0 (.int .i64 kk)) hq2 1 (.string ⟨(tt : List UInt8).toArray⟩)) hq2 2 (.string ⟨(xx : List UInt8).toArray⟩))
  have HB6 := hid (((HB5.out.fresh (b := w.heap.size + 1) (by omega) 0 (.int .i64 kk)).fresh (b := w.heap.size + 1) (by omega) 1 (.string ⟨(tt : List UInt8).toArray⟩)).fresh (b := w.heap.size + 1) (by omega) 2 (.string ⟨(xx : List UInt8).toArray⟩))
  go_wp2_with fail
  obtain ⟨w6, hw6⟩ : ∃ w6, w6 = (((w5.setCell ⟨w.heap.size + 1, 0, none⟩ (.int .i64 kk)).setCell ⟨w.heap.size + 1, 1, none⟩ (.string ⟨(tt : List UInt8).toArray⟩)).setCell ⟨w.heap.size + 1, 2, none⟩ (.string ⟨(xx : List UInt8).toArray⟩)) := ⟨_, rfl⟩
  rw [← hw6] at HB6 HT6 HU6 HR6 ⊢
  clear hw6 j0 j1 j2 f0 f1 f2 s0 s1 s2 s3
  have d0 := HU6.out.cell (i := 0) rfl
  have d1 := HU6.out.cell (i := 1) rfl
  have d2 := HU6.out.cell (i := 2) rfl
  have e0 := HU6.out.free 0
  have e1 := HU6.out.free 1
  have e2 := HU6.out.free 2
  obtain ⟨r0, r1, p0, p1⟩ := HR6.out.cells
  have HB7 := HB6
  have HT7 := HT6
  have HU7 := HU6
  have HR7 := HR6
  have HB8 := HB7
  have HT8 := HT7
  have HU8 := HU7
  have HR8 := HR7
  go_wp2_with fail
  refine (BL.out _ HR8.out).mono ?_
  rintro e w9 ⟨rfl, hr9, hb⟩
  have HB9 := hid (HB8.out.trans hb)
  have HT9 := hid (But.blk HT8.out hb (by omega))
  have HU9 := hid (But.blk HU8.out hb (by omega))
  have HR9 := hid hr9
  clear hb hr9
  clear d0 d1 d2 e0 e1 e2 r0 r1 p0 p1
  have d0 := HU9.out.cell (i := 0) rfl
  have d1 := HU9.out.cell (i := 1) rfl
  have d2 := HU9.out.cell (i := 2) rfl
  have g0 := HT9.out.cell (i := 0) rfl
  have g1 := HT9.out.cell (i := 1) rfl
  have g2 := HT9.out.cell (i := 2) rfl
  have k0 := HT9.out.free 0
  have k1 := HT9.out.free 1
  have k2 := HT9.out.free 2
  go_wp2
  have HX := lit_end (hT := HT9.out) (v0 := .int .i64 kk) (v1 := .string ⟨(tt : List UInt8).toArray⟩) (v2 := .string ⟨(xx : List UInt8).toArray⟩) (hq := HR9.out) (hne := by omega) (hB := HB9.out) (hb := Nat.le_refl _)
  obtain ⟨hx1, hx2, hx3⟩ := HX
  exact bodyPost_ret (v := tmV kk tt xx) (struct_ret rfl hx1 Tryz.results135) rfl ⟨hx3, ⟨kk, tt, xx, rfl⟩, hx2⟩
theorem rterm_any (q : Nat) (s : List UInt8) (w W0 : World) (hbase : Base0 W0 w q) (hl : s.length ≤ 10000000) (hr : Rd w q s false) :
    Calls Tryz.prog 135 #[rdp q] w (LitPost q w (Tm.rtermB s)) := by
  by_cases h1 : s.take 1 = [60]
  · obtain ⟨u, rfl⟩ : ∃ u, s = 60 :: u := ⟨s.drop 1, by have := List.take_append_drop 1 s; rw [h1] at this; exact this.symm⟩
    cases hu : Tm.upU 62 false u with
    | none => exact rterm_iri_err q _ w W0 hbase hl u rfl hr hu
    | some p =>
      obtain ⟨t, v⟩ := p
      cases hi : Tm.is 1 t []
      · exact rterm_iri_bad q _ w W0 hbase hl u t v rfl hr hu hi
      · exact rterm_iri_ok q _ w W0 hbase hl u t v rfl hr hu hi
  · by_cases h2 : s.take 2 = [95, 58]
    · obtain ⟨u, rfl⟩ : ∃ u, s = 95 :: 58 :: u := ⟨s.drop 2, by have := List.take_append_drop 2 s; rw [h2] at this; exact this.symm⟩
      cases hi : Tm.is 2 (u.takeWhile Tm.alnum) []
      · exact rterm_bl_bad q _ w W0 hbase hl u _ _ rfl hr rfl rfl hi
      · exact rterm_bl_ok q _ w W0 hbase hl u _ _ rfl hr rfl rfl hi
    · by_cases h3 : s.take 1 = [34]
      · obtain ⟨u, rfl⟩ : ∃ u, s = 34 :: u := ⟨s.drop 1, by have := List.take_append_drop 1 s; rw [h3] at this; exact this.symm⟩
        cases hu : Tm.rlit u with
        | none => exact rterm_lit_err q _ w W0 hbase hl u rfl hr hu
        | some p =>
          obtain ⟨k, t, x, v⟩ := p
          cases hi : Tm.is (k : Int) t x
          · exact rterm_lit_bad q _ w W0 hbase hl u t x v k rfl hr hu hi
          · exact rterm_lit_ok q _ w W0 hbase hl u t x v k rfl hr hu hi
      · exact rterm_no q s w W0 hbase hl hr h1 h2 h3
end Go.Proofs.YtjaebndajhppgaaGreatDoor
namespace Go.Proofs.YtjaebndajhppgaaGreatDoor.Tm
set_option linter.unusedVariables false
set_option linter.unusedSimpArgs false
set_option maxRecDepth 100000
open Go Go.RowKit

/-- A term: its kind, its text, what is beside it. -/
abbrev T3 := Nat × T × T
/-- A term and the blanks behind it; whether it may be is not looked at. -/
def rt (s : T) : Option (T3 × T) := match rterm s with
  | none => none
  | some (k, t, x, v) => some ((k, t, x), v.dropWhile blankC)
def isT (a : T3) : Bool := is (a.1 : Int) a.2.1 a.2.2
/-- A point and blanks. -/
def point (s : T) : Option T := match s with
  | [] => none
  | c :: r => if c = 46 then some (r.dropWhile blankC) else none
/-- Three terms, a point. -/
def rtri (s : T) : Option ((T3 × T3 × T3) × T) := match rt s with
  | none => none
  | some (a, r) => match rt r with
    | none => none
    | some (b, u) => match rt u with
      | none => none
      | some (c, v) => match point v with
        | none => none
        | some z => some ((a, b, c), z)
def endd (s : T) : Bool := decide (s = [] ∨ s.head? = some 35)
def isTri (p : T3 × T3 × T3) : Bool := decide (p.1.1 = 1 ∨ p.1.1 = 2) && decide (p.2.1.1 = 1) && (isT p.1 && isT p.2.1 && isT p.2.2)
/-- A line's triple: none: it is no line; some none: it has none. -/
def one (s : T) : Option (Option (T3 × T3 × T3)) :=
  if Lib.validD s = false then none
  else if endd (s.dropWhile blankC) = true then some none
  else match rtri (s.dropWhile blankC) with
    | none => none
    | some (p, r) => if endd r = true ∧ isTri p = true then some (some p) else none
theorem rtermB_rt (s : T) : rtermB s = match rt s with
    | none => none
    | some (a, r) => if isT a = true then some (a.1, a.2.1, a.2.2, r) else none := by
  unfold rtermB rt isT
  cases rterm s with
  | none => rfl
  | some p => obtain ⟨k, t, x, v⟩ := p; rfl
theorem up_len' {e : UInt8} {lit : Bool} {s t v : T} (h : upU e lit s = some (t, v)) : t.length ≤ 4 * s.length ∧ v.length < s.length := upU_len s.length (Nat.le_refl _) h
theorem rterm_len {s : T} {k : Nat} {t x v : T} (h : rterm s = some (k, t, x, v)) : t.length ≤ 4 * s.length ∧ x.length ≤ 4 * s.length ∧ v.length ≤ s.length ∧ 1 ≤ k ∧ k ≤ 5 := by
  by_cases h1 : s.take 1 = [60]
  · obtain ⟨u, rfl⟩ : ∃ u, s = 60 :: u := ⟨s.drop 1, by have := List.take_append_drop 1 s; rw [h1] at this; exact this.symm⟩
    rw [rterm_up62] at h
    cases hu : upU 62 false u with
    | none => rw [hu] at h; cases h
    | some p =>
      obtain ⟨a, b⟩ := p
      rw [hu] at h
      simp only [Option.map_some, Option.some.injEq, Prod.mk.injEq] at h
      obtain ⟨rfl, rfl, rfl, rfl⟩ := h
      have := up_len' hu
      simp only [List.length_cons, List.length_nil]; omega
  · by_cases h2 : s.take 2 = [95, 58]
    · obtain ⟨u, rfl⟩ : ∃ u, s = 95 :: 58 :: u := ⟨s.drop 2, by have := List.take_append_drop 2 s; rw [h2] at this; exact this.symm⟩
      rw [rterm_95] at h
      simp only [Option.some.injEq, Prod.mk.injEq] at h
      obtain ⟨rfl, rfl, rfl, rfl⟩ := h
      have a1 := tw_len alnum u
      have a2 := dw_len alnum u
      simp only [List.length_cons, List.length_nil]; omega
    · by_cases h3 : s.take 1 = [34]
      · obtain ⟨u, rfl⟩ : ∃ u, s = 34 :: u := ⟨s.drop 1, by have := List.take_append_drop 1 s; rw [h3] at this; exact this.symm⟩
        rw [rterm_34] at h
        have a1 := rlit_len h
        have a2 : 1 ≤ k ∧ k ≤ 5 := by
          unfold rlit at h
          cases hu : upU 34 true u with
          | none => rw [hu] at h; cases h
          | some p =>
            obtain ⟨t', v'⟩ := p
            rw [hu] at h
            simp only at h
            split at h
            · simp only [Option.some.injEq, Prod.mk.injEq] at h; omega
            · split at h
              · cases hv : upU 62 false (v'.drop 3) with
                | none => rw [hv] at h; cases h
                | some z => rw [hv] at h; simp only [Option.map_some, Option.some.injEq, Prod.mk.injEq] at h; omega
              · simp only [Option.some.injEq, Prod.mk.injEq] at h; omega
        simp only [List.length_cons]; omega
      · rw [rterm_none h1 h2 h3] at h; cases h
theorem rt_len {s : T} {a : T3} {r : T} (h : rt s = some (a, r)) : a.2.1.length ≤ 4 * s.length ∧ a.2.2.length ≤ 4 * s.length ∧ r.length ≤ s.length ∧ 1 ≤ a.1 ∧ a.1 ≤ 5 := by
  unfold rt at h
  cases hr : rterm s with
  | none => rw [hr] at h; cases h
  | some p =>
    obtain ⟨k, t, x, v⟩ := p
    rw [hr] at h
    simp only [Option.some.injEq, Prod.mk.injEq] at h
    obtain ⟨rfl, rfl⟩ := h
    have h1 := rterm_len hr
    have h2 := dw_len blankC v
    simp only; omega
end Go.Proofs.YtjaebndajhppgaaGreatDoor.Tm
