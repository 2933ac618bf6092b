/- The document's reader: a literal. -/
import Derived.Test.YtjaebndajhppgaaGreatDoorGLn1
namespace Go.Proofs.YtjaebndajhppgaaGreatDoor
set_option linter.unusedVariables false
set_option linter.unusedSimpArgs false
set_option maxRecDepth 100000
open Go.ChangeShapes Go.WideShapes Go.ChangeAt Go.RowKit

namespace Tm
/-- A literal, behind its sign. -/
def rlit (r : T) : Option (Nat × T × T × T) := match upU 34 true r with
  | none => none
  | some (t, v) => if v.headD 0 = 64 then some (4, t, (v.tail.takeWhile alnumD).map lower, v.tail.dropWhile alnumD)
    else if v.take 3 = [94, 94, 60] then (upU 62 false (v.drop 3)).map (fun q => (5, t, q.1, q.2))
    else some (3, t, [], v)
theorem upU_len {e : UInt8} {lit : Bool} : ∀ (n : Nat) {s t v : T}, s.length ≤ n → upU e lit s = some (t, v) → t.length ≤ 4 * s.length ∧ v.length < s.length
  | _, [], t, v, _, h => by cases h
  | 0, c :: s, t, v, hn, _ => by simp at hn
  | n + 1, c :: s, t, v, hn, h => by
    rw [upU_cons] at h
    simp only [List.length_cons] at hn ⊢
    split at h
    · simp only [Option.some.injEq, Prod.mk.injEq] at h
      obtain ⟨rfl, rfl⟩ := h
      simp
    · split at h
      · cases he : esc1 lit s with
        | none => rw [he] at h; cases h
        | some p =>
          obtain ⟨x, k⟩ := p
          rw [he] at h
          obtain ⟨h1, h2, h3⟩ := esc1_len he
          simp only at h
          cases hu : upU e lit (s.drop k) with
          | none => rw [hu] at h; cases h
          | some z =>
            obtain ⟨t', v'⟩ := z
            rw [hu] at h
            simp only [Option.map_some, Option.some.injEq, Prod.mk.injEq] at h
            obtain ⟨rfl, rfl⟩ := h
            have := upU_len n (s := s.drop k) (by rw [List.length_drop]; omega) hu
            rw [List.length_drop] at this
            rw [List.length_append]; omega
      · split at h
        · cases h
        · cases hu : upU e lit s with
          | none => rw [hu] at h; cases h
          | some z =>
            obtain ⟨t', v'⟩ := z
            rw [hu] at h
            simp only [Option.map_some, Option.some.injEq, Prod.mk.injEq] at h
            obtain ⟨rfl, rfl⟩ := h
            have := upU_len n (by omega) hu
            simp only [List.length_cons]; omega
end Tm
theorem lit_cells {w : World} {b : Nat} {x y z : Value} {t : TypeId} (h : Blk w b [x, y, z] t) :
    (∀ o, (w.alloc o).cell? ⟨b, 0, none⟩ = some x ∧ (w.alloc o).frozen? ⟨b, 0, none⟩ = false) ∧ (∀ o, (w.alloc o).cell? ⟨b, 1, none⟩ = some y ∧ (w.alloc o).frozen? ⟨b, 1, none⟩ = false) ∧ (∀ o, (w.alloc o).cell? ⟨b, 2, none⟩ = some z ∧ (w.alloc o).frozen? ⟨b, 2, none⟩ = false) :=
  ⟨fun o => ⟨(h.alloc o).cell rfl, (h.alloc o).free 0⟩, fun o => ⟨(h.alloc o).cell rfl, (h.alloc o).free 1⟩, fun o => ⟨(h.alloc o).cell rfl, (h.alloc o).free 2⟩⟩
/-- A result that is laid into its cells. -/
theorem lit_end {w X : World} {q b : Nat} {x y z v0 v1 v2 : Value} {s : List UInt8} {e : Bool} {t : TypeId} (hT : Blk X b [x, y, z] t) (hq : Rd X q s e) (hne : b ≠ q) (hB : But q w X) (hb : w.heap.size ≤ b) :
    Blk (((X.setCell ⟨b, 0, none⟩ v0).setCell ⟨b, 1, none⟩ v1).setCell ⟨b, 2, none⟩ v2) b [v0, v1, v2] t ∧ Rd (((X.setCell ⟨b, 0, none⟩ v0).setCell ⟨b, 1, none⟩ v1).setCell ⟨b, 2, none⟩ v2) q s e ∧ But q w (((X.setCell ⟨b, 0, none⟩ v0).setCell ⟨b, 1, none⟩ v1).setCell ⟨b, 2, none⟩ v2) := by
  refine ⟨((hT.set 0 v0).set 1 v1).set 2 v2, Blk.other (Blk.other (Blk.other hq (Ne.symm hne) 0 v0) (Ne.symm hne) 1 v1) (Ne.symm hne) 2 v2, ?_⟩
  have st : ∀ (X : World) (i : Nat) (v : Value), But q w X → But q w (X.setCell ⟨b, i, none⟩ v) := fun X i v h =>
    ⟨h.os, h.tape, h.output, by have := h.size; simpa using this, fun k hk hn => by rw [Below.heap_setCell _ _ _ _ (by show k ≠ b; omega)]; exact h.block k hk hn⟩
  exact st _ _ _ (st _ _ _ (st _ _ _ hB))
theorem struct_ret {fn : Func} {tmps : Array Value} {Z : World} {b : Nat} {v0 v1 v2 : Value} (ht : tmps.getD 2 undef = .pointer (some ⟨b, 0, none⟩)) (hZ : Blk Z b [v0, v1, v2] 61) (hf : fn.results = #[.cell 2 61]) :
    (results fn tmps).run Tryz.prog Z = .ok (.agg #[v0, v1, v2]) Z := by
  have h0 := hZ.cell (i := 0) rfl
  have h1 := hZ.cell (i := 1) rfl
  have h2 := hZ.cell (i := 2) rfl
  have ht' : tmps[2]?.getD undef = .pointer (some ⟨b, 0, none⟩) := by simpa using ht
  simp [results, hf, ht', go_sem, h0, h1, h2]
/-- What a term's reading leaves. -/
def LitPost (q : Nat) (w : World) (r : Option (Nat × List UInt8 × List UInt8 × List UInt8)) (e : Ending) (w' : World) : Prop :=
  But q w w' ∧ match r with
    | none => (∃ k t x, e = .returned (tmV k t x)) ∧ Rd w' q [] true
    | some (k, t, x, v) => e = .returned (tmV (k : Nat) t x) ∧ Rd w' q v false
set_option maxHeartbeats 2000000 in
theorem rlit_none (q : Nat) (s : List UInt8) (w : World) (hr : Rd w q s false) (hl : s.length ≤ 100000000) (h : Tm.upU 34 true s = none) :
    Calls Tryz.prog 185 #[rdp q] w (LitPost q w (Tm.rlit s)) := by
  have HN := hid (show Tm.rlit s = none by unfold Tm.rlit; rw [h])
  rw [HN.out]
  have HR := hid hr
  have UP := hid (fun w hr => rup_any q s false 34 true w hr (by omega) (by decide) (by decide))
  rw [h] at UP
  have HA := hid (fun w p (hr : Rd w q [] true) (hp : p.length ≤ 3) => rhas_any q [] p true w hr (by simp) (by omega))
  clear hr h
  go_enter Tryz.func185, Tryz.ntmps185
  go_wp2_with fail
  refine (UP.out _ (HR.out.keep ((Below.refl _ _).alloc (Nat.le_refl _) _))).mono ?_
  rintro e w2 ⟨rfl, hr2, hb2⟩
  have HR2 := hid (show Rd w2 q [] true from hr2)
  have hlt := (HR.out).lt
  have HB2 := hid (show But q w w2 from (But.below ((Below.refl w.heap.size w).alloc (Nat.le_refl _) _)).trans hb2)
  have HT2 := hid (But.blk (Blk.new w [.int .i64 0, str [], str []] 61) hb2 (by omega))
  have hz2 := hb2.size
  clear hr2 hb2
  have HA1 := hid (fun w (hr : Rd w q [] true) => HA.out w [64] hr (by simp))
  have HA2 := hid (fun w (hr : Rd w q [] true) => HA.out w [94, 94, 60] hr (by simp))
  obtain ⟨x0, x1, x2⟩ := lit_cells HT2.out
  go_wp2_with fail
  refine (HA1.out _ (HR2.out.keep ((Below.refl _ _).alloc (Nat.le_refl _) _))).mono ?_
  rintro e w3 ⟨rfl, rfl⟩
  go_wp2_with fail
  refine (HA2.out _ (HR2.out.keep ((Below.refl _ _).alloc (Nat.le_refl _) _))).mono ?_
  rintro e w3 ⟨rfl, rfl⟩
  go_wp2
  have HX := lit_end (hT := HT2.out.alloc (.cells #[.int .i64 3, .string ⟨(upT none).toArray⟩, .string ⟨#[]⟩] 61)) (v0 := .int .i64 3) (v1 := .string ⟨(upT none).toArray⟩) (v2 := .string ⟨#[]⟩) (hq := HR2.out.keep ((Below.refl _ _).alloc (Nat.le_refl _) _)) (hne := by omega) (hB := HB2.out.trans (But.below ((Below.refl _ _).alloc (Nat.le_refl _) _))) (hb := Nat.le_refl _)
  obtain ⟨hx1, hx2, hx3⟩ := HX
  exact bodyPost_ret (v := tmV 3 [] []) (struct_ret rfl hx1 Tryz.results185) rfl ⟨hx3, ⟨3, [], [], rfl⟩, hx2⟩
theorem tw_len (p : UInt8 → Bool) (l : List UInt8) : (l.takeWhile p).length ≤ l.length := by
  have := congrArg List.length (List.takeWhile_append_dropWhile (p := p) (l := l))
  rw [List.length_append] at this; omega
theorem But.fresh {q b : Nat} {w X : World} (h : But q w X) (hb : w.heap.size ≤ b) (i : Nat) (v : Value) : But q w (X.setCell ⟨b, i, none⟩ v) :=
  ⟨h.os, h.tape, h.output, by have := h.size; simpa using this, fun k hk hn => by rw [Below.heap_setCell _ _ _ _ (by show k ≠ b; omega)]; exact h.block k hk hn⟩
theorem take1 (v : List UInt8) : decide (v.take ([64] : List UInt8).length = [64]) = decide (v.headD 0 = 64) := by
  cases v with
  | nil => rfl
  | cons c t => simp
set_option maxHeartbeats 2000000 in
theorem rlit_plain (q : Nat) (s t v : List UInt8) (w : World) (hr : Rd w q s false) (hl : s.length ≤ 100000000) (h : Tm.upU 34 true s = some (t, v)) (h1 : v.headD 0 ≠ 64) (h3 : v.take 3 ≠ [94, 94, 60]) :
    Calls Tryz.prog 185 #[rdp q] w (LitPost q w (Tm.rlit s)) := by
  have HN := hid (show Tm.rlit s = some (3, t, [], v) by unfold Tm.rlit; rw [h]; simp only; rw [if_neg h1, if_neg h3])
  rw [HN.out]
  have HR := hid hr
  have hlen := Tm.upU_len s.length (Nat.le_refl _) h
  have UP := hid (fun w hr => rup_any q s false 34 true w hr (by omega) (by decide) (by decide))
  rw [h] at UP
  have HA1 := hid (fun w (hr : Rd w q v false) => rhas_any q v [64] false w hr (by omega) (by simp))
  rw [take1, decide_eq_false h1] at HA1
  have HA2 := hid (fun w (hr : Rd w q v false) => rhas_any q v [94, 94, 60] false w hr (by omega) (by simp))
  rw [show decide (v.take ([94, 94, 60] : List UInt8).length = [94, 94, 60]) = false from decide_eq_false h3] at HA2
  clear hr h h1 h3 hlen
  go_enter Tryz.func185, Tryz.ntmps185
  go_wp2_with fail
  refine (UP.out _ (HR.out.keep ((Below.refl _ _).alloc (Nat.le_refl _) _))).mono ?_
  rintro e w2 ⟨rfl, hr2, hb2⟩
  have HR2 := hid (show Rd w2 q v false from hr2)
  have hlt := (HR.out).lt
  have HB2 := hid (show But q w w2 from (But.below ((Below.refl w.heap.size w).alloc (Nat.le_refl _) _)).trans hb2)
  have HT2 := hid (But.blk (Blk.new w [.int .i64 0, str [], str []] 61) hb2 (by omega))
  have hz2 := hb2.size
  clear hr2 hb2
  obtain ⟨x0, x1, x2⟩ := lit_cells HT2.out
  go_wp2_with fail
  refine (HA1.out _ (HR2.out.keep ((Below.refl _ _).alloc (Nat.le_refl _) _))).mono ?_
  rintro e w3 ⟨rfl, rfl⟩
  go_wp2_with fail
  refine (HA2.out _ (HR2.out.keep ((Below.refl _ _).alloc (Nat.le_refl _) _))).mono ?_
  rintro e w3 ⟨rfl, rfl⟩
  go_wp2
  have HX := lit_end (hT := HT2.out.alloc (.cells #[.int .i64 3, .string ⟨t.toArray⟩, .string ⟨#[]⟩] 61)) (v0 := .int .i64 3) (v1 := .string ⟨t.toArray⟩) (v2 := .string ⟨#[]⟩) (hq := HR2.out.keep ((Below.refl _ _).alloc (Nat.le_refl _) _)) (hne := by omega) (hB := HB2.out.trans (But.below ((Below.refl _ _).alloc (Nat.le_refl _) _))) (hb := Nat.le_refl _)
  obtain ⟨hx1, hx2, hx3⟩ := HX
  exact bodyPost_ret (v := tmV 3 t []) (struct_ret rfl hx1 Tryz.results185) rfl ⟨hx3, rfl, hx2⟩
set_option maxHeartbeats 4000000 in
theorem rlit_lang (q : Nat) (s t v : List UInt8) (w : World) (hr : Rd w q s false) (hl : s.length ≤ 100000000) (h : Tm.upU 34 true s = some (t, v)) (h1 : v.headD 0 = 64) :
    Calls Tryz.prog 185 #[rdp q] w (LitPost q w (Tm.rlit s)) := by
  have HN := hid (show Tm.rlit s = some (4, t, (v.tail.takeWhile Tm.alnumD).map Tm.lower, v.tail.dropWhile Tm.alnumD) by unfold Tm.rlit; rw [h]; simp only; rw [if_pos h1])
  rw [HN.out]
  have HR := hid hr
  have hlen := Tm.upU_len s.length (Nat.le_refl _) h
  have UP := hid (fun w hr => rup_any q s false 34 true w hr (by omega) (by decide) (by decide))
  rw [h] at UP
  have HA1 := hid (fun w (hr : Rd w q v false) => rhas_any q v [64] false w hr (by omega) (by simp))
  rw [take1, decide_eq_true h1] at HA1
  obtain ⟨u, rfl⟩ : ∃ u, v = 64 :: u := by
    cases v with
    | nil => exact absurd h1 (by decide)
    | cons c u => exact ⟨u, by simp only [List.headD_cons] at h1; rw [h1]⟩
  simp only [List.length_cons, List.tail_cons] at hlen ⊢
  have RN := hid (fun w (hr : Rd w q u false) => rrun_any q u false true w hr (by omega))
  rw [alp_true] at RN
  have hal := tw_len Tm.alnumD u
  have SM := hid (fun w => rsmall_any (u.takeWhile Tm.alnumD) w (by omega))
  obtain ⟨a, ha⟩ : ∃ a, a = u.takeWhile Tm.alnumD := ⟨_, rfl⟩
  rw [← ha] at RN SM hal ⊢
  obtain ⟨d, hd⟩ : ∃ d, d = u.dropWhile Tm.alnumD := ⟨_, rfl⟩
  rw [← hd] at RN ⊢
  obtain ⟨m, hm⟩ : ∃ m, m = a.map Tm.lower := ⟨_, rfl⟩
  rw [← hm] at SM ⊢
  have hex : (⟨(64 :: u).toArray⟩ : ByteArray).extract 1 (u.length + 1) = ⟨u.toArray⟩ := ba_tail 64 u
  have hul : u.length + 1 ≤ 9223372036854775807 := by omega
  have hu1 : (1 : Int) ≤ (u.length : Int) + 1 := by omega
  clear hr h h1 hlen ha hd hm hal
  go_enter Tryz.func185, Tryz.ntmps185
  go_wp2_with fail
  refine (UP.out _ (HR.out.keep ((Below.refl _ _).alloc (Nat.le_refl _) _))).mono ?_
  rintro e w2 ⟨rfl, hr2, hb2⟩
  have HR2 := hid (show Rd w2 q (64 :: u) false from hr2)
  have hlt := (HR.out).lt
  have HB2 := hid (show But q w w2 from (But.below ((Below.refl w.heap.size w).alloc (Nat.le_refl _) _)).trans hb2)
  have HT2 := hid (But.blk (Blk.new w [.int .i64 0, str [], str []] 61) hb2 (by omega))
  have hz2 : w.heap.size + 1 ≤ w2.heap.size := by have := hb2.size; simpa using this
  clear hr2 hb2
  have HRx := hid (HR2.out.keep ((Below.refl _ _).alloc (Nat.le_refl _) (.cells #[.int .i64 3, .string ⟨t.toArray⟩, .string ⟨#[]⟩] 61)))
  obtain ⟨c0, c1, f0, f1⟩ := HRx.out.cells
  go_wp2_with fail
  refine (HA1.out _ HRx.out).mono ?_
  rintro e w3 ⟨rfl, rfl⟩
  go_wp2_with fail
  refine (RN.out _ (HRx.out.set0 (t := u))).mono ?_
  rintro e w5 ⟨rfl, hr5, hb5⟩
  have hq2 : q ≠ w2.heap.size := by have := HR2.out.lt; omega
  have HT5 := hid (But.blk (Blk.other (HT2.out.alloc (.cells #[.int .i64 3, .string ⟨t.toArray⟩, .string ⟨#[]⟩] 61)) (by omega) 0 (str u)) hb5 (by omega))
  have HU5 := hid (But.blk (Blk.other (Blk.new w2 [.int .i64 3, .string ⟨t.toArray⟩, .string ⟨#[]⟩] 61) (Ne.symm hq2) 0 (str u)) hb5 (Ne.symm hq2))
  have HB5 := hid ((HB2.out.trans ((But.below ((Below.refl _ _).alloc (Nat.le_refl _) _)).trans (But.set q _ 0 _))).trans hb5)
  have HR5 := hid hr5
  clear hr5 hb5 c0 c1 f0 f1
  go_wp2_with fail
  refine (SM.out _).mono ?_
  rintro e w6 ⟨rfl, hb6⟩
  have HT6 := hid (HT5.out.keep hb6)
  have HU6 := hid (HU5.out.keep hb6)
  have HB6 := hid (HB5.out.trans (But.below hb6))
  have HR6 := hid (HR5.out.keep hb6)
  clear hb6
  have d0 := HU6.out.cell (i := 0) rfl
  have d1 := HU6.out.cell (i := 1) rfl
  have d2 := HU6.out.cell (i := 2) rfl
  have e0 := HU6.out.free 0
  have e1 := HU6.out.free 1
  have e2 := HU6.out.free 2
  have g0 := HT6.out.cell (i := 0) rfl
  have g1 := HT6.out.cell (i := 1) rfl
  have g2 := HT6.out.cell (i := 2) rfl
  have k0 := HT6.out.free 0
  have k1 := HT6.out.free 1
  have k2 := HT6.out.free 2
  have hb02 : w.heap.size ≠ w2.heap.size := by omega
  have hb20 : w2.heap.size ≠ w.heap.size := by omega
  go_wp2
  have HX := lit_end (hT := Blk.other (Blk.other HT6.out hb02 0 (.int .i64 4)) hb02 2 (.string ⟨m.toArray⟩)) (v0 := .int .i64 4) (v1 := .string ⟨t.toArray⟩) (v2 := .string ⟨m.toArray⟩) (hq := Blk.other (Blk.other HR6.out hq2 0 _) hq2 2 _) (hne := by omega) (hB := (HB6.out.fresh (by omega) 0 _).fresh (by omega) 2 _) (hb := Nat.le_refl _)
  obtain ⟨hx1, hx2, hx3⟩ := HX
  exact bodyPost_ret (v := tmV 4 t m) (struct_ret rfl hx1 Tryz.results185) rfl ⟨hx3, rfl, hx2⟩
set_option maxHeartbeats 4000000 in
theorem rlit_typed (q : Nat) (s t v : List UInt8) (w : World) (hr : Rd w q s false) (hl : s.length ≤ 100000000) (h : Tm.upU 34 true s = some (t, v)) (h1 : v.headD 0 ≠ 64) (h3 : v.take 3 = [94, 94, 60]) :
    Calls Tryz.prog 185 #[rdp q] w (LitPost q w (Tm.rlit s)) := by
  obtain ⟨u, rfl⟩ : ∃ u, v = 94 :: 94 :: 60 :: u := by
    refine ⟨v.drop 3, ?_⟩
    have := List.take_append_drop 3 v
    rw [h3] at this
    exact this.symm
  have HN := hid (show Tm.rlit s = (Tm.upU 62 false u).map (fun q => (5, t, q.1, q.2)) by unfold Tm.rlit; rw [h]; simp only; rw [if_neg h1, if_pos h3]; rfl)
  rw [HN.out]
  have HR := hid hr
  have hlen := Tm.upU_len s.length (Nat.le_refl _) h
  simp only [List.length_cons] at hlen
  have UP := hid (fun w hr => rup_any q s false 34 true w hr (by omega) (by decide) (by decide))
  rw [h] at UP
  have HA1 := hid (fun w (hr : Rd w q (94 :: 94 :: 60 :: u) false) => rhas_any q _ [64] false w hr (by simp only [List.length_cons]; omega) (by simp))
  rw [take1, decide_eq_false h1] at HA1
  have HA2 := hid (fun w (hr : Rd w q (94 :: 94 :: 60 :: u) false) => rhas_any q _ [94, 94, 60] false w hr (by simp only [List.length_cons]; omega) (by simp))
  rw [show decide ((94 :: 94 :: 60 :: u : List UInt8).take ([94, 94, 60] : List UInt8).length = [94, 94, 60]) = true from decide_eq_true h3] at HA2
  have UP2 := hid (fun w (hr : Rd w q u false) => rup_any q u false 62 false w hr (by omega) (by decide) (by decide))
  have hex : (⟨(94 :: 94 :: 60 :: u).toArray⟩ : ByteArray).extract 3 (u.length + 1 + 1 + 1) = ⟨u.toArray⟩ := by
    have := ba_drop (94 :: 94 :: 60 :: u) 3
    simpa using this
  have hul : u.length + 1 + 1 + 1 ≤ 9223372036854775807 := by omega
  have hu1 : (3 : Int) ≤ (u.length : Int) + 1 + 1 + 1 := by omega
  clear hr h h1 h3 hlen
  cases hu : Tm.upU 62 false u with
  | none =>
    rw [hu] at UP2
    clear hu
    go_enter Tryz.func185, Tryz.ntmps185
    go_wp2_with fail
    refine (UP.out _ (HR.out.keep ((Below.refl _ _).alloc (Nat.le_refl _) _))).mono ?_
    rintro e w2 ⟨rfl, hr2, hb2⟩
    have HR2 := hid (show Rd w2 q (94 :: 94 :: 60 :: u) false from hr2)
    have hlt := (HR.out).lt
    have HB2 := hid (show But q w w2 from (But.below ((Below.refl w.heap.size w).alloc (Nat.le_refl _) _)).trans hb2)
    have HT2 := hid (But.blk (Blk.new w [.int .i64 0, str [], str []] 61) hb2 (by omega))
    have hz2 : w.heap.size + 1 ≤ w2.heap.size := by have := hb2.size; simpa using this
    clear hr2 hb2
    have HRx := hid (HR2.out.keep ((Below.refl _ _).alloc (Nat.le_refl _) (.cells #[.int .i64 3, .string ⟨t.toArray⟩, .string ⟨#[]⟩] 61)))
    obtain ⟨c0, c1, f0, f1⟩ := HRx.out.cells
    go_wp2_with fail
    refine (HA1.out _ HRx.out).mono ?_
    rintro e w3 ⟨rfl, rfl⟩
    go_wp2_with fail
    refine (HA2.out _ HRx.out).mono ?_
    rintro e w3 ⟨rfl, rfl⟩
    go_wp2_with fail
    refine (UP2.out _ (HRx.out.set0 (t := u))).mono ?_
    rintro e w6 ⟨rfl, hr5, hb5⟩
    have hq2 : q ≠ w2.heap.size := by have := HR2.out.lt; omega
    have HT6 := hid (But.blk (Blk.other (HT2.out.alloc (.cells #[.int .i64 3, .string ⟨t.toArray⟩, .string ⟨#[]⟩] 61)) (by omega) 0 (str u)) hb5 (by omega))
    have HU6 := hid (But.blk (Blk.other (Blk.new w2 [.int .i64 3, .string ⟨t.toArray⟩, .string ⟨#[]⟩] 61) (Ne.symm hq2) 0 (str u)) hb5 (Ne.symm hq2))
    have HB6 := hid ((HB2.out.trans ((But.below ((Below.refl _ _).alloc (Nat.le_refl _) _)).trans (But.set q _ 0 _))).trans hb5)
    have HR6 := hid hr5
    clear hr5 hb5 c0 c1 f0 f1
    have d0 := HU6.out.cell (i := 0) rfl
    have d1 := HU6.out.cell (i := 1) rfl
    have d2 := HU6.out.cell (i := 2) rfl
    have e0 := HU6.out.free 0
    have e1 := HU6.out.free 1
    have e2 := HU6.out.free 2
    have g0 := HT6.out.cell (i := 0) rfl
    have g1 := HT6.out.cell (i := 1) rfl
    have g2 := HT6.out.cell (i := 2) rfl
    have k0 := HT6.out.free 0
    have k1 := HT6.out.free 1
    have k2 := HT6.out.free 2
    have hb02 : w.heap.size ≠ w2.heap.size := by omega
    have hb20 : w2.heap.size ≠ w.heap.size := by omega
    go_wp2
    have HX := lit_end (hT := Blk.other (Blk.other HT6.out hb02 0 (.int .i64 5)) hb02 2 (.string ⟨#[]⟩)) (v0 := .int .i64 5) (v1 := .string ⟨t.toArray⟩) (v2 := .string ⟨#[]⟩) (hq := Blk.other (Blk.other HR6.out hq2 0 _) hq2 2 _) (hne := by omega) (hB := (HB6.out.fresh (by omega) 0 _).fresh (by omega) 2 _) (hb := Nat.le_refl _)
    obtain ⟨hx1, hx2, hx3⟩ := HX
    exact bodyPost_ret (v := tmV 5 t []) (struct_ret rfl hx1 Tryz.results185) rfl ⟨hx3, ⟨5, t, [], rfl⟩, hx2⟩
  | some p =>
    obtain ⟨x, d⟩ := p
    rw [hu] at UP2
    clear hu
    go_enter Tryz.func185, Tryz.ntmps185
    go_wp2_with fail
    refine (UP.out _ (HR.out.keep ((Below.refl _ _).alloc (Nat.le_refl _) _))).mono ?_
    rintro e w2 ⟨rfl, hr2, hb2⟩
    have HR2 := hid (show Rd w2 q (94 :: 94 :: 60 :: u) false from hr2)
    have hlt := (HR.out).lt
    have HB2 := hid (show But q w w2 from (But.below ((Below.refl w.heap.size w).alloc (Nat.le_refl _) _)).trans hb2)
    have HT2 := hid (But.blk (Blk.new w [.int .i64 0, str [], str []] 61) hb2 (by omega))
    have hz2 : w.heap.size + 1 ≤ w2.heap.size := by have := hb2.size; simpa using this
    clear hr2 hb2
    have HRx := hid (HR2.out.keep ((Below.refl _ _).alloc (Nat.le_refl _) (.cells #[.int .i64 3, .string ⟨t.toArray⟩, .string ⟨#[]⟩] 61)))
    obtain ⟨c0, c1, f0, f1⟩ := HRx.out.cells
    go_wp2_with fail
    refine (HA1.out _ HRx.out).mono ?_
    rintro e w3 ⟨rfl, rfl⟩
    go_wp2_with fail
    refine (HA2.out _ HRx.out).mono ?_
    rintro e w3 ⟨rfl, rfl⟩
    go_wp2_with fail
    refine (UP2.out _ (HRx.out.set0 (t := u))).mono ?_
    rintro e w6 ⟨rfl, hr5, hb5⟩
    have hq2 : q ≠ w2.heap.size := by have := HR2.out.lt; omega
    have HT6 := hid (But.blk (Blk.other (HT2.out.alloc (.cells #[.int .i64 3, .string ⟨t.toArray⟩, .string ⟨#[]⟩] 61)) (by omega) 0 (str u)) hb5 (by omega))
    have HU6 := hid (But.blk (Blk.other (Blk.new w2 [.int .i64 3, .string ⟨t.toArray⟩, .string ⟨#[]⟩] 61) (Ne.symm hq2) 0 (str u)) hb5 (Ne.symm hq2))
    have HB6 := hid ((HB2.out.trans ((But.below ((Below.refl _ _).alloc (Nat.le_refl _) _)).trans (But.set q _ 0 _))).trans hb5)
    have HR6 := hid hr5
    clear hr5 hb5 c0 c1 f0 f1
    have d0 := HU6.out.cell (i := 0) rfl
    have d1 := HU6.out.cell (i := 1) rfl
    have d2 := HU6.out.cell (i := 2) rfl
    have e0 := HU6.out.free 0
    have e1 := HU6.out.free 1
    have e2 := HU6.out.free 2
    have g0 := HT6.out.cell (i := 0) rfl
    have g1 := HT6.out.cell (i := 1) rfl
    have g2 := HT6.out.cell (i := 2) rfl
    have k0 := HT6.out.free 0
    have k1 := HT6.out.free 1
    have k2 := HT6.out.free 2
    have hb02 : w.heap.size ≠ w2.heap.size := by omega
    have hb20 : w2.heap.size ≠ w.heap.size := by omega
    go_wp2
    have HX := lit_end (hT := Blk.other (Blk.other HT6.out hb02 0 (.int .i64 5)) hb02 2 (.string ⟨x.toArray⟩)) (v0 := .int .i64 5) (v1 := .string ⟨t.toArray⟩) (v2 := .string ⟨x.toArray⟩) (hq := Blk.other (Blk.other HR6.out hq2 0 _) hq2 2 _) (hne := by omega) (hB := (HB6.out.fresh (by omega) 0 _).fresh (by omega) 2 _) (hb := Nat.le_refl _)
    obtain ⟨hx1, hx2, hx3⟩ := HX
    exact bodyPost_ret (v := tmV 5 t x) (struct_ret rfl hx1 Tryz.results185) rfl ⟨hx3, rfl, hx2⟩
theorem rlit_any (q : Nat) (s : List UInt8) (w : World) (hr : Rd w q s false) (hl : s.length ≤ 100000000) :
    Calls Tryz.prog 185 #[rdp q] w (LitPost q w (Tm.rlit s)) := by
  cases h : Tm.upU 34 true s with
  | none => exact rlit_none q s w hr hl h
  | some p =>
    obtain ⟨t, v⟩ := p
    by_cases h1 : v.headD 0 = 64
    · exact rlit_lang q s t v w hr hl h h1
    · by_cases h3 : v.take 3 = [94, 94, 60]
      · exact rlit_typed q s t v w hr hl h h1 h3
      · exact rlit_plain q s t v w hr hl h h1 h3
end Go.Proofs.YtjaebndajhppgaaGreatDoor
