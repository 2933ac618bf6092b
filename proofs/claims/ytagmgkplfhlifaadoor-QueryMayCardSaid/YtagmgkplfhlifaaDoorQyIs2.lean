/- query.Is: filters, variables, limits. -/
import Derived.Test.YtagmgkplfhlifaaDoorQyIs
namespace Go.Proofs.YtagmgkplfhlifaaDoor
set_option linter.unusedVariables false
set_option linter.unusedSimpArgs false
set_option maxRecDepth 100000
open Go.ChangeShapes Go.WideShapes Go.ChangeAt Go.RowKit
open Au
theorem run_store_float (P : Program) (w : World) (a : Addr) (m : Mode) (k : FloatKind) (n : Nat) : (store a (.float k n) m).run P w = stored P w a (.float k n) m := run_store P w a _ m rfl
/-- A slice of filters. -/
def FisAt (W : World) (sl : Value) (L : List Fi) : Prop := ∃ (a : Option Addr) (cap b off : Nat), sl = .slice a L.length cap ∧ L.length ≤ cap ∧ cap ≤ maxLen ∧ (a = none → cap = 0) ∧ (0 < L.length → a = some ⟨b, off, none⟩) ∧
  (∀ i (h : i < L.length), W.cell? ⟨b, off + i * 3, none⟩ = some (str L[i].v) ∧ W.cell? ⟨b, off + i * 3 + 1, none⟩ = some (str L[i].op) ∧ W.cell? ⟨b, off + i * 3 + 2, none⟩ = some (.float .f64 L[i].n)) ∧ (∀ i (h : i < L.length), L[i].v.length ≤ 140737488351232 ∧ L[i].op.length ≤ 140737488351232)
theorem FisAt.keep {W W' : World} {sl : Value} {L : List Fi} (h : FisAt W sl L) (hb : Below W.heap.size W W') : FisAt W' sl L := by
  obtain ⟨a, cap, b, off, e, h1, h2, h3, h4, h5, h6⟩ := h
  exact ⟨a, cap, b, off, e, h1, h2, h3, h4, fun i hi => ⟨below_keep hb (h5 i hi).1, below_keep hb (h5 i hi).2.1, below_keep hb (h5 i hi).2.2⟩, h6⟩
/-- A query's value, and how it lies. -/
def qyV (q : Qy) (vs sl fs : Value) : Value := .agg #[.bool q.ask, vs, sl, fs, .int .i64 q.lim, .int .i64 q.off]
structure QyAt (W : World) (vs sl fs : Value) (q : Qy) : Prop where
  vars : TextsAt W vs q.vars
  ps : PasAt W sl q.ps
  fs : FisAt W fs q.fs
  lim : -9223372036854775808 ≤ q.lim ∧ q.lim ≤ 9223372036854775807
  off : -9223372036854775808 ≤ q.off ∧ q.off ≤ 9223372036854775807
theorem QyAt.keep {W W' : World} {vs sl fs : Value} {q : Qy} (h : QyAt W vs sl fs q) (hb : Below W.heap.size W W') : QyAt W' vs sl fs q := ⟨h.vars.keep hb, h.ps.keep hb, h.fs.keep hb, h.lim, h.off⟩
theorem qlims_any (ask : Bool) (va sa fa : Option Addr) (vn vc sn sc fn fc : Nat) (lim off : Int) (w : World) (h1 : -9223372036854775808 ≤ lim ∧ lim ≤ 9223372036854775807) (h2 : -9223372036854775808 ≤ off ∧ off ≤ 9223372036854775807) :
    Calls Tryd.prog 42 #[.agg #[.bool ask, .slice va vn vc, .slice sa sn sc, .slice fa fn fc, .int .i64 lim, .int .i64 off]] w fun o w' => o = .returned (.bool (limOk lim off)) ∧ Below w.heap.size w w' := by
  have HB := hid (show Below w.heap.size w (w.alloc (.cells #[.bool ask, .slice va vn vc, .slice sa sn sc, .slice fa fn fc, .int .i64 lim, .int .i64 off] 40)) from (Below.refl _ _).alloc (Nat.le_refl _) _)
  obtain ⟨b, hb⟩ : ∃ b, b = limOk lim off := ⟨_, rfl⟩
  have HL := hid (show b = (decide (-1 ≤ lim) && decide (lim ≤ 1000) && decide (0 ≤ off) && decide (off ≤ 1000)) from hb)
  rw [← hb]
  clear hb
  by_cases a1 : -1 ≤ lim
  · by_cases a2 : lim ≤ 1000
    · by_cases a3 : 0 ≤ off
      · by_cases a4 : off ≤ 1000
        · go_enter Tryd.func42, Tryd.ntmps42
          go_wp2
          go_ret
          exact ⟨by rw [HL.out]; simp; omega, HB.out⟩
        · go_enter Tryd.func42, Tryd.ntmps42
          go_wp2
          go_ret
          exact ⟨by rw [HL.out]; simp; omega, HB.out⟩
      · go_enter Tryd.func42, Tryd.ntmps42
        go_wp2
        go_ret
        exact ⟨by rw [HL.out]; simp; omega, HB.out⟩
    · go_enter Tryd.func42, Tryd.ntmps42
      go_wp2
      go_ret
      exact ⟨by rw [HL.out]; simp; omega, HB.out⟩
  · go_enter Tryd.func42, Tryd.ntmps42
    go_wp2
    go_ret
    exact ⟨by rw [HL.out]; simp; omega, HB.out⟩
set_option maxHeartbeats 1000000 in
theorem qfils_any (L : List T) (fs : List Fi) (u sl : Value) (w : World) (hL : TextsAt w u L) (hF : FisAt w sl fs) (hn : fs.length ≤ 140737488351232) (hm : L.length ≤ 140737488351232) :
    Calls Tryd.prog 40 #[sl, u] w fun o w' => o = .returned (.bool (fisOk L fs)) ∧ Below w.heap.size w w' := by
  obtain ⟨a, cap, b, off, rfl, h1, h2, h3, h4, h5, h6⟩ := hF
  have HL := hid hL
  have HA := hid h4
  have HROW := hid h5
  have HLEN := hid h6
  obtain ⟨n, hN⟩ : ∃ n, n = fs.length := ⟨_, rfl⟩
  have HN := hid hN
  rw [← hN] at hn h1 ⊢
  have SC := hid (fun (s : T) (W : World) (h : TextsAt W u L) => scont_any u L s W h hm)
  have HM := hid hm
  obtain ⟨ua, uc, rfl, _⟩ := hL.open
  generalize hL0 : L.length = un at *
  clear hN h4 h5 h6 hL
  have hsf := @run_store_float Tryd.prog
  go_enter Tryd.func40, Tryd.ntmps40
  go_wp2
  go_loopg [9] n (fun gk s9 wr => ∃ i : Nat, s9 = .int .i64 i ∧ i ≤ n ∧ n - i ≤ gk ∧ Hid (Below w.heap.size w wr) ∧ Hid ((fs.take i).all (fun f => decide (f.v ∈ L) && isOp f.op) = true))
  case atStart => exact ⟨0, rfl, Nat.zero_le _, Nat.le_refl _, Below.refl _ _, rfl⟩
  case round =>
    obtain ⟨i, rfl, hin, hg, HB, HALL⟩ := hrel
    by_cases hlt : i < n
    · have hltz : (i : Int) < (n : Int) := by omega
      have hiL : i < fs.length := by rw [← HN.out]; exact hlt
      have ha := HA.out (by omega)
      subst ha
      obtain ⟨c0, c1, c2⟩ := HROW.out i hiL
      replace c0 := below_keep HB.out c0
      replace c1 := below_keep HB.out c1
      replace c2 := below_keep HB.out c2
      have HS := hid (fun hf => gall_step (f := fun f : Fi => decide (f.v ∈ L) && isOp f.op) HALL.out (List.getElem?_eq_getElem hiL) hf)
      have HX := hid (fun hf => gall_stop (f := fun f : Fi => decide (f.v ∈ L) && isOp f.op) (List.getElem?_eq_getElem hiL) hf)
      have hle := HLEN.out i hiL
      generalize fs[i] = x at c0 c1 c2 HS HX hle
      obtain ⟨v, op, nn⟩ := x
      simp only at c0 c1 c2 HS HX hle
      have HBx := hid (HB.out.alloc HB.out.size (.cells #[str v, str op, .float .f64 nn] 80))
      have SC1 := hid (fun W (h : Below w.heap.size w W) => SC.out v W (HL.out.keep h))
      have OP1 := hid (fun W => qisop_any op W (by omega))
      obtain ⟨b1, hb1⟩ : ∃ b1, b1 = decide (v ∈ L) := ⟨_, rfl⟩
      obtain ⟨b2, hb2⟩ : ∃ b2, b2 = isOp op := ⟨_, rfl⟩
      rw [← hb1] at SC1 HS HX
      rw [← hb2] at OP1 HS HX
      clear hb1 hb2 hle
      cases b1
      · have HF := hid (HX.out rfl)
        go_wp2_with (go_at_call 58; refine (SC1.out _ HBx.out).mono ?_; rintro e w' ⟨rfl, hw⟩; subst hw)
        go_ret
        exact ⟨by unfold fisOk; rw [HF.out]; rfl, HBx.out⟩
      · cases b2
        · have HF := hid (HX.out rfl)
          go_wp2_with (first
            | (go_at_call 58; refine (SC1.out _ HBx.out).mono ?_; rintro e w' ⟨rfl, hw⟩; subst hw)
            | (go_at_call 59; refine (OP1.out _).mono ?_; rintro e w' ⟨rfl, hw⟩; subst hw))
          go_ret
          exact ⟨by unfold fisOk; rw [HF.out]; rfl, HBx.out⟩
        · have HF := hid (HS.out rfl)
          go_wp2_with (first
            | (go_at_call 58; refine (SC1.out _ HBx.out).mono ?_; rintro e w' ⟨rfl, hw⟩; subst hw)
            | (go_at_call 59; refine (OP1.out _).mono ?_; rintro e w' ⟨rfl, hw⟩; subst hw))
          go_roundg (n - (i + 1))
          case measure => omega
          case rel => exact ⟨i + 1, by go_num, by omega, by omega, HBx.out, HF.out⟩
    · obtain rfl : i = n := by omega
      have hltz : ¬ (i : Int) < (i : Int) := by omega
      have HF := hid (show fisOk L fs = true by
        have := HALL.out
        rw [List.take_of_length_le (by rw [← HN.out]; exact Nat.le_refl _)] at this
        exact this)
      go_wp2
      go_ret
      exact ⟨by rw [HF.out]; rfl, HB.out⟩
end Go.Proofs.YtagmgkplfhlifaaDoor
