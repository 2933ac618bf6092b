/- QueryBinds: ^ binds closest, then what stands behind, then /, then |: six texts read as what they are in brackets, for every number. -/
import Derived.Test.YtagmgkplfhlifaaDoorQpLaid
import Derived.Test.YtagmgkplfhlifaaDoorQpKnown
import Derived.Test.YtagmgkplfhlifaaDoorQpShowA
import Derived.Test.YtagmgkplfhlifaaDoorRSame
namespace Go.Proofs.YtagmgkplfhlifaaDoor
set_option linter.unusedVariables false
set_option linter.unusedSimpArgs false
set_option maxRecDepth 100000
open Go.ChangeShapes Go.WideShapes Go.ChangeAt Go.RowKit
open Au
def bS (i : Nat) : T := ([[94, 60, 97, 62, 42], [60, 97, 62, 47, 60, 98, 62, 42], [60, 97, 62, 124, 60, 98, 62, 47, 60, 99, 62], [60, 97, 62, 47, 60, 98, 62, 47, 60, 99, 62], [33, 60, 97, 62, 124, 60, 98, 62], [33, 40, 60, 97, 62, 124, 60, 98, 62, 41, 47, 60, 99, 62, 63, 43]] : List T).getD i []
def bT (i : Nat) : T := ([[40, 94, 60, 97, 62, 41, 42], [60, 97, 62, 47, 40, 60, 98, 62, 42, 41], [60, 97, 62, 124, 40, 60, 98, 62, 47, 60, 99, 62, 41], [40, 60, 97, 62, 47, 60, 98, 62, 41, 47, 60, 99, 62], [40, 33, 40, 60, 97, 62, 41, 41, 124, 60, 98, 62], [40, 33, 40, 60, 97, 62, 124, 60, 98, 62, 41, 41, 47, 40, 40, 60, 99, 62, 63, 41, 43, 41]] : List T).getD i []
def bX (i : Nat) : Pt := match Qp.whole (bS i) with | .ok x _ => x | .err _ _ => default
def resIs (r : Res) (x : Pt) : Bool := match r with | .ok y u => y.same x && u.isEmpty | .err _ _ => false
theorem resIs_eq {r : Res} {x : Pt} (h : resIs r x = true) : r = .ok x [] := by
  cases r with
  | err e u => cases h
  | ok y u =>
    simp only [resIs, Bool.and_eq_true, Pt.same_iff, List.isEmpty_iff] at h
    rw [h.1, h.2]
def bChk (i : Nat) : Bool := resIs (Qp.whole (bS i)) (bX i) && resIs (Qp.whole (bT i)) (bX i) && decide ((bX i).show = bT i) && (bX i).may && decide ((bS i).length ≤ 600) && decide ((bT i).length ≤ 600)
theorem b_chk : (List.range 6).all bChk = true := by kernel_rfl
theorem b_at {i : Nat} (h : i < 6) : Qp.whole (bS i) = .ok (bX i) [] ∧ Qp.whole (bT i) = .ok (bX i) [] ∧ (bX i).show = bT i ∧ (bX i).may = true ∧ (bS i).length ≤ 600 ∧ (bT i).length ≤ 600 := by
  have h1 := List.all_eq_true.1 b_chk i (List.mem_range.2 h)
  simp only [bChk, Bool.and_eq_true, decide_eq_true_eq] at h1
  obtain ⟨⟨⟨⟨⟨h1, h2⟩, h3⟩, h4⟩, h5⟩, h6⟩ := h1
  exact ⟨resIs_eq h1, resIs_eq h2, h3, h4, h5, h6⟩
theorem b_path {s : T} {x : Pt} (h : Qp.whole s = .ok x []) (hl : s.length ≤ 600) (w : World) (hV : QVars w) : Calls Tryd.prog 13 #[str s] w fun e w' => Hid (Below w.heap.size w w') ∧
    ∃ (a : Option Addr) (n c : Nat) (a' : Option Addr) (n' c' : Nat), Hid (PtAt w' (.slice a n c) (.slice a' n' c') x) ∧ e = .returned (.tuple #[.agg #[.int .i64 x.kind, str x.text, .slice a n c, .slice a' n' c'], .int .i64 (s.length : Nat), .int .i64 0]) := by
  refine (qpathf_any _ w (by omega) hV).mono ?_
  rintro e w' ⟨hb, h1⟩
  rw [h] at h1
  rcases h1 with ⟨h1, _⟩ | ⟨_, y, a, a', n, c, n', c', j, hx, hP, he⟩ | ⟨_, no, j, _, _, hx, _⟩
  · omega
  · injection hx with hx1 hx2
    subst hx1
    exact ⟨hb, a, n, c, a', n', c', hP, he⟩
  · injection hx
--CUT--
set_option maxHeartbeats 4000000 in
theorem binds_0 (w : World) (hV : QVars w) :
    Calls Tryd.prog 9 #[.int .i64 0] w fun e w' => e = .returned (.bool true) ∧ Below w.heap.size w w' := by
  obtain ⟨h1, h2, h3, h4, h5, h6⟩ := b_at (i := 0) (by decide)
  have KN := hid fun W (hb : Below w.heap.size w W) => qknown_any W (hV.keep hb)
  obtain ⟨x, hx⟩ : ∃ x, x = bX 0 := ⟨_, rfl⟩
  rw [← hx] at h1 h2 h3 h4
  have HV := hid hV
  have RS := hid (rsame_any x)
  have SH := hid fun v u W (h : PtAt W v u x) (hT : T8 W) => qshowf_any x (qshow_any x 0 (by unfold Pt.may at h4; rw [Bool.and_eq_true] at h4; exact h4.1)) h4 (by rw [h3]; omega) v u W h hT
  rw [h3] at SH
  have P1 := hid fun W (hb : Below w.heap.size w W) => b_path h1 h5 W (hV.keep hb)
  have P2 := hid fun W (hb : Below w.heap.size w W) => b_path h2 h6 W (hV.keep hb)
  have BX := hid fun W v u (h : PtAt W v u x) => pt_box W x v u h
  unfold pv at RS SH
  obtain ⟨k, hk⟩ : ∃ z, z = x.kind := ⟨_, rfl⟩
  obtain ⟨tx, htx⟩ : ∃ z, z = x.text := ⟨_, rfl⟩
  simp only [SameOk, pv] at RS
  rw [← hk, ← htx] at P1 P2 SH
  rw [← hk, ← htx] at BX
  have RS := hid fun v u v' u' W (h1 : PtAt W v u x) (h2 : PtAt W v' u' x) => RS.out x v u v' u' W h1 h2
  rw [← hk, ← htx, (Pt.same_iff x x).2 rfl] at RS
  have P1 := hid (show ∀ W, Below w.heap.size w W → Calls Tryd.prog 13 #[.string ⟨#[94, 60, 97, 62, 42]⟩] W fun e w' => Hid (Below W.heap.size W w') ∧
    ∃ (a : Option Addr) (n c : Nat) (a' : Option Addr) (n' c' : Nat), Hid (PtAt w' (.slice a n c) (.slice a' n' c') x) ∧ e = .returned (.tuple #[.agg #[.int .i64 k, str tx, .slice a n c, .slice a' n' c'], .int .i64 5, .int .i64 0]) from P1.out)
  have P2 := hid (show ∀ W, Below w.heap.size w W → Calls Tryd.prog 13 #[.string ⟨#[40, 94, 60, 97, 62, 41, 42]⟩] W fun e w' => Hid (Below W.heap.size W w') ∧
    ∃ (a : Option Addr) (n c : Nat) (a' : Option Addr) (n' c' : Nat), Hid (PtAt w' (.slice a n c) (.slice a' n' c') x) ∧ e = .returned (.tuple #[.agg #[.int .i64 k, str tx, .slice a n c, .slice a' n' c'], .int .i64 7, .int .i64 0]) from P2.out)
  have SH := hid (show ∀ v u W, PtAt W v u x → T8 W → Calls Tryd.prog 21 #[.agg #[.int .i64 k, str tx, v, u]] W fun e w' => e = .returned (.string ⟨#[40, 94, 60, 97, 62, 41, 42]⟩) ∧ Below W.heap.size W w' from SH.out)
  clear h1 h2 h3 h4 h5 h6 hx hk htx hV
  go_enter Tryd.func9, Tryd.ntmps9
  go_upto_region 5 with fail
  go_upto_region 6 with (go_at_call 13; refine (P1.out _ (((Below.refl w.heap.size w).alloc (Nat.le_refl _) _).alloc (by simp) _)).mono ?_; rintro e w5 ⟨HB5, a, n, c, a', n', c', HP, rfl⟩)
  have HB5 := hid ((((Below.refl w.heap.size w).alloc (Nat.le_refl _) _).alloc (by simp) _).trans (HB5.out.mono (by simp; omega)))
  obtain ⟨w6, hw6, hz, HX, HP6, HB6⟩ := BX.out w5 _ _ HP.out
  have HBB6 := hid (HB5.out.trans (HB6.out.mono HB5.out.size))
  rw [← hw6]
  clear hw6 HP HB5 HB6 hz P1
  go_upto_region 7 with (go_at_call 13; refine (P2.out _ HBB6.out).mono ?_; rintro e w7 ⟨HB7, a2, n2, c2, a2', n2', c2', HP7, rfl⟩)
  obtain ⟨w8, hw8, hz8, HX8, HP8, HB8⟩ := BX.out w7 _ _ HP7.out
  have HX7 := hid (HX.out.keep HB7.out)
  have HX7 := hid (HX7.out.keep HB8.out)
  have HP6 := hid ((HP6.out.keep HB7.out).keep HB8.out)
  have HB8 := hid (HBB6.out.trans ((HB7.out.trans (HB8.out.mono HB7.out.size)).mono HBB6.out.size))
  rw [← hw8]
  obtain ⟨r0, r1, r2, r3⟩ := blk4 HX7.out
  obtain ⟨s0, s1, s2, s3⟩ := blk4 HX8.out
  clear hw8 hz8 HP7 HBB6 HX HX7 HX8 HB7 BX P2
  have RS := hid (RS.out _ _ _ _ w8 HP6.out HP8.out)
  go_wp2_with (first
    | (go_at_call 16; refine RS.out.mono ?_; rintro e w9 ⟨rfl, hb9⟩; have HB9 := hid (HB8.out.trans (hb9.mono HB8.out.size)); have HP9 := hid (HP6.out.keep hb9); have q0 := below_keep hb9 r0; have q1 := below_keep hb9 r1; have q2 := below_keep hb9 r2; have q3 := below_keep hb9 r3; clear hb9)
    | (go_at_call 21; refine (SH.out _ _ _ HP9.out ((HV.out.keep HB9.out).1)).mono ?_; rintro e w10 ⟨rfl, hb10⟩; have HB10 := hid (HB9.out.trans (hb10.mono HB9.out.size)); clear hb10)
    | (go_at_call 17; refine (KN.out _ HB10.out).mono ?_; rintro e w11 ⟨rfl, hb11⟩))
  go_ret
  exact ⟨rfl, HB10.out.trans (hb11.mono HB10.out.size)⟩
set_option maxHeartbeats 4000000 in
theorem binds_1 (w : World) (hV : QVars w) :
    Calls Tryd.prog 9 #[.int .i64 1] w fun e w' => e = .returned (.bool true) ∧ Below w.heap.size w w' := by
  obtain ⟨h1, h2, h3, h4, h5, h6⟩ := b_at (i := 1) (by decide)
  have KN := hid fun W (hb : Below w.heap.size w W) => qknown_any W (hV.keep hb)
  obtain ⟨x, hx⟩ : ∃ x, x = bX 1 := ⟨_, rfl⟩
  rw [← hx] at h1 h2 h3 h4
  have HV := hid hV
  have RS := hid (rsame_any x)
  have SH := hid fun v u W (h : PtAt W v u x) (hT : T8 W) => qshowf_any x (qshow_any x 0 (by unfold Pt.may at h4; rw [Bool.and_eq_true] at h4; exact h4.1)) h4 (by rw [h3]; omega) v u W h hT
  rw [h3] at SH
  have P1 := hid fun W (hb : Below w.heap.size w W) => b_path h1 h5 W (hV.keep hb)
  have P2 := hid fun W (hb : Below w.heap.size w W) => b_path h2 h6 W (hV.keep hb)
  have BX := hid fun W v u (h : PtAt W v u x) => pt_box W x v u h
  unfold pv at RS SH
  obtain ⟨k, hk⟩ : ∃ z, z = x.kind := ⟨_, rfl⟩
  obtain ⟨tx, htx⟩ : ∃ z, z = x.text := ⟨_, rfl⟩
  simp only [SameOk, pv] at RS
  rw [← hk, ← htx] at P1 P2 SH
  rw [← hk, ← htx] at BX
  have RS := hid fun v u v' u' W (h1 : PtAt W v u x) (h2 : PtAt W v' u' x) => RS.out x v u v' u' W h1 h2
  rw [← hk, ← htx, (Pt.same_iff x x).2 rfl] at RS
  have P1 := hid (show ∀ W, Below w.heap.size w W → Calls Tryd.prog 13 #[.string ⟨#[60, 97, 62, 47, 60, 98, 62, 42]⟩] W fun e w' => Hid (Below W.heap.size W w') ∧
    ∃ (a : Option Addr) (n c : Nat) (a' : Option Addr) (n' c' : Nat), Hid (PtAt w' (.slice a n c) (.slice a' n' c') x) ∧ e = .returned (.tuple #[.agg #[.int .i64 k, str tx, .slice a n c, .slice a' n' c'], .int .i64 8, .int .i64 0]) from P1.out)
  have P2 := hid (show ∀ W, Below w.heap.size w W → Calls Tryd.prog 13 #[.string ⟨#[60, 97, 62, 47, 40, 60, 98, 62, 42, 41]⟩] W fun e w' => Hid (Below W.heap.size W w') ∧
    ∃ (a : Option Addr) (n c : Nat) (a' : Option Addr) (n' c' : Nat), Hid (PtAt w' (.slice a n c) (.slice a' n' c') x) ∧ e = .returned (.tuple #[.agg #[.int .i64 k, str tx, .slice a n c, .slice a' n' c'], .int .i64 10, .int .i64 0]) from P2.out)
  have SH := hid (show ∀ v u W, PtAt W v u x → T8 W → Calls Tryd.prog 21 #[.agg #[.int .i64 k, str tx, v, u]] W fun e w' => e = .returned (.string ⟨#[60, 97, 62, 47, 40, 60, 98, 62, 42, 41]⟩) ∧ Below W.heap.size W w' from SH.out)
  clear h1 h2 h3 h4 h5 h6 hx hk htx hV
  go_enter Tryd.func9, Tryd.ntmps9
  go_upto_region 5 with fail
  go_upto_region 6 with (go_at_call 13; refine (P1.out _ (((Below.refl w.heap.size w).alloc (Nat.le_refl _) _).alloc (by simp) _)).mono ?_; rintro e w5 ⟨HB5, a, n, c, a', n', c', HP, rfl⟩)
  have HB5 := hid ((((Below.refl w.heap.size w).alloc (Nat.le_refl _) _).alloc (by simp) _).trans (HB5.out.mono (by simp; omega)))
  obtain ⟨w6, hw6, hz, HX, HP6, HB6⟩ := BX.out w5 _ _ HP.out
  have HBB6 := hid (HB5.out.trans (HB6.out.mono HB5.out.size))
  rw [← hw6]
  clear hw6 HP HB5 HB6 hz P1
  go_upto_region 7 with (go_at_call 13; refine (P2.out _ HBB6.out).mono ?_; rintro e w7 ⟨HB7, a2, n2, c2, a2', n2', c2', HP7, rfl⟩)
  obtain ⟨w8, hw8, hz8, HX8, HP8, HB8⟩ := BX.out w7 _ _ HP7.out
  have HX7 := hid (HX.out.keep HB7.out)
  have HX7 := hid (HX7.out.keep HB8.out)
  have HP6 := hid ((HP6.out.keep HB7.out).keep HB8.out)
  have HB8 := hid (HBB6.out.trans ((HB7.out.trans (HB8.out.mono HB7.out.size)).mono HBB6.out.size))
  rw [← hw8]
  obtain ⟨r0, r1, r2, r3⟩ := blk4 HX7.out
  obtain ⟨s0, s1, s2, s3⟩ := blk4 HX8.out
  clear hw8 hz8 HP7 HBB6 HX HX7 HX8 HB7 BX P2
  have RS := hid (RS.out _ _ _ _ w8 HP6.out HP8.out)
  go_wp2_with (first
    | (go_at_call 16; refine RS.out.mono ?_; rintro e w9 ⟨rfl, hb9⟩; have HB9 := hid (HB8.out.trans (hb9.mono HB8.out.size)); have HP9 := hid (HP6.out.keep hb9); have q0 := below_keep hb9 r0; have q1 := below_keep hb9 r1; have q2 := below_keep hb9 r2; have q3 := below_keep hb9 r3; clear hb9)
    | (go_at_call 21; refine (SH.out _ _ _ HP9.out ((HV.out.keep HB9.out).1)).mono ?_; rintro e w10 ⟨rfl, hb10⟩; have HB10 := hid (HB9.out.trans (hb10.mono HB9.out.size)); clear hb10)
    | (go_at_call 17; refine (KN.out _ HB10.out).mono ?_; rintro e w11 ⟨rfl, hb11⟩))
  go_ret
  exact ⟨rfl, HB10.out.trans (hb11.mono HB10.out.size)⟩
set_option maxHeartbeats 4000000 in
theorem binds_2 (w : World) (hV : QVars w) :
    Calls Tryd.prog 9 #[.int .i64 2] w fun e w' => e = .returned (.bool true) ∧ Below w.heap.size w w' := by
  obtain ⟨h1, h2, h3, h4, h5, h6⟩ := b_at (i := 2) (by decide)
  have KN := hid fun W (hb : Below w.heap.size w W) => qknown_any W (hV.keep hb)
  obtain ⟨x, hx⟩ : ∃ x, x = bX 2 := ⟨_, rfl⟩
  rw [← hx] at h1 h2 h3 h4
  have HV := hid hV
  have RS := hid (rsame_any x)
  have SH := hid fun v u W (h : PtAt W v u x) (hT : T8 W) => qshowf_any x (qshow_any x 0 (by unfold Pt.may at h4; rw [Bool.and_eq_true] at h4; exact h4.1)) h4 (by rw [h3]; omega) v u W h hT
  rw [h3] at SH
  have P1 := hid fun W (hb : Below w.heap.size w W) => b_path h1 h5 W (hV.keep hb)
  have P2 := hid fun W (hb : Below w.heap.size w W) => b_path h2 h6 W (hV.keep hb)
  have BX := hid fun W v u (h : PtAt W v u x) => pt_box W x v u h
  unfold pv at RS SH
  obtain ⟨k, hk⟩ : ∃ z, z = x.kind := ⟨_, rfl⟩
  obtain ⟨tx, htx⟩ : ∃ z, z = x.text := ⟨_, rfl⟩
  simp only [SameOk, pv] at RS
  rw [← hk, ← htx] at P1 P2 SH
  rw [← hk, ← htx] at BX
  have RS := hid fun v u v' u' W (h1 : PtAt W v u x) (h2 : PtAt W v' u' x) => RS.out x v u v' u' W h1 h2
  rw [← hk, ← htx, (Pt.same_iff x x).2 rfl] at RS
  have P1 := hid (show ∀ W, Below w.heap.size w W → Calls Tryd.prog 13 #[.string ⟨#[60, 97, 62, 124, 60, 98, 62, 47, 60, 99, 62]⟩] W fun e w' => Hid (Below W.heap.size W w') ∧
    ∃ (a : Option Addr) (n c : Nat) (a' : Option Addr) (n' c' : Nat), Hid (PtAt w' (.slice a n c) (.slice a' n' c') x) ∧ e = .returned (.tuple #[.agg #[.int .i64 k, str tx, .slice a n c, .slice a' n' c'], .int .i64 11, .int .i64 0]) from P1.out)
  have P2 := hid (show ∀ W, Below w.heap.size w W → Calls Tryd.prog 13 #[.string ⟨#[60, 97, 62, 124, 40, 60, 98, 62, 47, 60, 99, 62, 41]⟩] W fun e w' => Hid (Below W.heap.size W w') ∧
    ∃ (a : Option Addr) (n c : Nat) (a' : Option Addr) (n' c' : Nat), Hid (PtAt w' (.slice a n c) (.slice a' n' c') x) ∧ e = .returned (.tuple #[.agg #[.int .i64 k, str tx, .slice a n c, .slice a' n' c'], .int .i64 13, .int .i64 0]) from P2.out)
  have SH := hid (show ∀ v u W, PtAt W v u x → T8 W → Calls Tryd.prog 21 #[.agg #[.int .i64 k, str tx, v, u]] W fun e w' => e = .returned (.string ⟨#[60, 97, 62, 124, 40, 60, 98, 62, 47, 60, 99, 62, 41]⟩) ∧ Below W.heap.size W w' from SH.out)
  clear h1 h2 h3 h4 h5 h6 hx hk htx hV
  go_enter Tryd.func9, Tryd.ntmps9
  go_upto_region 5 with fail
  go_upto_region 6 with (go_at_call 13; refine (P1.out _ (((Below.refl w.heap.size w).alloc (Nat.le_refl _) _).alloc (by simp) _)).mono ?_; rintro e w5 ⟨HB5, a, n, c, a', n', c', HP, rfl⟩)
  have HB5 := hid ((((Below.refl w.heap.size w).alloc (Nat.le_refl _) _).alloc (by simp) _).trans (HB5.out.mono (by simp; omega)))
  obtain ⟨w6, hw6, hz, HX, HP6, HB6⟩ := BX.out w5 _ _ HP.out
  have HBB6 := hid (HB5.out.trans (HB6.out.mono HB5.out.size))
  rw [← hw6]
  clear hw6 HP HB5 HB6 hz P1
  go_upto_region 7 with (go_at_call 13; refine (P2.out _ HBB6.out).mono ?_; rintro e w7 ⟨HB7, a2, n2, c2, a2', n2', c2', HP7, rfl⟩)
  obtain ⟨w8, hw8, hz8, HX8, HP8, HB8⟩ := BX.out w7 _ _ HP7.out
  have HX7 := hid (HX.out.keep HB7.out)
  have HX7 := hid (HX7.out.keep HB8.out)
  have HP6 := hid ((HP6.out.keep HB7.out).keep HB8.out)
  have HB8 := hid (HBB6.out.trans ((HB7.out.trans (HB8.out.mono HB7.out.size)).mono HBB6.out.size))
  rw [← hw8]
  obtain ⟨r0, r1, r2, r3⟩ := blk4 HX7.out
  obtain ⟨s0, s1, s2, s3⟩ := blk4 HX8.out
  clear hw8 hz8 HP7 HBB6 HX HX7 HX8 HB7 BX P2
  have RS := hid (RS.out _ _ _ _ w8 HP6.out HP8.out)
  go_wp2_with (first
    | (go_at_call 16; refine RS.out.mono ?_; rintro e w9 ⟨rfl, hb9⟩; have HB9 := hid (HB8.out.trans (hb9.mono HB8.out.size)); have HP9 := hid (HP6.out.keep hb9); have q0 := below_keep hb9 r0; have q1 := below_keep hb9 r1; have q2 := below_keep hb9 r2; have q3 := below_keep hb9 r3; clear hb9)
    | (go_at_call 21; refine (SH.out _ _ _ HP9.out ((HV.out.keep HB9.out).1)).mono ?_; rintro e w10 ⟨rfl, hb10⟩; have HB10 := hid (HB9.out.trans (hb10.mono HB9.out.size)); clear hb10)
    | (go_at_call 17; refine (KN.out _ HB10.out).mono ?_; rintro e w11 ⟨rfl, hb11⟩))
  go_ret
  exact ⟨rfl, HB10.out.trans (hb11.mono HB10.out.size)⟩
set_option maxHeartbeats 4000000 in
theorem binds_3 (w : World) (hV : QVars w) :
    Calls Tryd.prog 9 #[.int .i64 3] w fun e w' => e = .returned (.bool true) ∧ Below w.heap.size w w' := by
  obtain ⟨h1, h2, h3, h4, h5, h6⟩ := b_at (i := 3) (by decide)
  have KN := hid fun W (hb : Below w.heap.size w W) => qknown_any W (hV.keep hb)
  obtain ⟨x, hx⟩ : ∃ x, x = bX 3 := ⟨_, rfl⟩
  rw [← hx] at h1 h2 h3 h4
  have HV := hid hV
  have RS := hid (rsame_any x)
  have SH := hid fun v u W (h : PtAt W v u x) (hT : T8 W) => qshowf_any x (qshow_any x 0 (by unfold Pt.may at h4; rw [Bool.and_eq_true] at h4; exact h4.1)) h4 (by rw [h3]; omega) v u W h hT
  rw [h3] at SH
  have P1 := hid fun W (hb : Below w.heap.size w W) => b_path h1 h5 W (hV.keep hb)
  have P2 := hid fun W (hb : Below w.heap.size w W) => b_path h2 h6 W (hV.keep hb)
  have BX := hid fun W v u (h : PtAt W v u x) => pt_box W x v u h
  unfold pv at RS SH
  obtain ⟨k, hk⟩ : ∃ z, z = x.kind := ⟨_, rfl⟩
  obtain ⟨tx, htx⟩ : ∃ z, z = x.text := ⟨_, rfl⟩
  simp only [SameOk, pv] at RS
  rw [← hk, ← htx] at P1 P2 SH
  rw [← hk, ← htx] at BX
  have RS := hid fun v u v' u' W (h1 : PtAt W v u x) (h2 : PtAt W v' u' x) => RS.out x v u v' u' W h1 h2
  rw [← hk, ← htx, (Pt.same_iff x x).2 rfl] at RS
  have P1 := hid (show ∀ W, Below w.heap.size w W → Calls Tryd.prog 13 #[.string ⟨#[60, 97, 62, 47, 60, 98, 62, 47, 60, 99, 62]⟩] W fun e w' => Hid (Below W.heap.size W w') ∧
    ∃ (a : Option Addr) (n c : Nat) (a' : Option Addr) (n' c' : Nat), Hid (PtAt w' (.slice a n c) (.slice a' n' c') x) ∧ e = .returned (.tuple #[.agg #[.int .i64 k, str tx, .slice a n c, .slice a' n' c'], .int .i64 11, .int .i64 0]) from P1.out)
  have P2 := hid (show ∀ W, Below w.heap.size w W → Calls Tryd.prog 13 #[.string ⟨#[40, 60, 97, 62, 47, 60, 98, 62, 41, 47, 60, 99, 62]⟩] W fun e w' => Hid (Below W.heap.size W w') ∧
    ∃ (a : Option Addr) (n c : Nat) (a' : Option Addr) (n' c' : Nat), Hid (PtAt w' (.slice a n c) (.slice a' n' c') x) ∧ e = .returned (.tuple #[.agg #[.int .i64 k, str tx, .slice a n c, .slice a' n' c'], .int .i64 13, .int .i64 0]) from P2.out)
  have SH := hid (show ∀ v u W, PtAt W v u x → T8 W → Calls Tryd.prog 21 #[.agg #[.int .i64 k, str tx, v, u]] W fun e w' => e = .returned (.string ⟨#[40, 60, 97, 62, 47, 60, 98, 62, 41, 47, 60, 99, 62]⟩) ∧ Below W.heap.size W w' from SH.out)
  clear h1 h2 h3 h4 h5 h6 hx hk htx hV
  go_enter Tryd.func9, Tryd.ntmps9
  go_upto_region 5 with fail
  go_upto_region 6 with (go_at_call 13; refine (P1.out _ (((Below.refl w.heap.size w).alloc (Nat.le_refl _) _).alloc (by simp) _)).mono ?_; rintro e w5 ⟨HB5, a, n, c, a', n', c', HP, rfl⟩)
  have HB5 := hid ((((Below.refl w.heap.size w).alloc (Nat.le_refl _) _).alloc (by simp) _).trans (HB5.out.mono (by simp; omega)))
  obtain ⟨w6, hw6, hz, HX, HP6, HB6⟩ := BX.out w5 _ _ HP.out
  have HBB6 := hid (HB5.out.trans (HB6.out.mono HB5.out.size))
  rw [← hw6]
  clear hw6 HP HB5 HB6 hz P1
  go_upto_region 7 with (go_at_call 13; refine (P2.out _ HBB6.out).mono ?_; rintro e w7 ⟨HB7, a2, n2, c2, a2', n2', c2', HP7, rfl⟩)
  obtain ⟨w8, hw8, hz8, HX8, HP8, HB8⟩ := BX.out w7 _ _ HP7.out
  have HX7 := hid (HX.out.keep HB7.out)
  have HX7 := hid (HX7.out.keep HB8.out)
  have HP6 := hid ((HP6.out.keep HB7.out).keep HB8.out)
  have HB8 := hid (HBB6.out.trans ((HB7.out.trans (HB8.out.mono HB7.out.size)).mono HBB6.out.size))
  rw [← hw8]
  obtain ⟨r0, r1, r2, r3⟩ := blk4 HX7.out
  obtain ⟨s0, s1, s2, s3⟩ := blk4 HX8.out
  clear hw8 hz8 HP7 HBB6 HX HX7 HX8 HB7 BX P2
  have RS := hid (RS.out _ _ _ _ w8 HP6.out HP8.out)
  go_wp2_with (first
    | (go_at_call 16; refine RS.out.mono ?_; rintro e w9 ⟨rfl, hb9⟩; have HB9 := hid (HB8.out.trans (hb9.mono HB8.out.size)); have HP9 := hid (HP6.out.keep hb9); have q0 := below_keep hb9 r0; have q1 := below_keep hb9 r1; have q2 := below_keep hb9 r2; have q3 := below_keep hb9 r3; clear hb9)
    | (go_at_call 21; refine (SH.out _ _ _ HP9.out ((HV.out.keep HB9.out).1)).mono ?_; rintro e w10 ⟨rfl, hb10⟩; have HB10 := hid (HB9.out.trans (hb10.mono HB9.out.size)); clear hb10)
    | (go_at_call 17; refine (KN.out _ HB10.out).mono ?_; rintro e w11 ⟨rfl, hb11⟩))
  go_ret
  exact ⟨rfl, HB10.out.trans (hb11.mono HB10.out.size)⟩
set_option maxHeartbeats 4000000 in
theorem binds_4 (w : World) (hV : QVars w) :
    Calls Tryd.prog 9 #[.int .i64 4] w fun e w' => e = .returned (.bool true) ∧ Below w.heap.size w w' := by
  obtain ⟨h1, h2, h3, h4, h5, h6⟩ := b_at (i := 4) (by decide)
  have KN := hid fun W (hb : Below w.heap.size w W) => qknown_any W (hV.keep hb)
  obtain ⟨x, hx⟩ : ∃ x, x = bX 4 := ⟨_, rfl⟩
  rw [← hx] at h1 h2 h3 h4
  have HV := hid hV
  have RS := hid (rsame_any x)
  have SH := hid fun v u W (h : PtAt W v u x) (hT : T8 W) => qshowf_any x (qshow_any x 0 (by unfold Pt.may at h4; rw [Bool.and_eq_true] at h4; exact h4.1)) h4 (by rw [h3]; omega) v u W h hT
  rw [h3] at SH
  have P1 := hid fun W (hb : Below w.heap.size w W) => b_path h1 h5 W (hV.keep hb)
  have P2 := hid fun W (hb : Below w.heap.size w W) => b_path h2 h6 W (hV.keep hb)
  have BX := hid fun W v u (h : PtAt W v u x) => pt_box W x v u h
  unfold pv at RS SH
  obtain ⟨k, hk⟩ : ∃ z, z = x.kind := ⟨_, rfl⟩
  obtain ⟨tx, htx⟩ : ∃ z, z = x.text := ⟨_, rfl⟩
  simp only [SameOk, pv] at RS
  rw [← hk, ← htx] at P1 P2 SH
  rw [← hk, ← htx] at BX
  have RS := hid fun v u v' u' W (h1 : PtAt W v u x) (h2 : PtAt W v' u' x) => RS.out x v u v' u' W h1 h2
  rw [← hk, ← htx, (Pt.same_iff x x).2 rfl] at RS
  have P1 := hid (show ∀ W, Below w.heap.size w W → Calls Tryd.prog 13 #[.string ⟨#[33, 60, 97, 62, 124, 60, 98, 62]⟩] W fun e w' => Hid (Below W.heap.size W w') ∧
    ∃ (a : Option Addr) (n c : Nat) (a' : Option Addr) (n' c' : Nat), Hid (PtAt w' (.slice a n c) (.slice a' n' c') x) ∧ e = .returned (.tuple #[.agg #[.int .i64 k, str tx, .slice a n c, .slice a' n' c'], .int .i64 8, .int .i64 0]) from P1.out)
  have P2 := hid (show ∀ W, Below w.heap.size w W → Calls Tryd.prog 13 #[.string ⟨#[40, 33, 40, 60, 97, 62, 41, 41, 124, 60, 98, 62]⟩] W fun e w' => Hid (Below W.heap.size W w') ∧
    ∃ (a : Option Addr) (n c : Nat) (a' : Option Addr) (n' c' : Nat), Hid (PtAt w' (.slice a n c) (.slice a' n' c') x) ∧ e = .returned (.tuple #[.agg #[.int .i64 k, str tx, .slice a n c, .slice a' n' c'], .int .i64 12, .int .i64 0]) from P2.out)
  have SH := hid (show ∀ v u W, PtAt W v u x → T8 W → Calls Tryd.prog 21 #[.agg #[.int .i64 k, str tx, v, u]] W fun e w' => e = .returned (.string ⟨#[40, 33, 40, 60, 97, 62, 41, 41, 124, 60, 98, 62]⟩) ∧ Below W.heap.size W w' from SH.out)
  clear h1 h2 h3 h4 h5 h6 hx hk htx hV
  go_enter Tryd.func9, Tryd.ntmps9
  go_upto_region 5 with fail
  go_upto_region 6 with (go_at_call 13; refine (P1.out _ (((Below.refl w.heap.size w).alloc (Nat.le_refl _) _).alloc (by simp) _)).mono ?_; rintro e w5 ⟨HB5, a, n, c, a', n', c', HP, rfl⟩)
  have HB5 := hid ((((Below.refl w.heap.size w).alloc (Nat.le_refl _) _).alloc (by simp) _).trans (HB5.out.mono (by simp; omega)))
  obtain ⟨w6, hw6, hz, HX, HP6, HB6⟩ := BX.out w5 _ _ HP.out
  have HBB6 := hid (HB5.out.trans (HB6.out.mono HB5.out.size))
  rw [← hw6]
  clear hw6 HP HB5 HB6 hz P1
  go_upto_region 7 with (go_at_call 13; refine (P2.out _ HBB6.out).mono ?_; rintro e w7 ⟨HB7, a2, n2, c2, a2', n2', c2', HP7, rfl⟩)
  obtain ⟨w8, hw8, hz8, HX8, HP8, HB8⟩ := BX.out w7 _ _ HP7.out
  have HX7 := hid (HX.out.keep HB7.out)
  have HX7 := hid (HX7.out.keep HB8.out)
  have HP6 := hid ((HP6.out.keep HB7.out).keep HB8.out)
  have HB8 := hid (HBB6.out.trans ((HB7.out.trans (HB8.out.mono HB7.out.size)).mono HBB6.out.size))
  rw [← hw8]
  obtain ⟨r0, r1, r2, r3⟩ := blk4 HX7.out
  obtain ⟨s0, s1, s2, s3⟩ := blk4 HX8.out
  clear hw8 hz8 HP7 HBB6 HX HX7 HX8 HB7 BX P2
  have RS := hid (RS.out _ _ _ _ w8 HP6.out HP8.out)
  go_wp2_with (first
    | (go_at_call 16; refine RS.out.mono ?_; rintro e w9 ⟨rfl, hb9⟩; have HB9 := hid (HB8.out.trans (hb9.mono HB8.out.size)); have HP9 := hid (HP6.out.keep hb9); have q0 := below_keep hb9 r0; have q1 := below_keep hb9 r1; have q2 := below_keep hb9 r2; have q3 := below_keep hb9 r3; clear hb9)
    | (go_at_call 21; refine (SH.out _ _ _ HP9.out ((HV.out.keep HB9.out).1)).mono ?_; rintro e w10 ⟨rfl, hb10⟩; have HB10 := hid (HB9.out.trans (hb10.mono HB9.out.size)); clear hb10)
    | (go_at_call 17; refine (KN.out _ HB10.out).mono ?_; rintro e w11 ⟨rfl, hb11⟩))
  go_ret
  exact ⟨rfl, HB10.out.trans (hb11.mono HB10.out.size)⟩
set_option maxHeartbeats 4000000 in
theorem binds_5 (w : World) (hV : QVars w) :
    Calls Tryd.prog 9 #[.int .i64 5] w fun e w' => e = .returned (.bool true) ∧ Below w.heap.size w w' := by
  obtain ⟨h1, h2, h3, h4, h5, h6⟩ := b_at (i := 5) (by decide)
  have KN := hid fun W (hb : Below w.heap.size w W) => qknown_any W (hV.keep hb)
  obtain ⟨x, hx⟩ : ∃ x, x = bX 5 := ⟨_, rfl⟩
  rw [← hx] at h1 h2 h3 h4
  have HV := hid hV
  have RS := hid (rsame_any x)
  have SH := hid fun v u W (h : PtAt W v u x) (hT : T8 W) => qshowf_any x (qshow_any x 0 (by unfold Pt.may at h4; rw [Bool.and_eq_true] at h4; exact h4.1)) h4 (by rw [h3]; omega) v u W h hT
  rw [h3] at SH
  have P1 := hid fun W (hb : Below w.heap.size w W) => b_path h1 h5 W (hV.keep hb)
  have P2 := hid fun W (hb : Below w.heap.size w W) => b_path h2 h6 W (hV.keep hb)
  have BX := hid fun W v u (h : PtAt W v u x) => pt_box W x v u h
  unfold pv at RS SH
  obtain ⟨k, hk⟩ : ∃ z, z = x.kind := ⟨_, rfl⟩
  obtain ⟨tx, htx⟩ : ∃ z, z = x.text := ⟨_, rfl⟩
  simp only [SameOk, pv] at RS
  rw [← hk, ← htx] at P1 P2 SH
  rw [← hk, ← htx] at BX
  have RS := hid fun v u v' u' W (h1 : PtAt W v u x) (h2 : PtAt W v' u' x) => RS.out x v u v' u' W h1 h2
  rw [← hk, ← htx, (Pt.same_iff x x).2 rfl] at RS
  have P1 := hid (show ∀ W, Below w.heap.size w W → Calls Tryd.prog 13 #[.string ⟨#[33, 40, 60, 97, 62, 124, 60, 98, 62, 41, 47, 60, 99, 62, 63, 43]⟩] W fun e w' => Hid (Below W.heap.size W w') ∧
    ∃ (a : Option Addr) (n c : Nat) (a' : Option Addr) (n' c' : Nat), Hid (PtAt w' (.slice a n c) (.slice a' n' c') x) ∧ e = .returned (.tuple #[.agg #[.int .i64 k, str tx, .slice a n c, .slice a' n' c'], .int .i64 16, .int .i64 0]) from P1.out)
  have P2 := hid (show ∀ W, Below w.heap.size w W → Calls Tryd.prog 13 #[.string ⟨#[40, 33, 40, 60, 97, 62, 124, 60, 98, 62, 41, 41, 47, 40, 40, 60, 99, 62, 63, 41, 43, 41]⟩] W fun e w' => Hid (Below W.heap.size W w') ∧
    ∃ (a : Option Addr) (n c : Nat) (a' : Option Addr) (n' c' : Nat), Hid (PtAt w' (.slice a n c) (.slice a' n' c') x) ∧ e = .returned (.tuple #[.agg #[.int .i64 k, str tx, .slice a n c, .slice a' n' c'], .int .i64 22, .int .i64 0]) from P2.out)
  have SH := hid (show ∀ v u W, PtAt W v u x → T8 W → Calls Tryd.prog 21 #[.agg #[.int .i64 k, str tx, v, u]] W fun e w' => e = .returned (.string ⟨#[40, 33, 40, 60, 97, 62, 124, 60, 98, 62, 41, 41, 47, 40, 40, 60, 99, 62, 63, 41, 43, 41]⟩) ∧ Below W.heap.size W w' from SH.out)
  clear h1 h2 h3 h4 h5 h6 hx hk htx hV
  go_enter Tryd.func9, Tryd.ntmps9
  go_upto_region 5 with fail
  go_upto_region 6 with (go_at_call 13; refine (P1.out _ (((Below.refl w.heap.size w).alloc (Nat.le_refl _) _).alloc (by simp) _)).mono ?_; rintro e w5 ⟨HB5, a, n, c, a', n', c', HP, rfl⟩)
  have HB5 := hid ((((Below.refl w.heap.size w).alloc (Nat.le_refl _) _).alloc (by simp) _).trans (HB5.out.mono (by simp; omega)))
  obtain ⟨w6, hw6, hz, HX, HP6, HB6⟩ := BX.out w5 _ _ HP.out
  have HBB6 := hid (HB5.out.trans (HB6.out.mono HB5.out.size))
  rw [← hw6]
  clear hw6 HP HB5 HB6 hz P1
  go_upto_region 7 with (go_at_call 13; refine (P2.out _ HBB6.out).mono ?_; rintro e w7 ⟨HB7, a2, n2, c2, a2', n2', c2', HP7, rfl⟩)
  obtain ⟨w8, hw8, hz8, HX8, HP8, HB8⟩ := BX.out w7 _ _ HP7.out
  have HX7 := hid (HX.out.keep HB7.out)
  have HX7 := hid (HX7.out.keep HB8.out)
  have HP6 := hid ((HP6.out.keep HB7.out).keep HB8.out)
  have HB8 := hid (HBB6.out.trans ((HB7.out.trans (HB8.out.mono HB7.out.size)).mono HBB6.out.size))
  rw [← hw8]
  obtain ⟨r0, r1, r2, r3⟩ := blk4 HX7.out
  obtain ⟨s0, s1, s2, s3⟩ := blk4 HX8.out
  clear hw8 hz8 HP7 HBB6 HX HX7 HX8 HB7 BX P2
  have RS := hid (RS.out _ _ _ _ w8 HP6.out HP8.out)
  go_wp2_with (first
    | (go_at_call 16; refine RS.out.mono ?_; rintro e w9 ⟨rfl, hb9⟩; have HB9 := hid (HB8.out.trans (hb9.mono HB8.out.size)); have HP9 := hid (HP6.out.keep hb9); have q0 := below_keep hb9 r0; have q1 := below_keep hb9 r1; have q2 := below_keep hb9 r2; have q3 := below_keep hb9 r3; clear hb9)
    | (go_at_call 21; refine (SH.out _ _ _ HP9.out ((HV.out.keep HB9.out).1)).mono ?_; rintro e w10 ⟨rfl, hb10⟩; have HB10 := hid (HB9.out.trans (hb10.mono HB9.out.size)); clear hb10)
    | (go_at_call 17; refine (KN.out _ HB10.out).mono ?_; rintro e w11 ⟨rfl, hb11⟩))
  go_ret
  exact ⟨rfl, HB10.out.trans (hb11.mono HB10.out.size)⟩
set_option maxHeartbeats 1000000 in
theorem queryBinds_any (x : Int) (hx : -9223372036854775808 ≤ x ∧ x ≤ 9223372036854775807) (w : World) (hV : QVars w) :
    Calls Tryd.prog 9 #[.int .i64 x] w fun e w' => e = .returned (.bool true) ∧ Below w.heap.size w w' := by
  by_cases h0 : x < 0
  · go_enter Tryd.func9, Tryd.ntmps9
    go_wp2
    go_ret
    exact ⟨rfl, Below.refl _ _⟩
  by_cases h5 : 5 < x
  · go_enter Tryd.func9, Tryd.ntmps9
    go_wp2
    go_ret
    exact ⟨rfl, Below.refl _ _⟩
  rcases (show x = 0 ∨ x = 1 ∨ x = 2 ∨ x = 3 ∨ x = 4 ∨ x = 5 by omega) with h | h | h | h | h | h
  · subst h; exact binds_0 w hV
  · subst h; exact binds_1 w hV
  · subst h; exact binds_2 w hV
  · subst h; exact binds_3 w hV
  · subst h; exact binds_4 w hV
  · subst h; exact binds_5 w hV

theorem queryBinds_walk (H : Type) (enc : TypeId × Value → H) (W : World) (base : Nat) (args : Array Value) (ds gs : List (DataW H)) (before : List MemPlace)
    (hval : ∀ (j : Nat) t v, Tryd.f9.params[j]? = some t → args[j]? = some v → Value.okWide Tryd.prog W .any base t v)
    (hW : DataW.Whole enc Tryd.prog Tryd.f9.params.toList Rows.queryBindsSpec.vars false W args.toList ds gs before)
    (hz : (DataW.weightsEach Tryd.prog (Tryd.f9.params.toList ++ Rows.queryBindsSpec.plain.varTypes Tryd.prog) (ds ++ gs)).all (· ≤ reachBytes) = true)
    (hL : laidMetH Tryd.prog Rows.queryBindsRow.laid W) (hsh : W.ShapedOpen Tryd.prog) :
    Calls Tryd.prog 9 args W fun e W' => e = .returned (.bool true) ∧ Below W.heap.size W W' := by
  obtain ⟨p, q, hA, _, _, _, _⟩ := hW
  rw [Tryd.params9] at hA hval
  rw [Tryd.params9] at hz
  obtain ⟨v0, vs0, d0, ds0, p0, q0, hargs, rfl, rfl, h0, r0⟩ := trodAll_cons hA
  obtain ⟨rfl, rfl, rfl⟩ := trodAll_nil r0
  obtain rfl : args = #[v0] := by cases args; simp_all
  obtain ⟨x0, rfl, rfl, rfl, w0⟩ := open_int Tryd.underlying3 (hval 0 3 v0 rfl rfl) h0
  have b0 := bounds_i64 w0
  exact queryBinds_any x0 b0 W (qvars_of hL hsh)

theorem queryBinds_lifted (os : Os) (started : os.Started) (H : Type) (enc : TypeId × Value → H) (F : Stop.Interp) :
    ReturnsInHanded {} Tryd.checked os 9 .any ((OpenSpec.ofChange Rows.queryBindsSpec).preRow enc Tryd.prog Tryd.f9 Rows.queryBindsRow.domain false Rows.queryBindsRow.laid) (((OpenSpec.ofChange Rows.queryBindsSpec).at F).post enc Tryd.prog Tryd.f9 false true false false) := by
  obtain ⟨places, hx⟩ : ∃ places, DataW.whole enc Tryd.prog ((laidWorld os).forCall (fun _ _ => 0) ⟨#[], #[.int .i64 0], []⟩).memory Tryd.f9.params.toList Rows.queryBindsSpec.vars false (#[.int .i64 0] : Array Value).toList 8 = some ([.lit (.int .i64 0)], [], places) := ⟨[], by kernel_rfl⟩
  refine returnsInHanded_of_row (C := Tryd.checked) (s := OpenSpec.ofChange Rows.queryBindsSpec) own started (by kernel_rfl) Tryd.func9
    (witness_row_at (enc := enc) (C := Tryd.checked) false (laidWorld os) #[.int .i64 0] rfl (by kernel_rfl) (by kernel_rfl) (by kernel_rfl)
      (OpenSpec.preRow_of_cond 8 hx (by kernel_rfl) (fun k hk => by cases hk) (by kernel_rfl) (laidMet_of_run' 8 (by kernel_rfl) (by kernel_rfl)))) ?_
  intro W base args ds gs before hval hW _ _ hz hL hsh _
  refine (queryBinds_walk H enc W base args ds gs before hval hW hz hL hsh).mono fun e W' ⟨he, hb⟩ => ⟨_, he, ?_⟩
  exact law_post (fn := Tryd.f9) (s := Rows.queryBindsSpec) (tb := 4) rfl (fun ds hd => by match ds, hd with | [d0], _ => rfl) rfl Tryd.underlying4 (by kernel_rfl) hW hb

theorem queryBinds_said : Rows.QueryBindsSaid :=
  OpenClaim.holds_of_cond 9 Tryd.f9 rfl rfl rfl rfl rfl rfl rfl ⟨rfl, rfl, rfl, rfl, rfl⟩ rfl rfl rfl rfl rfl (by kernel_rfl) Tryd.func9 (by kernel_rfl)
    (of_decide_eq_true (by kernel_rfl)) (by unfold Func.isWrapper; first | (rw [if_pos (by decide +kernel)]; kernel_rfl) | (rw [if_neg (by decide +kernel)]; exact ⟨rfl, rfl⟩))
    (fun os started H enc _ F => by rw [OpenClaim.pre_eq_preRow]; exact queryBinds_lifted os started H enc F)

theorem queryBinds_plain (f : FuncId) (fn : Func) (hf : Tryd.pinned.checked.prog.funcNamed Rows.queryBindsRow.func = some f) (hfn : Tryd.pinned.checked.prog.funcs[f]? = some fn) :
    false = Tryd.pinned.checked.prog.looks [] ∧ ∀ (j : Nat) t, fn.params[j]? = some t → Tryd.pinned.checked.prog.wantsStandIn t = false := by
  obtain rfl : f = 9 := Option.some.inj ((show Tryd.prog.funcNamed Rows.queryBindsRow.func = some 9 by kernel_rfl).symm.trans hf) |>.symm
  obtain rfl : fn = Tryd.f9 := (Option.some.inj (Tryd.func9.symm.trans hfn)).symm
  refine ⟨by kernel_rfl, fun j t ht => ?_⟩
  have h := Array.mem_of_getElem? ht
  have hall : Tryd.f9.params.all (fun t => !Tryd.prog.wantsStandIn t) = true := by kernel_rfl
  have := Array.all_eq_true_iff_forall_mem.1 hall t h
  show Tryd.prog.wantsStandIn t = false
  simpa using this

/-- THE STATEMENT. -/
theorem queryBinds_card : Rows.QueryBindsCardSaid :=
  Claim7.holds_tied_plain_at .later [] _ _ _ _ queryBinds_said (fun _ h => by cases h) (by kernel_rfl) (fun _ h => by cases h) queryBinds_row_tie rfl ⟨rfl, rfl⟩ (by kernel_rfl) rfl queryBinds_plain (by kernel_rfl)
end Go.Proofs.YtagmgkplfhlifaaDoor
