/- QueryDeep: brackets, and ^, may stand five deep and no deeper, for every number and way. -/
import Derived.Test.YtagmgkplfhlifaaDoorQpLaid
import Derived.Test.YtagmgkplfhlifaaDoorQpKnown
namespace Go.Proofs.YtagmgkplfhlifaaDoor
set_option linter.unusedVariables false
set_option linter.unusedSimpArgs false
set_option maxRecDepth 100000
open Go.ChangeShapes Go.WideShapes Go.ChangeAt Go.RowKit
open Au
/-- What the law's loop lays: n times the sign ahead, and behind. -/
def dS (way : Nat) (n : Nat) : T := (List.replicate n (([[40], [94], []] : List T).getD way [])).flatten
def dT (way : Nat) (n : Nat) : T := (List.replicate n (([[41], [], [42]] : List T).getD way [])).flatten
def dBad (way n : Nat) : Bool := decide (way < 2) && decide (5 < n)
def dChk (way n : Nat) : Bool := decide ((dS way n ++ [60, 97, 62] ++ dT way n).length ≤ 600) && (match Qp.whole (dS way n ++ [60, 97, 62] ++ dT way n) with
  | .ok x r => !dBad way n && decide (r = []) && ((x.kind == 1) == (way == 0 || n == 0))
  | .err no r => dBad way n && decide (no = 3) && decide ((dS way n ++ [60, 97, 62] ++ dT way n).length = r.length + 5))
theorem d_chk : (List.range 3).all (fun way => (List.range 13).all fun n => dChk way n) = true := by kernel_rfl
theorem d_chk_at {way n : Nat} (hw : way ≤ 2) (hn : n ≤ 12) : dChk way n = true := by
  have h := List.all_eq_true.1 d_chk way (List.mem_range.2 (by omega))
  exact List.all_eq_true.1 h n (List.mem_range.2 (by omega))
theorem dS_succ (way n : Nat) : dS way (n + 1) = dS way n ++ ([[40], [94], []] : List T).getD way [] := by
  unfold dS; rw [List.replicate_succ', List.flatten_append]; simp
theorem dT_succ (way n : Nat) : dT way (n + 1) = dT way n ++ ([[41], [], [42]] : List T).getD way [] := by
  unfold dT; rw [List.replicate_succ', List.flatten_append]; simp
theorem dS_len {way n : Nat} (hw : way ≤ 2) : (dS way n).length ≤ n := by
  induction n with
  | zero => simp [dS]
  | succ n ih =>
    rw [dS_succ, List.length_append]
    have : ((([[40], [94], []] : List T).getD way []).length) ≤ 1 := by
      rcases (show way = 0 ∨ way = 1 ∨ way = 2 by omega) with h | h | h <;> subst h <;> decide
    omega
theorem dT_len {way n : Nat} (hw : way ≤ 2) : (dT way n).length ≤ n := by
  induction n with
  | zero => simp [dT]
  | succ n ih =>
    rw [dT_succ, List.length_append]
    have : ((([[41], [], [42]] : List T).getD way []).length) ≤ 1 := by
      rcases (show way = 0 ∨ way = 1 ∨ way = 2 by omega) with h | h | h <;> subst h <;> decide
    omega
theorem dba_append (a b : List UInt8) : (⟨a.toArray⟩ ++ ⟨b.toArray⟩ : ByteArray) = ⟨(a ++ b).toArray⟩ := by
  apply ByteArray.ext
  rw [ByteArray.data_append]
  simp
/-- What Path answers there. -/
def DPost (way n : Nat) (w : World) (e : Ending) (w' : World) : Prop := Hid (Below w.heap.size w w') ∧
  ((dBad way n = true ∧ e = .returned (.tuple #[.agg #[.int .i64 0, .string ⟨#[]⟩, .slice none 0 0, .slice none 0 0], .int .i64 5, .int .i64 3])) ∨
   (dBad way n = false ∧ ∃ (k : Int) (t : T) (a : Option Addr) (m c : Nat) (a' : Option Addr) (m' c' : Nat), Hid ((k == 1) = (way == 0 || n == 0)) ∧ e = .returned (.tuple #[.agg #[.int .i64 k, str t, .slice a m c, .slice a' m' c'], .int .i64 ((dS way n).length + 3 + (dT way n).length : Nat), .int .i64 0])))
theorem d_path {way n : Nat} (hw : way ≤ 2) (hn : n ≤ 12) (w : World) (hV : QVars w) : Calls Tryd.prog 13 #[str (dS way n ++ [60, 97, 62] ++ dT way n)] w (DPost way n w) := by
  have hc := d_chk_at hw hn
  have hl : (dS way n ++ [60, 97, 62] ++ dT way n).length = (dS way n).length + 3 + (dT way n).length := by simp; omega
  unfold dChk at hc
  rw [Bool.and_eq_true, decide_eq_true_eq] at hc
  obtain ⟨h600, hc⟩ := hc
  refine (qpathf_any _ w (by omega) hV).mono ?_
  rintro e w' ⟨hb, h⟩
  refine ⟨hb, ?_⟩
  rcases h with ⟨h, _⟩ | ⟨_, x, a, a', m, c, m', c', j, hx, hP, he⟩ | ⟨_, no, j, _, hj, hx, he⟩
  · omega
  · rw [hx] at hc
    simp only [Bool.and_eq_true, Bool.not_eq_true', decide_eq_true_eq, beq_iff_eq] at hc
    refine Or.inr ⟨hc.1.1, x.kind, x.text, a, m, c, a', m', c', hc.2, ?_⟩
    rw [he, hl]
  · rw [hx] at hc
    simp only [Bool.and_eq_true, decide_eq_true_eq, List.length_drop] at hc
    obtain ⟨⟨h1, h2⟩, h3⟩ := hc
    refine Or.inl ⟨h1, ?_⟩
    subst h2
    obtain rfl : j = 5 := by omega
    exact he
--CUT--
set_option maxHeartbeats 4000000 in
theorem deep_0 (n : Nat) (hn : n ≤ 12) (w : World) (hV : QVars w) :
    Calls Tryd.prog 8 #[.int .i64 n, .int .i64 0] w fun e w' => e = .returned (.bool true) ∧ Below w.heap.size w w' := by
  have HV := hid hV
  have KN := hid fun W (hb : Below w.heap.size w W) => qknown_any W (hV.keep hb)
  have PF := hid fun W (hb : Below w.heap.size w W) => d_path (way := 0) (by omega) hn W (hV.keep hb)
  have HSS := hid (dS_succ 0)
  have HTS := hid (dT_succ 0)
  have HSL := hid fun i => dS_len (way := 0) (n := i) (by omega)
  have HTL := hid fun i => dT_len (way := 0) (n := i) (by omega)
  have HS0 := hid (show dS 0 0 = [] from rfl)
  have HT0 := hid (show dT 0 0 = [] from rfl)
  have HBD := hid (show dBad 0 n = (decide (0 < 2) && decide (5 < n)) from rfl)
  obtain ⟨fS, hfS⟩ : ∃ f, f = dS 0 := ⟨_, rfl⟩
  obtain ⟨fT, hfT⟩ : ∃ f, f = dT 0 := ⟨_, rfl⟩
  unfold DPost at PF
  rw [← hfS] at HSS HSL HS0 PF
  rw [← hfT] at HTS HTL HT0 PF
  have HN := hid hn
  clear hV hfS hfT
  go_enter Tryd.func8, Tryd.ntmps8
  go_wp2
  go_loopw [5, 6, 7] (fun s5 s6 s7 wr => ∃ i : Nat, i ≤ n ∧ s5 = str (fS i) ∧ s6 = str (fT i) ∧ s7 = .int .i64 i ∧ Hid (Below w.heap.size w wr)) (fun s5 s6 s7 _ => n - (intOf s7).toNat)
  case atStart => exact ⟨0, by omega, by rw [HS0.out], by rw [HT0.out], rfl, Below.refl _ _⟩
  case round =>
    obtain ⟨i, hi, rfl, rfl, rfl, HBr⟩ := hrel
    by_cases hlt : i < n
    case pos =>
      have l1 := HSL.out i
      have l2 := HTL.out i
      have l3 : i ≤ 12 := by have := HN.out; omega
      go_wp2
      go_roundw
      case rel => exact ⟨i + 1, by omega, by rw [HSS.out]; simp [dba_append], by rw [HTS.out]; simp [dba_append], by go_num, (HBr.out.alloc HBr.out.size _).alloc (by have := HBr.out.size; simp; omega) _⟩
      case measure => simp [intOf]; omega
    case neg =>
      obtain rfl : i = n := by omega
      have l1 := HSL.out i
      have l2 := HTL.out i
      have P0 := hid (PF.out wr HBr.out)
      by_cases h5 : 5 < i
      · have HBD := hid (HBD.out.trans (by rw [decide_eq_true h5]; rfl) : dBad 0 i = true)
        have P := hid (show Calls Tryd.prog 13 #[.string ((⟨(fS i).toArray⟩ ++ ⟨#[60, 97, 62]⟩) ++ ⟨(fT i).toArray⟩)] wr fun e w' => Hid (Below wr.heap.size wr w') ∧ e = .returned (.tuple #[.agg #[.int .i64 0, .string ⟨#[]⟩, .slice none 0 0, .slice none 0 0], .int .i64 5, .int .i64 3]) from by
          rw [show (⟨#[60, 97, 62]⟩ : ByteArray) = ⟨([60, 97, 62] : List UInt8).toArray⟩ from rfl, dba_append, dba_append]
          refine P0.out.mono ?_
          rintro e w' ⟨hb, ⟨_, h⟩ | ⟨h, _⟩⟩
          · exact ⟨hb, h⟩
          · rw [HBD.out] at h; cases h)
        clear HBD P0 PF HSS HTS HSL HTL HS0 HT0 HV HN
        go_wp2_with (first | (go_at_call 13; refine P.out.mono ?_; rintro e w5 ⟨HB5, rfl⟩; have HB6 := hid (HBr.out.trans (HB5.out.mono HBr.out.size))) | (go_at_call 17; refine (KN.out _ (HB6.out.trans (((Below.refl w5.heap.size w5).alloc (Nat.le_refl _) _).mono HB6.out.size))).mono ?_; rintro e w7 ⟨rfl, hb7⟩))
        go_ret
        exact ⟨rfl, (HB6.out.trans (((Below.refl w5.heap.size w5).alloc (Nat.le_refl _) _).mono HB6.out.size)).trans (hb7.mono (by have := HB6.out.size; simp; omega))⟩
      have HBD := hid (HBD.out.trans (by rw [decide_eq_false h5]; rfl) : dBad 0 i = false)
      have P := hid (show Calls Tryd.prog 13 #[.string ((⟨(fS i).toArray⟩ ++ ⟨#[60, 97, 62]⟩) ++ ⟨(fT i).toArray⟩)] wr fun e w' => Hid (Below wr.heap.size wr w') ∧ ∃ (k : Int) (t : T) (a : Option Addr) (m c : Nat) (a' : Option Addr) (m' c' : Nat), Hid ((k == 1) = (0 == 0 || i == 0)) ∧ e = .returned (.tuple #[.agg #[.int .i64 k, str t, .slice a m c, .slice a' m' c'], .int .i64 (((fS i).length : Int) + 3 + ((fT i).length : Int)), .int .i64 0]) from by
        rw [show (⟨#[60, 97, 62]⟩ : ByteArray) = ⟨([60, 97, 62] : List UInt8).toArray⟩ from rfl, dba_append, dba_append]
        refine P0.out.mono ?_
        rintro e w' ⟨hb, ⟨h, _⟩ | ⟨_, h⟩⟩
        · rw [HBD.out] at h; cases h
        · exact ⟨hb, h⟩)
      clear HBD P0 PF HSS HTS HSL HTL HS0 HT0 HV HN
      go_upto_region 10 with (go_at_call 13; refine P.out.mono ?_; rintro e w5 ⟨HB5, k, t, a, m, c, a', m', c', HK, rfl⟩; have HB6 := hid (HBr.out.trans (HB5.out.mono HBr.out.size)))
      obtain rfl : k = 1 := by simpa using HK.out
      go_wp2_with (go_at_call 17; refine (KN.out _ (HB6.out.trans (((Below.refl w5.heap.size w5).alloc (Nat.le_refl _) _).mono HB6.out.size))).mono ?_; rintro e w7 ⟨rfl, hb7⟩)
      go_ret
      exact ⟨rfl, (HB6.out.trans (((Below.refl w5.heap.size w5).alloc (Nat.le_refl _) _).mono HB6.out.size)).trans (hb7.mono (by have := HB6.out.size; simp; omega))⟩
set_option maxHeartbeats 4000000 in
theorem deep_1 (n : Nat) (hn : n ≤ 12) (w : World) (hV : QVars w) :
    Calls Tryd.prog 8 #[.int .i64 n, .int .i64 1] w fun e w' => e = .returned (.bool true) ∧ Below w.heap.size w w' := by
  have HV := hid hV
  have KN := hid fun W (hb : Below w.heap.size w W) => qknown_any W (hV.keep hb)
  have PF := hid fun W (hb : Below w.heap.size w W) => d_path (way := 1) (by omega) hn W (hV.keep hb)
  have HSS := hid (dS_succ 1)
  have HTS := hid (dT_succ 1)
  have HSL := hid fun i => dS_len (way := 1) (n := i) (by omega)
  have HTL := hid fun i => dT_len (way := 1) (n := i) (by omega)
  have HS0 := hid (show dS 1 0 = [] from rfl)
  have HT0 := hid (show dT 1 0 = [] from rfl)
  have HBD := hid (show dBad 1 n = (decide (1 < 2) && decide (5 < n)) from rfl)
  obtain ⟨fS, hfS⟩ : ∃ f, f = dS 1 := ⟨_, rfl⟩
  obtain ⟨fT, hfT⟩ : ∃ f, f = dT 1 := ⟨_, rfl⟩
  unfold DPost at PF
  rw [← hfS] at HSS HSL HS0 PF
  rw [← hfT] at HTS HTL HT0 PF
  have HN := hid hn
  clear hV hfS hfT
  go_enter Tryd.func8, Tryd.ntmps8
  go_wp2
  go_loopw [5, 6, 7] (fun s5 s6 s7 wr => ∃ i : Nat, i ≤ n ∧ s5 = str (fS i) ∧ s6 = str (fT i) ∧ s7 = .int .i64 i ∧ Hid (Below w.heap.size w wr)) (fun s5 s6 s7 _ => n - (intOf s7).toNat)
  case atStart => exact ⟨0, by omega, by rw [HS0.out], by rw [HT0.out], rfl, Below.refl _ _⟩
  case round =>
    obtain ⟨i, hi, rfl, rfl, rfl, HBr⟩ := hrel
    by_cases hlt : i < n
    case pos =>
      have l1 := HSL.out i
      have l2 := HTL.out i
      have l3 : i ≤ 12 := by have := HN.out; omega
      go_wp2
      go_roundw
      case rel => exact ⟨i + 1, by omega, by rw [HSS.out]; simp [dba_append], by rw [HTS.out]; simp [dba_append], by go_num, (HBr.out.alloc HBr.out.size _).alloc (by have := HBr.out.size; simp; omega) _⟩
      case measure => simp [intOf]; omega
    case neg =>
      obtain rfl : i = n := by omega
      have l1 := HSL.out i
      have l2 := HTL.out i
      have P0 := hid (PF.out wr HBr.out)
      by_cases h5 : 5 < i
      · have HBD := hid (HBD.out.trans (by rw [decide_eq_true h5]; rfl) : dBad 1 i = true)
        have P := hid (show Calls Tryd.prog 13 #[.string ((⟨(fS i).toArray⟩ ++ ⟨#[60, 97, 62]⟩) ++ ⟨(fT i).toArray⟩)] wr fun e w' => Hid (Below wr.heap.size wr w') ∧ e = .returned (.tuple #[.agg #[.int .i64 0, .string ⟨#[]⟩, .slice none 0 0, .slice none 0 0], .int .i64 5, .int .i64 3]) from by
          rw [show (⟨#[60, 97, 62]⟩ : ByteArray) = ⟨([60, 97, 62] : List UInt8).toArray⟩ from rfl, dba_append, dba_append]
          refine P0.out.mono ?_
          rintro e w' ⟨hb, ⟨_, h⟩ | ⟨h, _⟩⟩
          · exact ⟨hb, h⟩
          · rw [HBD.out] at h; cases h)
        clear HBD P0 PF HSS HTS HSL HTL HS0 HT0 HV HN
        go_wp2_with (first | (go_at_call 13; refine P.out.mono ?_; rintro e w5 ⟨HB5, rfl⟩; have HB6 := hid (HBr.out.trans (HB5.out.mono HBr.out.size))) | (go_at_call 17; refine (KN.out _ (HB6.out.trans (((Below.refl w5.heap.size w5).alloc (Nat.le_refl _) _).mono HB6.out.size))).mono ?_; rintro e w7 ⟨rfl, hb7⟩))
        go_ret
        exact ⟨rfl, (HB6.out.trans (((Below.refl w5.heap.size w5).alloc (Nat.le_refl _) _).mono HB6.out.size)).trans (hb7.mono (by have := HB6.out.size; simp; omega))⟩
      have HBD := hid (HBD.out.trans (by rw [decide_eq_false h5]; rfl) : dBad 1 i = false)
      have P := hid (show Calls Tryd.prog 13 #[.string ((⟨(fS i).toArray⟩ ++ ⟨#[60, 97, 62]⟩) ++ ⟨(fT i).toArray⟩)] wr fun e w' => Hid (Below wr.heap.size wr w') ∧ ∃ (k : Int) (t : T) (a : Option Addr) (m c : Nat) (a' : Option Addr) (m' c' : Nat), Hid ((k == 1) = (1 == 0 || i == 0)) ∧ e = .returned (.tuple #[.agg #[.int .i64 k, str t, .slice a m c, .slice a' m' c'], .int .i64 (((fS i).length : Int) + 3 + ((fT i).length : Int)), .int .i64 0]) from by
        rw [show (⟨#[60, 97, 62]⟩ : ByteArray) = ⟨([60, 97, 62] : List UInt8).toArray⟩ from rfl, dba_append, dba_append]
        refine P0.out.mono ?_
        rintro e w' ⟨hb, ⟨h, _⟩ | ⟨_, h⟩⟩
        · rw [HBD.out] at h; cases h
        · exact ⟨hb, h⟩)
      clear HBD P0 PF HSS HTS HSL HTL HS0 HT0 HV HN
      go_upto_region 10 with (go_at_call 13; refine P.out.mono ?_; rintro e w5 ⟨HB5, k, t, a, m, c, a', m', c', HK, rfl⟩; have HB6 := hid (HBr.out.trans (HB5.out.mono HBr.out.size)))
      by_cases hz : i = 0
      · subst hz
        obtain rfl : k = 1 := by simpa using HK.out
        go_wp2_with (go_at_call 17; refine (KN.out _ (HB6.out.trans (((Below.refl w5.heap.size w5).alloc (Nat.le_refl _) _).mono HB6.out.size))).mono ?_; rintro e w7 ⟨rfl, hb7⟩)
        go_ret
        exact ⟨rfl, (HB6.out.trans (((Below.refl w5.heap.size w5).alloc (Nat.le_refl _) _).mono HB6.out.size)).trans (hb7.mono (by have := HB6.out.size; simp; omega))⟩
      · have b1 : (k == 1) = false := by rw [HK.out]; simp [hz]
        have b2 : ((i : Int) == 0) = false := beq_eq_false_iff_ne.2 (by omega)
        clear hz HK
        go_wp2_with (go_at_call 17; refine (KN.out _ (HB6.out.trans (((Below.refl w5.heap.size w5).alloc (Nat.le_refl _) _).mono HB6.out.size))).mono ?_; rintro e w7 ⟨rfl, hb7⟩)
        go_ret
        exact ⟨rfl, (HB6.out.trans (((Below.refl w5.heap.size w5).alloc (Nat.le_refl _) _).mono HB6.out.size)).trans (hb7.mono (by have := HB6.out.size; simp; omega))⟩
set_option maxHeartbeats 4000000 in
theorem deep_2 (n : Nat) (hn : n ≤ 12) (w : World) (hV : QVars w) :
    Calls Tryd.prog 8 #[.int .i64 n, .int .i64 2] w fun e w' => e = .returned (.bool true) ∧ Below w.heap.size w w' := by
  have HV := hid hV
  have KN := hid fun W (hb : Below w.heap.size w W) => qknown_any W (hV.keep hb)
  have PF := hid fun W (hb : Below w.heap.size w W) => d_path (way := 2) (by omega) hn W (hV.keep hb)
  have HSS := hid (dS_succ 2)
  have HTS := hid (dT_succ 2)
  have HSL := hid fun i => dS_len (way := 2) (n := i) (by omega)
  have HTL := hid fun i => dT_len (way := 2) (n := i) (by omega)
  have HS0 := hid (show dS 2 0 = [] from rfl)
  have HT0 := hid (show dT 2 0 = [] from rfl)
  have HBD := hid (show dBad 2 n = (decide (2 < 2) && decide (5 < n)) from rfl)
  obtain ⟨fS, hfS⟩ : ∃ f, f = dS 2 := ⟨_, rfl⟩
  obtain ⟨fT, hfT⟩ : ∃ f, f = dT 2 := ⟨_, rfl⟩
  unfold DPost at PF
  rw [← hfS] at HSS HSL HS0 PF
  rw [← hfT] at HTS HTL HT0 PF
  have HN := hid hn
  clear hV hfS hfT
  go_enter Tryd.func8, Tryd.ntmps8
  go_wp2
  go_loopw [5, 6, 7] (fun s5 s6 s7 wr => ∃ i : Nat, i ≤ n ∧ s5 = str (fS i) ∧ s6 = str (fT i) ∧ s7 = .int .i64 i ∧ Hid (Below w.heap.size w wr)) (fun s5 s6 s7 _ => n - (intOf s7).toNat)
  case atStart => exact ⟨0, by omega, by rw [HS0.out], by rw [HT0.out], rfl, Below.refl _ _⟩
  case round =>
    obtain ⟨i, hi, rfl, rfl, rfl, HBr⟩ := hrel
    by_cases hlt : i < n
    case pos =>
      have l1 := HSL.out i
      have l2 := HTL.out i
      have l3 : i ≤ 12 := by have := HN.out; omega
      go_wp2
      go_roundw
      case rel => exact ⟨i + 1, by omega, by rw [HSS.out]; simp [dba_append], by rw [HTS.out]; simp [dba_append], by go_num, (HBr.out.alloc HBr.out.size _).alloc (by have := HBr.out.size; simp; omega) _⟩
      case measure => simp [intOf]; omega
    case neg =>
      obtain rfl : i = n := by omega
      have l1 := HSL.out i
      have l2 := HTL.out i
      have P0 := hid (PF.out wr HBr.out)
      have HBD := hid (HBD.out.trans (by rfl) : dBad 2 i = false)
      have P := hid (show Calls Tryd.prog 13 #[.string ((⟨(fS i).toArray⟩ ++ ⟨#[60, 97, 62]⟩) ++ ⟨(fT i).toArray⟩)] wr fun e w' => Hid (Below wr.heap.size wr w') ∧ ∃ (k : Int) (t : T) (a : Option Addr) (m c : Nat) (a' : Option Addr) (m' c' : Nat), Hid ((k == 1) = (2 == 0 || i == 0)) ∧ e = .returned (.tuple #[.agg #[.int .i64 k, str t, .slice a m c, .slice a' m' c'], .int .i64 (((fS i).length : Int) + 3 + ((fT i).length : Int)), .int .i64 0]) from by
        rw [show (⟨#[60, 97, 62]⟩ : ByteArray) = ⟨([60, 97, 62] : List UInt8).toArray⟩ from rfl, dba_append, dba_append]
        refine P0.out.mono ?_
        rintro e w' ⟨hb, ⟨h, _⟩ | ⟨_, h⟩⟩
        · rw [HBD.out] at h; cases h
        · exact ⟨hb, h⟩)
      clear HBD P0 PF HSS HTS HSL HTL HS0 HT0 HV HN
      go_upto_region 10 with (go_at_call 13; refine P.out.mono ?_; rintro e w5 ⟨HB5, k, t, a, m, c, a', m', c', HK, rfl⟩; have HB6 := hid (HBr.out.trans (HB5.out.mono HBr.out.size)))
      by_cases hz : i = 0
      · subst hz
        obtain rfl : k = 1 := by simpa using HK.out
        go_wp2_with (go_at_call 17; refine (KN.out _ (HB6.out.trans (((Below.refl w5.heap.size w5).alloc (Nat.le_refl _) _).mono HB6.out.size))).mono ?_; rintro e w7 ⟨rfl, hb7⟩)
        go_ret
        exact ⟨rfl, (HB6.out.trans (((Below.refl w5.heap.size w5).alloc (Nat.le_refl _) _).mono HB6.out.size)).trans (hb7.mono (by have := HB6.out.size; simp; omega))⟩
      · have b1 : (k == 1) = false := by rw [HK.out]; simp [hz]
        have b2 : ((i : Int) == 0) = false := beq_eq_false_iff_ne.2 (by omega)
        clear hz HK
        go_wp2_with (go_at_call 17; refine (KN.out _ (HB6.out.trans (((Below.refl w5.heap.size w5).alloc (Nat.le_refl _) _).mono HB6.out.size))).mono ?_; rintro e w7 ⟨rfl, hb7⟩)
        go_ret
        exact ⟨rfl, (HB6.out.trans (((Below.refl w5.heap.size w5).alloc (Nat.le_refl _) _).mono HB6.out.size)).trans (hb7.mono (by have := HB6.out.size; simp; omega))⟩
set_option maxHeartbeats 4000000 in
theorem queryDeep_any (n way : Int) (hn : -9223372036854775808 ≤ n ∧ n ≤ 9223372036854775807) (hw : -9223372036854775808 ≤ way ∧ way ≤ 9223372036854775807) (w : World) (hV : QVars w) :
    Calls Tryd.prog 8 #[.int .i64 n, .int .i64 way] w fun e w' => e = .returned (.bool true) ∧ Below w.heap.size w w' := by
  by_cases h : 0 ≤ n ∧ n ≤ 12 ∧ 0 ≤ way ∧ way ≤ 2
  · obtain ⟨N, rfl⟩ : ∃ N : Nat, n = N := ⟨n.toNat, by omega⟩
    rcases (show way = 0 ∨ way = 1 ∨ way = 2 by omega) with h1 | h1 | h1 <;> subst h1
    · exact deep_0 N (by omega) w hV
    · exact deep_1 N (by omega) w hV
    · exact deep_2 N (by omega) w hV
  clear hV
  by_cases h1 : n < 0
  · have h1' := decide_eq_true h1
    clear h h1
    go_enter Tryd.func8, Tryd.ntmps8
    go_wp2
    go_ret
    exact ⟨rfl, Below.refl _ _⟩
  have h1' := decide_eq_false h1
  by_cases h2 : 12 < n
  · have h2' := decide_eq_true h2
    clear h h1 h2
    go_enter Tryd.func8, Tryd.ntmps8
    go_wp2
    go_ret
    exact ⟨rfl, Below.refl _ _⟩
  have h2' := decide_eq_false h2
  by_cases h3 : way < 0
  · have h3' := decide_eq_true h3
    clear h h1 h2 h3
    go_enter Tryd.func8, Tryd.ntmps8
    go_wp2
    go_ret
    exact ⟨rfl, Below.refl _ _⟩
  have h3' := decide_eq_false h3
  have h4 : 2 < way := by omega
  have h4' := decide_eq_true h4
  clear h h1 h2 h3 h4
  go_enter Tryd.func8, Tryd.ntmps8
  go_wp2
  go_ret
  exact ⟨rfl, Below.refl _ _⟩

theorem queryDeep_walk (H : Type) (enc : TypeId × Value → H) (W : World) (base : Nat) (args : Array Value) (ds gs : List (DataW H)) (before : List MemPlace)
    (hval : ∀ (j : Nat) t v, Tryd.f8.params[j]? = some t → args[j]? = some v → Value.okWide Tryd.prog W .any base t v)
    (hW : DataW.Whole enc Tryd.prog Tryd.f8.params.toList Rows.queryDeepSpec.vars false W args.toList ds gs before)
    (hz : (DataW.weightsEach Tryd.prog (Tryd.f8.params.toList ++ Rows.queryDeepSpec.plain.varTypes Tryd.prog) (ds ++ gs)).all (· ≤ reachBytes) = true)
    (hL : laidMetH Tryd.prog Rows.queryDeepRow.laid W) (hsh : W.ShapedOpen Tryd.prog) :
    Calls Tryd.prog 8 args W fun e W' => e = .returned (.bool true) ∧ Below W.heap.size W W' := by
  obtain ⟨p, q, hA, _, _, _, _⟩ := hW
  rw [Tryd.params8] at hA hval
  rw [Tryd.params8] at hz
  obtain ⟨v0, vs0, d0, ds0, p0, q0, hargs, rfl, rfl, h0, r0⟩ := trodAll_cons hA
  obtain ⟨v1, vs1, d1, ds1, p1, q1, rfl, rfl, rfl, h1, r1⟩ := trodAll_cons r0
  obtain ⟨rfl, rfl, rfl⟩ := trodAll_nil r1
  obtain rfl : args = #[v0, v1] := by cases args; simp_all
  obtain ⟨x0, rfl, rfl, rfl, w0⟩ := open_int Tryd.underlying3 (hval 0 3 v0 rfl rfl) h0
  have b0 := bounds_i64 w0
  obtain ⟨x1, rfl, rfl, rfl, w1⟩ := open_int Tryd.underlying3 (hval 1 3 v1 rfl rfl) h1
  have b1 := bounds_i64 w1
  exact queryDeep_any x0 x1 b0 b1 W (qvars_of hL hsh)

theorem queryDeep_lifted (os : Os) (started : os.Started) (H : Type) (enc : TypeId × Value → H) (F : Stop.Interp) :
    ReturnsInHanded {} Tryd.checked os 8 .any ((OpenSpec.ofChange Rows.queryDeepSpec).preRow enc Tryd.prog Tryd.f8 Rows.queryDeepRow.domain false Rows.queryDeepRow.laid) (((OpenSpec.ofChange Rows.queryDeepSpec).at F).post enc Tryd.prog Tryd.f8 false true false false) := by
  obtain ⟨places, hx⟩ : ∃ places, DataW.whole enc Tryd.prog ((laidWorld os).forCall (fun _ _ => 0) ⟨#[], #[.int .i64 0, .int .i64 0], []⟩).memory Tryd.f8.params.toList Rows.queryDeepSpec.vars false (#[.int .i64 0, .int .i64 0] : Array Value).toList 8 = some ([.lit (.int .i64 0), .lit (.int .i64 0)], [], places) := ⟨[], by kernel_rfl⟩
  refine returnsInHanded_of_row (C := Tryd.checked) (s := OpenSpec.ofChange Rows.queryDeepSpec) own started (by kernel_rfl) Tryd.func8
    (witness_row_at (enc := enc) (C := Tryd.checked) false (laidWorld os) #[.int .i64 0, .int .i64 0] rfl (by kernel_rfl) (by kernel_rfl) (by kernel_rfl)
      (OpenSpec.preRow_of_cond 8 hx (by kernel_rfl) (fun k hk => by cases hk) (by kernel_rfl) (laidMet_of_run' 8 (by kernel_rfl) (by kernel_rfl)))) ?_
  intro W base args ds gs before hval hW _ _ hz hL hsh _
  refine (queryDeep_walk H enc W base args ds gs before hval hW hz hL hsh).mono fun e W' ⟨he, hb⟩ => ⟨_, he, ?_⟩
  exact law_post (fn := Tryd.f8) (s := Rows.queryDeepSpec) (tb := 4) rfl (fun ds hd => by match ds, hd with | [d0, d1], _ => rfl) rfl Tryd.underlying4 (by kernel_rfl) hW hb

theorem queryDeep_said : Rows.QueryDeepSaid :=
  OpenClaim.holds_of_cond 8 Tryd.f8 rfl rfl rfl rfl rfl rfl rfl ⟨rfl, rfl, rfl, rfl, rfl⟩ rfl rfl rfl rfl rfl (by kernel_rfl) Tryd.func8 (by kernel_rfl)
    (of_decide_eq_true (by kernel_rfl)) (by unfold Func.isWrapper; first | (rw [if_pos (by decide +kernel)]; kernel_rfl) | (rw [if_neg (by decide +kernel)]; exact ⟨rfl, rfl⟩))
    (fun os started H enc _ F => by rw [OpenClaim.pre_eq_preRow]; exact queryDeep_lifted os started H enc F)

theorem queryDeep_plain (f : FuncId) (fn : Func) (hf : Tryd.pinned.checked.prog.funcNamed Rows.queryDeepRow.func = some f) (hfn : Tryd.pinned.checked.prog.funcs[f]? = some fn) :
    false = Tryd.pinned.checked.prog.looks [] ∧ ∀ (j : Nat) t, fn.params[j]? = some t → Tryd.pinned.checked.prog.wantsStandIn t = false := by
  obtain rfl : f = 8 := Option.some.inj ((show Tryd.prog.funcNamed Rows.queryDeepRow.func = some 8 by kernel_rfl).symm.trans hf) |>.symm
  obtain rfl : fn = Tryd.f8 := (Option.some.inj (Tryd.func8.symm.trans hfn)).symm
  refine ⟨by kernel_rfl, fun j t ht => ?_⟩
  have h := Array.mem_of_getElem? ht
  have hall : Tryd.f8.params.all (fun t => !Tryd.prog.wantsStandIn t) = true := by kernel_rfl
  have := Array.all_eq_true_iff_forall_mem.1 hall t h
  show Tryd.prog.wantsStandIn t = false
  simpa using this

/-- THE STATEMENT. -/
theorem queryDeep_card : Rows.QueryDeepCardSaid :=
  Claim7.holds_tied_plain_at .later [] _ _ _ _ queryDeep_said (fun _ h => by cases h) (by kernel_rfl) (fun _ h => by cases h) queryDeep_row_tie rfl ⟨rfl, rfl⟩ (by kernel_rfl) rfl queryDeep_plain (by kernel_rfl)
end Go.Proofs.YtagmgkplfhlifaaDoor
