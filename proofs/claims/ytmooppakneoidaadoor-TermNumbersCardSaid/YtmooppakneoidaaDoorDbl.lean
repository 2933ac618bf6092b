/- double's helpers: digits, signs, exponents, powers of ten. -/
import Derived.Test.YtmooppakneoidaaDoorStr
import Derived.Test.YtmooppakneoidaaDoorDblMath
import Derived.Laws.FloatArith
namespace Go.Proofs.YtmooppakneoidaaDoor
set_option linter.unusedVariables false
set_option linter.unusedSimpArgs false
open Go.ChangeShapes Go.WideShapes Go.ChangeAt Go.RowKit

theorem cutdigits_any (l : List UInt8) (w : World) (hl : l.length ≤ 9223372036854775807) :
    Calls Tryd.prog 68 #[str l] w fun e w' => e = .returned (.tuple #[str (l.take (Db.digs l)), str (l.drop (Db.digs l))]) ∧ ∃ q, w' = w.drewN q := by
  have hd := Db.digs_le l
  go_enter Tryd.func68, Tryd.ntmps68
  go_wp2
  go_loop [4] (fun s => ∃ n : Nat, n ≤ Db.digs l ∧ s = .int .i64 n) (fun s => l.length - (intOf s).toNat)
  case atStart => exact ⟨0, by omega, rfl⟩
  case round =>
    obtain ⟨n, hn, rfl⟩ := hrel
    by_cases hlt : n < Db.digs l
    · obtain ⟨c, hc, h1, h2⟩ := Db.digs_all l n hlt
      have hcc := fun p => ba_get l n c hc p
      have hnl : n < l.length := by omega
      clear hc
      go_wp2
      go_round
      case rel => exact ⟨n + 1, by omega, by go_num⟩
      case measure => simp [intOf]; omega
    · have hnd : n = Db.digs l := by omega
      have H1 := hid (show (⟨l.toArray⟩ : ByteArray).extract 0 n = ⟨(l.take (Db.digs l)).toArray⟩ by rw [hnd, ba_take])
      have H2 := hid (show (⟨l.toArray⟩ : ByteArray).extract n l.length = ⟨(l.drop (Db.digs l)).toArray⟩ by rw [hnd, ba_drop])
      by_cases hnl : n < l.length
      · obtain ⟨c, hc⟩ : ∃ c, l[n]? = some c := ⟨_, List.getElem?_eq_getElem hnl⟩
        have hst := Db.digs_stop l c (by rw [← hnd]; exact hc)
        have hcc := fun p => ba_get l n c hc p
        clear hc hnd
        rcases hst with h1 | h1
        all_goals
          go_wp2
          go_quiet (fail)
          go_wp2
          go_ret2
          rw [H1.out, H2.out]
          exact ⟨rfl, _, rfl⟩
      · clear hnd
        go_wp2
        go_quiet (fail)
        go_wp2
        go_ret2
        rw [H1.out, H2.out]
        exact ⟨rfl, _, rfl⟩

theorem cutsign_any (l : List UInt8) (w : World) (hl : l.length ≤ 9223372036854775807) :
    Calls Tryd.prog 52 #[str l] w fun e w' => e = .returned (.tuple #[.int .i64 (Db.sg (Db.sign l).1), str (Db.sign l).2]) ∧ w = w' := by
  cases l with
  | nil =>
    go_enter Tryd.func52, Tryd.ntmps52
    go_wp2
    go_ret2
    exact ⟨rfl, rfl⟩
  | cons c l =>
    have hx := ba_head c l
    have hy := ba_tail c l
    by_cases h1 : c = 45
    · subst h1
      go_enter Tryd.func52, Tryd.ntmps52
      go_wp2
      go_ret2
      exact ⟨rfl, rfl⟩
    · have b1 : ([c] == [45]) = false := by simp [h1]
      by_cases h2 : c = 43
      · subst h2
        go_enter Tryd.func52, Tryd.ntmps52
        go_wp2
        go_ret2
        exact ⟨rfl, rfl⟩
      · have b2 : ([c] == [43]) = false := by simp [h2]
        have hs : Db.sign (c :: l) = (false, c :: l) := by simp [Db.sign, h1, h2]
        rw [hs]
        clear h1 h2 hs
        go_enter Tryd.func52, Tryd.ntmps52
        go_wp2
        go_ret2
        exact ⟨rfl, rfl⟩

theorem Db.ten_le {n : Nat} (h : n ≤ 15) : 10 ^ n ≤ 1000000000000000 := Nat.pow_le_pow_right (by omega) h
theorem dvalue_any (l : List UInt8) (w : World) (hl : l.length ≤ 15) (hd : Db.AllDig l) :
    Calls Tryd.prog 70 #[str l] w fun e w' => e = .returned (.int .i64 (Db.val l : Nat)) ∧ w = w' := by
  have HD := hid hd
  have HV := hid (Db.val_lt l hd)
  clear hd
  go_enter Tryd.func70, Tryd.ntmps70
  go_wp2
  go_loop [3, 7] (fun s3 s7 => ∃ n : Nat, n ≤ l.length ∧ s3 = .int .i64 (Db.val (l.take n) : Nat) ∧ s7 = .int .i64 n) (fun _ s7 => l.length - (intOf s7).toNat)
  case atStart => exact ⟨0, by omega, rfl, rfl⟩
  case round =>
    obtain ⟨n, hn, rfl, rfl⟩ := hrel
    by_cases hlt : n < l.length
    · obtain ⟨c, hc⟩ : ∃ c, l[n]? = some c := ⟨_, List.getElem?_eq_getElem hlt⟩
      obtain ⟨h1, h2⟩ := HD.out n c hc
      have hcc := fun p => ba_get l n c hc p
      have HT := hid (Db.val_take l n c hc)
      have hv := HV.out n hn
      have h10 := Db.ten_le (n := n) (by omega)
      obtain ⟨x, hx⟩ : ∃ x, x = Db.val (l.take n) := ⟨_, rfl⟩
      rw [← hx] at hv HT ⊢
      have hxl : x < 1000000000000000 := by omega
      have hcl : c.toNat - 48 ≤ 9 := by omega
      clear hx hv h10 hc
      go_wp2
      go_round
      case rel => exact ⟨n + 1, by omega, by rw [HT.out]; congr 1; omega, by go_num⟩
      case measure => simp [intOf]; omega
    · obtain rfl : n = l.length := by omega
      have HF := hid (show l.take l.length = l from List.take_length)
      go_wp2
      go_ret
      exact ⟨rfl, rfl⟩

/-! ### powers of ten -/
def Db.ten : Nat := 4621819117588971520
def Db.one : Nat := 4607182418800017408
/-- Ten to k, as a float64. -/
def Db.pw : Nat → Nat
  | 0 => Db.one
  | k + 1 => ((FloatKind.f64.format.mul (Db.pw k) Db.ten)).getD 0
theorem Db.pw_step : ∀ k, k < 22 → FloatKind.f64.format.mul (Db.pw k) Db.ten = some (Db.pw (k + 1)) := by decide +kernel
theorem run_mul {P : Program} {t : TypeId} {x y r : Nat} (h : FloatKind.f64.format.mul x y = some r) (W : World) : (binOp .mul t (.float .f64 x) (.float .f64 y)).run P W = .ok (.float .f64 r) W := run_float_arith (P := P) W .mul t .f64 x y r h
theorem run_div {P : Program} {t : TypeId} {x y r : Nat} (h : FloatKind.f64.format.div x y = some r) (W : World) : (binOp .quo t (.float .f64 x) (.float .f64 y)).run P W = .ok (.float .f64 r) W := run_float_arith (P := P) W .quo t .f64 x y r h
theorem pow_any (e : Nat) (w : World) (he : e ≤ 22) : Calls Tryd.prog 71 #[.int .i64 e] w fun x w' => x = .returned (.float .f64 (Db.pw e)) ∧ w = w' := by
  have h0 : Db.pw 0 = 4607182418800017408 := rfl
  have HS := hid Db.pw_step
  go_enter Tryd.func71, Tryd.ntmps71
  go_wp2
  go_loop [3, 5] (fun s3 s5 => ∃ n : Nat, n ≤ e ∧ s3 = .float .f64 (Db.pw n) ∧ s5 = .int .i64 n) (fun _ s5 => e - (intOf s5).toNat)
  case atStart => exact ⟨0, by omega, rfl, rfl⟩
  case round =>
    obtain ⟨n, hn, rfl, rfl⟩ := hrel
    by_cases hlt : n < e
    · have hr := fun W => run_mul (P := Tryd.prog) (t := 33) (HS.out n (by omega)) W
      unfold Db.ten at hr
      obtain ⟨x, hx⟩ : ∃ x, x = Db.pw n := ⟨_, rfl⟩
      obtain ⟨y, hy⟩ : ∃ y, y = Db.pw (n + 1) := ⟨_, rfl⟩
      have HY := hid hy
      rw [← hx, ← hy] at hr
      rw [← hx]
      clear hx hy h0
      go_wp2
      go_round
      case rel => exact ⟨n + 1, by omega, by rw [HY.out], by go_num⟩
      case measure => simp [intOf]; omega
    · obtain rfl : n = e := by omega
      clear h0
      go_wp2
      go_ret
      exact ⟨rfl, rfl⟩

theorem expo_nil (w : World) : Calls Tryd.prog 69 #[str []] w fun e w' => e = .returned (.tuple #[.int .i64 0, .bool true]) ∧ ∃ q, w' = w.drewN q := by
  go_enter Tryd.func69, Tryd.ntmps69
  go_wp2
  go_ret2
  exact ⟨rfl, 0, rfl⟩
theorem expo_other (c : UInt8) (l : List UInt8) (w : World) (hl : (c :: l).length ≤ 9223372036854775807) (h : c ≠ 101 ∧ c ≠ 69) : Calls Tryd.prog 69 #[str (c :: l)] w fun e w' => e = .returned (.tuple #[.int .i64 0, .bool false]) ∧ ∃ q, w' = w.drewN q := by
  obtain ⟨h1, h2⟩ := h
  have hcc := fun p => ba_get (c :: l) 0 c rfl p
  have h3 : ((c.toNat : Int) != 101) = true := by rw [bne_iff_ne]; intro e; exact h1 (UInt8.toNat_inj.1 (by show c.toNat = 101; omega))
  have h4 : ((c.toNat : Int) != 69) = true := by rw [bne_iff_ne]; intro e; exact h2 (UInt8.toNat_inj.1 (by show c.toNat = 69; omega))
  clear h1 h2
  go_enter Tryd.func69, Tryd.ntmps69
  go_wp2
  go_ret2
  exact ⟨rfl, 0, rfl⟩
theorem expo_bad (c : UInt8) (l : List UInt8) (w : World) (hl : (c :: l).length ≤ 9223372036854775807) (hc : c = 101 ∨ c = 69) (h : ¬ (Db.digs (Db.sign l).2 = (Db.sign l).2.length ∧ (Db.sign l).2 ≠ [] ∧ (Db.sign l).2.length ≤ 3)) :
    Calls Tryd.prog 69 #[str (c :: l)] w fun e w' => e = .returned (.tuple #[.int .i64 0, .bool false]) ∧ ∃ q, w' = w.drewN q := by
  have hsl : (Db.sign l).2.length ≤ l.length := Db.sign_len l
  simp only [List.length_cons] at hl
  have SG := hid (fun w => cutsign_any l w (by omega))
  have CD := hid (fun w => cutdigits_any (Db.sign l).2 w (by omega))
  have hy := ba_tail c l
  obtain ⟨b, hb⟩ : ∃ b, b = Db.sg (Db.sign l).1 := ⟨_, rfl⟩
  obtain ⟨r, hr⟩ : ∃ r, r = (Db.sign l).2 := ⟨_, rfl⟩
  rw [← hb, ← hr] at SG
  rw [← hr] at CD h hsl
  clear hb hr
  have hcc := fun p => ba_get (c :: l) 0 c rfl p
  have hdl := Db.digs_le r
  by_cases h1 : Db.digs r = r.length
  · have hd : r.drop (Db.digs r) = [] := (Db.drop_nil_iff r).2 h1
    have ht : r.take (Db.digs r) = r := by rw [h1, List.take_length]
    rw [hd, ht] at CD
    have h2 : r = [] ∨ (r ≠ [] ∧ 3 < r.length) := by
      by_cases h3 : r = []
      · exact Or.inl h3
      · exact Or.inr ⟨h3, Nat.lt_of_not_le (fun h4 => h ⟨h1, h3, h4⟩)⟩
    clear h h1 hd ht hdl
    rcases h2 with rfl | ⟨h2, h3⟩
    · rcases hc with rfl | rfl
      all_goals
        go_enter Tryd.func69, Tryd.ntmps69
        go_wp2_with (first
          | (go_at_call 52; refine (SG.out _).mono ?_; rintro e w' ⟨rfl, rfl⟩)
          | (go_at_call 68; refine (CD.out _).mono ?_; rintro e w' ⟨rfl, q, rfl⟩))
        go_ret2
        exact ⟨rfl, _, rfl⟩
    · obtain ⟨x, y, rfl⟩ : ∃ x y, r = x :: y := by cases r with
        | nil => exact absurd rfl h2
        | cons x y => exact ⟨x, y, rfl⟩
      clear h2
      simp only [List.length_cons] at h3 hsl
      rcases hc with rfl | rfl
      all_goals
        go_enter Tryd.func69, Tryd.ntmps69
        go_wp2_with (first
          | (go_at_call 52; refine (SG.out _).mono ?_; rintro e w' ⟨rfl, rfl⟩)
          | (go_at_call 68; refine (CD.out _).mono ?_; rintro e w' ⟨rfl, q, rfl⟩))
        go_ret2
        exact ⟨rfl, _, rfl⟩
  · obtain ⟨x, y, hxy⟩ : ∃ x y, r.drop (Db.digs r) = x :: y := by
      cases hd : r.drop (Db.digs r) with
      | nil => exact absurd ((Db.drop_nil_iff r).1 hd) h1
      | cons x y => exact ⟨x, y, rfl⟩
    rw [hxy] at CD
    obtain ⟨t, ht⟩ : ∃ t, t = r.take (Db.digs r) := ⟨_, rfl⟩
    rw [← ht] at CD
    clear h h1 hxy ht hdl
    rcases hc with rfl | rfl
    all_goals
      go_enter Tryd.func69, Tryd.ntmps69
      go_wp2_with (first
        | (go_at_call 52; refine (SG.out _).mono ?_; rintro e w' ⟨rfl, rfl⟩)
        | (go_at_call 68; refine (CD.out _).mono ?_; rintro e w' ⟨rfl, q, rfl⟩))
      go_ret2
      exact ⟨rfl, _, rfl⟩
theorem expo_good (c : UInt8) (l : List UInt8) (w : World) (hl : (c :: l).length ≤ 9223372036854775807) (hc : c = 101 ∨ c = 69) (h : Db.digs (Db.sign l).2 = (Db.sign l).2.length ∧ (Db.sign l).2 ≠ [] ∧ (Db.sign l).2.length ≤ 3) :
    Calls Tryd.prog 69 #[str (c :: l)] w fun e w' => e = .returned (.tuple #[.int .i64 (Db.sg (Db.sign l).1 * (Db.val (Db.sign l).2 : Nat)), .bool true]) ∧ ∃ q, w' = w.drewN q := by
  have hsl : (Db.sign l).2.length ≤ l.length := Db.sign_len l
  simp only [List.length_cons] at hl
  have SG := hid (fun w => cutsign_any l w (by omega))
  have CD := hid (fun w => cutdigits_any (Db.sign l).2 w (by omega))
  have hy := ba_tail c l
  obtain ⟨s, hs⟩ : ∃ s, s = (Db.sign l).1 := ⟨_, rfl⟩
  obtain ⟨r, hr⟩ : ∃ r, r = (Db.sign l).2 := ⟨_, rfl⟩
  rw [← hr] at CD h hsl
  rw [← hs, ← hr] at SG ⊢
  clear hs hr
  obtain ⟨h1, h2, h3⟩ := h
  have hd : r.drop (Db.digs r) = [] := (Db.drop_nil_iff r).2 h1
  have ht : r.take (Db.digs r) = r := by rw [h1, List.take_length]
  have hall := Db.digs_eq_length h1
  rw [hd, ht] at CD
  have DV := hid (fun w => dvalue_any r w (by omega) hall)
  have hvl : Db.val r < 10 ^ r.length := Db.val_lt' r hall
  have hv3 : Db.val r < 1000 := Nat.lt_of_lt_of_le hvl (Nat.pow_le_pow_right (n := 10) (by omega) h3)
  obtain ⟨v, hv⟩ : ∃ v, v = Db.val r := ⟨_, rfl⟩
  rw [← hv] at DV hv3 ⊢
  have hcc := fun p => ba_get (c :: l) 0 c rfl p
  have hsg : Db.sg s = 1 ∨ Db.sg s = -1 := by cases s <;> simp [Db.sg]
  obtain ⟨g, hg⟩ : ∃ g, g = Db.sg s := ⟨_, rfl⟩
  rw [← hg] at SG hsg ⊢
  clear h1 hd ht hall hvl hv hg
  obtain ⟨x, y, rfl⟩ : ∃ x y, r = x :: y := by cases r with
    | nil => exact absurd rfl h2
    | cons x y => exact ⟨x, y, rfl⟩
  clear h2
  simp only [List.length_cons] at h3 hsl
  rcases hsg with rfl | rfl
  all_goals
    rcases hc with rfl | rfl
    all_goals
      go_enter Tryd.func69, Tryd.ntmps69
      go_wp2_with (first
        | (go_at_call 52; refine (SG.out _).mono ?_; rintro e w' ⟨rfl, rfl⟩)
        | (go_at_call 68; refine (CD.out _).mono ?_; rintro e w' ⟨rfl, q, rfl⟩)
        | (go_at_call 70; refine (DV.out _).mono ?_; rintro e w' ⟨rfl, rfl⟩))
      go_ret2
      exact ⟨by first | rfl | simp, _, rfl⟩
/-- The exponent, whatever the text. -/
theorem expo_any (l : List UInt8) (w : World) (hl : l.length ≤ 9223372036854775807) :
    Calls Tryd.prog 69 #[str l] w fun e w' => e = .returned (.tuple #[.int .i64 ((Db.expo l).getD 0), .bool (Db.expo l).isSome]) ∧ ∃ q, w' = w.drewN q := by
  cases l with
  | nil => exact expo_nil w
  | cons c l =>
    by_cases hc : c = 101 ∨ c = 69
    · by_cases h : Db.digs (Db.sign l).2 = (Db.sign l).2.length ∧ (Db.sign l).2 ≠ [] ∧ (Db.sign l).2.length ≤ 3
      · have e : Db.expo (c :: l) = some (Db.sg (Db.sign l).1 * (Db.val (Db.sign l).2 : Nat)) := by simp only [Db.expo]; rw [if_pos hc, if_pos h]
        rw [e]
        exact expo_good c l w hl hc h
      · have e : Db.expo (c :: l) = none := by simp only [Db.expo]; rw [if_pos hc, if_neg h]
        rw [e]
        exact expo_bad c l w hl hc h
    · have e : Db.expo (c :: l) = none := by simp only [Db.expo]; rw [if_neg hc]
      rw [e]
      exact expo_other c l w hl ⟨fun h => hc (Or.inl h), fun h => hc (Or.inr h)⟩
end Go.Proofs.YtmooppakneoidaaDoor
