/- DoubleBounds: so many digits, and powers of ten so far, and no more, for every input. -/
import Derived.Test.YtmomlgacnnamgaaDblKnown
import Derived.Test.YtmomlgacnnamgaaDigOne
namespace Go.Proofs.Ytmomlgacnnamgaa
set_option linter.unusedVariables false
set_option linter.unusedSimpArgs false
set_option maxRecDepth 100000
open Go.ChangeShapes Go.WideShapes Go.ChangeAt Go.RowKit

theorem bounds_out (n e b : Int) (W : World) (h : n < 1 ∨ (1 ≤ n ∧ 20 < n) ∨ (1 ≤ n ∧ n ≤ 20 ∧ e < -30) ∨ (1 ≤ n ∧ n ≤ 20 ∧ -30 ≤ e ∧ 30 < e) ∨ (1 ≤ n ∧ n ≤ 20 ∧ -30 ≤ e ∧ e ≤ 30 ∧ b < 0) ∨ (1 ≤ n ∧ n ≤ 20 ∧ -30 ≤ e ∧ e ≤ 30 ∧ 0 ≤ b ∧ n < b)) :
    Calls Try.prog 8 #[.int .i64 n, .int .i64 e, .int .i64 b] W fun e W' => e = .returned (.bool true) ∧ Below W.heap.size W W' := by
  rcases h with h | ⟨h1, h⟩ | ⟨h1, h2, h⟩ | ⟨h1, h2, h3, h⟩ | ⟨h1, h2, h3, h4, h⟩ | ⟨h1, h2, h3, h4, h5, h⟩
  all_goals
    go_enter Try.func8, Try.ntmps8
    go_wp2
    go_ret
    exact ⟨rfl, Below.refl _ _⟩
set_option maxHeartbeats 1000000
theorem bounds_up (n b k : Nat) (hn1 : 1 ≤ n) (hn : n ≤ 20) (hb : b ≤ n) (hk : k ≤ 30) (W : World) :
    Calls Try.prog 8 #[.int .i64 n, .int .i64 (k : Int), .int .i64 b] W fun e W' => e = .returned (.bool true) ∧ Below W.heap.size W W' := by
  have DK := hid (digits_any k (by omega))
  have KN := hid (fun w => known_any w)
  have PB := hid (Db.bt_parse hn1 hb (r := Db.dgs k) (Db.expo_E (show k < 100 by omega)))
  have hl : (Db.dgs k).length ≤ 2 := Db.dgs_len_le 1 k (by omega)
  have hbl := Db.bt_len (n - b) n
  have PX := hid (fun w => parse_any (Db.bt (n - b) n ++ 69 :: Db.dgs k) w (by simp only [List.length_append, List.length_cons]; omega))
  have Q1 := hid (show (⟨(Db.bt (n - b) n).toArray⟩ : ByteArray) ++ ⟨#[69]⟩ ++ ⟨(Db.dgs k).toArray⟩ = ⟨(Db.bt (n - b) n ++ 69 :: Db.dgs k).toArray⟩ by
    rw [show (⟨#[69]⟩ : ByteArray) = ⟨[69].toArray⟩ from rfl, ba_append, ba_append, List.append_assoc]; rfl)
  obtain ⟨c, hc⟩ : ∃ c, c = n - b := ⟨_, rfl⟩
  rw [← hc] at PB PX Q1 hbl
  have hcI : (n : Int) - b = (c : Int) := by omega
  have hcn : c ≤ n := by omega
  have S0 := hid (Db.bt_zero c)
  have S1 := hid (show (⟨(Db.bt c c).toArray⟩ : ByteArray) ++ ⟨#[46]⟩ ++ ⟨#[49]⟩ = ⟨(Db.bt c (c + 1)).toArray⟩ by
    rw [show (⟨#[46]⟩ : ByteArray) = ⟨[46].toArray⟩ from rfl, show (⟨#[49]⟩ : ByteArray) = ⟨[49].toArray⟩ from rfl, ba_append, ba_append, Db.bt_at])
  have S2 := hid (fun (i : Nat) (h : i ≠ c) => show (⟨(Db.bt c i).toArray⟩ : ByteArray) ++ ⟨#[49]⟩ = ⟨(Db.bt c (i + 1)).toArray⟩ by
    rw [show (⟨#[49]⟩ : ByteArray) = ⟨[49].toArray⟩ from rfl, ba_append, Db.bt_step h])
  have hw1 : IntKind.i64.wrap (-(k : Int)) = -(k : Int) := by rw [IntKind.wrap_i64]; omega
  have hwb : IntKind.i64.wrap ((n : Int) - b) = (c : Int) := by rw [hcI, IntKind.wrap_i64]; omega
  have hwe : IntKind.i64.wrap ((k : Int) - b) = (k : Int) - b := by rw [IntKind.wrap_i64]; omega
  clear hc hcI
  go_enter Try.func8, Try.ntmps8
  go_wp2
  go_loop [7, 8] (fun s7 s8 => ∃ i : Nat, i ≤ n ∧ s7 = .string ⟨(Db.bt c i).toArray⟩ ∧ s8 = .int .i64 i) (fun _ s8 => n - (intOf s8).toNat)
  case atStart => exact ⟨0, by omega, by rw [S0.out], rfl⟩
  case round =>
    obtain ⟨i, hi, rfl, rfl⟩ := hrel
    by_cases hlt : i < n
    · have hiw : IntKind.i64.wrap ((i : Int) + 1) = (i : Int) + 1 := by rw [IntKind.wrap_i64]; omega
      have hbi := Db.bt_len c i
      rcases Nat.lt_trichotomy i c with h | h | h
      · have hs := S2.out i (by omega)
        have hne : ((i : Int) == (c : Int)) = false := beq_eq_false_iff_ne.2 (by omega)
        obtain ⟨T, hT⟩ : ∃ T, T = Db.bt c (i + 1) := ⟨_, rfl⟩
        rw [← hT] at hs
        go_wp2
        go_round
        case rel => exact ⟨i + 1, by omega, rfl, by go_num⟩
        case measure => simp [intOf]; omega
      · subst h
        have hs := S1.out
        have hne : ((i : Int) == (i : Int)) = true := by simp
        obtain ⟨T, hT⟩ : ∃ T, T = Db.bt i (i + 1) := ⟨_, rfl⟩
        rw [← hT] at hs
        go_wp2
        go_round
        case rel => exact ⟨i + 1, by omega, rfl, by go_num⟩
        case measure => simp [intOf]; omega
      · have hs := S2.out i (by omega)
        have hne : ((i : Int) == (c : Int)) = false := beq_eq_false_iff_ne.2 (by omega)
        obtain ⟨T, hT⟩ : ∃ T, T = Db.bt c (i + 1) := ⟨_, rfl⟩
        rw [← hT] at hs
        go_wp2
        go_round
        case rel => exact ⟨i + 1, by omega, rfl, by go_num⟩
        case measure => simp [intOf]; omega
    · obtain rfl : i = n := by omega
      have Q := Q1.out
      have PR := PX
      rw [PB.out] at PR
      obtain ⟨T, hT⟩ : ∃ T, T = Db.bt c i ++ 69 :: Db.dgs k := ⟨_, rfl⟩
      rw [← hT] at PR Q
      clear hT Q1
      obtain ⟨B, hB⟩ : ∃ T, T = Db.bt c i := ⟨_, rfl⟩
      rw [← hB] at Q hbl ⊢
      clear hB
      obtain ⟨D, hD⟩ : ∃ D, D = Db.dgs k := ⟨_, rfl⟩
      rw [← hD] at DK hl Q
      clear hD
      have O0 : (FloatKind.f64.format.order 0 0 == some Ordering.gt) = false := by decide +kernel
      by_cases hw : i ≤ 15 ∧ -22 ≤ (k : Int) - (b : Int) ∧ (k : Int) - (b : Int) ≤ 22
      · obtain ⟨hw4, hw2, hw3⟩ := hw
        rw [if_pos ⟨hw4, hw2, hw3⟩] at PR
        simp only [Option.getD_some, Option.isSome_some] at PR
        have O1 := Db.mag_ones hn1 hw4 hw2 hw3
        obtain ⟨M, hM⟩ : ∃ M, M = Db.mag (Db.ones i) ((k : Int) - (b : Int)) := ⟨_, rfl⟩
        rw [← hM] at O1 PR
        have O2 : (FloatKind.f64.format.order M 0 == some Ordering.gt) = true := O1
        clear hM O1
        go_wp2_with fail
        refine (DK.out _).mono ?_
        rintro e w1 ⟨rfl, hb1⟩
        go_wp2_with fail
        refine (PR.out _).mono ?_
        rintro e w' ⟨rfl, q1, rfl⟩
        go_wp2_with fail
        refine (KN.out _).mono ?_
        rintro e w' ⟨rfl, hk⟩
        go_wp2
        have HB := hid (below_then (below_drawn hb1 q1) hk)
        go_ret
        exact ⟨rfl, HB.out⟩
      · have hw2 : 15 < i ∨ (i ≤ 15 ∧ 22 < (k : Int) - (b : Int) ∧ decide ((k : Int) - (b : Int) ≤ 22) = false) := by
          rcases Nat.lt_or_ge 15 i with h | h
          · exact .inl h
          · exact .inr ⟨h, by omega, decide_eq_false (by omega)⟩
        rw [if_neg hw] at PR
        simp only [Option.getD_none, Option.isSome_none] at PR
        clear hw
        rcases hw2 with h1 | ⟨h1, h2, h3⟩
        all_goals
          go_wp2_with fail
          refine (DK.out _).mono ?_
          rintro e w1 ⟨rfl, hb1⟩
          go_wp2_with fail
          refine (PR.out _).mono ?_
          rintro e w' ⟨rfl, q1, rfl⟩
          go_wp2_with fail
          refine (KN.out _).mono ?_
          rintro e w' ⟨rfl, hk⟩
          go_wp2
          have HB := hid (below_then (below_drawn hb1 q1) hk)
          go_ret
          exact ⟨rfl, HB.out⟩
theorem bounds_dn (n b k : Nat) (hn1 : 1 ≤ n) (hn : n ≤ 20) (hb : b ≤ n) (hk : k ≤ 30) (hk1 : 1 ≤ k) (W : World) :
    Calls Try.prog 8 #[.int .i64 n, .int .i64 (-(k : Int)), .int .i64 b] W fun e W' => e = .returned (.bool true) ∧ Below W.heap.size W W' := by
  have DK := hid (digits_any k (by omega))
  have KN := hid (fun w => known_any w)
  have PB := hid (Db.bt_parse hn1 hb (r := 45 :: Db.dgs k) (Db.expo_Em (show k < 100 by omega)))
  have hl : (Db.dgs k).length ≤ 2 := Db.dgs_len_le 1 k (by omega)
  have hbl := Db.bt_len (n - b) n
  have PX := hid (fun w => parse_any (Db.bt (n - b) n ++ 69 :: 45 :: Db.dgs k) w (by simp only [List.length_append, List.length_cons]; omega))
  have Q1 := hid (show (⟨(Db.bt (n - b) n).toArray⟩ : ByteArray) ++ ⟨#[69]⟩ ++ ⟨(45 :: Db.dgs k).toArray⟩ = ⟨(Db.bt (n - b) n ++ 69 :: 45 :: Db.dgs k).toArray⟩ by
    rw [show (⟨#[69]⟩ : ByteArray) = ⟨[69].toArray⟩ from rfl, ba_append, ba_append, List.append_assoc]; rfl)
  obtain ⟨c, hc⟩ : ∃ c, c = n - b := ⟨_, rfl⟩
  rw [← hc] at PB PX Q1 hbl
  have hcI : (n : Int) - b = (c : Int) := by omega
  have hcn : c ≤ n := by omega
  have S0 := hid (Db.bt_zero c)
  have S1 := hid (show (⟨(Db.bt c c).toArray⟩ : ByteArray) ++ ⟨#[46]⟩ ++ ⟨#[49]⟩ = ⟨(Db.bt c (c + 1)).toArray⟩ by
    rw [show (⟨#[46]⟩ : ByteArray) = ⟨[46].toArray⟩ from rfl, show (⟨#[49]⟩ : ByteArray) = ⟨[49].toArray⟩ from rfl, ba_append, ba_append, Db.bt_at])
  have S2 := hid (fun (i : Nat) (h : i ≠ c) => show (⟨(Db.bt c i).toArray⟩ : ByteArray) ++ ⟨#[49]⟩ = ⟨(Db.bt c (i + 1)).toArray⟩ by
    rw [show (⟨#[49]⟩ : ByteArray) = ⟨[49].toArray⟩ from rfl, ba_append, Db.bt_step h])
  have hw1 : IntKind.i64.wrap (-(-(k : Int))) = (k : Int) := by rw [IntKind.wrap_i64]; omega
  have hwb : IntKind.i64.wrap ((n : Int) - b) = (c : Int) := by rw [hcI, IntKind.wrap_i64]; omega
  have hwe : IntKind.i64.wrap ((-(k : Int)) - b) = (-(k : Int)) - b := by rw [IntKind.wrap_i64]; omega
  clear hc hcI
  go_enter Try.func8, Try.ntmps8
  go_wp2
  go_loop [7, 8] (fun s7 s8 => ∃ i : Nat, i ≤ n ∧ s7 = .string ⟨(Db.bt c i).toArray⟩ ∧ s8 = .int .i64 i) (fun _ s8 => n - (intOf s8).toNat)
  case atStart => exact ⟨0, by omega, by rw [S0.out], rfl⟩
  case round =>
    obtain ⟨i, hi, rfl, rfl⟩ := hrel
    by_cases hlt : i < n
    · have hiw : IntKind.i64.wrap ((i : Int) + 1) = (i : Int) + 1 := by rw [IntKind.wrap_i64]; omega
      have hbi := Db.bt_len c i
      rcases Nat.lt_trichotomy i c with h | h | h
      · have hs := S2.out i (by omega)
        have hne : ((i : Int) == (c : Int)) = false := beq_eq_false_iff_ne.2 (by omega)
        obtain ⟨T, hT⟩ : ∃ T, T = Db.bt c (i + 1) := ⟨_, rfl⟩
        rw [← hT] at hs
        go_wp2
        go_round
        case rel => exact ⟨i + 1, by omega, rfl, by go_num⟩
        case measure => simp [intOf]; omega
      · subst h
        have hs := S1.out
        have hne : ((i : Int) == (i : Int)) = true := by simp
        obtain ⟨T, hT⟩ : ∃ T, T = Db.bt i (i + 1) := ⟨_, rfl⟩
        rw [← hT] at hs
        go_wp2
        go_round
        case rel => exact ⟨i + 1, by omega, rfl, by go_num⟩
        case measure => simp [intOf]; omega
      · have hs := S2.out i (by omega)
        have hne : ((i : Int) == (c : Int)) = false := beq_eq_false_iff_ne.2 (by omega)
        obtain ⟨T, hT⟩ : ∃ T, T = Db.bt c (i + 1) := ⟨_, rfl⟩
        rw [← hT] at hs
        go_wp2
        go_round
        case rel => exact ⟨i + 1, by omega, rfl, by go_num⟩
        case measure => simp [intOf]; omega
    · obtain rfl : i = n := by omega
      have Q := Q1.out
      have PR := PX
      rw [PB.out] at PR
      obtain ⟨T, hT⟩ : ∃ T, T = Db.bt c i ++ 69 :: 45 :: Db.dgs k := ⟨_, rfl⟩
      rw [← hT] at PR Q
      clear hT Q1
      obtain ⟨B, hB⟩ : ∃ T, T = Db.bt c i := ⟨_, rfl⟩
      rw [← hB] at Q hbl ⊢
      clear hB
      have AM : (⟨#[45]⟩ : ByteArray) ++ ⟨(Db.dgs k).toArray⟩ = ⟨(45 :: Db.dgs k).toArray⟩ := ba_append [45] (Db.dgs k)
      have hlX : (45 :: Db.dgs k).length ≤ 3 := by rw [List.length_cons]; omega
      obtain ⟨X, hX⟩ : ∃ X, X = 45 :: Db.dgs k := ⟨_, rfl⟩
      rw [← hX] at Q AM hlX
      clear hX
      obtain ⟨D, hD⟩ : ∃ D, D = Db.dgs k := ⟨_, rfl⟩
      rw [← hD] at DK hl AM
      clear hD
      have O0 : (FloatKind.f64.format.order 0 0 == some Ordering.gt) = false := by decide +kernel
      by_cases hw : i ≤ 15 ∧ -22 ≤ (-(k : Int)) - (b : Int) ∧ (-(k : Int)) - (b : Int) ≤ 22
      · obtain ⟨hw4, hw2, hw3⟩ := hw
        rw [if_pos ⟨hw4, hw2, hw3⟩] at PR
        simp only [Option.getD_some, Option.isSome_some] at PR
        have O1 := Db.mag_ones hn1 hw4 hw2 hw3
        obtain ⟨M, hM⟩ : ∃ M, M = Db.mag (Db.ones i) ((-(k : Int)) - (b : Int)) := ⟨_, rfl⟩
        rw [← hM] at O1 PR
        have O2 : (FloatKind.f64.format.order M 0 == some Ordering.gt) = true := O1
        clear hM O1
        go_wp2_with fail
        refine (DK.out _).mono ?_
        rintro e w1 ⟨rfl, hb1⟩
        go_wp2_with fail
        refine (PR.out _).mono ?_
        rintro e w' ⟨rfl, q1, rfl⟩
        go_wp2_with fail
        refine (KN.out _).mono ?_
        rintro e w' ⟨rfl, hk⟩
        go_wp2
        have HB := hid (below_then (below_drawn hb1 q1) hk)
        go_ret
        exact ⟨rfl, HB.out⟩
      · have hw2 : 15 < i ∨ (i ≤ 15 ∧ -(k : Int) - (b : Int) < -22 ∧ decide (-22 ≤ -(k : Int) - (b : Int)) = false) := by
          rcases Nat.lt_or_ge 15 i with h | h
          · exact .inl h
          · exact .inr ⟨h, by omega, decide_eq_false (by omega)⟩
        rw [if_neg hw] at PR
        simp only [Option.getD_none, Option.isSome_none] at PR
        clear hw
        rcases hw2 with h1 | ⟨h1, h2, h3⟩
        all_goals
          go_wp2_with fail
          refine (DK.out _).mono ?_
          rintro e w1 ⟨rfl, hb1⟩
          go_wp2_with fail
          refine (PR.out _).mono ?_
          rintro e w' ⟨rfl, q1, rfl⟩
          go_wp2_with fail
          refine (KN.out _).mono ?_
          rintro e w' ⟨rfl, hk⟩
          go_wp2
          have HB := hid (below_then (below_drawn hb1 q1) hk)
          go_ret
          exact ⟨rfl, HB.out⟩
theorem doubleBounds_any (n e b : Int) (W : World) : Calls Try.prog 8 #[.int .i64 n, .int .i64 e, .int .i64 b] W fun e W' => e = .returned (.bool true) ∧ Below W.heap.size W W' := by
  by_cases h : n < 1 ∨ (1 ≤ n ∧ 20 < n) ∨ (1 ≤ n ∧ n ≤ 20 ∧ e < -30) ∨ (1 ≤ n ∧ n ≤ 20 ∧ -30 ≤ e ∧ 30 < e) ∨ (1 ≤ n ∧ n ≤ 20 ∧ -30 ≤ e ∧ e ≤ 30 ∧ b < 0) ∨ (1 ≤ n ∧ n ≤ 20 ∧ -30 ≤ e ∧ e ≤ 30 ∧ 0 ≤ b ∧ n < b)
  · exact bounds_out n e b W h
  · obtain ⟨n, rfl⟩ : ∃ k : Nat, n = k := ⟨n.toNat, by omega⟩
    obtain ⟨b, rfl⟩ : ∃ k : Nat, b = k := ⟨b.toNat, by omega⟩
    by_cases he : 0 ≤ e
    · obtain ⟨k, rfl⟩ : ∃ k : Nat, e = k := ⟨e.toNat, by omega⟩
      exact bounds_up n b k (by omega) (by omega) (by omega) (by omega) W
    · obtain ⟨k, rfl⟩ : ∃ k : Nat, e = -(k : Int) := ⟨(-e).toNat, by omega⟩
      exact bounds_dn n b k (by omega) (by omega) (by omega) (by omega) (by omega) W

theorem doubleBounds_walk (H : Type) (enc : TypeId × Value → H) (W : World) (base : Nat) (args : Array Value) (ds gs : List (DataW H)) (before : List MemPlace)
    (hval : ∀ (j : Nat) t v, Try.f8.params[j]? = some t → args[j]? = some v → Value.okWide Try.prog W .any base t v)
    (hW : DataW.Whole enc Try.prog Try.f8.params.toList Rows.doubleBoundsSpec.vars false W args.toList ds gs before)
    (hz : (DataW.weightsEach Try.prog (Try.f8.params.toList ++ Rows.doubleBoundsSpec.plain.varTypes Try.prog) (ds ++ gs)).all (· ≤ reachBytes) = true)
    (hL : laidMetH Try.prog Rows.doubleBoundsRow.laid W) (hsh : W.ShapedOpen Try.prog) :
    Calls Try.prog 8 args W fun e W' => e = .returned (.bool true) ∧ Below W.heap.size W W' := by
  obtain ⟨p, q, hA, _, _, _, _⟩ := hW
  rw [Try.params8] at hA hval
  rw [Try.params8] at hz
  obtain ⟨v0, vs0, d0, ds0, p0, q0, hargs, rfl, rfl, h0, r0⟩ := trodAll_cons hA
  obtain ⟨v1, vs1, d1, ds1, p1, q1, rfl, rfl, rfl, h1, r1⟩ := trodAll_cons r0
  obtain ⟨v2, vs2, d2, ds2, p2, q2, rfl, rfl, rfl, h2, r2⟩ := trodAll_cons r1
  obtain ⟨rfl, rfl, rfl⟩ := trodAll_nil r2
  obtain rfl : args = #[v0, v1, v2] := by cases args; simp_all
  obtain ⟨x0, rfl, rfl, rfl, w0⟩ := open_int Try.underlying3 (hval 0 3 v0 rfl rfl) h0
  have b0 := bounds_i64 w0
  obtain ⟨x1, rfl, rfl, rfl, w1⟩ := open_int Try.underlying3 (hval 1 3 v1 rfl rfl) h1
  have b1 := bounds_i64 w1
  obtain ⟨x2, rfl, rfl, rfl, w2⟩ := open_int Try.underlying3 (hval 2 3 v2 rfl rfl) h2
  have b2 := bounds_i64 w2
  exact doubleBounds_any x0 x1 x2 W

theorem doubleBounds_lifted (os : Os) (started : os.Started) (H : Type) (enc : TypeId × Value → H) (F : Stop.Interp) :
    ReturnsInHanded {} Try.checked os 8 .any ((OpenSpec.ofChange Rows.doubleBoundsSpec).preRow enc Try.prog Try.f8 Rows.doubleBoundsRow.domain false Rows.doubleBoundsRow.laid) (((OpenSpec.ofChange Rows.doubleBoundsSpec).at F).post enc Try.prog Try.f8 false true false false) := by
  obtain ⟨places, hx⟩ : ∃ places, DataW.whole enc Try.prog ((World.holding Try.prog os ⟨#[], #[], []⟩).forCall (fun _ _ => 0) ⟨#[], #[.int .i64 0, .int .i64 0, .int .i64 0], []⟩).memory Try.f8.params.toList Rows.doubleBoundsSpec.vars false (#[.int .i64 0, .int .i64 0, .int .i64 0] : Array Value).toList 8 = some ([.lit (.int .i64 0), .lit (.int .i64 0), .lit (.int .i64 0)], [], places) := ⟨[], by kernel_rfl⟩
  refine returnsInHanded_of_row (C := Try.checked) (s := OpenSpec.ofChange Rows.doubleBoundsSpec) own started (by kernel_rfl) Try.func8
    (witness_row_at (enc := enc) (C := Try.checked) false (World.holding Try.prog os ⟨#[], #[], []⟩) #[.int .i64 0, .int .i64 0, .int .i64 0] rfl (by kernel_rfl) (by kernel_rfl) (by kernel_rfl)
      (OpenSpec.preRow_of_cond 8 hx (by kernel_rfl) (fun k hk => by cases hk) (by kernel_rfl) (laidMet_nil _ _))) ?_
  intro W base args ds gs before hval hW _ _ hz hL hsh _
  refine (doubleBounds_walk H enc W base args ds gs before hval hW hz hL hsh).mono fun e W' ⟨he, hb⟩ => ⟨_, he, ?_⟩
  exact law_post (fn := Try.f8) (s := Rows.doubleBoundsSpec) (tb := 4) rfl (fun ds hd => by match ds, hd with | [d0, d1, d2], _ => rfl) rfl Try.underlying4 (by kernel_rfl) hW hb

theorem doubleBounds_said : Rows.DoubleBoundsSaid :=
  OpenClaim.holds_of_cond 8 Try.f8 rfl rfl rfl rfl rfl rfl rfl ⟨rfl, rfl, rfl, rfl, rfl⟩ rfl rfl rfl rfl rfl (by kernel_rfl) Try.func8 (by kernel_rfl)
    (of_decide_eq_true (by kernel_rfl)) (by unfold Func.isWrapper; first | (rw [if_pos (by decide +kernel)]; kernel_rfl) | (rw [if_neg (by decide +kernel)]; exact ⟨rfl, rfl⟩))
    (fun os started H enc _ F => by rw [OpenClaim.pre_eq_preRow]; exact doubleBounds_lifted os started H enc F)
end Go.Proofs.Ytmomlgacnnamgaa
