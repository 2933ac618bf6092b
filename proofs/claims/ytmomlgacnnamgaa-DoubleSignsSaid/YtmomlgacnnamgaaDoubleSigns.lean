/- DoubleSigns: with the other sign ahead the number is the other one below nought, and stands the other way round, for every input. -/
import Derived.Test.YtmomlgacnnamgaaDoubleParses
import Derived.Test.YtmomlgacnnamgaaDblSign
namespace Go.Proofs.Ytmomlgacnnamgaa
set_option linter.unusedVariables false
set_option linter.unusedSimpArgs false
set_option maxRecDepth 100000
open Go.ChangeShapes Go.WideShapes Go.ChangeAt Go.RowKit

theorem run_flneg2 {P : Program} {x : Nat} (h : x < 9223372036854775808) (W : World) : (Op.unary .neg (.float .f64 x)).run P W = .ok (.float .f64 (x + 9223372036854775808)) W := by
  rw [← Fl.negFloat_low h]; rfl
theorem ordr_bd (x y : Nat) : -1 ≤ Fl.ordr x y ∧ Fl.ordr x y ≤ 1 := by
  unfold Fl.ordr Fl.cmpb
  repeat' split
  all_goals omega
theorem plus_eq (s : List UInt8) : (⟨#[43]⟩ : ByteArray) ++ ⟨s.toArray⟩ = ⟨(43 :: s).toArray⟩ := ba_append [43] s
theorem minus_eq (s : List UInt8) : (⟨#[45]⟩ : ByteArray) ++ ⟨s.toArray⟩ = ⟨(45 :: s).toArray⟩ := ba_append [45] s
theorem signs_long (s t : List UInt8) (W : World) (hs : s.length ≤ 9223372036854775807) (ht : t.length ≤ 9223372036854775807) (h : 60 < s.length ∨ (s.length ≤ 60 ∧ 60 < t.length)) :
    Calls Try.prog 9 #[str s, str t] W fun e W' => e = .returned (.bool true) ∧ Below W.heap.size W W' := by
  rcases h with h | ⟨h1, h⟩
  all_goals
    go_enter Try.func9, Try.ntmps9
    go_wp2
    go_ret
    exact ⟨rfl, Below.refl _ _⟩
theorem signs_none (s t : List UInt8) (W : World) (hs : s.length ≤ 60) (ht : t.length ≤ 60) (h : Db.psg false s = none ∨ ((Db.psg false s).isSome = true ∧ Db.psg false t = none)) :
    Calls Try.prog 9 #[str s, str t] W fun e W' => e = .returned (.bool true) ∧ Below W.heap.size W W' := by
  have P1 := hid (fun w => rparse_any (43 :: s) w (by rw [List.length_cons]; omega))
  have P2 := hid (fun w => rparse_any (43 :: t) w (by rw [List.length_cons]; omega))
  rw [show Db.parse (43 :: s) = Db.psg false s from Db.parse_psg false s] at P1
  rw [show Db.parse (43 :: t) = Db.psg false t from Db.parse_psg false t] at P2
  have A1 := plus_eq s
  have A2 := plus_eq t
  have hls : (43 :: s).length ≤ 61 := by rw [List.length_cons]; omega
  have hlt : (43 :: t).length ≤ 61 := by rw [List.length_cons]; omega
  obtain ⟨S, hS⟩ : ∃ S, S = (43 :: s) := ⟨_, rfl⟩
  obtain ⟨T, hT⟩ : ∃ T, T = (43 :: t) := ⟨_, rfl⟩
  rw [← hS] at P1 A1 hls
  rw [← hT] at P2 A2 hlt
  clear hS hT
  rcases h with h | ⟨h1, h⟩
  · rw [h] at P1
    simp only [Option.getD_none, Option.isSome_none] at P1
    clear h
    go_enter Try.func9, Try.ntmps9
    go_wp2_with fail
    refine (P1.out _).mono ?_
    rintro e w' ⟨rfl, rfl⟩
    go_wp2_with fail
    refine (P2.out _).mono ?_
    rintro e w' ⟨rfl, rfl⟩
    go_wp2
    go_ret
    exact ⟨rfl, Below.refl _ _⟩
  · rw [h1] at P1
    rw [h] at P2
    simp only [Option.getD_none, Option.isSome_none] at P2
    clear h h1
    go_enter Try.func9, Try.ntmps9
    go_wp2_with fail
    refine (P1.out _).mono ?_
    rintro e w' ⟨rfl, rfl⟩
    go_wp2_with fail
    refine (P2.out _).mono ?_
    rintro e w' ⟨rfl, rfl⟩
    go_wp2
    go_ret
    exact ⟨rfl, Below.refl _ _⟩
theorem signs_some (s t : List UInt8) (W : World) (hs : s.length ≤ 60) (ht : t.length ≤ 60) (x y : Nat) (hx : Db.psg false s = some x) (hy : Db.psg false t = some y) :
    Calls Try.prog 9 #[str s, str t] W fun e W' => e = .returned (.bool true) ∧ Below W.heap.size W W' := by
  have P1 := hid (fun w => rparse_any (43 :: s) w (by rw [List.length_cons]; omega))
  have P2 := hid (fun w => rparse_any (43 :: t) w (by rw [List.length_cons]; omega))
  have P3 := hid (fun w => parse_any (45 :: s) w (by rw [List.length_cons]; omega))
  have P4 := hid (fun w => parse_any (45 :: t) w (by rw [List.length_cons]; omega))
  obtain ⟨hX, hx1, a, ka⟩ := Db.psg_turn hx
  obtain ⟨hY, hy1, b, kb⟩ := Db.psg_turn hy
  rw [show Db.parse (43 :: s) = Db.psg false s from Db.parse_psg false s, hx] at P1
  rw [show Db.parse (43 :: t) = Db.psg false t from Db.parse_psg false t, hy] at P2
  rw [show Db.parse (45 :: s) = Db.psg true s from Db.parse_psg true s, hX] at P3
  rw [show Db.parse (45 :: t) = Db.psg true t from Db.parse_psg true t, hY] at P4
  simp only [Option.getD_some, Option.isSome_some] at P1 P2 P3 P4
  have N1 := fun W => run_flneg2 (P := Try.prog) hx1 W
  have N2 := fun W => run_flneg2 (P := Try.prog) hy1 W
  have kA := Fl.key_turn hx1
  have kB := Fl.key_turn hy1
  rw [ka] at kA
  rw [kb] at kB
  have n1 : Fl.neg (x + 9223372036854775808) = true := Fl.neg_turn
  have n2 : Fl.neg (y + 9223372036854775808) = true := Fl.neg_turn
  obtain ⟨X, eX⟩ : ∃ X, X = x + 9223372036854775808 := ⟨_, rfl⟩
  obtain ⟨Y, eY⟩ : ∃ Y, Y = y + 9223372036854775808 := ⟨_, rfl⟩
  rw [← eX] at P3 N1 kA n1
  rw [← eY] at P4 N2 kB n2
  have hXl : X < 18446744073709551616 := by omega
  have hYl : Y < 18446744073709551616 := by omega
  have hop := Fl.ordr_opp ka kb kA kB (Fl.neg_low hx1) (Fl.neg_low hy1) n1 n2
  have S1 := hid (fun w => rsame_self X w hXl)
  have S2 := hid (fun w => rsame_self Y w hYl)
  have O1 := hid (fun w => order_any X Y w hXl hYl)
  have O2 := hid (fun w => order_any x y w (by omega) (by omega))
  rw [hop] at O1
  have hbd := ordr_bd x y
  obtain ⟨o, ho⟩ : ∃ o, o = Fl.ordr x y := ⟨_, rfl⟩
  rw [← ho] at O1 O2 hbd
  have hwr : IntKind.i64.wrap (-o) = -o := by rw [IntKind.wrap_i64]; omega
  have KN := hid (fun w => known_any w)
  have A1 := plus_eq s
  have A2 := plus_eq t
  have A3 := minus_eq s
  have A4 := minus_eq t
  have hls : (43 :: s).length ≤ 61 := by rw [List.length_cons]; omega
  have hlt : (43 :: t).length ≤ 61 := by rw [List.length_cons]; omega
  have hls3 : (45 :: s).length ≤ 61 := by rw [List.length_cons]; omega
  have hlt4 : (45 :: t).length ≤ 61 := by rw [List.length_cons]; omega
  obtain ⟨S, hS⟩ : ∃ S, S = (43 :: s) := ⟨_, rfl⟩
  obtain ⟨T, hT⟩ : ∃ T, T = (43 :: t) := ⟨_, rfl⟩
  obtain ⟨S3, hS3⟩ : ∃ S, S = (45 :: s) := ⟨_, rfl⟩
  obtain ⟨T4, hT4⟩ : ∃ T, T = (45 :: t) := ⟨_, rfl⟩
  rw [← hS] at P1 A1 hls
  rw [← hT] at P2 A2 hlt
  rw [← hS3] at P3 A3 hls3
  rw [← hT4] at P4 A4 hlt4
  have e1 : (-o == -o) = true := by simp
  clear hS hT hS3 hT4 hx hy hX hY ka kb kA kB n1 n2 hop ho eX eY
  go_enter Try.func9, Try.ntmps9
  go_wp2_with fail
  refine (P1.out _).mono ?_
  rintro e w' ⟨rfl, rfl⟩
  go_wp2_with fail
  refine (P2.out _).mono ?_
  rintro e w' ⟨rfl, rfl⟩
  go_wp2_with fail
  refine (P3.out _).mono ?_
  rintro e w' ⟨rfl, q3, rfl⟩
  go_wp2_with fail
  refine (P4.out _).mono ?_
  rintro e w' ⟨rfl, q4, rfl⟩
  go_wp2_with fail
  refine (S1.out _).mono ?_
  rintro e w' ⟨rfl, rfl⟩
  go_wp2_with fail
  refine (S2.out _).mono ?_
  rintro e w' ⟨rfl, rfl⟩
  go_wp2_with fail
  refine (O1.out _).mono ?_
  rintro e w' ⟨rfl, rfl⟩
  go_wp2_with fail
  refine (O2.out _).mono ?_
  rintro e w' ⟨rfl, rfl⟩
  go_wp2_with fail
  refine (KN.out _).mono ?_
  rintro e w' ⟨rfl, hk⟩
  go_wp2
  have HB := hid (below_then (below_drawn (Below.refl W.heap.size W) (q3 + q4)) hk)
  go_ret
  exact ⟨rfl, HB.out⟩
theorem doubleSigns_any (s t : List UInt8) (W : World) (hs : s.length ≤ 9223372036854775807) (ht : t.length ≤ 9223372036854775807) :
    Calls Try.prog 9 #[str s, str t] W fun e W' => e = .returned (.bool true) ∧ Below W.heap.size W W' := by
  by_cases h1 : 60 < s.length
  · exact signs_long s t W hs ht (.inl h1)
  · by_cases h2 : 60 < t.length
    · exact signs_long s t W hs ht (.inr ⟨by omega, h2⟩)
    · cases hx : Db.psg false s with
      | none => exact signs_none s t W (by omega) (by omega) (.inl hx)
      | some x =>
        cases hy : Db.psg false t with
        | none => exact signs_none s t W (by omega) (by omega) (.inr ⟨by rw [hx]; rfl, hy⟩)
        | some y => exact signs_some s t W (by omega) (by omega) x y hx hy

theorem doubleSigns_walk (H : Type) (enc : TypeId × Value → H) (W : World) (base : Nat) (args : Array Value) (ds gs : List (DataW H)) (before : List MemPlace)
    (hval : ∀ (j : Nat) t v, Try.f9.params[j]? = some t → args[j]? = some v → Value.okWide Try.prog W .any base t v)
    (hW : DataW.Whole enc Try.prog Try.f9.params.toList Rows.doubleSignsSpec.vars false W args.toList ds gs before)
    (hz : (DataW.weightsEach Try.prog (Try.f9.params.toList ++ Rows.doubleSignsSpec.plain.varTypes Try.prog) (ds ++ gs)).all (· ≤ reachBytes) = true)
    (hL : laidMetH Try.prog Rows.doubleSignsRow.laid W) (hsh : W.ShapedOpen Try.prog) :
    Calls Try.prog 9 args W fun e W' => e = .returned (.bool true) ∧ Below W.heap.size W W' := by
  obtain ⟨p, q, hA, _, _, _, _⟩ := hW
  rw [Try.params9] at hA hval
  rw [Try.params9] at hz
  obtain ⟨v0, vs0, d0, ds0, p0, q0, hargs, rfl, rfl, h0, r0⟩ := trodAll_cons hA
  obtain ⟨v1, vs1, d1, ds1, p1, q1, rfl, rfl, rfl, h1, r1⟩ := trodAll_cons r0
  obtain ⟨rfl, rfl, rfl⟩ := trodAll_nil r1
  obtain rfl : args = #[v0, v1] := by cases args; simp_all
  obtain ⟨x0, rfl, rfl, rfl, w0⟩ := Go.ChangeMaps.open_string Try.underlying9 (hval 0 9 v0 rfl rfl) h0
  obtain ⟨x1, rfl, rfl, rfl, w1⟩ := Go.ChangeMaps.open_string Try.underlying9 (hval 1 9 v1 rfl rfl) h1
  rw [str_of x0, str_of x1]
  exact doubleSigns_any x0.data.toList x1.data.toList W (by rw [show x0.data.toList.length = x0.size from Array.length_toList]; unfold maxLen at w0; omega) (by rw [show x1.data.toList.length = x1.size from Array.length_toList]; unfold maxLen at w1; omega)

theorem doubleSigns_lifted (os : Os) (started : os.Started) (H : Type) (enc : TypeId × Value → H) (F : Stop.Interp) :
    ReturnsInHanded {} Try.checked os 9 .any ((OpenSpec.ofChange Rows.doubleSignsSpec).preRow enc Try.prog Try.f9 Rows.doubleSignsRow.domain false Rows.doubleSignsRow.laid) (((OpenSpec.ofChange Rows.doubleSignsSpec).at F).post enc Try.prog Try.f9 false true false false) := by
  obtain ⟨places, hx⟩ : ∃ places, DataW.whole enc Try.prog ((World.holding Try.prog os ⟨#[], #[], []⟩).forCall (fun _ _ => 0) ⟨#[], #[.string ByteArray.empty, .string ByteArray.empty], []⟩).memory Try.f9.params.toList Rows.doubleSignsSpec.vars false (#[.string ByteArray.empty, .string ByteArray.empty] : Array Value).toList 8 = some ([.lit (.string []), .lit (.string [])], [], places) := ⟨[], by kernel_rfl⟩
  refine returnsInHanded_of_row (C := Try.checked) (s := OpenSpec.ofChange Rows.doubleSignsSpec) own started (by kernel_rfl) Try.func9
    (witness_row_at (enc := enc) (C := Try.checked) false (World.holding Try.prog os ⟨#[], #[], []⟩) #[.string ByteArray.empty, .string ByteArray.empty] rfl (by kernel_rfl) (by kernel_rfl) (by kernel_rfl)
      (OpenSpec.preRow_of_cond 8 hx (by kernel_rfl) (fun k hk => by cases hk) (by kernel_rfl) (laidMet_nil _ _))) ?_
  intro W base args ds gs before hval hW _ _ hz hL hsh _
  refine (doubleSigns_walk H enc W base args ds gs before hval hW hz hL hsh).mono fun e W' ⟨he, hb⟩ => ⟨_, he, ?_⟩
  exact law_post (fn := Try.f9) (s := Rows.doubleSignsSpec) (tb := 4) rfl (fun ds hd => by match ds, hd with | [d0, d1], _ => rfl) rfl Try.underlying4 (by kernel_rfl) hW hb

theorem doubleSigns_said : Rows.DoubleSignsSaid :=
  OpenClaim.holds_of_cond 9 Try.f9 rfl rfl rfl rfl rfl rfl rfl ⟨rfl, rfl, rfl, rfl, rfl⟩ rfl rfl rfl rfl rfl (by kernel_rfl) Try.func9 (by kernel_rfl)
    (of_decide_eq_true (by kernel_rfl)) (by unfold Func.isWrapper; first | (rw [if_pos (by decide +kernel)]; kernel_rfl) | (rw [if_neg (by decide +kernel)]; exact ⟨rfl, rfl⟩))
    (fun os started H enc _ F => by rw [OpenClaim.pre_eq_preRow]; exact doubleSigns_lifted os started H enc F)
end Go.Proofs.Ytmomlgacnnamgaa
