/- DoubleTens: a power of ten more is ten times as much, where both are exact, for every input. -/
import Derived.Test.YtmomlgacnnamgaaDblKnown
import Derived.Test.YtmomlgacnnamgaaDigTen
namespace Go.Proofs.Ytmomlgacnnamgaa
set_option linter.unusedVariables false
set_option linter.unusedSimpArgs false
set_option maxRecDepth 100000
open Go.ChangeShapes Go.WideShapes Go.ChangeAt Go.RowKit

theorem tens_out (n e : Int) (W : World) (h : n < 1 ∨ (1 ≤ n ∧ 1000 < n) ∨ (1 ≤ n ∧ n ≤ 1000 ∧ e < 0) ∨ (1 ≤ n ∧ n ≤ 1000 ∧ 0 ≤ e ∧ 12 < e)) :
    Calls Try.prog 10 #[.int .i64 n, .int .i64 e] W fun e W' => e = .returned (.bool true) ∧ Below W.heap.size W W' := by
  rcases h with h | ⟨h1, h⟩ | ⟨h1, h2, h⟩ | ⟨h1, h2, h3, h⟩
  all_goals
    go_enter Try.func10, Try.ntmps10
    go_wp2
    go_ret
    exact ⟨rfl, Below.refl _ _⟩
theorem tens_in (n e : Nat) (h0 : 0 < n) (hn : n ≤ 1000) (he : e ≤ 12) (W : World) :
    Calls Try.prog 10 #[.int .i64 n, .int .i64 e] W fun e W' => e = .returned (.bool true) ∧ Below W.heap.size W W' := by
  have DN := hid (digits_any n (by omega))
  have DE := hid (digits_any e (by omega))
  have DE1 := hid (digits_any (e + 1) (by omega))
  have DZ := hid (digits_any 0 (by omega))
  rw [show Db.dgs 0 = [48] by rw [Db.dgs_lo (by omega)]; rfl] at DZ
  rw [Int.natCast_add] at DE1
  obtain ⟨hw1, hw2, hw3⟩ := Db.ten_ways n e h0 hn he
  have hl : (Db.dgs n).length ≤ 4 := Db.dgs_len_le 3 n (by omega)
  have hl2 : (Db.dgs e).length ≤ 2 := Db.dgs_len_le 1 e (by omega)
  have hl3 : (Db.dgs (e + 1)).length ≤ 2 := Db.dgs_len_le 1 (e + 1) (by omega)
  have P1 := hid (fun w => parse_any (Db.dgs n ++ 101 :: Db.dgs e) w (by simp only [List.length_append, List.length_cons]; omega))
  have P2 := hid (fun w => parse_any (Db.dgs n ++ 69 :: 43 :: Db.dgs (e + 1)) w (by simp only [List.length_append, List.length_cons]; omega))
  have P3 := hid (fun w => parse_any (Db.dgs n ++ 46 :: 48 :: 101 :: Db.dgs e) w (by simp only [List.length_append, List.length_cons]; omega))
  rw [hw1] at P1
  rw [hw2] at P2
  rw [hw3] at P3
  simp only [Option.getD_some, Option.isSome_some] at P1 P2 P3
  have tm := Db.ten_mul h0 hn he
  obtain ⟨a, ka⟩ := Fl.key_low (Fl.nearest_le (n * 10 ^ e) 0)
  obtain ⟨b, kb⟩ := Fl.key_low (Fl.nearest_le (n * 10 ^ (e + 1)) 0)
  have o1 : (FloatKind.f64.format.order (Db.fl (n * 10 ^ e)) (Db.fl (n * 10 ^ e)) == some Ordering.eq) = true := Fl.order_refl ka
  have o2 : (FloatKind.f64.format.order (Db.fl (n * 10 ^ (e + 1))) (Db.fl (n * 10 ^ (e + 1))) == some Ordering.eq) = true := Fl.order_refl kb
  have hr := fun W => run_mul (P := Try.prog) (t := 22) tm W
  unfold Db.ten at hr
  have q1 : (⟨(Db.dgs n).toArray⟩ : ByteArray) ++ ⟨#[101]⟩ ++ ⟨(Db.dgs e).toArray⟩ = ⟨(Db.dgs n ++ 101 :: Db.dgs e).toArray⟩ := by
    rw [show (⟨#[101]⟩ : ByteArray) = ⟨[101].toArray⟩ from rfl, ba_append, ba_append, List.append_assoc]; rfl
  have q2 : (⟨(Db.dgs n).toArray⟩ : ByteArray) ++ ⟨#[69, 43]⟩ ++ ⟨(Db.dgs (e + 1)).toArray⟩ = ⟨(Db.dgs n ++ 69 :: 43 :: Db.dgs (e + 1)).toArray⟩ := by
    rw [show (⟨#[69, 43]⟩ : ByteArray) = ⟨[69, 43].toArray⟩ from rfl, ba_append, ba_append, List.append_assoc]; rfl
  have q3 : (⟨(Db.dgs n).toArray⟩ : ByteArray) ++ ⟨#[46]⟩ ++ ⟨[48].toArray⟩ ++ ⟨#[101]⟩ ++ ⟨(Db.dgs e).toArray⟩ = ⟨(Db.dgs n ++ 46 :: 48 :: 101 :: Db.dgs e).toArray⟩ := by
    rw [show (⟨#[46]⟩ : ByteArray) = ⟨[46].toArray⟩ from rfl, show (⟨#[101]⟩ : ByteArray) = ⟨[101].toArray⟩ from rfl, ba_append, ba_append, ba_append, ba_append]; simp
  obtain ⟨x, ex⟩ : ∃ x, x = Db.fl (n * 10 ^ e) := ⟨_, rfl⟩
  obtain ⟨y, ey⟩ : ∃ y, y = Db.fl (n * 10 ^ (e + 1)) := ⟨_, rfl⟩
  rw [← ex] at P1 P3 hr o1
  rw [← ey] at P2 hr o2
  obtain ⟨T1, e1⟩ : ∃ T, T = Db.dgs n ++ 101 :: Db.dgs e := ⟨_, rfl⟩
  obtain ⟨T2, e2⟩ : ∃ T, T = Db.dgs n ++ 69 :: 43 :: Db.dgs (e + 1) := ⟨_, rfl⟩
  obtain ⟨T3, e3⟩ : ∃ T, T = Db.dgs n ++ 46 :: 48 :: 101 :: Db.dgs e := ⟨_, rfl⟩
  rw [← e1] at P1 q1
  rw [← e2] at P2 q2
  rw [← e3] at P3 q3
  clear e1 e2 e3 hw1 hw2 hw3
  obtain ⟨D, hD⟩ : ∃ D, D = Db.dgs n := ⟨_, rfl⟩
  obtain ⟨E, hE⟩ : ∃ D, D = Db.dgs e := ⟨_, rfl⟩
  obtain ⟨E1, hE1⟩ : ∃ D, D = Db.dgs (e + 1) := ⟨_, rfl⟩
  rw [← hD] at DN q1 q2 q3 hl
  rw [← hE] at DE q1 q3 hl2
  rw [← hE1] at DE1 q2 hl3
  have hw : IntKind.i64.wrap ((e : Int) + 1) = (e : Int) + 1 := by rw [IntKind.wrap_i64]; omega
  have KN := hid (fun w => known_any w)
  clear hD hE hE1 ex ey ka kb tm
  go_enter Try.func10, Try.ntmps10
  go_wp2_with fail
  refine (DN.out _).mono ?_
  rintro e w1 ⟨rfl, hb1⟩
  go_wp2_with fail
  refine (DE.out _).mono ?_
  rintro e w2 ⟨rfl, hb2⟩
  go_wp2_with fail
  refine (P1.out _).mono ?_
  rintro e w' ⟨rfl, q1, rfl⟩
  go_wp2_with fail
  refine (DN.out _).mono ?_
  rintro e w3 ⟨rfl, hb3⟩
  go_wp2_with fail
  refine (DE1.out _).mono ?_
  rintro e w4 ⟨rfl, hb4⟩
  go_wp2_with fail
  refine (P2.out _).mono ?_
  rintro e w' ⟨rfl, q2, rfl⟩
  go_wp2_with fail
  refine (DN.out _).mono ?_
  rintro e w5 ⟨rfl, hb5⟩
  go_wp2_with fail
  refine (DZ.out _).mono ?_
  rintro e w6 ⟨rfl, hb6⟩
  go_wp2_with fail
  refine (DE.out _).mono ?_
  rintro e w7 ⟨rfl, hb7⟩
  go_wp2_with fail
  refine (P3.out _).mono ?_
  rintro e w' ⟨rfl, q3, rfl⟩
  go_wp2_with fail
  refine (KN.out _).mono ?_
  rintro e w' ⟨rfl, hk⟩
  go_wp2
  have HB := hid (below_then (below_drawn (below_then (below_then (below_then (below_drawn (below_then (below_then (below_drawn (below_then hb1 hb2) q1) hb3) hb4) q2) hb5) hb6) hb7) q3) hk)
  go_ret
  exact ⟨rfl, HB.out⟩
theorem doubleTens_any (n e : Int) (W : World) : Calls Try.prog 10 #[.int .i64 n, .int .i64 e] W fun e W' => e = .returned (.bool true) ∧ Below W.heap.size W W' := by
  by_cases h : n < 1 ∨ (1 ≤ n ∧ 1000 < n) ∨ (1 ≤ n ∧ n ≤ 1000 ∧ e < 0) ∨ (1 ≤ n ∧ n ≤ 1000 ∧ 0 ≤ e ∧ 12 < e)
  · exact tens_out n e W h
  · obtain ⟨n, rfl⟩ : ∃ k : Nat, n = k := ⟨n.toNat, by omega⟩
    obtain ⟨e, rfl⟩ : ∃ k : Nat, e = k := ⟨e.toNat, by omega⟩
    exact tens_in n e (by omega) (by omega) (by omega) W

theorem doubleTens_walk (H : Type) (enc : TypeId × Value → H) (W : World) (base : Nat) (args : Array Value) (ds gs : List (DataW H)) (before : List MemPlace)
    (hval : ∀ (j : Nat) t v, Try.f10.params[j]? = some t → args[j]? = some v → Value.okWide Try.prog W .any base t v)
    (hW : DataW.Whole enc Try.prog Try.f10.params.toList Rows.doubleTensSpec.vars false W args.toList ds gs before)
    (hz : (DataW.weightsEach Try.prog (Try.f10.params.toList ++ Rows.doubleTensSpec.plain.varTypes Try.prog) (ds ++ gs)).all (· ≤ reachBytes) = true)
    (hL : laidMetH Try.prog Rows.doubleTensRow.laid W) (hsh : W.ShapedOpen Try.prog) :
    Calls Try.prog 10 args W fun e W' => e = .returned (.bool true) ∧ Below W.heap.size W W' := by
  obtain ⟨p, q, hA, _, _, _, _⟩ := hW
  rw [Try.params10] at hA hval
  rw [Try.params10] at hz
  obtain ⟨v0, vs0, d0, ds0, p0, q0, hargs, rfl, rfl, h0, r0⟩ := trodAll_cons hA
  obtain ⟨v1, vs1, d1, ds1, p1, q1, rfl, rfl, rfl, h1, r1⟩ := trodAll_cons r0
  obtain ⟨rfl, rfl, rfl⟩ := trodAll_nil r1
  obtain rfl : args = #[v0, v1] := by cases args; simp_all
  obtain ⟨x0, rfl, rfl, rfl, w0⟩ := open_int Try.underlying3 (hval 0 3 v0 rfl rfl) h0
  have b0 := bounds_i64 w0
  obtain ⟨x1, rfl, rfl, rfl, w1⟩ := open_int Try.underlying3 (hval 1 3 v1 rfl rfl) h1
  have b1 := bounds_i64 w1
  exact doubleTens_any x0 x1 W

theorem doubleTens_lifted (os : Os) (started : os.Started) (H : Type) (enc : TypeId × Value → H) (F : Stop.Interp) :
    ReturnsInHanded {} Try.checked os 10 .any ((OpenSpec.ofChange Rows.doubleTensSpec).preRow enc Try.prog Try.f10 Rows.doubleTensRow.domain false Rows.doubleTensRow.laid) (((OpenSpec.ofChange Rows.doubleTensSpec).at F).post enc Try.prog Try.f10 false true false false) := by
  obtain ⟨places, hx⟩ : ∃ places, DataW.whole enc Try.prog ((World.holding Try.prog os ⟨#[], #[], []⟩).forCall (fun _ _ => 0) ⟨#[], #[.int .i64 0, .int .i64 0], []⟩).memory Try.f10.params.toList Rows.doubleTensSpec.vars false (#[.int .i64 0, .int .i64 0] : Array Value).toList 8 = some ([.lit (.int .i64 0), .lit (.int .i64 0)], [], places) := ⟨[], by kernel_rfl⟩
  refine returnsInHanded_of_row (C := Try.checked) (s := OpenSpec.ofChange Rows.doubleTensSpec) own started (by kernel_rfl) Try.func10
    (witness_row_at (enc := enc) (C := Try.checked) false (World.holding Try.prog os ⟨#[], #[], []⟩) #[.int .i64 0, .int .i64 0] rfl (by kernel_rfl) (by kernel_rfl) (by kernel_rfl)
      (OpenSpec.preRow_of_cond 8 hx (by kernel_rfl) (fun k hk => by cases hk) (by kernel_rfl) (laidMet_nil _ _))) ?_
  intro W base args ds gs before hval hW _ _ hz hL hsh _
  refine (doubleTens_walk H enc W base args ds gs before hval hW hz hL hsh).mono fun e W' ⟨he, hb⟩ => ⟨_, he, ?_⟩
  exact law_post (fn := Try.f10) (s := Rows.doubleTensSpec) (tb := 4) rfl (fun ds hd => by match ds, hd with | [d0, d1], _ => rfl) rfl Try.underlying4 (by kernel_rfl) hW hb

theorem doubleTens_said : Rows.DoubleTensSaid :=
  OpenClaim.holds_of_cond 10 Try.f10 rfl rfl rfl rfl rfl rfl rfl ⟨rfl, rfl, rfl, rfl, rfl⟩ rfl rfl rfl rfl rfl (by kernel_rfl) Try.func10 (by kernel_rfl)
    (of_decide_eq_true (by kernel_rfl)) (by unfold Func.isWrapper; first | (rw [if_pos (by decide +kernel)]; kernel_rfl) | (rw [if_neg (by decide +kernel)]; exact ⟨rfl, rfl⟩))
    (fun os started H enc _ F => by rw [OpenClaim.pre_eq_preRow]; exact doubleTens_lifted os started H enc F)
end Go.Proofs.Ytmomlgacnnamgaa
