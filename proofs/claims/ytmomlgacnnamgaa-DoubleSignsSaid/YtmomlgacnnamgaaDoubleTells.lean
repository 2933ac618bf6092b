/- DoubleTells: of any two numbers how they stand, by any op, and in order, for every input. -/
import Derived.Test.YtmomlgacnnamgaaDblKnown
namespace Go.Proofs.Ytmomlgacnnamgaa
set_option linter.unusedVariables false
set_option linter.unusedSimpArgs false
set_option maxRecDepth 100000
open Go.ChangeShapes Go.WideShapes Go.ChangeAt Go.RowKit

theorem rholds_any (x y : Nat) (s : List UInt8) (w : World) (hs : s.length ≤ 9223372036854775807) : Calls Try.prog 18 #[.float .f64 x, str s, .float .f64 y] w fun e w' => e = .returned (.bool (opo s (od x y))) ∧ w = w' := by
  obtain ⟨o, ho⟩ : ∃ o, o = od x y := ⟨_, rfl⟩
  have HO := hid ho
  by_cases h1 : s = [60]
  · subst h1
    go_enter Try.func18, Try.ntmps18
    go_wp2
    go_ret
    exact ⟨rfl, rfl⟩
  · by_cases h2 : s = [60, 61]
    · subst h2
      go_enter Try.func18, Try.ntmps18
      go_wp2
      go_ret
      exact ⟨rfl, rfl⟩
    · by_cases h3 : s = [62]
      · subst h3
        go_enter Try.func18, Try.ntmps18
        go_wp2
        go_ret
        exact ⟨rfl, rfl⟩
      · by_cases h4 : s = [62, 61]
        · subst h4
          go_enter Try.func18, Try.ntmps18
          go_wp2
          go_ret
          exact ⟨rfl, rfl⟩
        · by_cases h5 : s = [61]
          · subst h5
            go_enter Try.func18, Try.ntmps18
            go_wp2
            go_ret
            exact ⟨rfl, rfl⟩
          · by_cases h6 : s = [33, 61]
            · subst h6
              go_enter Try.func18, Try.ntmps18
              go_wp2
              go_ret
              exact ⟨rfl, rfl⟩
            · have e : opo s (od x y) = false := by unfold opo; rw [if_neg h1, if_neg h2, if_neg h3, if_neg h4, if_neg h5, if_neg h6]
              rw [e]
              have b1 : (s == [60]) = false := beq_eq_false_iff_ne.2 h1
              have b2 : (s == [60, 61]) = false := beq_eq_false_iff_ne.2 h2
              have b3 : (s == [62]) = false := beq_eq_false_iff_ne.2 h3
              have b4 : (s == [62, 61]) = false := beq_eq_false_iff_ne.2 h4
              have b5 : (s == [61]) = false := beq_eq_false_iff_ne.2 h5
              have b6 : (s == [33, 61]) = false := beq_eq_false_iff_ne.2 h6
              clear h1 h2 h3 h4 h5 h6 e ho
              go_enter Try.func18, Try.ntmps18
              go_wp2
              go_ret
              exact ⟨rfl, rfl⟩
def rk (x : Nat) : Int := if (Fl.key x).isNone then 0 else if Fl.neg x then 1 else 2
theorem rrank_any (x : Nat) (w : World) (hx : x < 18446744073709551616) : Calls Try.prog 33 #[.float .f64 x] w fun e w' => e = .returned (.int .i64 (rk x)) ∧ w = w' := by
  have q := od_self x
  have SB := hid (fun w => signbit_any x w hx)
  rw [show Db.neg x = Fl.neg x from rfl] at SB
  unfold rk
  cases h : Fl.key x with
  | none =>
    rw [h] at q
    simp only [Option.isNone_none] at q
    clear h
    go_enter Try.func33, Try.ntmps33
    go_wp2
    go_ret
    exact ⟨rfl, rfl⟩
  | some a =>
    rw [h] at q
    simp only [Option.isNone_some] at q
    clear h
    cases hn : Fl.neg x
    all_goals
      rw [hn] at SB
      clear hn
      go_enter Try.func33, Try.ntmps33
      go_wp2_with (go_at_call 22; refine (SB.out _).mono ?_; rintro e w' ⟨rfl, rfl⟩)
      go_ret
      exact ⟨rfl, rfl⟩
theorem rorder_any (x y : Nat) (w : World) (hx : x < 18446744073709551616) (hy : y < 18446744073709551616) : Calls Try.prog 20 #[.float .f64 x, .float .f64 y] w fun e w' => e = .returned (.int .i64 (Fl.ordr x y)) ∧ w = w' := by
  have R1 := hid (fun w => rrank_any x w hx)
  have R2 := hid (fun w => rrank_any y w hy)
  cases h1 : Fl.key x with
  | none =>
    have k1 : rk x = 0 := by unfold rk; rw [h1]; rfl
    rw [k1] at R1
    cases h2 : Fl.key y with
    | none =>
      have k2 : rk y = 0 := by unfold rk; rw [h2]; rfl
      rw [k2] at R2
      have e : Fl.ordr x y = 0 := by unfold Fl.ordr; rw [h1, h2]
      have ho : od x y = none := (Fl.order_none x y).2 (Or.inl h1)
      have o1 : (od x y == some Ordering.lt) = false := by rw [ho]; rfl
      have o2 : (od x y == some Ordering.gt) = false := by rw [ho]; rfl
      rw [e]
      clear h1 h2 k1 k2 e ho
      go_enter Try.func20, Try.ntmps20
      go_wp2_with fail
      refine (R1.out _).mono ?_
      rintro e w' ⟨rfl, rfl⟩
      go_wp2_with fail
      refine (R2.out _).mono ?_
      rintro e w' ⟨rfl, rfl⟩
      go_wp2_with fail
      go_ret
      exact ⟨rfl, rfl⟩
    | some b =>
      have k2 : rk y = 1 ∨ rk y = 2 := by unfold rk; rw [h2]; simp
      have e : Fl.ordr x y = -1 := by unfold Fl.ordr; rw [h1, h2]
      rw [e]
      clear h1 h2 k1 e
      rcases k2 with k2 | k2
      all_goals
        rw [k2] at R2
        clear k2
        go_enter Try.func20, Try.ntmps20
        go_wp2_with fail
        refine (R1.out _).mono ?_
        rintro e w' ⟨rfl, rfl⟩
        go_wp2_with fail
        refine (R2.out _).mono ?_
        rintro e w' ⟨rfl, rfl⟩
        go_wp2_with fail
        go_ret
        exact ⟨rfl, rfl⟩
  | some a =>
    cases h2 : Fl.key y with
    | none =>
      have k1 : rk x = 1 ∨ rk x = 2 := by unfold rk; rw [h1]; simp
      have k2 : rk y = 0 := by unfold rk; rw [h2]; rfl
      rw [k2] at R2
      have e : Fl.ordr x y = 1 := by unfold Fl.ordr; rw [h1, h2]
      rw [e]
      clear h1 h2 k2 e
      rcases k1 with k1 | k1
      all_goals
        rw [k1] at R1
        clear k1
        go_enter Try.func20, Try.ntmps20
        go_wp2_with fail
        refine (R1.out _).mono ?_
        rintro e w' ⟨rfl, rfl⟩
        go_wp2_with fail
        refine (R2.out _).mono ?_
        rintro e w' ⟨rfl, rfl⟩
        go_wp2_with fail
        go_ret
        exact ⟨rfl, rfl⟩
    | some b =>
      have ho : od x y = some (compare a b) := Fl.order_some h1 h2
      have o1 : (od x y == some Ordering.lt) = decide (a < b) := by rw [ho]; exact cmp_lt a b
      have o2 : (od x y == some Ordering.gt) = decide (b < a) := by rw [ho]; exact cmp_gt a b
      have e0 : Fl.ordr x y = if a < b then -1 else if b < a then 1 else Fl.cmpb (!Fl.neg x) (!Fl.neg y) := by unfold Fl.ordr; rw [h1, h2]
      have n1 := Fl.key_neg hx h1
      have n2 := Fl.key_neg hy h2
      have k1 : rk x = if Fl.neg x then 1 else 2 := by unfold rk; rw [h1]; rfl
      have k2 : rk y = if Fl.neg y then 1 else 2 := by unfold rk; rw [h2]; rfl
      clear h1 h2 ho
      cases m1 : Fl.neg x <;> cases m2 : Fl.neg y <;> rw [m1] at n1 e0 k1 <;> rw [m2] at n2 e0 k2
      · rcases Int.lt_trichotomy a b with h | h | h
        · rw [decide_eq_true h] at o1
          rw [if_pos h] at e0
          rw [e0]
          rw [show rk x = 2 from k1] at R1
          rw [show rk y = 2 from k2] at R2
          clear o2 e0 n1 n2 k1 k2 h m1 m2
          go_enter Try.func20, Try.ntmps20
          go_wp2_with fail
          refine (R1.out _).mono ?_
          rintro e w' ⟨rfl, rfl⟩
          go_wp2_with fail
          refine (R2.out _).mono ?_
          rintro e w' ⟨rfl, rfl⟩
          go_wp2_with fail
          go_ret
          exact ⟨rfl, rfl⟩
        · rw [decide_eq_false (by omega)] at o1 o2
          rw [if_neg (by omega), if_neg (by omega)] at e0
          rw [e0]
          rw [show rk x = 2 from k1] at R1
          rw [show rk y = 2 from k2] at R2
          clear e0 n1 n2 k1 k2 h m1 m2
          go_enter Try.func20, Try.ntmps20
          go_wp2_with fail
          refine (R1.out _).mono ?_
          rintro e w' ⟨rfl, rfl⟩
          go_wp2_with fail
          refine (R2.out _).mono ?_
          rintro e w' ⟨rfl, rfl⟩
          go_wp2_with fail
          go_ret
          exact ⟨rfl, rfl⟩
        · rw [decide_eq_false (by omega)] at o1
          rw [decide_eq_true h] at o2
          rw [if_neg (by omega), if_pos h] at e0
          rw [e0]
          rw [show rk x = 2 from k1] at R1
          rw [show rk y = 2 from k2] at R2
          clear e0 n1 n2 k1 k2 h m1 m2
          go_enter Try.func20, Try.ntmps20
          go_wp2_with fail
          refine (R1.out _).mono ?_
          rintro e w' ⟨rfl, rfl⟩
          go_wp2_with fail
          refine (R2.out _).mono ?_
          rintro e w' ⟨rfl, rfl⟩
          go_wp2_with fail
          go_ret
          exact ⟨rfl, rfl⟩
      · have e : Fl.ordr x y = 1 := by
          rw [e0]
          have ha : ¬ a < 0 := fun h => by have := n1.1 h; cases this
          have hb : ¬ 0 < b := fun h => by have := n2.2 h; cases this
          rw [if_neg (by omega)]
          split
          · rfl
          · rfl
        rw [e]
        rw [show rk x = 2 from k1] at R1
        rw [show rk y = 1 from k2] at R2
        clear o1 o2 e e0 n1 n2 k1 k2 m1 m2
        go_enter Try.func20, Try.ntmps20
        go_wp2_with fail
        refine (R1.out _).mono ?_
        rintro e w' ⟨rfl, rfl⟩
        go_wp2_with fail
        refine (R2.out _).mono ?_
        rintro e w' ⟨rfl, rfl⟩
        go_wp2_with fail
        go_ret
        exact ⟨rfl, rfl⟩
      · have e : Fl.ordr x y = -1 := by
          rw [e0]
          have ha : ¬ 0 < a := fun h => by have := n1.2 h; cases this
          have hb : ¬ b < 0 := fun h => by have := n2.1 h; cases this
          split
          · rfl
          · rw [if_neg (by omega)]; rfl
        rw [e]
        rw [show rk x = 1 from k1] at R1
        rw [show rk y = 2 from k2] at R2
        clear o1 o2 e e0 n1 n2 k1 k2 m1 m2
        go_enter Try.func20, Try.ntmps20
        go_wp2_with fail
        refine (R1.out _).mono ?_
        rintro e w' ⟨rfl, rfl⟩
        go_wp2_with fail
        refine (R2.out _).mono ?_
        rintro e w' ⟨rfl, rfl⟩
        go_wp2_with fail
        go_ret
        exact ⟨rfl, rfl⟩
      · rcases Int.lt_trichotomy a b with h | h | h
        · rw [decide_eq_true h] at o1
          rw [if_pos h] at e0
          rw [e0]
          rw [show rk x = 1 from k1] at R1
          rw [show rk y = 1 from k2] at R2
          clear o2 e0 n1 n2 k1 k2 h m1 m2
          go_enter Try.func20, Try.ntmps20
          go_wp2_with fail
          refine (R1.out _).mono ?_
          rintro e w' ⟨rfl, rfl⟩
          go_wp2_with fail
          refine (R2.out _).mono ?_
          rintro e w' ⟨rfl, rfl⟩
          go_wp2_with fail
          go_ret
          exact ⟨rfl, rfl⟩
        · rw [decide_eq_false (by omega)] at o1 o2
          rw [if_neg (by omega), if_neg (by omega)] at e0
          rw [e0]
          rw [show rk x = 1 from k1] at R1
          rw [show rk y = 1 from k2] at R2
          clear e0 n1 n2 k1 k2 h m1 m2
          go_enter Try.func20, Try.ntmps20
          go_wp2_with fail
          refine (R1.out _).mono ?_
          rintro e w' ⟨rfl, rfl⟩
          go_wp2_with fail
          refine (R2.out _).mono ?_
          rintro e w' ⟨rfl, rfl⟩
          go_wp2_with fail
          go_ret
          exact ⟨rfl, rfl⟩
        · rw [decide_eq_false (by omega)] at o1
          rw [decide_eq_true h] at o2
          rw [if_neg (by omega), if_pos h] at e0
          rw [e0]
          rw [show rk x = 1 from k1] at R1
          rw [show rk y = 1 from k2] at R2
          clear e0 n1 n2 k1 k2 h m1 m2
          go_enter Try.func20, Try.ntmps20
          go_wp2_with fail
          refine (R1.out _).mono ?_
          rintro e w' ⟨rfl, rfl⟩
          go_wp2_with fail
          refine (R2.out _).mono ?_
          rintro e w' ⟨rfl, rfl⟩
          go_wp2_with fail
          go_ret
          exact ⟨rfl, rfl⟩
theorem doubleTells_any (x y : Nat) (s : List UInt8) (W : World) (hx : x < 18446744073709551616) (hy : y < 18446744073709551616) (hs : s.length ≤ 9223372036854775807) :
    Calls Try.prog 4 #[.int .u64 x, .int .u64 y, str s] W fun e W' => e = .returned (.bool true) ∧ Below W.heap.size W W' := by
  have fb := fun (x : Nat) w => run_frombits x w
  have HH := hid (fun w => holds_any x y s w hs)
  have RH := hid (fun w => rholds_any x y s w hs)
  have OO := hid (fun w => order_any x y w hx hy)
  have RO := hid (fun w => rorder_any x y w hx hy)
  have KN := hid (fun w => known_any w)
  obtain ⟨b, hb⟩ : ∃ b, b = opo s (od x y) := ⟨_, rfl⟩
  obtain ⟨o, ho⟩ : ∃ o, o = Fl.ordr x y := ⟨_, rfl⟩
  rw [← hb] at HH RH
  rw [← ho] at OO RO
  have e1 : (b == b) = true := by simp
  have e2 : (o == o) = true := by simp
  clear hb ho
  go_enter Try.func4, Try.ntmps4
  go_wp2_with (first
    | (go_at_call 17; refine (HH.out _).mono ?_; rintro e w' ⟨rfl, rfl⟩)
    | (go_at_call 18; refine (RH.out _).mono ?_; rintro e w' ⟨rfl, rfl⟩)
    | (go_at_call 19; refine (OO.out _).mono ?_; rintro e w' ⟨rfl, rfl⟩)
    | (go_at_call 20; refine (RO.out _).mono ?_; rintro e w' ⟨rfl, rfl⟩)
    | (go_at_call 15; refine (KN.out _).mono ?_; rintro e w' ⟨rfl, hb⟩))
  go_ret
  exact ⟨rfl, by assumption⟩

theorem doubleTells_walk (H : Type) (enc : TypeId × Value → H) (W : World) (base : Nat) (args : Array Value) (ds gs : List (DataW H)) (before : List MemPlace)
    (hval : ∀ (j : Nat) t v, Try.f4.params[j]? = some t → args[j]? = some v → Value.okWide Try.prog W .any base t v)
    (hW : DataW.Whole enc Try.prog Try.f4.params.toList Rows.doubleTellsSpec.vars false W args.toList ds gs before)
    (hz : (DataW.weightsEach Try.prog (Try.f4.params.toList ++ Rows.doubleTellsSpec.plain.varTypes Try.prog) (ds ++ gs)).all (· ≤ reachBytes) = true)
    (hL : laidMetH Try.prog Rows.doubleTellsRow.laid W) (hsh : W.ShapedOpen Try.prog) :
    Calls Try.prog 4 args W fun e W' => e = .returned (.bool true) ∧ Below W.heap.size W W' := by
  obtain ⟨p, q, hA, _, _, _, _⟩ := hW
  rw [Try.params4] at hA hval
  rw [Try.params4] at hz
  obtain ⟨v0, vs0, d0, ds0, p0, q0, hargs, rfl, rfl, h0, r0⟩ := trodAll_cons hA
  obtain ⟨v1, vs1, d1, ds1, p1, q1, rfl, rfl, rfl, h1, r1⟩ := trodAll_cons r0
  obtain ⟨v2, vs2, d2, ds2, p2, q2, rfl, rfl, rfl, h2, r2⟩ := trodAll_cons r1
  obtain ⟨rfl, rfl, rfl⟩ := trodAll_nil r2
  obtain rfl : args = #[v0, v1, v2] := by cases args; simp_all
  obtain ⟨x0, rfl, rfl, rfl, w0⟩ := open_int Try.underlying28 (hval 0 28 v0 rfl rfl) h0
  have b0 := bounds_u64 w0
  obtain ⟨x1, rfl, rfl, rfl, w1⟩ := open_int Try.underlying28 (hval 1 28 v1 rfl rfl) h1
  have b1 := bounds_u64 w1
  obtain ⟨x2, rfl, rfl, rfl, w2⟩ := Go.ChangeMaps.open_string Try.underlying9 (hval 2 9 v2 rfl rfl) h2
  obtain ⟨n0, rfl⟩ : ∃ n : Nat, x0 = n := ⟨x0.toNat, by omega⟩
  obtain ⟨n1, rfl⟩ : ∃ n : Nat, x1 = n := ⟨x1.toNat, by omega⟩
  rw [str_of x2]
  exact doubleTells_any n0 n1 x2.data.toList W (by omega) (by omega) (by rw [show x2.data.toList.length = x2.size from Array.length_toList]; unfold maxLen at w2; omega)

theorem doubleTells_lifted (os : Os) (started : os.Started) (H : Type) (enc : TypeId × Value → H) (F : Stop.Interp) :
    ReturnsInHanded {} Try.checked os 4 .any ((OpenSpec.ofChange Rows.doubleTellsSpec).preRow enc Try.prog Try.f4 Rows.doubleTellsRow.domain false Rows.doubleTellsRow.laid) (((OpenSpec.ofChange Rows.doubleTellsSpec).at F).post enc Try.prog Try.f4 false true false false) := by
  obtain ⟨places, hx⟩ : ∃ places, DataW.whole enc Try.prog ((World.holding Try.prog os ⟨#[], #[], []⟩).forCall (fun _ _ => 0) ⟨#[], #[.int .u64 0, .int .u64 0, .string ByteArray.empty], []⟩).memory Try.f4.params.toList Rows.doubleTellsSpec.vars false (#[.int .u64 0, .int .u64 0, .string ByteArray.empty] : Array Value).toList 8 = some ([.lit (.int .u64 0), .lit (.int .u64 0), .lit (.string [])], [], places) := ⟨[], by kernel_rfl⟩
  refine returnsInHanded_of_row (C := Try.checked) (s := OpenSpec.ofChange Rows.doubleTellsSpec) own started (by kernel_rfl) Try.func4
    (witness_row_at (enc := enc) (C := Try.checked) false (World.holding Try.prog os ⟨#[], #[], []⟩) #[.int .u64 0, .int .u64 0, .string ByteArray.empty] rfl (by kernel_rfl) (by kernel_rfl) (by kernel_rfl)
      (OpenSpec.preRow_of_cond 8 hx (by kernel_rfl) (fun k hk => by cases hk) (by kernel_rfl) (laidMet_nil _ _))) ?_
  intro W base args ds gs before hval hW _ _ hz hL hsh _
  refine (doubleTells_walk H enc W base args ds gs before hval hW hz hL hsh).mono fun e W' ⟨he, hb⟩ => ⟨_, he, ?_⟩
  exact law_post (fn := Try.f4) (s := Rows.doubleTellsSpec) (tb := 4) rfl (fun ds hd => by match ds, hd with | [d0, d1, d2], _ => rfl) rfl Try.underlying4 (by kernel_rfl) hW hb

theorem doubleTells_said : Rows.DoubleTellsSaid :=
  OpenClaim.holds_of_cond 4 Try.f4 rfl rfl rfl rfl rfl rfl rfl ⟨rfl, rfl, rfl, rfl, rfl⟩ rfl rfl rfl rfl rfl (by kernel_rfl) Try.func4 (by kernel_rfl)
    (of_decide_eq_true (by kernel_rfl)) (by unfold Func.isWrapper; first | (rw [if_pos (by decide +kernel)]; kernel_rfl) | (rw [if_neg (by decide +kernel)]; exact ⟨rfl, rfl⟩))
    (fun os started H enc _ F => by rw [OpenClaim.pre_eq_preRow]; exact doubleTells_lifted os started H enc F)
end Go.Proofs.Ytmomlgacnnamgaa
