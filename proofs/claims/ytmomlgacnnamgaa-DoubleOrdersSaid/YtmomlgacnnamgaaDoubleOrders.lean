/- DoubleOrders: numbers stand in one order of all, and as they do by themselves, for every input. -/
import Derived.Test.YtmomlgacnnamgaaDblKnown
namespace Go.Proofs.Ytmomlgacnnamgaa
set_option linter.unusedVariables false
set_option linter.unusedSimpArgs false
set_option maxRecDepth 100000
open Go.ChangeShapes Go.WideShapes Go.ChangeAt Go.RowKit

theorem od_eq (x : Nat) : (od x x == some Ordering.eq) = (Fl.key x).isSome := by
  show (Fl.F.order x x == some Ordering.eq) = _
  rw [Fl.order_key]
  cases Fl.key x with
  | none => rfl
  | some a => simp only [Option.isSome_some]; rw [Int.compare_eq_eq.2 rfl]; rfl
theorem od_zero (x : Nat) (a : Int) (h : Fl.key x = some a) : (od x 0 != some Ordering.eq) = decide (a ≠ 0) := by
  show (Fl.F.order x 0 != some Ordering.eq) = _
  rw [Fl.order_some h Fl.key_zero]
  rcases Int.lt_trichotomy a 0 with h | h | h
  · rw [Int.compare_eq_lt.2 h, decide_eq_true (by omega)]; rfl
  · rw [Int.compare_eq_eq.2 h, decide_eq_false (by omega)]; rfl
  · rw [Int.compare_eq_gt.2 h, decide_eq_true (by omega)]; rfl
theorem ordr_bd (x y : Nat) : -1 ≤ Fl.ordr x y ∧ Fl.ordr x y ≤ 1 := by
  unfold Fl.ordr
  cases Fl.key x with
  | none => cases Fl.key y <;> simp
  | some a =>
    cases Fl.key y with
    | none => simp
    | some b =>
      simp only
      split
      · omega
      · split
        · omega
        · unfold Fl.cmpb; split
          · omega
          · split <;> omega
set_option maxHeartbeats 1000000 in
theorem doubleOrders_any (x y z : Nat) (W : World) (hx : x < 18446744073709551616) (hy : y < 18446744073709551616) (hz : z < 18446744073709551616) :
    Calls Try.prog 5 #[.int .u64 x, .int .u64 y, .int .u64 z] W fun e W' => e = .returned (.bool true) ∧ Below W.heap.size W W' := by
  have fb := fun (x : Nat) w => run_frombits x w
  have OO := hid (fun x y w (hx : x < 18446744073709551616) (hy : y < 18446744073709551616) => order_any x y w hx hy)
  have KN := hid (fun w => known_any w)
  have q1 := od_self x
  have q2 := od_self y
  have e1 := od_eq x
  have e2 := od_eq y
  have s0 := Fl.ordr_self x
  have s1 := Fl.ordr_swap x y
  have bd1 := ordr_bd x y
  have bd2 := ordr_bd y z
  have bd3 := ordr_bd x z
  have bd4 := ordr_bd y x
  have htr := Fl.ordr_trans x y z
  have hnone : Fl.key x = none → Fl.ordr x y = -1 ∨ Fl.key y = none := by
    intro h
    unfold Fl.ordr
    rw [h]
    cases Fl.key y <;> simp
  have hne : (Fl.ordr x y != -Fl.ordr y x) = false := by rw [bne_eq_false_iff_eq]; exact s1
  obtain ⟨p, hp⟩ : ∃ p, p = Fl.ordr x y := ⟨_, rfl⟩
  obtain ⟨p', hp'⟩ : ∃ p, p = Fl.ordr y x := ⟨_, rfl⟩
  obtain ⟨q, hq⟩ : ∃ q, q = Fl.ordr y z := ⟨_, rfl⟩
  obtain ⟨r, hr⟩ : ∃ r, r = Fl.ordr x z := ⟨_, rfl⟩
  have O1 := hid (fun w => OO.out x y w hx hy)
  have O2 := hid (fun w => OO.out y z w hy hz)
  have O3 := hid (fun w => OO.out x z w hx hz)
  have O4 := hid (fun w => OO.out y x w hy hx)
  have O5 := hid (fun w => OO.out x x w hx hx)
  rw [s0] at O5
  rw [← hp] at O1 bd1 htr hnone hne
  rw [← hp'] at O4 bd4 hne
  rw [← hq] at O2 bd2 htr
  rw [← hr] at O3 bd3 htr
  -- the second test's guards
  have hcase : (Fl.key x = none ∧ (p = -1 ∨ Fl.key y = none)) ∨ (∃ a, Fl.key x = some a ∧ Fl.key y = none) ∨ (∃ a b, Fl.key x = some a ∧ Fl.key y = some b) := by
    cases h1 : Fl.key x with
    | none => exact Or.inl ⟨rfl, hnone h1⟩
    | some a =>
      cases h2 : Fl.key y with
      | none => exact Or.inr (Or.inl ⟨a, rfl, rfl⟩)
      | some b => exact Or.inr (Or.inr ⟨a, b, rfl, rfl⟩)
  have ho := Fl.order_key x y
  have hlt := fun a b h1 h2 h0 => Fl.ordr_lt (a := a) (b := b) hx hy h1 h2 h0
  rw [← hp] at hlt
  have z1 := od_zero x
  have z2 := od_zero y
  clear s0 s1 hp hp' hq hr hnone OO
  have hord : p ≤ 0 ∧ q ≤ 0 ∧ r ≤ 0 ∨ (p ≤ 0 ∧ 0 < q) ∨ 0 < p := by
    by_cases h1 : p ≤ 0
    · by_cases h2 : q ≤ 0
      · exact Or.inl ⟨h1, h2, htr h1 h2⟩
      · exact Or.inr (Or.inl ⟨h1, by omega⟩)
    · exact Or.inr (Or.inr (by omega))
  clear htr
  rcases hcase with ⟨k1, k2⟩ | ⟨a, k1, k2⟩ | ⟨a, b, k1, k2⟩
  · rw [k1] at q1 e1
    simp only [Option.isNone_none, Option.isSome_none] at q1 e1
    have hy2 : p = -1 ∨ (p ≠ -1 ∧ Fl.key y = none) := by
      rcases k2 with h | h
      · exact Or.inl h
      · by_cases h2 : p = -1
        · exact Or.inl h2
        · exact Or.inr ⟨h2, h⟩
    clear k1 k2 ho hlt z1 z2
    rcases hy2 with rfl | ⟨h1, h2⟩
    · have hq2 : (-1 : Int) ≤ 0 ∧ (q ≤ 0 ∧ r ≤ 0 ∨ 0 < q) := by omega
      obtain ⟨_, hq2⟩ := hq2
      clear q2 e2 hord
      rcases hq2 with ⟨m1, m2⟩ | m1
      all_goals
        go_enter Try.func5, Try.ntmps5
        go_wp2_with fail
        refine (O1.out _).mono ?_
        rintro e w' ⟨rfl, rfl⟩
        go_wp2_with fail
        refine (O2.out _).mono ?_
        rintro e w' ⟨rfl, rfl⟩
        go_wp2_with fail
        refine (O3.out _).mono ?_
        rintro e w' ⟨rfl, rfl⟩
        go_wp2_with fail
        refine (O4.out _).mono ?_
        rintro e w' ⟨rfl, rfl⟩
        go_wp2_with fail
        refine (O5.out _).mono ?_
        rintro e w' ⟨rfl, rfl⟩
        go_wp2_with (go_at_call 15; refine (KN.out _).mono ?_; rintro e w' ⟨rfl, hb⟩)
        go_ret
        exact ⟨rfl, by assumption⟩
    · rw [h2] at q2
      have hp1 : (p == -1) = false := beq_eq_false_iff_ne.2 h1
      simp only [Option.isNone_none] at q2
      clear h1 h2 e2
      rcases hord with ⟨m1, m2, m3⟩ | ⟨m1, m2⟩ | m1
      all_goals
        go_enter Try.func5, Try.ntmps5
        go_wp2_with fail
        refine (O1.out _).mono ?_
        rintro e w' ⟨rfl, rfl⟩
        go_wp2_with fail
        refine (O2.out _).mono ?_
        rintro e w' ⟨rfl, rfl⟩
        go_wp2_with fail
        refine (O3.out _).mono ?_
        rintro e w' ⟨rfl, rfl⟩
        go_wp2_with fail
        refine (O4.out _).mono ?_
        rintro e w' ⟨rfl, rfl⟩
        go_wp2_with fail
        refine (O5.out _).mono ?_
        rintro e w' ⟨rfl, rfl⟩
        go_wp2_with (go_at_call 15; refine (KN.out _).mono ?_; rintro e w' ⟨rfl, hb⟩)
        go_ret
        exact ⟨rfl, by assumption⟩
  · rw [k1] at q1 e1
    rw [k2] at q2 e2
    simp only [Option.isNone_none, Option.isSome_none, Option.isNone_some, Option.isSome_some] at q1 e1 q2 e2
    clear k1 k2 ho hlt z1 z2
    rcases hord with ⟨m1, m2, m3⟩ | ⟨m1, m2⟩ | m1
    all_goals
      go_enter Try.func5, Try.ntmps5
      go_wp2_with fail
      refine (O1.out _).mono ?_
      rintro e w' ⟨rfl, rfl⟩
      go_wp2_with fail
      refine (O2.out _).mono ?_
      rintro e w' ⟨rfl, rfl⟩
      go_wp2_with fail
      refine (O3.out _).mono ?_
      rintro e w' ⟨rfl, rfl⟩
      go_wp2_with fail
      refine (O4.out _).mono ?_
      rintro e w' ⟨rfl, rfl⟩
      go_wp2_with fail
      refine (O5.out _).mono ?_
      rintro e w' ⟨rfl, rfl⟩
      go_wp2_with (go_at_call 15; refine (KN.out _).mono ?_; rintro e w' ⟨rfl, hb⟩)
      go_ret
      exact ⟨rfl, by assumption⟩
  · rw [k1] at q1 e1
    rw [k2] at q2 e2
    have z1 := z1 a k1
    have z2 := z2 b k2
    have hl : (od x y == some Ordering.lt) = decide (a < b) := by rw [show od x y = some (compare a b) from Fl.order_some k1 k2]; exact cmp_lt a b
    have hlt := hlt a b k1 k2
    simp only [Option.isNone_some, Option.isSome_some] at q1 e1 q2 e2
    clear k1 k2 ho
    by_cases h0 : a ≠ 0 ∨ b ≠ 0
    · have hlt := hlt h0
      have hzz : (decide (a ≠ 0) = true) ∨ (decide (a ≠ 0) = false ∧ decide (b ≠ 0) = true) := by
        by_cases ha : a = 0
        · right; simp [ha]; omega
        · left; simp [ha]
      have hpl : decide (p < 0) = decide (a < b) := by rw [decide_eq_decide]; exact hlt
      clear h0
      rcases hzz with hz1 | ⟨hz1, hz2⟩
      · rw [hz1] at z1
        clear hz1 z2
        by_cases hab : a < b
        · rw [decide_eq_true hab] at hl
          have hp0 : p < 0 := hlt.2 hab
          clear hlt hpl hab
          rcases hord with ⟨m1, m2, m3⟩ | ⟨m1, m2⟩ | m1
          · go_enter Try.func5, Try.ntmps5
            go_wp2_with fail
            refine (O1.out _).mono ?_
            rintro e w' ⟨rfl, rfl⟩
            go_wp2_with fail
            refine (O2.out _).mono ?_
            rintro e w' ⟨rfl, rfl⟩
            go_wp2_with fail
            refine (O3.out _).mono ?_
            rintro e w' ⟨rfl, rfl⟩
            go_wp2_with fail
            refine (O4.out _).mono ?_
            rintro e w' ⟨rfl, rfl⟩
            go_wp2_with fail
            refine (O5.out _).mono ?_
            rintro e w' ⟨rfl, rfl⟩
            go_wp2_with (go_at_call 15; refine (KN.out _).mono ?_; rintro e w' ⟨rfl, hb⟩)
            go_ret
            exact ⟨rfl, by assumption⟩
          · go_enter Try.func5, Try.ntmps5
            go_wp2_with fail
            refine (O1.out _).mono ?_
            rintro e w' ⟨rfl, rfl⟩
            go_wp2_with fail
            refine (O2.out _).mono ?_
            rintro e w' ⟨rfl, rfl⟩
            go_wp2_with fail
            refine (O3.out _).mono ?_
            rintro e w' ⟨rfl, rfl⟩
            go_wp2_with fail
            refine (O4.out _).mono ?_
            rintro e w' ⟨rfl, rfl⟩
            go_wp2_with fail
            refine (O5.out _).mono ?_
            rintro e w' ⟨rfl, rfl⟩
            go_wp2_with (go_at_call 15; refine (KN.out _).mono ?_; rintro e w' ⟨rfl, hb⟩)
            go_ret
            exact ⟨rfl, by assumption⟩
          · omega
        · rw [decide_eq_false hab] at hl
          have hp0 : 0 ≤ p := by have := mt hlt.1 hab; omega
          clear hlt hpl hab
          rcases hord with ⟨m1, m2, m3⟩ | ⟨m1, m2⟩ | m1
          all_goals
          go_enter Try.func5, Try.ntmps5
          go_wp2_with fail
          refine (O1.out _).mono ?_
          rintro e w' ⟨rfl, rfl⟩
          go_wp2_with fail
          refine (O2.out _).mono ?_
          rintro e w' ⟨rfl, rfl⟩
          go_wp2_with fail
          refine (O3.out _).mono ?_
          rintro e w' ⟨rfl, rfl⟩
          go_wp2_with fail
          refine (O4.out _).mono ?_
          rintro e w' ⟨rfl, rfl⟩
          go_wp2_with fail
          refine (O5.out _).mono ?_
          rintro e w' ⟨rfl, rfl⟩
          go_wp2_with (go_at_call 15; refine (KN.out _).mono ?_; rintro e w' ⟨rfl, hb⟩)
          go_ret
          exact ⟨rfl, by assumption⟩
      · rw [hz1] at z1
        rw [hz2] at z2
        clear hz1 hz2
        by_cases hab : a < b
        · rw [decide_eq_true hab] at hl
          have hp0 : p < 0 := hlt.2 hab
          clear hlt hpl hab
          rcases hord with ⟨m1, m2, m3⟩ | ⟨m1, m2⟩ | m1
          · go_enter Try.func5, Try.ntmps5
            go_wp2_with fail
            refine (O1.out _).mono ?_
            rintro e w' ⟨rfl, rfl⟩
            go_wp2_with fail
            refine (O2.out _).mono ?_
            rintro e w' ⟨rfl, rfl⟩
            go_wp2_with fail
            refine (O3.out _).mono ?_
            rintro e w' ⟨rfl, rfl⟩
            go_wp2_with fail
            refine (O4.out _).mono ?_
            rintro e w' ⟨rfl, rfl⟩
            go_wp2_with fail
            refine (O5.out _).mono ?_
            rintro e w' ⟨rfl, rfl⟩
            go_wp2_with (go_at_call 15; refine (KN.out _).mono ?_; rintro e w' ⟨rfl, hb⟩)
            go_ret
            exact ⟨rfl, by assumption⟩
          · go_enter Try.func5, Try.ntmps5
            go_wp2_with fail
            refine (O1.out _).mono ?_
            rintro e w' ⟨rfl, rfl⟩
            go_wp2_with fail
            refine (O2.out _).mono ?_
            rintro e w' ⟨rfl, rfl⟩
            go_wp2_with fail
            refine (O3.out _).mono ?_
            rintro e w' ⟨rfl, rfl⟩
            go_wp2_with fail
            refine (O4.out _).mono ?_
            rintro e w' ⟨rfl, rfl⟩
            go_wp2_with fail
            refine (O5.out _).mono ?_
            rintro e w' ⟨rfl, rfl⟩
            go_wp2_with (go_at_call 15; refine (KN.out _).mono ?_; rintro e w' ⟨rfl, hb⟩)
            go_ret
            exact ⟨rfl, by assumption⟩
          · omega
        · rw [decide_eq_false hab] at hl
          have hp0 : 0 ≤ p := by have := mt hlt.1 hab; omega
          clear hlt hpl hab
          rcases hord with ⟨m1, m2, m3⟩ | ⟨m1, m2⟩ | m1
          all_goals
          go_enter Try.func5, Try.ntmps5
          go_wp2_with fail
          refine (O1.out _).mono ?_
          rintro e w' ⟨rfl, rfl⟩
          go_wp2_with fail
          refine (O2.out _).mono ?_
          rintro e w' ⟨rfl, rfl⟩
          go_wp2_with fail
          refine (O3.out _).mono ?_
          rintro e w' ⟨rfl, rfl⟩
          go_wp2_with fail
          refine (O4.out _).mono ?_
          rintro e w' ⟨rfl, rfl⟩
          go_wp2_with fail
          refine (O5.out _).mono ?_
          rintro e w' ⟨rfl, rfl⟩
          go_wp2_with (go_at_call 15; refine (KN.out _).mono ?_; rintro e w' ⟨rfl, hb⟩)
          go_ret
          exact ⟨rfl, by assumption⟩
    · have ha : a = 0 := by omega
      have hb : b = 0 := by omega
      rw [decide_eq_false (by simp [ha])] at z1
      rw [decide_eq_false (by simp [hb])] at z2
      clear hlt hl ha hb h0
      rcases hord with ⟨m1, m2, m3⟩ | ⟨m1, m2⟩ | m1
      all_goals
      go_enter Try.func5, Try.ntmps5
      go_wp2_with fail
      refine (O1.out _).mono ?_
      rintro e w' ⟨rfl, rfl⟩
      go_wp2_with fail
      refine (O2.out _).mono ?_
      rintro e w' ⟨rfl, rfl⟩
      go_wp2_with fail
      refine (O3.out _).mono ?_
      rintro e w' ⟨rfl, rfl⟩
      go_wp2_with fail
      refine (O4.out _).mono ?_
      rintro e w' ⟨rfl, rfl⟩
      go_wp2_with fail
      refine (O5.out _).mono ?_
      rintro e w' ⟨rfl, rfl⟩
      go_wp2_with (go_at_call 15; refine (KN.out _).mono ?_; rintro e w' ⟨rfl, hb⟩)
      go_ret
      exact ⟨rfl, by assumption⟩

theorem doubleOrders_walk (H : Type) (enc : TypeId × Value → H) (W : World) (base : Nat) (args : Array Value) (ds gs : List (DataW H)) (before : List MemPlace)
    (hval : ∀ (j : Nat) t v, Try.f5.params[j]? = some t → args[j]? = some v → Value.okWide Try.prog W .any base t v)
    (hW : DataW.Whole enc Try.prog Try.f5.params.toList Rows.doubleOrdersSpec.vars false W args.toList ds gs before)
    (hz : (DataW.weightsEach Try.prog (Try.f5.params.toList ++ Rows.doubleOrdersSpec.plain.varTypes Try.prog) (ds ++ gs)).all (· ≤ reachBytes) = true)
    (hL : laidMetH Try.prog Rows.doubleOrdersRow.laid W) (hsh : W.ShapedOpen Try.prog) :
    Calls Try.prog 5 args W fun e W' => e = .returned (.bool true) ∧ Below W.heap.size W W' := by
  obtain ⟨p, q, hA, _, _, _, _⟩ := hW
  rw [Try.params5] at hA hval
  rw [Try.params5] at hz
  obtain ⟨v0, vs0, d0, ds0, p0, q0, hargs, rfl, rfl, h0, r0⟩ := trodAll_cons hA
  obtain ⟨v1, vs1, d1, ds1, p1, q1, rfl, rfl, rfl, h1, r1⟩ := trodAll_cons r0
  obtain ⟨v2, vs2, d2, ds2, p2, q2, rfl, rfl, rfl, h2, r2⟩ := trodAll_cons r1
  obtain ⟨rfl, rfl, rfl⟩ := trodAll_nil r2
  obtain rfl : args = #[v0, v1, v2] := by cases args; simp_all
  obtain ⟨x0, rfl, rfl, rfl, w0⟩ := open_int Try.underlying28 (hval 0 28 v0 rfl rfl) h0
  have b0 := bounds_u64 w0
  obtain ⟨x1, rfl, rfl, rfl, w1⟩ := open_int Try.underlying28 (hval 1 28 v1 rfl rfl) h1
  have b1 := bounds_u64 w1
  obtain ⟨x2, rfl, rfl, rfl, w2⟩ := open_int Try.underlying28 (hval 2 28 v2 rfl rfl) h2
  have b2 := bounds_u64 w2
  obtain ⟨n0, rfl⟩ : ∃ n : Nat, x0 = n := ⟨x0.toNat, by omega⟩
  obtain ⟨n1, rfl⟩ : ∃ n : Nat, x1 = n := ⟨x1.toNat, by omega⟩
  obtain ⟨n2, rfl⟩ : ∃ n : Nat, x2 = n := ⟨x2.toNat, by omega⟩
  exact doubleOrders_any n0 n1 n2 W (by omega) (by omega) (by omega)

theorem doubleOrders_lifted (os : Os) (started : os.Started) (H : Type) (enc : TypeId × Value → H) (F : Stop.Interp) :
    ReturnsInHanded {} Try.checked os 5 .any ((OpenSpec.ofChange Rows.doubleOrdersSpec).preRow enc Try.prog Try.f5 Rows.doubleOrdersRow.domain false Rows.doubleOrdersRow.laid) (((OpenSpec.ofChange Rows.doubleOrdersSpec).at F).post enc Try.prog Try.f5 false true false false) := by
  obtain ⟨places, hx⟩ : ∃ places, DataW.whole enc Try.prog ((World.holding Try.prog os ⟨#[], #[], []⟩).forCall (fun _ _ => 0) ⟨#[], #[.int .u64 0, .int .u64 0, .int .u64 0], []⟩).memory Try.f5.params.toList Rows.doubleOrdersSpec.vars false (#[.int .u64 0, .int .u64 0, .int .u64 0] : Array Value).toList 8 = some ([.lit (.int .u64 0), .lit (.int .u64 0), .lit (.int .u64 0)], [], places) := ⟨[], by kernel_rfl⟩
  refine returnsInHanded_of_row (C := Try.checked) (s := OpenSpec.ofChange Rows.doubleOrdersSpec) own started (by kernel_rfl) Try.func5
    (witness_row_at (enc := enc) (C := Try.checked) false (World.holding Try.prog os ⟨#[], #[], []⟩) #[.int .u64 0, .int .u64 0, .int .u64 0] rfl (by kernel_rfl) (by kernel_rfl) (by kernel_rfl)
      (OpenSpec.preRow_of_cond 8 hx (by kernel_rfl) (fun k hk => by cases hk) (by kernel_rfl) (laidMet_nil _ _))) ?_
  intro W base args ds gs before hval hW _ _ hz hL hsh _
  refine (doubleOrders_walk H enc W base args ds gs before hval hW hz hL hsh).mono fun e W' ⟨he, hb⟩ => ⟨_, he, ?_⟩
  exact law_post (fn := Try.f5) (s := Rows.doubleOrdersSpec) (tb := 4) rfl (fun ds hd => by match ds, hd with | [d0, d1, d2], _ => rfl) rfl Try.underlying4 (by kernel_rfl) hW hb

theorem doubleOrders_said : Rows.DoubleOrdersSaid :=
  OpenClaim.holds_of_cond 5 Try.f5 rfl rfl rfl rfl rfl rfl rfl ⟨rfl, rfl, rfl, rfl, rfl⟩ rfl rfl rfl rfl rfl (by kernel_rfl) Try.func5 (by kernel_rfl)
    (of_decide_eq_true (by kernel_rfl)) (by unfold Func.isWrapper; first | (rw [if_pos (by decide +kernel)]; kernel_rfl) | (rw [if_neg (by decide +kernel)]; exact ⟨rfl, rfl⟩))
    (fun os started H enc _ F => by rw [OpenClaim.pre_eq_preRow]; exact doubleOrders_lifted os started H enc F)
end Go.Proofs.Ytmomlgacnnamgaa
