/- DoubleOps: ops hang together: less or equal, not greater, and so on; but of NaN only != holds, for every input. -/
import Derived.Test.YtmomlgacnnamgaaDblKnown
namespace Go.Proofs.Ytmomlgacnnamgaa
set_option linter.unusedVariables false
set_option linter.unusedSimpArgs false
set_option maxRecDepth 100000
open Go.ChangeShapes Go.WideShapes Go.ChangeAt Go.RowKit

theorem od_eq (x : Nat) : (od x x == some Ordering.eq) = (Fl.key x).isSome := by
  show (Fl.F.order x x == some Ordering.eq) = _
  rw [Fl.order_key]
  cases Fl.key x with
  | none => rfl
  | some a => simp only [Option.isSome_some]; rw [Int.compare_eq_eq.2 rfl]; rfl
theorem opo_lt : opo [60] (some .lt) = true ∧ opo [60, 61] (some .lt) = true ∧ opo [62] (some .lt) = false ∧ opo [62, 61] (some .lt) = false ∧ opo [61] (some .lt) = false ∧ opo [33, 61] (some .lt) = true := by decide
theorem opo_eq : opo [60] (some .eq) = false ∧ opo [60, 61] (some .eq) = true ∧ opo [62] (some .eq) = false ∧ opo [62, 61] (some .eq) = true ∧ opo [61] (some .eq) = true ∧ opo [33, 61] (some .eq) = false := by decide
theorem opo_gt : opo [60] (some .gt) = false ∧ opo [60, 61] (some .gt) = false ∧ opo [62] (some .gt) = true ∧ opo [62, 61] (some .gt) = true ∧ opo [61] (some .gt) = false ∧ opo [33, 61] (some .gt) = true := by decide
theorem doubleOps_any (x y : Nat) (W : World) : Calls Try.prog 6 #[.int .u64 x, .int .u64 y] W fun e W' => e = .returned (.bool true) ∧ Below W.heap.size W W' := by
  have fb := fun (x : Nat) w => run_frombits x w
  have HH := hid (fun s w hs => holds_any x y s w hs)
  have KN := hid (fun w => known_any w)
  have q1 := od_self x
  have q2 := od_self y
  by_cases hnan : Fl.key x = none ∨ Fl.key y = none
  · have ho : od x y = none := (Fl.order_none x y).2 hnan
    have p1 : opo [60] (od x y) = false := by rw [ho]; decide
    have p2 : opo [60, 61] (od x y) = false := by rw [ho]; decide
    have p3 : opo [62] (od x y) = false := by rw [ho]; decide
    have p4 : opo [62, 61] (od x y) = false := by rw [ho]; decide
    have p5 : opo [61] (od x y) = false := by rw [ho]; decide
    have p6 : opo [33, 61] (od x y) = true := by rw [ho]; decide
    clear ho
    by_cases h1 : Fl.key x = none
    · rw [h1] at q1
      simp only [Option.isNone_none] at q1
      clear hnan h1 q2
      go_enter Try.func6, Try.ntmps6
      go_wp2_with (first
        | (go_at_call 17; refine (HH.out _ _ (by decide)).mono ?_; rintro e w' ⟨rfl, rfl⟩)
        | (go_at_call 15; refine (KN.out _).mono ?_; rintro e w' ⟨rfl, hb⟩))
      go_ret
      exact ⟨rfl, by assumption⟩
    · have h2 : Fl.key y = none := by
        rcases hnan with h | h
        · exact absurd h h1
        · exact h
      rw [h2] at q2
      cases hx : Fl.key x with
      | none => exact absurd hx h1
      | some a =>
        rw [hx] at q1
        simp only [Option.isNone_none, Option.isNone_some] at q1 q2
        clear hnan h1 h2 hx
        go_enter Try.func6, Try.ntmps6
        go_wp2_with (first
          | (go_at_call 17; refine (HH.out _ _ (by decide)).mono ?_; rintro e w' ⟨rfl, rfl⟩)
          | (go_at_call 15; refine (KN.out _).mono ?_; rintro e w' ⟨rfl, hb⟩))
        go_ret
        exact ⟨rfl, by assumption⟩
  · cases hx : Fl.key x with
    | none => exact absurd (Or.inl hx) hnan
    | some a =>
      cases hy : Fl.key y with
      | none => exact absurd (Or.inr hy) hnan
      | some b =>
        rw [hx] at q1
        rw [hy] at q2
        simp only [Option.isNone_some] at q1 q2
        have ho : od x y = some (compare a b) := Fl.order_some hx hy
        have hc : compare a b = .lt ∨ compare a b = .eq ∨ compare a b = .gt := by cases compare a b <;> simp
        have p7 : opo [61, 61] (od x y) = false := rfl
        clear hnan hx hy
        rcases hc with hc | hc | hc
        · obtain ⟨p1, p2, p3, p4, p5, p6⟩ := opo_lt
          rw [hc] at ho
          rw [← ho] at p1 p2 p3 p4 p5 p6
          clear hc ho
          go_enter Try.func6, Try.ntmps6
          go_wp2_with (first
            | (go_at_call 17; refine (HH.out _ _ (by decide)).mono ?_; rintro e w' ⟨rfl, rfl⟩)
            | (go_at_call 15; refine (KN.out _).mono ?_; rintro e w' ⟨rfl, hb⟩))
          go_ret
          exact ⟨rfl, by assumption⟩
        · obtain ⟨p1, p2, p3, p4, p5, p6⟩ := opo_eq
          rw [hc] at ho
          rw [← ho] at p1 p2 p3 p4 p5 p6
          clear hc ho
          go_enter Try.func6, Try.ntmps6
          go_wp2_with (first
            | (go_at_call 17; refine (HH.out _ _ (by decide)).mono ?_; rintro e w' ⟨rfl, rfl⟩)
            | (go_at_call 15; refine (KN.out _).mono ?_; rintro e w' ⟨rfl, hb⟩))
          go_ret
          exact ⟨rfl, by assumption⟩
        · obtain ⟨p1, p2, p3, p4, p5, p6⟩ := opo_gt
          rw [hc] at ho
          rw [← ho] at p1 p2 p3 p4 p5 p6
          clear hc ho
          go_enter Try.func6, Try.ntmps6
          go_wp2_with (first
            | (go_at_call 17; refine (HH.out _ _ (by decide)).mono ?_; rintro e w' ⟨rfl, rfl⟩)
            | (go_at_call 15; refine (KN.out _).mono ?_; rintro e w' ⟨rfl, hb⟩))
          go_ret
          exact ⟨rfl, by assumption⟩

theorem doubleOps_walk (H : Type) (enc : TypeId × Value → H) (W : World) (base : Nat) (args : Array Value) (ds gs : List (DataW H)) (before : List MemPlace)
    (hval : ∀ (j : Nat) t v, Try.f6.params[j]? = some t → args[j]? = some v → Value.okWide Try.prog W .any base t v)
    (hW : DataW.Whole enc Try.prog Try.f6.params.toList Rows.doubleOpsSpec.vars false W args.toList ds gs before)
    (hz : (DataW.weightsEach Try.prog (Try.f6.params.toList ++ Rows.doubleOpsSpec.plain.varTypes Try.prog) (ds ++ gs)).all (· ≤ reachBytes) = true)
    (hL : laidMetH Try.prog Rows.doubleOpsRow.laid W) (hsh : W.ShapedOpen Try.prog) :
    Calls Try.prog 6 args W fun e W' => e = .returned (.bool true) ∧ Below W.heap.size W W' := by
  obtain ⟨p, q, hA, _, _, _, _⟩ := hW
  rw [Try.params6] at hA hval
  rw [Try.params6] at hz
  obtain ⟨v0, vs0, d0, ds0, p0, q0, hargs, rfl, rfl, h0, r0⟩ := trodAll_cons hA
  obtain ⟨v1, vs1, d1, ds1, p1, q1, rfl, rfl, rfl, h1, r1⟩ := trodAll_cons r0
  obtain ⟨rfl, rfl, rfl⟩ := trodAll_nil r1
  obtain rfl : args = #[v0, v1] := by cases args; simp_all
  obtain ⟨x0, rfl, rfl, rfl, w0⟩ := open_int Try.underlying28 (hval 0 28 v0 rfl rfl) h0
  have b0 := bounds_u64 w0
  obtain ⟨x1, rfl, rfl, rfl, w1⟩ := open_int Try.underlying28 (hval 1 28 v1 rfl rfl) h1
  have b1 := bounds_u64 w1
  obtain ⟨n0, rfl⟩ : ∃ n : Nat, x0 = n := ⟨x0.toNat, by omega⟩
  obtain ⟨n1, rfl⟩ : ∃ n : Nat, x1 = n := ⟨x1.toNat, by omega⟩
  exact doubleOps_any n0 n1 W

theorem doubleOps_lifted (os : Os) (started : os.Started) (H : Type) (enc : TypeId × Value → H) (F : Stop.Interp) :
    ReturnsInHanded {} Try.checked os 6 .any ((OpenSpec.ofChange Rows.doubleOpsSpec).preRow enc Try.prog Try.f6 Rows.doubleOpsRow.domain false Rows.doubleOpsRow.laid) (((OpenSpec.ofChange Rows.doubleOpsSpec).at F).post enc Try.prog Try.f6 false true false false) := by
  obtain ⟨places, hx⟩ : ∃ places, DataW.whole enc Try.prog ((World.holding Try.prog os ⟨#[], #[], []⟩).forCall (fun _ _ => 0) ⟨#[], #[.int .u64 0, .int .u64 0], []⟩).memory Try.f6.params.toList Rows.doubleOpsSpec.vars false (#[.int .u64 0, .int .u64 0] : Array Value).toList 8 = some ([.lit (.int .u64 0), .lit (.int .u64 0)], [], places) := ⟨[], by kernel_rfl⟩
  refine returnsInHanded_of_row (C := Try.checked) (s := OpenSpec.ofChange Rows.doubleOpsSpec) own started (by kernel_rfl) Try.func6
    (witness_row_at (enc := enc) (C := Try.checked) false (World.holding Try.prog os ⟨#[], #[], []⟩) #[.int .u64 0, .int .u64 0] rfl (by kernel_rfl) (by kernel_rfl) (by kernel_rfl)
      (OpenSpec.preRow_of_cond 8 hx (by kernel_rfl) (fun k hk => by cases hk) (by kernel_rfl) (laidMet_nil _ _))) ?_
  intro W base args ds gs before hval hW _ _ hz hL hsh _
  refine (doubleOps_walk H enc W base args ds gs before hval hW hz hL hsh).mono fun e W' ⟨he, hb⟩ => ⟨_, he, ?_⟩
  exact law_post (fn := Try.f6) (s := Rows.doubleOpsSpec) (tb := 4) rfl (fun ds hd => by match ds, hd with | [d0, d1], _ => rfl) rfl Try.underlying4 (by kernel_rfl) hW hb

theorem doubleOps_said : Rows.DoubleOpsSaid :=
  OpenClaim.holds_of_cond 6 Try.f6 rfl rfl rfl rfl rfl rfl rfl ⟨rfl, rfl, rfl, rfl, rfl⟩ rfl rfl rfl rfl rfl (by kernel_rfl) Try.func6 (by kernel_rfl)
    (of_decide_eq_true (by kernel_rfl)) (by unfold Func.isWrapper; first | (rw [if_pos (by decide +kernel)]; kernel_rfl) | (rw [if_neg (by decide +kernel)]; exact ⟨rfl, rfl⟩))
    (fun os started H enc _ F => by rw [OpenClaim.pre_eq_preRow]; exact doubleOps_lifted os started H enc F)
end Go.Proofs.Ytmomlgacnnamgaa
