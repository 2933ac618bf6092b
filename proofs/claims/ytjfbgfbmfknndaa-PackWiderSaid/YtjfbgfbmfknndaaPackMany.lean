/- PackMany: so many numbers there may be, of no bits at all, too: for every input. -/
import Derived.Test.YtjfbgfbmfknndaaPackLaw
namespace Go.Proofs.Ytjfbgfbmfknndaa
set_option linter.unusedVariables false
set_option linter.unusedSimpArgs false
set_option maxRecDepth 100000
open Go.ChangeShapes Go.WideShapes Go.ChangeAt Go.RowKit

theorem packMany_out (n w : Int) (W : World) (h : n < 0 ∨ (0 ≤ n ∧ 1100 < n) ∨ (0 ≤ n ∧ n ≤ 1100 ∧ w < 0) ∨ (0 ≤ n ∧ n ≤ 1100 ∧ 0 ≤ w ∧ 20 < w)) :
    Calls Try.prog 9 #[.int .i64 n, .int .i64 w] W fun e W' => e = .returned (.bool true) ∧ Below W.heap.size W W' := by
  rcases h with h | ⟨h0, h⟩ | ⟨h0, h1, h⟩ | ⟨h0, h1, h2, h⟩
  all_goals
    go_enter Try.func9, Try.ntmps9
    go_wp2
    go_ret
    exact ⟨rfl, Below.refl _ _⟩
theorem zeros_get (n i : Nat) : (List.replicate n (0 : Int)).getD i 0 = 0 := by
  rcases Nat.lt_or_ge i n with h | h
  · simp [List.getD, h]
  · simp [List.getD, Nat.not_lt.2 h]
theorem zeros_may (n w : Nat) (hn : n ≤ 1000) (hw : w ≤ 20) : Pm.May (List.replicate n 0) w := by
  refine ⟨by omega, by omega, by simpa using hn, fun i hi => ?_⟩
  rw [zeros_get]
  exact ⟨by omega, by simp [Nat.two_pow_pos]⟩
theorem zeros_at {w : World} {n : Nat} {v : Value} {b : Nat} (hb : w.heap.size = b) (hv : v = .slice (some ⟨b, 0, none⟩) n n) : NumsAt (w.alloc (.cells (madeCells #[.int .i64 0] n) 3)) v (List.replicate n 0) := by
  subst hb
  refine ⟨_, _, by rw [hv, List.length_replicate], ?_⟩
  rw [List.length_replicate]
  refine Or.inr ⟨_, _, rfl, fun i hi => ?_⟩
  show _ = some (Value.int .i64 ((List.replicate n 0).getD i 0))
  rw [zeros_get, Nat.zero_add, World.cell?_alloc_at _ _ _ _ rfl]
  simp [madeCells, hi, Nat.mod_one]
theorem un_many {n w : Nat} (h : 1000 < n) (l : List Nat) : unCode l n w = 1 ∧ unList l n w = [] := by
  have hm : mb n w = false := by unfold mb; simp; omega
  have hu : ¬ Un l n w := fun h => by have := h.1; rw [hm] at this; cases this
  have := un_no hu
  rw [hm] at this
  exact this
theorem un_zeros {n w : Nat} (hn : n ≤ 1000) (hw : w ≤ 20) : unCode (Pm.bytes (List.replicate n 0) w) n w = 0 ∧ unList (Pm.bytes (List.replicate n 0) w) n w = List.replicate n 0 := by
  have h := zeros_may n w hn hw
  have hu : Un (Pm.bytes (List.replicate n 0) w) n w := by
    refine ⟨by have := ((may_iff _ w).1 h).1; simpa using this, by rw [Pm.bytes_length]; simp, ?_⟩
    have := Pm.bytes_noughts (List.replicate n 0) w
    simpa using this
  have := un_yes hu
  simp only [Int.toNat_natCast] at this
  have e := Pm.nums_bytes (List.replicate n 0) w h
  rw [List.length_replicate] at e
  rw [e] at this
  exact this

set_option maxHeartbeats 1000000 in
theorem packMany_in (n w : Nat) (W : World) (h1 : n ≤ 1100) (hw : w ≤ 20) :
    Calls Try.prog 9 #[.int .i64 n, .int .i64 w] W fun e W' => e = .returned (.bool true) ∧ Below W.heap.size W W' := by
  obtain ⟨i0, hi, hz0, hz1, hz2⟩ := info_parts Try.info3
  have mk1 : ∀ W : World, (Instr.makeSlice 22 (.int .i64 (n : Int)) (.int .i64 (n : Int))).run Try.prog W = _ := fun W => run_make W 22 3 i0 _ Try.underlying22 hi hz0 .i64 .i64 n n (by omega) (by omega) (by rw [hz2]; omega) (by omega)
  have SP := hid (fun W' v (h : NumsAt W' v (List.replicate n 0)) => pack_all v W' (List.replicate n 0) w (fun i _ => by rw [zeros_get]; omega) h)
  have HZ := hid (zeros_at (w := W) (n := n) rfl rfl)
  have KN := hid (fun W' => known_any W')
  have hlt := Pm.bytes_lt (List.replicate n 0) w
  have hlen := Pm.bytes_length (List.replicate n 0) w
  rw [List.length_replicate] at hlen
  have hsz : Pm.size n w ≤ 2751 := by unfold Pm.size; have : n * w ≤ 1100 * 20 := Nat.mul_le_mul h1 hw; omega
  by_cases hn : 1000 < n
  · have hp := pk_no (l := List.replicate n 0) (w := w) (by rintro ⟨_, _, h, _⟩; simp at h; omega)
    rw [hp.1, hp.2] at SP
    have SU := hid (fun W' v (h : BytesAt W' v []) => unpack_all v W' [] n w (by unfold maxLen; simp) (by simp) h)
    have HU := un_many (w := w) hn []
    rw [HU.1, HU.2] at SU
    clear HU hp hlt hlen hsz
    go_enter Try.func9, Try.ntmps9
    go_wp2_with fail
    refine (SP.out _ _ HZ.out).mono ?_
    rintro e w1 ⟨p1, rfl, hb1, B1⟩
    have HB1 := hid (((Below.refl _ _).alloc (Nat.le_refl _) _).trans (hb1.mono (by simp)))
    obtain ⟨a1, cap1, rfl, hr1⟩ := id B1
    have BB1 := hid B1
    clear SP hb1 B1 mk1 HZ hr1
    go_wp2_with fail
    refine (SU.out _ _ BB1.out).mono ?_
    rintro e w2 ⟨p2, rfl, hb2, B2⟩
    have HB2 := hid (below_then HB1.out hb2)
    clear SU hb2 B2 HB1
    go_wp2_with (go_at_call 17; refine (KN.out _).mono ?_; rintro e w' ⟨rfl, hb⟩; have HB8 := hid (below_then HB2.out hb); clear hb)
    go_ret
    exact ⟨rfl, HB8.out⟩
  · have hp := pk_yes (zeros_may n w (by omega) hw)
    rw [hp.1, hp.2, Int.toNat_natCast] at SP
    have SU := hid (fun W' v (h : BytesAt W' v (Pm.bytes (List.replicate n 0) w)) => unpack_all v W' (Pm.bytes (List.replicate n 0) w) n w (by rw [hlen]; unfold maxLen; omega) hlt h)
    have HU := un_zeros (n := n) (w := w) (by omega) hw
    rw [HU.1, HU.2] at SU
    clear HU hp hlt hlen hsz
    go_enter Try.func9, Try.ntmps9
    go_wp2_with fail
    refine (SP.out _ _ HZ.out).mono ?_
    rintro e w1 ⟨p1, rfl, hb1, B1⟩
    have HB1 := hid (((Below.refl _ _).alloc (Nat.le_refl _) _).trans (hb1.mono (by simp)))
    have BB1 := hid B1
    clear SP hb1 B1 mk1 HZ
    go_wp2_with fail
    refine (SU.out _ _ BB1.out).mono ?_
    rintro e w2 ⟨p2, rfl, hb2, B2⟩
    have HB2 := hid (below_then HB1.out hb2)
    obtain ⟨a2, cap2, rfl, hr2⟩ := B2
    rw [List.length_replicate]
    clear SU hb2 HB1 hr2
    go_wp2_with (go_at_call 17; refine (KN.out _).mono ?_; rintro e w' ⟨rfl, hb⟩; have HB8 := hid (below_then HB2.out hb); clear hb)
    go_ret
    exact ⟨rfl, HB8.out⟩

theorem packMany_walk (H : Type) (enc : TypeId × Value → H) (W : World) (base : Nat) (args : Array Value) (ds gs : List (DataW H)) (before : List MemPlace)
    (hval : ∀ (j : Nat) t v, Try.f9.params[j]? = some t → args[j]? = some v → Value.okWide Try.prog W .any base t v)
    (hW : DataW.Whole enc Try.prog Try.f9.params.toList Rows.packManySpec.vars false W args.toList ds gs before)
    (hz : (DataW.weightsEach Try.prog (Try.f9.params.toList ++ Rows.packManySpec.plain.varTypes Try.prog) (ds ++ gs)).all (· ≤ reachBytes) = true)
    (hL : laidMetH Try.prog Rows.packManyRow.laid W) (hsh : W.ShapedOpen Try.prog) :
    Calls Try.prog 9 args W fun e W' => e = .returned (.bool true) ∧ Below W.heap.size W W' := by
  obtain ⟨p, q, hA, _, _, _, _⟩ := hW
  rw [Try.params9] at hA hval
  obtain ⟨v0, vs0, d0, ds0, p0, q0, hargs, rfl, rfl, h0, r0⟩ := trodAll_cons hA
  obtain ⟨v1, vs1, d1, ds1, p1, q1, rfl, rfl, rfl, h1, r1⟩ := trodAll_cons r0
  obtain ⟨rfl, rfl, rfl⟩ := trodAll_nil r1
  obtain rfl : args = #[v0, v1] := by cases args; simp_all
  obtain ⟨x0, rfl, rfl, rfl, w0⟩ := open_int Try.underlying3 (hval 0 3 v0 rfl rfl) h0
  obtain ⟨x1, rfl, rfl, rfl, w1⟩ := open_int Try.underlying3 (hval 1 3 v1 rfl rfl) h1
  by_cases hb : x0 < 0 ∨ (0 ≤ x0 ∧ 1100 < x0) ∨ (0 ≤ x0 ∧ x0 ≤ 1100 ∧ x1 < 0) ∨ (0 ≤ x0 ∧ x0 ≤ 1100 ∧ 0 ≤ x1 ∧ 20 < x1)
  · exact packMany_out x0 x1 W hb
  · obtain ⟨n, rfl⟩ : ∃ n : Nat, x0 = n := ⟨x0.toNat, by omega⟩
    obtain ⟨k, rfl⟩ : ∃ k : Nat, x1 = k := ⟨x1.toNat, by omega⟩
    exact packMany_in n k W (by omega) (by omega)

theorem packMany_lifted (os : Os) (started : os.Started) (H : Type) (enc : TypeId × Value → H) (F : Stop.Interp) :
    ReturnsInHanded {} Try.checked os 9 .any ((OpenSpec.ofChange Rows.packManySpec).preRow enc Try.prog Try.f9 Rows.packManyRow.domain false Rows.packManyRow.laid) (((OpenSpec.ofChange Rows.packManySpec).at F).post enc Try.prog Try.f9 false true false false) := by
  obtain ⟨places, hx⟩ : ∃ places, DataW.whole enc Try.prog ((World.holding Try.prog os ⟨#[], #[], []⟩).forCall (fun _ _ => 0) ⟨#[], #[.int .i64 0, .int .i64 0], []⟩).memory Try.f9.params.toList Rows.packManySpec.vars false (#[.int .i64 0, .int .i64 0] : Array Value).toList 8 = some ([.lit (.int .i64 0), .lit (.int .i64 0)], [], places) := ⟨[], by kernel_rfl⟩
  refine returnsInHanded_of_row (C := Try.checked) (s := OpenSpec.ofChange Rows.packManySpec) own started (by kernel_rfl) Try.func9
    (witness_row_at (enc := enc) (C := Try.checked) false (World.holding Try.prog os ⟨#[], #[], []⟩) #[.int .i64 0, .int .i64 0] rfl (by kernel_rfl) (by kernel_rfl) (by kernel_rfl)
      (OpenSpec.preRow_of_cond 8 hx (by kernel_rfl) (fun k hk => by cases hk) (by kernel_rfl) (laidMet_nil _ _))) ?_
  intro W base args ds gs before hval hW _ _ hz hL hsh _
  refine (packMany_walk H enc W base args ds gs before hval hW hz hL hsh).mono fun e W' ⟨he, hb⟩ => ⟨_, he, ?_⟩
  exact law_post (fn := Try.f9) (s := Rows.packManySpec) (tb := 4) rfl (fun ds hd => by match ds, hd with | [d0, d1], _ => rfl) rfl Try.underlying4 (by kernel_rfl) hW hb

theorem packMany_said : Rows.PackManySaid :=
  OpenClaim.holds_of_cond 9 Try.f9 rfl rfl rfl rfl rfl rfl rfl ⟨rfl, rfl, rfl, rfl, rfl⟩ rfl rfl rfl rfl rfl (by kernel_rfl) Try.func9 (by kernel_rfl)
    (of_decide_eq_true (by kernel_rfl)) (by unfold Func.isWrapper; first | (rw [if_pos (by decide +kernel)]; kernel_rfl) | (rw [if_neg (by decide +kernel)]; exact ⟨rfl, rfl⟩))
    (fun os started H enc _ F => by rw [OpenClaim.pre_eq_preRow]; exact packMany_lifted os started H enc F)
end Go.Proofs.Ytjfbgfbmfknndaa
