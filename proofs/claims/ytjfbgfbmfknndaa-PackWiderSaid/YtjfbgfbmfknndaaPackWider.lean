/- PackWider: in more bits the same numbers are packed, and come back; of noughts all bytes are noughts: for every input. -/
import Derived.Test.YtjfbgfbmfknndaaPackBack
import Derived.Test.YtjfbgfbmfknndaaPackMany
namespace Go.Proofs.Ytjfbgfbmfknndaa
set_option linter.unusedVariables false
set_option linter.unusedSimpArgs false
set_option maxRecDepth 100000
open Go.ChangeShapes Go.WideShapes Go.ChangeAt Go.RowKit

theorem packWider_out1 (a : Option Addr) (n cap : Nat) (w m : Int) (W : World) (hbig : n ≤ 9223372036854775807)
    (h : 200 < n ∨ (n ≤ 200 ∧ m < 0) ∨ (n ≤ 200 ∧ 0 ≤ m ∧ 20 < m) ∨ (n ≤ 200 ∧ 0 ≤ m ∧ m ≤ 20 ∧ w < 0) ∨ (n ≤ 200 ∧ 0 ≤ m ∧ m ≤ 20 ∧ 0 ≤ w ∧ 20 < w)) :
    Calls Try.prog 7 #[.slice a n cap, .int .i64 w, .int .i64 m] W fun e W' => e = .returned (.bool true) ∧ Below W.heap.size W W' := by
  rcases h with h | ⟨h0, h⟩ | ⟨h0, h1, h⟩ | ⟨h0, h1, h2, h⟩ | ⟨h0, h1, h2, h3, h⟩
  all_goals
    go_enter Try.func7, Try.ntmps7
    go_wp2
    go_ret
    exact ⟨rfl, Below.refl _ _⟩
theorem packWider_out2 (a : Option Addr) (cap : Nat) (l : List Int) (w m : Int) (W : World) (r : Bool) (hr : r = true ↔ Pm.May l w) (h0 : l.length ≤ 200) (h1 : 0 ≤ m) (h2 : m ≤ 20) (h3 : 0 ≤ w) (h4 : w ≤ 20) (h5 : r = true → 20 < w + m)
    (hl : ∀ i, -9223372036854775808 ≤ l.getD i 0 ∧ l.getD i 0 ≤ 9223372036854775807) (hR : RowAt W a l.length fun i => .int .i64 (l.getD i 0)) :
    Calls Try.prog 7 #[.slice a l.length cap, .int .i64 w, .int .i64 m] W fun e W' => e = .returned (.bool true) ∧ Below W.heap.size W W' := by
  have MY := hid (rmay_any a l.length cap w l W r rfl (by omega) hr (fun i _ => (hl i).2) hR)
  clear hR hl hr
  cases r with
  | false =>
    clear h5
    go_enter Try.func7, Try.ntmps7
    go_wp2_with (go_at_call 18; refine MY.out.mono ?_; rintro e w' ⟨rfl, rfl⟩)
    go_ret
    exact ⟨rfl, Below.refl _ _⟩
  | true =>
    have h5 := h5 rfl
    go_enter Try.func7, Try.ntmps7
    go_wp2_with (go_at_call 18; refine MY.out.mono ?_; rintro e w' ⟨rfl, rfl⟩)
    go_ret
    exact ⟨rfl, Below.refl _ _⟩
theorem may_wider {l : List Int} {w m : Nat} (h : Pm.May l w) (hm : w + m ≤ 20) : Pm.May l ((w + m : Nat) : Int) := by
  obtain ⟨_, _, a, b⟩ := h
  refine ⟨by omega, by omega, a, fun i hi => ?_⟩
  obtain ⟨c, d⟩ := b i hi
  rw [Int.toNat_natCast] at d ⊢
  exact ⟨c, Nat.lt_of_lt_of_le d (Nat.pow_le_pow_right (by omega) (by omega))⟩
theorem zeros_bytes (n w t : Nat) : (Pm.bytes (List.replicate n 0) w).getD t 0 = 0 := by
  by_cases ht : t < Pm.size n w
  · rw [Pm.bytes_get _ _ _ (by simpa using ht)]
    unfold Pm.byte Bn.grp
    rw [Bn.val_congr (g := fun _ => false)]
    · apply Nat.eq_of_testBit_eq
      intro j; rw [Bn.testBit_val]; simp
    · intro j _
      unfold Pm.nbit
      rw [zeros_get]; simp
  · have : (Pm.bytes (List.replicate n 0) w).length ≤ t := by rw [Pm.bytes_length]; simp; omega
    simp [List.getD, List.getElem?_eq_none this]

set_option maxHeartbeats 1000000 in
theorem packWider_in (a : Option Addr) (cap : Nat) (l : List Int) (w m : Nat) (W : World) (h0 : l.length ≤ 200) (h1 : w + m ≤ 20) (hm : Pm.May l w)
    (hl : ∀ i, -9223372036854775808 ≤ l.getD i 0 ∧ l.getD i 0 ≤ 9223372036854775807) (hR : RowAt W a l.length fun i => .int .i64 (l.getD i 0)) :
    Calls Try.prog 7 #[.slice a l.length cap, .int .i64 w, .int .i64 m] W fun e W' => e = .returned (.bool true) ∧ Below W.heap.size W W' := by
  obtain ⟨n, hn⟩ : ∃ n, n = l.length := ⟨_, rfl⟩
  have LA : NumsAt W (.slice a n cap) l := ⟨a, cap, by rw [hn], hR⟩
  have hm2 := may_wider hm h1
  have MY := hid (rmay_any a l.length cap w l W true rfl (by omega) (by simp [hm]) (fun i _ => (hl i).2) hR)
  have SP := hid (pack_all _ W l ((w + m : Nat) : Int) (fun i _ => (hl i).2) LA)
  obtain ⟨pc1, pc2⟩ := pk_yes hm2
  rw [pc1, pc2, Int.toNat_natCast] at SP
  have HU := un_bytes hm2
  have hbl := Pm.bytes_length l (w + m)
  have hbt := Pm.bytes_lt l (w + m)
  rw [← hn] at hbl h0 HU MY ⊢
  have hs1 : Pm.size n (w + m) ≤ 1251 := by unfold Pm.size; have : n * (w + m) ≤ 200 * 20 := Nat.mul_le_mul h0 h1; omega
  have SU := hid (fun W' v (h : BytesAt W' v (Pm.bytes l (w + m))) => unpack_all v W' (Pm.bytes l (w + m)) n ((w + m : Nat) : Int) (by rw [hbl]; unfold maxLen; omega) hbt h)
  rw [HU.1, HU.2] at SU
  have SZ := hid (fun W' v (h : NumsAt W' v (List.replicate n 0)) => pack_all v W' (List.replicate n 0) w (fun i _ => by rw [zeros_get]; omega) h)
  have hz := pk_yes (zeros_may n w (by omega) (by omega))
  rw [hz.1, hz.2, Int.toNat_natCast] at SZ
  have hzl : (Pm.bytes (List.replicate n 0) w).length = Pm.size n w := by rw [Pm.bytes_length]; simp
  obtain ⟨q, hq⟩ : ∃ q, q = Pm.size n w := ⟨_, rfl⟩
  obtain ⟨N, hN⟩ : ∃ N, N = n * w := ⟨_, rfl⟩
  have hNI : (n : Int) * w = N := by rw [hN]; simp
  have hmI : ((N : Int) + 7) / 8 = q := by rw [hq, hN]; unfold Pm.size; omega
  have hN0 : N ≤ 4000 := by rw [hN]; exact Nat.mul_le_mul h0 (show w ≤ 20 by omega)
  have hq0 : q ≤ 501 := by omega
  have SM := hid (fun W' v (h : NumsAt W' v l) (hb : Below W.heap.size W W') => rsame_all v _ l l W' true (by omega) (by omega) (by simp) h (LA.keep hb))
  have KN := hid (fun W' => known_any W')
  obtain ⟨i0, hi, hz0, hz1, hz2⟩ := info_parts Try.info3
  have mk1 : ∀ W : World, (Instr.makeSlice 22 (.int .i64 (n : Int)) (.int .i64 (n : Int))).run Try.prog W = _ := fun W => run_make W 22 3 i0 _ Try.underlying22 hi hz0 .i64 .i64 n n (by omega) (by omega) (by rw [hz2]; omega) (by omega)
  rw [← hq] at hzl
  have HZL := hid hzl
  rw [Int.natCast_add] at SP SU
  clear pc1 pc2 HU hbl hbt hzl hN hq hm hn hl hR LA hm2 hz
  go_enter Try.func7, Try.ntmps7
  go_wp2_with (go_at_call 18; refine MY.out.mono ?_; rintro e w' ⟨rfl, rfl⟩)
  refine SP.out.mono ?_
  rintro e w1 ⟨p1, rfl, hb1, B1⟩
  have HB1 := hid hb1
  have BB1 := hid B1
  clear SP hb1 B1
  go_wp2_with fail
  refine (SU.out _ _ BB1.out).mono ?_
  rintro e w2 ⟨p2, rfl, hb2, B2⟩
  have HB2 := hid (below_then HB1.out hb2)
  have HN2 := hid B2
  clear SU BB1 HB1 hb2 B2
  have HZ := hid (zeros_at (w := w2) (n := n) rfl rfl)
  go_wp2_with fail
  refine (SZ.out _ _ HZ.out).mono ?_
  rintro e w3 ⟨p3, rfl, hb3, B3⟩
  have hb23 : Below w2.heap.size w2 w3 := ((Below.refl _ _).alloc (Nat.le_refl _) _).trans (hb3.mono (by simp))
  have HB3 := hid (below_then HB2.out hb23)
  have HN3 := hid (HN2.out.keep hb23)
  obtain ⟨a3, cap3, rfl, hr3⟩ := B3
  rw [HZL.out] at hr3 ⊢
  have HR3 := hid hr3
  clear SZ HZ HN2 HB2 hb3 hb23 hr3 mk1
  go_wp2
  go_loop [13] (fun s => ∃ i : Nat, i ≤ q ∧ s = .int .i64 i) (fun s => q - (intOf s).toNat)
  case atStart => exact ⟨0, by omega, rfl⟩
  case round =>
    obtain ⟨i, hiq, rfl⟩ := hrel
    by_cases hlt : i < q
    · obtain ⟨b, off, rfl, hc⟩ := HR3.out.get hlt
      have c0 := hc i hlt
      rw [zeros_bytes] at c0
      clear hc
      go_wp2
      go_round
      case rel => exact ⟨i + 1, by omega, by go_num⟩
      case measure => simp [intOf]; omega
    · go_wp2_with (first
        | (go_at_call 14; refine (SM.out _ _ HN3.out HB3.out).mono ?_; rintro e w' ⟨rfl, hb⟩; have HB4 := hid (below_then HB3.out hb); clear hb)
        | (go_at_call 17; refine (KN.out _).mono ?_; rintro e w' ⟨rfl, hb⟩; have HB8 := hid (below_then HB4.out hb); clear hb))
      go_ret
      exact ⟨rfl, HB8.out⟩

theorem packWider_walk (H : Type) (enc : TypeId × Value → H) (W : World) (base : Nat) (args : Array Value) (ds gs : List (DataW H)) (before : List MemPlace)
    (hval : ∀ (j : Nat) t v, Try.f7.params[j]? = some t → args[j]? = some v → Value.okWide Try.prog W .any base t v)
    (hW : DataW.Whole enc Try.prog Try.f7.params.toList Rows.packWiderSpec.vars false W args.toList ds gs before)
    (hz : (DataW.weightsEach Try.prog (Try.f7.params.toList ++ Rows.packWiderSpec.plain.varTypes Try.prog) (ds ++ gs)).all (· ≤ reachBytes) = true)
    (hL : laidMetH Try.prog Rows.packWiderRow.laid W) (hsh : W.ShapedOpen Try.prog) :
    Calls Try.prog 7 args W fun e W' => e = .returned (.bool true) ∧ Below W.heap.size W W' := by
  obtain ⟨p, q, hA, _, _, _, _⟩ := hW
  rw [Try.params7] at hA hval
  obtain ⟨v0, vs0, d0, ds0, p0, q0, hargs, rfl, rfl, h0, r0⟩ := trodAll_cons hA
  obtain ⟨v1, vs1, d1, ds1, p1, q1, rfl, rfl, rfl, h1, r1⟩ := trodAll_cons r0
  obtain ⟨v2, vs2, d2, ds2, p2, q2, rfl, rfl, rfl, h2, r2⟩ := trodAll_cons r1
  obtain ⟨rfl, rfl, rfl⟩ := trodAll_nil r2
  obtain rfl : args = #[v0, v1, v2] := by cases args; simp_all
  obtain ⟨a0, cap0, l0, rfl, hl0, hm0, hnil0, hb0, hr0⟩ := read_ints Try.underlying22 Try.underlying3 (show Try.prog.cellsOf 3 = 1 by kernel_rfl) (hval 0 22 v0 rfl rfl) h0
  obtain ⟨x1, rfl, rfl, rfl, w1⟩ := open_int Try.underlying3 (hval 1 3 v1 rfl rfl) h1
  obtain ⟨x2, rfl, rfl, rfl, w2⟩ := open_int Try.underlying3 (hval 2 3 v2 rfl rfl) h2
  have hbig : l0.length ≤ 9223372036854775807 := by unfold maxLen at hm0; omega
  by_cases hb : 200 < l0.length ∨ (l0.length ≤ 200 ∧ x2 < 0) ∨ (l0.length ≤ 200 ∧ 0 ≤ x2 ∧ 20 < x2) ∨ (l0.length ≤ 200 ∧ 0 ≤ x2 ∧ x2 ≤ 20 ∧ x1 < 0) ∨ (l0.length ≤ 200 ∧ 0 ≤ x2 ∧ x2 ≤ 20 ∧ 0 ≤ x1 ∧ 20 < x1)
  · exact packWider_out1 a0 _ cap0 x1 x2 W hbig hb
  · rcases Classical.em (Pm.May l0 x1) with hm | hm
    · by_cases hs : x1 + x2 ≤ 20
      · obtain ⟨k, rfl⟩ : ∃ k : Nat, x1 = k := ⟨x1.toNat, by omega⟩
        obtain ⟨m, rfl⟩ : ∃ m : Nat, x2 = m := ⟨x2.toNat, by omega⟩
        exact packWider_in a0 cap0 l0 k m W (by omega) (by omega) hm hb0 hr0
      · exact packWider_out2 a0 cap0 l0 x1 x2 W true (by simp [hm]) (by omega) (by omega) (by omega) (by omega) (by omega) (fun _ => by omega) hb0 hr0
    · exact packWider_out2 a0 cap0 l0 x1 x2 W false (by simp [hm]) (by omega) (by omega) (by omega) (by omega) (by omega) (fun h => by cases h) hb0 hr0

theorem packWider_lifted (os : Os) (started : os.Started) (H : Type) (enc : TypeId × Value → H) (F : Stop.Interp) :
    ReturnsInHanded {} Try.checked os 7 .any ((OpenSpec.ofChange Rows.packWiderSpec).preRow enc Try.prog Try.f7 Rows.packWiderRow.domain false Rows.packWiderRow.laid) (((OpenSpec.ofChange Rows.packWiderSpec).at F).post enc Try.prog Try.f7 false true false false) := by
  obtain ⟨places, hx⟩ : ∃ places, DataW.whole enc Try.prog ((World.holding Try.prog os ⟨#[], #[], []⟩).forCall (fun _ _ => 0) ⟨#[], #[.slice none 0 0, .int .i64 0, .int .i64 0], []⟩).memory Try.f7.params.toList Rows.packWiderSpec.vars false (#[.slice none 0 0, .int .i64 0, .int .i64 0] : Array Value).toList 8 = some ([.nil, .lit (.int .i64 0), .lit (.int .i64 0)], [], places) := ⟨[], by kernel_rfl⟩
  refine returnsInHanded_of_row (C := Try.checked) (s := OpenSpec.ofChange Rows.packWiderSpec) own started (by kernel_rfl) Try.func7
    (witness_row_at (enc := enc) (C := Try.checked) false (World.holding Try.prog os ⟨#[], #[], []⟩) #[.slice none 0 0, .int .i64 0, .int .i64 0] rfl (by kernel_rfl) (by kernel_rfl) (by kernel_rfl)
      (OpenSpec.preRow_of_cond 8 hx (by kernel_rfl) (fun k hk => by cases hk) (by kernel_rfl) (laidMet_nil _ _))) ?_
  intro W base args ds gs before hval hW _ _ hz hL hsh _
  refine (packWider_walk H enc W base args ds gs before hval hW hz hL hsh).mono fun e W' ⟨he, hb⟩ => ⟨_, he, ?_⟩
  exact law_post (fn := Try.f7) (s := Rows.packWiderSpec) (tb := 4) rfl (fun ds hd => by match ds, hd with | [d0, d1, d2], _ => rfl) rfl Try.underlying4 (by kernel_rfl) hW hb

theorem packWider_said : Rows.PackWiderSaid :=
  OpenClaim.holds_of_cond 7 Try.f7 rfl rfl rfl rfl rfl rfl rfl ⟨rfl, rfl, rfl, rfl, rfl⟩ rfl rfl rfl rfl rfl (by kernel_rfl) Try.func7 (by kernel_rfl)
    (of_decide_eq_true (by kernel_rfl)) (by unfold Func.isWrapper; first | (rw [if_pos (by decide +kernel)]; kernel_rfl) | (rw [if_neg (by decide +kernel)]; exact ⟨rfl, rfl⟩))
    (fun os started H enc _ F => by rw [OpenClaim.pre_eq_preRow]; exact packWider_lifted os started H enc F)
end Go.Proofs.Ytjfbgfbmfknndaa
