/- FrontPrefix: those that begin so stand together, and no others do, for every input. -/
import Derived.Test.YtdahfejecbcakaaFrLaw
namespace Go.Proofs.Ytdahfejecbcakaa
set_option linter.unusedVariables false
set_option linter.unusedSimpArgs false
set_option maxRecDepth 100000
open Go.ChangeShapes Go.WideShapes Go.ChangeAt Go.RowKit

theorem Fr.pref_spec {L : List (List UInt8)} {t : List UInt8} (hm : Fr.May L) : ∃ f n, f + n ≤ L.length ∧ (∀ j, j < L.length → Fr.hasP t (Fr.at_ L j) = decide (f ≤ j ∧ j < f + n)) := by
  obtain ⟨f, hf, hlo, hhi⟩ : ∃ f, f ≤ L.length ∧ (∀ j, j < f → Fr.lt (Fr.at_ L j) t = true) ∧ ∀ j, f ≤ j → j < L.length → Fr.lt (Fr.at_ L j) t = false := by
    by_cases h : ∀ i, i < L.length → Fr.lt (Fr.at_ L i) t = true
    · exact ⟨L.length, Nat.le_refl _, h, fun j h1 h2 => absurd h2 (by omega)⟩
    · obtain ⟨k, hk, h1, h2⟩ := first_bad h
      refine ⟨k, by omega, h2, fun j h3 h4 => ?_⟩
      cases h5 : Fr.lt (Fr.at_ L j) t with
      | false => rfl
      | true => exact absurd (may_mono hm t k j h3 h4 h5) h1
  have hno : ∀ j, j < f → Fr.hasP t (Fr.at_ L j) = false := by
    intro j hj
    cases hp : Fr.hasP t (Fr.at_ L j) with
    | false => rfl
    | true =>
      have e1 := Fr.not_lt_hasP hp
      rw [hlo j hj] at e1; cases e1
  by_cases h : ∀ i, i < L.length - f → Fr.hasP t (Fr.at_ L (f + i)) = true
  · refine ⟨f, L.length - f, by omega, fun j hj => ?_⟩
    rcases Nat.lt_or_ge j f with k1 | k1
    · rw [hno j k1, decide_eq_false (by omega)]
    · have := h (j - f) (by omega)
      rw [show f + (j - f) = j by omega] at this
      rw [this, decide_eq_true (by omega)]
  · obtain ⟨k, hk, h1, h2⟩ := first_bad h
    refine ⟨f, k, by omega, fun j hj => ?_⟩
    rcases Nat.lt_or_ge j f with k1 | k1
    · rw [hno j k1, decide_eq_false (by omega)]
    · rcases Nat.lt_or_ge j (f + k) with k2 | k2
      · have := h2 (j - f) (by omega)
        rw [show f + (j - f) = j by omega] at this
        rw [this, decide_eq_true (by omega)]
      · rw [decide_eq_false (by omega)]
        cases hp : Fr.hasP t (Fr.at_ L j) with
        | false => rfl
        | true =>
          refine absurd ?_ h1
          refine Fr.hasP_between (hhi (f + k) (by omega) (by omega)) ?_ hp
          by_cases e : f + k = j
          · rw [e]; exact Fr.lt_irrefl _
          · exact Fr.lt_asymm (hm.lt (show f + k < j by omega) hj)
/-- What Prefix tells: A and B. -/
theorem Fr.pref_ab {L : List (List UInt8)} {t : List UInt8} (hm : Fr.May L) : ∃ A B : Nat, Fr.prefK L t L.length = (A, B) ∧ A ≤ B ∧ B ≤ L.length ∧ (A = 0 ↔ B = 0) ∧ ∀ i, 1 ≤ i → i ≤ L.length → Fr.hasP t (Fr.at_ L (i - 1)) = decide (0 < A ∧ A ≤ i ∧ i ≤ B) := by
  obtain ⟨f, n, h1, h2⟩ := Fr.pref_spec (t := t) hm
  have e := Fr.prefK_eq h2 L.length (Nat.le_refl _)
  by_cases h0 : n = 0
  · rw [if_pos (.inr h0)] at e
    refine ⟨0, 0, e, by omega, by omega, by omega, fun i h3 h4 => ?_⟩
    rw [h2 (i - 1) (by omega), decide_eq_decide]; omega
  · rw [if_neg (by omega), show min L.length (f + n) = f + n by omega] at e
    refine ⟨f + 1, f + n, e, by omega, by omega, by omega, fun i h3 h4 => ?_⟩
    rw [h2 (i - 1) (by omega), decide_eq_decide]; omega
theorem Fr.pref_nil (L : List (List UInt8)) : Fr.prefK L [] L.length = if L.length = 0 then (0, 0) else (1, L.length) := by
  have e := Fr.prefK_eq (L := L) (p := []) (f := 0) (n := L.length) (fun j hj => by rw [Fr.hasP_nil, decide_eq_true (by omega)]) L.length (Nat.le_refl _)
  rw [e]
  by_cases h : L.length = 0
  · rw [if_pos (.inr h), if_pos h]
  · rw [if_neg (by omega), if_neg h, show min L.length (0 + L.length) = L.length by omega]
theorem prefix_out (v : Value) (L : List (List UInt8)) (s : List UInt8) (W : World) (hT : TextsAt W v L) (hl : ∀ i, (L.getD i []).length ≤ 140737488351232) (hn : L.length ≤ 9223372036854775806) (hs : s.length ≤ 9223372036854775807)
    (h : 20000 < Fr.lsum L L.length ∨ (Fr.lsum L L.length ≤ 20000 ∧ ¬ Fr.May L) ∨ (Fr.lsum L L.length ≤ 20000 ∧ Fr.May L ∧ 300 < s.length)) :
    Calls Try.prog 6 #[v, str s] W fun e W' => e = .returned (.bool true) ∧ Below W.heap.size W W' := by
  have LG := hid (long_any v L W hT hl hn)
  have RM := hid (rmay_any v L W hT hl hn)
  rcases h with h | ⟨h1, h⟩ | ⟨h1, h2, h⟩
  · rw [decide_eq_true h] at LG
    clear h RM
    go_enter Try.func6, Try.ntmps6
    go_wp2_with (go_at_call 12; refine LG.out.mono ?_; rintro e w' ⟨rfl, rfl⟩)
    go_ret
    exact ⟨rfl, Below.refl _ _⟩
  · rw [decide_eq_false (by omega)] at LG
    rw [decide_eq_false h] at RM
    clear h1 h
    go_enter Try.func6, Try.ntmps6
    go_wp2_with (first
      | (go_at_call 12; refine LG.out.mono ?_; rintro e w' ⟨rfl, rfl⟩)
      | (go_at_call 14; refine RM.out.mono ?_; rintro e w' ⟨rfl, q, rfl⟩))
    go_ret
    exact ⟨rfl, below_drawn (Below.refl _ _) _⟩
  · rw [decide_eq_false (by omega)] at LG
    rw [decide_eq_true h2] at RM
    clear h1 h2 hT
    go_enter Try.func6, Try.ntmps6
    go_wp2_with (first
      | (go_at_call 12; refine LG.out.mono ?_; rintro e w' ⟨rfl, rfl⟩)
      | (go_at_call 14; refine RM.out.mono ?_; rintro e w' ⟨rfl, q, rfl⟩))
    go_ret
    exact ⟨rfl, below_drawn (Below.refl _ _) _⟩
set_option maxHeartbeats 2000000 in
theorem prefix_in (v : Value) (L : List (List UInt8)) (t : List UInt8) (W : World) (hT : TextsAt W v L) (hl : ∀ i, (L.getD i []).length ≤ 140737488351232) (hn : L.length ≤ 9223372036854775806)
    (h1 : Fr.lsum L L.length ≤ 20000) (hm : Fr.May L) (h0 : t.length ≤ 300) :
    Calls Try.prog 6 #[v, str t] W fun e W' => e = .returned (.bool true) ∧ Below W.heap.size W W' := by
  have LG := hid (long_any v L W hT hl hn)
  rw [decide_eq_false (by omega)] at LG
  have RM := hid (rmay_any v L W hT hl hn)
  rw [decide_eq_true hm] at RM
  have NW := hid (fun w h => new_ok v L w h hm)
  have PR := hid (fun p w h => pre_any p L t w h hm (by omega))
  have PN := hid (fun p w h => pre_any p L [] w h hm (by simp))
  obtain ⟨A, B, hAB, hle, hBn, hz0, hin0⟩ := Fr.pref_ab (t := t) hm
  rw [hAB] at PR
  rw [Fr.pref_nil] at PN
  have KN := hid (fun W => known_any W)
  have HT := hid hT
  have HIN := hid hin0
  have HL := hid hl
  obtain ⟨a, cap, rfl, hc1, hc2, hc3, hR⟩ := hT.open
  have HR := hid hR
  have h300 := hm.1
  obtain ⟨n, hnn⟩ : ∃ n, n = L.length := ⟨_, rfl⟩
  rw [← hnn] at LG RM NW PN HT HIN HR h300 hc1 hBn ⊢
  simp only at PR
  obtain ⟨z, hz⟩ : ∃ z, z = ((A : Int) == 0) := ⟨_, rfl⟩
  have hzB : ((B : Int) == 0) = z := by
    rw [hz]
    by_cases hA : A = 0
    · have hB := hz0.1 hA
      rw [hA, hB]
    · have hB : B ≠ 0 := fun h => hA (hz0.2 h)
      rw [beq_eq_false_iff_ne.2 (show (A : Int) ≠ 0 by omega), beq_eq_false_iff_ne.2 (show (B : Int) ≠ 0 by omega)]
  have hzA : ((A : Int) == 0) = z := hz.symm
  have hzz : (z != z) = false := by simp
  clear hm hT hR hc3 h1 hl hn hnn hAB hz0 hin0 hz
  go_enter Try.func6, Try.ntmps6
  go_wp2_with (first
    | (go_at_call 12; refine LG.out.mono ?_; rintro e w' ⟨rfl, rfl⟩)
    | (go_at_call 14; refine RM.out.mono ?_; rintro e w' ⟨rfl, q, rfl⟩))
  refine (NW.out _ (HT.out.keep (below_drawn (Below.refl _ _) q))).mono ?_
  rintro e w1 ⟨p, rfl, hb1, hD, hp, _⟩
  have HD1 := hid hD
  have HB1 := hid (below_then (below_drawn (Below.refl W.heap.size W) q) hb1)
  clear hD hp hb1
  go_wp2_with fail
  refine (PR.out p w1 HD1.out).mono ?_
  rintro e w2 ⟨rfl, hb2⟩
  have HD2 := hid (HD1.out.keep hb2)
  have HB2 := hid (below_then HB1.out hb2)
  clear hb2
  go_wp2_with fail
  go_loop [9, 10] (fun s9 s10 => ∃ i : Nat, 1 ≤ i ∧ i ≤ n + 1 ∧ s9 = .int .i64 i) (fun s9 _ => n + 1 - (intOf s9).toNat)
  case atStart => exact ⟨1, by omega, by omega, rfl⟩
  case round =>
    obtain ⟨i, hi1, hin, rfl⟩ := hrel
    by_cases hlt : i ≤ n
    · obtain ⟨b, off, rfl, hc⟩ := HR.out.get (show i - 1 < n by omega)
      have c0 := below_keep HB2.out (hc (i - 1) (by omega))
      have hxl := HL.out (i - 1)
      have HX := HIN.out i hi1 hlt
      unfold Fr.at_ at HX
      obtain ⟨x, hx⟩ : ∃ x, x = L.getD (i - 1) [] := ⟨_, rfl⟩
      rw [← hx] at c0 HX hxl
      clear hc hx
      by_cases hrange : 0 < A ∧ A ≤ i ∧ i ≤ B
      · rw [decide_eq_true hrange] at HX
        obtain ⟨r1, r2, r3⟩ := hrange
        unfold Fr.hasP at HX
        rw [Bool.and_eq_true, decide_eq_true_eq] at HX
        obtain ⟨hle2, HX⟩ := HX
        have e1 := ba_take x t.length
        obtain ⟨y, hy⟩ : ∃ y, y = x.take t.length := ⟨_, rfl⟩
        rw [← hy] at e1 HX
        clear hy
        go_wp2
        go_round
        case rel => exact ⟨i + 1, by omega, by omega, by go_num⟩
        case measure => simp [intOf]; omega
      · rw [decide_eq_false hrange] at HX
        have hr2 : A = 0 ∨ (0 < A ∧ i < A) ∨ (0 < A ∧ A ≤ i ∧ B < i) := by omega
        unfold Fr.hasP at HX
        by_cases hle2 : t.length ≤ x.length
        · rw [decide_eq_true hle2, Bool.true_and] at HX
          have e1 := ba_take x t.length
          obtain ⟨y, hy⟩ : ∃ y, y = x.take t.length := ⟨_, rfl⟩
          rw [← hy] at e1 HX
          clear hy hrange
          rcases hr2 with r1 | ⟨r1, r2⟩ | ⟨r1, r2, r3⟩
          all_goals
            go_wp2
            go_round
            case rel => exact ⟨i + 1, by omega, by omega, by go_num⟩
            case measure => simp [intOf]; omega
        · clear hrange HX
          rcases hr2 with r1 | ⟨r1, r2⟩ | ⟨r1, r2, r3⟩
          all_goals
            go_wp2
            go_round
            case rel => exact ⟨i + 1, by omega, by omega, by go_num⟩
            case measure => simp [intOf]; omega
    · obtain rfl : i = n + 1 := by omega
      have PQ := PN.out p w2 HD2.out
      rcases Nat.eq_zero_or_pos n with hn0 | hn0
      · rw [if_pos hn0] at PQ
        simp only at PQ
        have PQ := hid PQ
        subst hn0
        go_wp2_with fail
        refine PQ.out.mono ?_
        rintro e w3 ⟨rfl, hb3⟩
        go_wp2_with fail
        refine (KN.out _).mono ?_
        rintro e w4 ⟨rfl, hb4⟩
        have HB := hid (below_then HB2.out (below_then hb3 hb4))
        go_wp2
        go_ret
        exact ⟨rfl, HB.out⟩
      · rw [if_neg (by omega)] at PQ
        simp only at PQ
        have PQ := hid PQ
        go_wp2_with fail
        refine PQ.out.mono ?_
        rintro e w3 ⟨rfl, hb3⟩
        go_wp2_with fail
        refine (KN.out _).mono ?_
        rintro e w4 ⟨rfl, hb4⟩
        have HB := hid (below_then HB2.out (below_then hb3 hb4))
        go_wp2
        go_ret
        exact ⟨rfl, HB.out⟩
theorem frontPrefix_any (v : Value) (L : List (List UInt8)) (s : List UInt8) (W : World) (hT : TextsAt W v L) (hl : ∀ i, (L.getD i []).length ≤ 140737488351232) (hn : L.length * 16 ≤ 140737488351232) (hs : s.length ≤ 9223372036854775807) :
    Calls Try.prog 6 #[v, str s] W fun e W' => e = .returned (.bool true) ∧ Below W.heap.size W W' := by
  by_cases h1 : 20000 < Fr.lsum L L.length
  · exact prefix_out v L s W hT hl (by omega) hs (.inl h1)
  · by_cases hm : Fr.May L
    · by_cases h0 : 300 < s.length
      · exact prefix_out v L s W hT hl (by omega) hs (.inr (.inr ⟨by omega, hm, h0⟩))
      · exact prefix_in v L s W hT hl (by omega) (by omega) hm (by omega)
    · exact prefix_out v L s W hT hl (by omega) hs (.inr (.inl ⟨by omega, hm⟩))

theorem frontPrefix_walk (H : Type) (enc : TypeId × Value → H) (W : World) (base : Nat) (args : Array Value) (ds gs : List (DataW H)) (before : List MemPlace)
    (hval : ∀ (j : Nat) t v, Try.f6.params[j]? = some t → args[j]? = some v → Value.okWide Try.prog W .any base t v)
    (hW : DataW.Whole enc Try.prog Try.f6.params.toList Rows.frontPrefixSpec.vars false W args.toList ds gs before)
    (hz : (DataW.weightsEach Try.prog (Try.f6.params.toList ++ Rows.frontPrefixSpec.plain.varTypes Try.prog) (ds ++ gs)).all (· ≤ reachBytes) = true)
    (hL : laidMetH Try.prog Rows.frontPrefixRow.laid W) (hsh : W.ShapedOpen Try.prog) :
    Calls Try.prog 6 args W fun e W' => e = .returned (.bool true) ∧ Below W.heap.size W W' := by
  obtain ⟨p, q, hA, _, _, _, _⟩ := hW
  rw [Try.params6] at hA hval
  rw [Try.params6] at hz
  obtain ⟨v0, vs0, d0, ds0, p0, q0, hargs, rfl, rfl, h0, r0⟩ := trodAll_cons hA
  obtain ⟨v1, vs1, d1, ds1, p1, q1, rfl, rfl, rfl, h1, r1⟩ := trodAll_cons r0
  obtain ⟨rfl, rfl, rfl⟩ := trodAll_nil r1
  obtain rfl : args = #[v0, v1] := by cases args; simp_all
  obtain ⟨l0, L0, b0, z0⟩ := arg_strs Try.underlying22 Try.underlying9 (show Try.prog.cellsOf 9 = 1 ∧ Try.prog.bytesOf 9 = 16 by exact ⟨by kernel_rfl, by kernel_rfl⟩) (hval 0 22 v0 rfl rfl) h0 (sized_arg hz (j := 0) (t := 22) (d := d0) rfl rfl)
  obtain ⟨x1, rfl, rfl, rfl, w1⟩ := Go.ChangeMaps.open_string Try.underlying9 (hval 1 9 v1 rfl rfl) h1
  rw [str_of x1]
  exact frontPrefix_any v0 l0 x1.data.toList W L0 b0 z0 (by rw [show x1.data.toList.length = x1.size from Array.length_toList]; unfold maxLen at w1; omega)

theorem frontPrefix_lifted (os : Os) (started : os.Started) (H : Type) (enc : TypeId × Value → H) (F : Stop.Interp) :
    ReturnsInHanded {} Try.checked os 6 .any ((OpenSpec.ofChange Rows.frontPrefixSpec).preRow enc Try.prog Try.f6 Rows.frontPrefixRow.domain false Rows.frontPrefixRow.laid) (((OpenSpec.ofChange Rows.frontPrefixSpec).at F).post enc Try.prog Try.f6 false true false false) := by
  obtain ⟨places, hx⟩ : ∃ places, DataW.whole enc Try.prog ((World.holding Try.prog os ⟨#[], #[], []⟩).forCall (fun _ _ => 0) ⟨#[], #[.slice none 0 0, .string ByteArray.empty], []⟩).memory Try.f6.params.toList Rows.frontPrefixSpec.vars false (#[.slice none 0 0, .string ByteArray.empty] : Array Value).toList 8 = some ([.nil, .lit (.string [])], [], places) := ⟨[], by kernel_rfl⟩
  refine returnsInHanded_of_row (C := Try.checked) (s := OpenSpec.ofChange Rows.frontPrefixSpec) own started (by kernel_rfl) Try.func6
    (witness_row_at (enc := enc) (C := Try.checked) false (World.holding Try.prog os ⟨#[], #[], []⟩) #[.slice none 0 0, .string ByteArray.empty] rfl (by kernel_rfl) (by kernel_rfl) (by kernel_rfl)
      (OpenSpec.preRow_of_cond 8 hx (by kernel_rfl) (fun k hk => by cases hk) (by kernel_rfl) (laidMet_nil _ _))) ?_
  intro W base args ds gs before hval hW _ _ hz hL hsh _
  refine (frontPrefix_walk H enc W base args ds gs before hval hW hz hL hsh).mono fun e W' ⟨he, hb⟩ => ⟨_, he, ?_⟩
  exact law_post (fn := Try.f6) (s := Rows.frontPrefixSpec) (tb := 4) rfl (fun ds hd => by match ds, hd with | [d0, d1], _ => rfl) rfl Try.underlying4 (by kernel_rfl) hW hb

theorem frontPrefix_said : Rows.FrontPrefixSaid :=
  OpenClaim.holds_of_cond 6 Try.f6 rfl rfl rfl rfl rfl rfl rfl ⟨rfl, rfl, rfl, rfl, rfl⟩ rfl rfl rfl rfl rfl (by kernel_rfl) Try.func6 (by kernel_rfl)
    (of_decide_eq_true (by kernel_rfl)) (by unfold Func.isWrapper; first | (rw [if_pos (by decide +kernel)]; kernel_rfl) | (rw [if_neg (by decide +kernel)]; exact ⟨rfl, rfl⟩))
    (fun os started H enc _ F => by rw [OpenClaim.pre_eq_preRow]; exact frontPrefix_lifted os started H enc F)
end Go.Proofs.Ytdahfejecbcakaa
