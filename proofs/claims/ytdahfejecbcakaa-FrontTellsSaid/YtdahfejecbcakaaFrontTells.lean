/- FrontTells: of any texts, if they may be, each by its number, each number, those that begin so, all bytes, for every input. -/
import Derived.Test.YtdahfejecbcakaaFrLaw
import Derived.Test.YtdahfejecbcakaaRegAny
import Derived.Deep.RegionWith
namespace Go.Proofs.Ytdahfejecbcakaa
set_option linter.unusedVariables false
set_option linter.unusedSimpArgs false
set_option maxRecDepth 100000
open Go.ChangeShapes Go.WideShapes Go.ChangeAt Go.RowKit

/-- What a row of bytes reads as, in whatever world behind it. -/
theorem bytes_conv {f : FuncId} {args : Array Value} {w0 w : World} {L : List (List UInt8)} {k : Nat} {S : ByteArray} (hw : Below w0.heap.size w0 w) (hS : S = strOf (Fr.byt L k))
    (h : Calls Try.prog f args w fun e w' => ∃ v, e = .returned v ∧ Below w.heap.size w w' ∧ w'.ownsRow w.heap.size 5 1 v (Fr.byt L k).length ((Fr.byt L k).map u8v)) :
    Calls Try.prog f args w fun e w' => ∃ v, e = .returned v ∧ Below w0.heap.size w0 w' ∧ Below w.heap.size w w' ∧ Hid (∀ w'', Below w'.heap.size w' w'' → (convert 35 9 v).run Try.prog w'' = .ok (.string S) w'') ∧ (convert 35 9 v).run Try.prog w' = .ok (.string S) w' := by
  refine h.mono ?_
  rintro e w' ⟨v, rfl, hb, ho⟩
  have hk : ∀ w'', Below w'.heap.size w' w'' → (convert 35 9 v).run Try.prog w'' = .ok (.string S) w'' := fun w'' hb2 => by
    rw [hS]
    exact conv_row Try.underlying35 Try.underlying5 Try.underlying9 w'' v _ ((byt_at ho).keep hb2)
  exact ⟨v, rfl, below_then hw hb, hb, hk, hk w' (Below.refl _ _)⟩
theorem tells_long (v : Value) (L : List (List UInt8)) (s : List UInt8) (W : World) (hT : TextsAt W v L) (hl : ∀ i, (L.getD i []).length ≤ 140737488351232) (hn : L.length ≤ 9223372036854775806) (hs : s.length ≤ 9223372036854775807)
    (h : 20000 < Fr.lsum L L.length ∨ (Fr.lsum L L.length ≤ 20000 ∧ 300 < s.length)) :
    Calls Try.prog 3 #[v, str s] W fun e W' => e = .returned (.bool true) ∧ Below W.heap.size W W' := by
  have LG := hid (long_any v L W hT hl hn)
  rcases h with h | ⟨h1, h⟩
  · rw [decide_eq_true h] at LG
    clear h
    go_enter Try.func3, Try.ntmps3
    go_wp2_with (go_at_call 12; refine LG.out.mono ?_; rintro e w' ⟨rfl, rfl⟩)
    go_ret
    exact ⟨rfl, Below.refl _ _⟩
  · rw [decide_eq_false (by omega)] at LG
    clear h1
    go_enter Try.func3, Try.ntmps3
    go_wp2_with (go_at_call 12; refine LG.out.mono ?_; rintro e w' ⟨rfl, rfl⟩)
    go_ret
    exact ⟨rfl, Below.refl _ _⟩
theorem tells_no (v : Value) (L : List (List UInt8)) (s : List UInt8) (W : World) (hT : TextsAt W v L) (hl : ∀ i, (L.getD i []).length ≤ 140737488351232) (hn : L.length ≤ 9223372036854775806)
    (h1 : Fr.lsum L L.length ≤ 20000) (h2 : s.length ≤ 300) (hm : ¬ Fr.May L) :
    Calls Try.prog 3 #[v, str s] W fun e W' => e = .returned (.bool true) ∧ Below W.heap.size W W' := by
  have LG := hid (long_any v L W hT hl hn)
  rw [decide_eq_false (by omega)] at LG
  have NW := hid (new_no v L W hT hl hm)
  have RM := hid (rmay_any v L W hT hl hn)
  rw [decide_eq_false hm] at RM
  have KN := hid (fun W => known_any W)
  clear hm h1 hl
  go_enter Try.func3, Try.ntmps3
  go_wp2_with fail
  refine LG.out.mono ?_
  rintro e w' ⟨rfl, rfl⟩
  go_wp2_with fail
  refine NW.out.mono ?_
  rintro e w' ⟨rfl, rfl⟩
  go_wp2_with fail
  refine RM.out.mono ?_
  rintro e w' ⟨rfl, q, rfl⟩
  go_wp2_with fail
  refine (KN.out _).mono ?_
  rintro e w' ⟨rfl, hb⟩
  have HB := hid (below_then (below_drawn (Below.refl W.heap.size W) q) hb)
  go_wp2
  go_ret
  exact ⟨rfl, HB.out⟩
set_option maxHeartbeats 4000000 in
theorem tells_yes (v : Value) (L : List (List UInt8)) (s : List UInt8) (W : World) (hT : TextsAt W v L) (hl : ∀ i, (L.getD i []).length ≤ 140737488351232) (hn : L.length ≤ 9223372036854775806)
    (h1 : Fr.lsum L L.length ≤ 20000) (h2 : s.length ≤ 300) (hm : Fr.May L) :
    Calls Try.prog 3 #[v, str s] W fun e W' => e = .returned (.bool true) ∧ Below W.heap.size W W' := by
  have LG := hid (long_any v L W hT hl hn)
  rw [decide_eq_false (by omega)] at LG
  have NW := hid (new_ok v L W hT hm)
  have RM := hid (fun w h => rmay_any v L w h hl hn)
  rw [decide_eq_true hm] at RM
  have PR := hid (fun p w h => pre_any p L s w h hm (by omega))
  have RP := hid (fun w h => rpre_any v L s w h hl hn (by omega))
  have TX := hid (fun p w h h' => txts_any p v L w h h' (by have := hm.1; omega))
  have LC := hid (fun p w h => loc_any p L s w h hm)
  have RL := hid (fun w h => rloc_any v L s w h hn)
  have BY := hid (fun p w h => bytes_any p L w h hm)
  have RB := hid (fun w h => rbytes_any v L w h hm)
  have KN := hid (fun W => known_any W)
  have HT := hid hT
  obtain ⟨lc, hlc⟩ : ∃ x, x = Fr.loc L s := ⟨_, rfl⟩
  obtain ⟨p1, hp1⟩ : ∃ x, x = (Fr.prefK L s L.length).1 := ⟨_, rfl⟩
  obtain ⟨p2, hp2⟩ : ∃ x, x = (Fr.prefK L s L.length).2 := ⟨_, rfl⟩
  rw [← hlc] at LC RL
  rw [← hp1, ← hp2] at PR RP
  have e1 : ((lc : Int) == (lc : Int)) = true := by simp
  have e2 : ((p1 : Int) == (p1 : Int)) = true := by simp
  have e3 : ((p2 : Int) == (p2 : Int)) = true := by simp
  clear hm h1 hl hlc hp1 hp2 hT
  go_enter Try.func3, Try.ntmps3
  go_wp2_with fail
  refine LG.out.mono ?_
  rintro e w' ⟨rfl, rfl⟩
  go_wp2_with fail
  refine NW.out.mono ?_
  rintro e w1 ⟨p, rfl, hb1, hD, hp, _⟩
  have HD := hid hD
  have HB1 := hid hb1
  clear hD hb1 hp NW
  go_wp2_with fail
  refine (RM.out w1 (HT.out.keep HB1.out)).mono ?_
  rintro e w2 ⟨rfl, q, rfl⟩
  have HB2 := hid (below_drawn HB1.out q)
  have HD2 := hid (HD.out.keep (below_drawn (Below.refl _ _) q))
  go_wp2_with fail
  refine (PR.out p _ HD2.out).mono ?_
  rintro e w3 ⟨rfl, hb3⟩
  have HB3 := hid (below_then HB2.out hb3)
  have HD3 := hid (HD2.out.keep hb3)
  clear hb3
  go_wp2_with fail
  refine (RP.out w3 (HT.out.keep HB3.out)).mono ?_
  rintro e w' ⟨rfl, rfl⟩
  obtain ⟨S, hS⟩ : ∃ S, S = strOf (Fr.byt L L.length) := ⟨_, rfl⟩
  have HS := hid hS
  have TX2 := hid (fun w (hw : Below w3.heap.size w3 w) => TX.out p w (HD3.out.keep hw) (HT.out.keep (below_then HB3.out hw)))
  have LC2 := hid (fun w (hw : Below w3.heap.size w3 w) => LC.out p w (HD3.out.keep hw))
  have RL2 := hid (fun w (hw : Below w3.heap.size w3 w) => RL.out w (HT.out.keep (below_then HB3.out hw)))
  have BY2 := hid (fun w (hw : Below w3.heap.size w3 w) => bytes_conv (w0 := w3) hw HS.out (BY.out p w (HD3.out.keep hw)))
  have RB2 := hid (fun w (hw : Below w3.heap.size w3 w) => bytes_conv (w0 := w3) hw HS.out (RB.out w (HT.out.keep (below_then HB3.out hw))))
  have e4 : (S.toList == S.toList) = true := by simp
  clear hS TX LC RL BY RB HD3
  go_wp2_with fail
  refine wp_region_drawn_any 22 (by kernel_rfl) (by kernel_rfl) ?_
  simp only [List.take_succ_cons, List.take_zero]
  repeat (go_big_quiet_step (first
    | (go_at_call 18; exact drawn_same fun W' hW => (TX2.out W' (by rw [hW]; exact below_drawn (Below.refl _ _) _)).mono fun _ _ h => ⟨h.1, h.2.symm⟩)
    | (go_at_call 19; exact drawn_same fun W' hW => (LC2.out W' (by rw [hW]; exact below_drawn (Below.refl _ _) _)).mono fun _ _ h => ⟨h.1, h.2.symm⟩)
    | (go_at_call 20; exact drawn_same fun W' hW => (RL2.out W' (by rw [hW]; exact below_drawn (Below.refl _ _) _)).mono fun _ _ h => ⟨h.1, h.2.symm⟩)))
  refine wpQuiet_nil ?_
  rintro _ ⟨nq, rfl⟩
  change wpAny _ _ _ _ 13 _ _ _
  refine wpAny_ready (rs := [22]) (by kernel_rfl) (by simp) ?_
  refine AllReady.cons rfl (fun K hK => ?_) AllReady.nil
  go_simp
  refine hK _ _ ?_
  clear hK K
  refine wpAny_take (i := 23) (v := .pointer (some ⟨p, 0, none⟩)) rfl (by kernel_rfl) (by kernel_rfl) (by kernel_rfl) (fun _ _ _ h => h) (Or.inl ⟨by rfl, ?y23⟩) ?_
  case y23 =>
    intro w
    go_simp
    all_goals with_reducible rfl
  refine wpAny_take (i := 26) (v := v) rfl (by kernel_rfl) (by kernel_rfl) (by kernel_rfl) (fun _ _ _ h => h) (Or.inl ⟨by rfl, ?y26⟩) ?_
  case y26 =>
    intro w
    go_simp
    all_goals with_reducible rfl
  refine wpAny_ready (rs := [24]) (by kernel_rfl) (by simp) ?_
  refine AllReady.cons rfl (fun K hK => ?_) AllReady.nil
  go_simp
  go_wp2_with (first
      | (go_at_call 21; refine (BY2.out _ ?_).mono ?_
         · first | exact below_drawn (Below.refl _ _) _ | assumption
         rintro e w4 ⟨u1, rfl, hb4, hc4, hk4, hcv4⟩)
      | (go_at_call 22; refine (RB2.out _ ?_).mono ?_
         · first | exact below_drawn (Below.refl _ _) _ | assumption
         rintro e w5 ⟨u2, rfl, hb5, hc5, hk5, hcv5⟩
         have hcv4' := hk4.out _ hc5)
      | (go_at_call 15; refine (KN.out _).mono ?_
         rintro e w6 ⟨rfl, hb6⟩))
  refine wpAny_ready (rs := [25, 27]) (by kernel_rfl) (by simp) ?_
  refine AllReady.cons rfl (fun K hK => ?_) (AllReady.cons rfl (fun K hK => ?_) AllReady.nil)
  · go_simp
    refine hK _ _ ?_
    clear hK K
    refine wpAny_ready (rs := [27]) (by kernel_rfl) (by simp) ?_
    refine AllReady.cons rfl (fun K hK => ?_) AllReady.nil
    go_simp
    go_wp2_with (first
        | (go_at_call 21; refine (BY2.out _ ?_).mono ?_
           · first | exact below_drawn (Below.refl _ _) _ | assumption
           rintro e w4 ⟨u1, rfl, hb4, hc4, hk4, hcv4⟩)
        | (go_at_call 22; refine (RB2.out _ ?_).mono ?_
           · first | exact below_drawn (Below.refl _ _) _ | assumption
           rintro e w5 ⟨u2, rfl, hb5, hc5, hk5, hcv5⟩
           have hcv4' := hk4.out _ hc5)
        | (go_at_call 15; refine (KN.out _).mono ?_
           rintro e w6 ⟨rfl, hb6⟩))
    refine wpAny_ready (rs := [28]) (by kernel_rfl) (by simp) ?_
    refine AllReady.cons rfl (fun K hK => ?_) AllReady.nil
    go_simp
    refine hK _ _ ?_
    clear hK K
    refine wpAny_ready (rs := [29]) (by kernel_rfl) (by simp) ?_
    refine AllReady.cons rfl (fun K hK => ?_) AllReady.nil
    go_simp
    refine hK _ _ ?_
    clear hK K
    refine wpAny_ready (rs := [30]) (by kernel_rfl) (by simp) ?_
    refine AllReady.cons rfl (fun K hK => ?_) AllReady.nil
    go_simp
    refine hK _ _ ?_
    clear hK K
    refine wpAny_ready (rs := [31]) (by kernel_rfl) (by simp) ?_
    refine AllReady.cons rfl (fun K hK => ?_) AllReady.nil
    go_simp
    refine hK _ _ ?_
    clear hK K
    refine wpAny_ready (rs := [32]) (by kernel_rfl) (by simp) ?_
    refine AllReady.cons rfl (fun K hK => ?_) AllReady.nil
    go_simp
    go_wp2_with (first
        | (go_at_call 21; refine (BY2.out _ ?_).mono ?_
           · first | exact below_drawn (Below.refl _ _) _ | assumption
           rintro e w4 ⟨u1, rfl, hb4, hc4, hk4, hcv4⟩)
        | (go_at_call 22; refine (RB2.out _ ?_).mono ?_
           · first | exact below_drawn (Below.refl _ _) _ | assumption
           rintro e w5 ⟨u2, rfl, hb5, hc5, hk5, hcv5⟩
           have hcv4' := hk4.out _ hc5)
        | (go_at_call 15; refine (KN.out _).mono ?_
           rintro e w6 ⟨rfl, hb6⟩))
    refine wpAny_ready (rs := [33]) (by kernel_rfl) (by simp) ?_
    refine AllReady.cons rfl (fun K hK => ?_) AllReady.nil
    go_simp
    refine hK _ _ ?_
    clear hK K
    refine wpAny_ready (rs := [34]) (by kernel_rfl) (by simp) ?_
    refine AllReady.cons rfl (fun K hK => ?_) AllReady.nil
    go_simp
    refine hK _ _ ?_
    clear hK K
    refine wpAny_done (by kernel_rfl) ?_ _
    go_wp2
    go_ret
    exact ⟨rfl, below_then HB3.out (below_then hb5 hb6)⟩
  · go_simp
    go_wp2_with (first
        | (go_at_call 21; refine (BY2.out _ ?_).mono ?_
           · first | exact below_drawn (Below.refl _ _) _ | assumption
           rintro e w4 ⟨u1, rfl, hb4, hc4, hk4, hcv4⟩)
        | (go_at_call 22; refine (RB2.out _ ?_).mono ?_
           · first | exact below_drawn (Below.refl _ _) _ | assumption
           rintro e w5 ⟨u2, rfl, hb5, hc5, hk5, hcv5⟩
           have hcv4' := hk4.out _ hc5)
        | (go_at_call 15; refine (KN.out _).mono ?_
           rintro e w6 ⟨rfl, hb6⟩))
    refine wpAny_ready (rs := [25, 28]) (by kernel_rfl) (by simp) ?_
    refine AllReady.cons rfl (fun K hK => ?_) (AllReady.cons rfl (fun K hK => ?_) AllReady.nil)
    · go_simp
      refine hK _ _ ?_
      clear hK K
      refine wpAny_ready (rs := [28]) (by kernel_rfl) (by simp) ?_
      refine AllReady.cons rfl (fun K hK => ?_) AllReady.nil
      go_simp
      refine hK _ _ ?_
      clear hK K
      refine wpAny_ready (rs := [29]) (by kernel_rfl) (by simp) ?_
      refine AllReady.cons rfl (fun K hK => ?_) AllReady.nil
      go_simp
      refine hK _ _ ?_
      clear hK K
      refine wpAny_ready (rs := [30]) (by kernel_rfl) (by simp) ?_
      refine AllReady.cons rfl (fun K hK => ?_) AllReady.nil
      go_simp
      refine hK _ _ ?_
      clear hK K
      refine wpAny_ready (rs := [31]) (by kernel_rfl) (by simp) ?_
      refine AllReady.cons rfl (fun K hK => ?_) AllReady.nil
      go_simp
      refine hK _ _ ?_
      clear hK K
      refine wpAny_ready (rs := [32]) (by kernel_rfl) (by simp) ?_
      refine AllReady.cons rfl (fun K hK => ?_) AllReady.nil
      go_simp
      go_wp2_with (first
          | (go_at_call 21; refine (BY2.out _ ?_).mono ?_
             · first | exact below_drawn (Below.refl _ _) _ | assumption
             rintro e w4 ⟨u1, rfl, hb4, hc4, hk4, hcv4⟩)
          | (go_at_call 22; refine (RB2.out _ ?_).mono ?_
             · first | exact below_drawn (Below.refl _ _) _ | assumption
             rintro e w5 ⟨u2, rfl, hb5, hc5, hk5, hcv5⟩
             have hcv4' := hk4.out _ hc5)
          | (go_at_call 15; refine (KN.out _).mono ?_
             rintro e w6 ⟨rfl, hb6⟩))
      refine wpAny_ready (rs := [33]) (by kernel_rfl) (by simp) ?_
      refine AllReady.cons rfl (fun K hK => ?_) AllReady.nil
      go_simp
      refine hK _ _ ?_
      clear hK K
      refine wpAny_ready (rs := [34]) (by kernel_rfl) (by simp) ?_
      refine AllReady.cons rfl (fun K hK => ?_) AllReady.nil
      go_simp
      refine hK _ _ ?_
      clear hK K
      refine wpAny_done (by kernel_rfl) ?_ _
      go_wp2
      go_ret
      exact ⟨rfl, below_then HB3.out (below_then hb5 hb6)⟩
    · go_simp
      refine hK _ _ ?_
      clear hK K
      refine wpAny_ready (rs := [25]) (by kernel_rfl) (by simp) ?_
      refine AllReady.cons rfl (fun K hK => ?_) AllReady.nil
      go_simp
      refine hK _ _ ?_
      clear hK K
      refine wpAny_ready (rs := [29]) (by kernel_rfl) (by simp) ?_
      refine AllReady.cons rfl (fun K hK => ?_) AllReady.nil
      go_simp
      refine hK _ _ ?_
      clear hK K
      refine wpAny_ready (rs := [30]) (by kernel_rfl) (by simp) ?_
      refine AllReady.cons rfl (fun K hK => ?_) AllReady.nil
      go_simp
      refine hK _ _ ?_
      clear hK K
      refine wpAny_ready (rs := [31]) (by kernel_rfl) (by simp) ?_
      refine AllReady.cons rfl (fun K hK => ?_) AllReady.nil
      go_simp
      refine hK _ _ ?_
      clear hK K
      refine wpAny_ready (rs := [32]) (by kernel_rfl) (by simp) ?_
      refine AllReady.cons rfl (fun K hK => ?_) AllReady.nil
      go_simp
      go_wp2_with (first
          | (go_at_call 21; refine (BY2.out _ ?_).mono ?_
             · first | exact below_drawn (Below.refl _ _) _ | assumption
             rintro e w4 ⟨u1, rfl, hb4, hc4, hk4, hcv4⟩)
          | (go_at_call 22; refine (RB2.out _ ?_).mono ?_
             · first | exact below_drawn (Below.refl _ _) _ | assumption
             rintro e w5 ⟨u2, rfl, hb5, hc5, hk5, hcv5⟩
             have hcv4' := hk4.out _ hc5)
          | (go_at_call 15; refine (KN.out _).mono ?_
             rintro e w6 ⟨rfl, hb6⟩))
      refine wpAny_ready (rs := [33]) (by kernel_rfl) (by simp) ?_
      refine AllReady.cons rfl (fun K hK => ?_) AllReady.nil
      go_simp
      refine hK _ _ ?_
      clear hK K
      refine wpAny_ready (rs := [34]) (by kernel_rfl) (by simp) ?_
      refine AllReady.cons rfl (fun K hK => ?_) AllReady.nil
      go_simp
      refine hK _ _ ?_
      clear hK K
      refine wpAny_done (by kernel_rfl) ?_ _
      go_wp2
      go_ret
      exact ⟨rfl, below_then HB3.out (below_then hb5 hb6)⟩
theorem frontTells_any (v : Value) (L : List (List UInt8)) (s : List UInt8) (W : World) (hT : TextsAt W v L) (hl : ∀ i, (L.getD i []).length ≤ 140737488351232) (hn : L.length * 16 ≤ 140737488351232) (hs : s.length ≤ 9223372036854775807) :
    Calls Try.prog 3 #[v, str s] W fun e W' => e = .returned (.bool true) ∧ Below W.heap.size W W' := by
  by_cases h1 : 20000 < Fr.lsum L L.length
  · exact tells_long v L s W hT hl (by omega) hs (.inl h1)
  · by_cases h2 : 300 < s.length
    · exact tells_long v L s W hT hl (by omega) hs (.inr ⟨by omega, h2⟩)
    · by_cases hm : Fr.May L
      · exact tells_yes v L s W hT hl (by omega) (by omega) (by omega) hm
      · exact tells_no v L s W hT hl (by omega) (by omega) (by omega) hm

theorem frontTells_walk (H : Type) (enc : TypeId × Value → H) (W : World) (base : Nat) (args : Array Value) (ds gs : List (DataW H)) (before : List MemPlace)
    (hval : ∀ (j : Nat) t v, Try.f3.params[j]? = some t → args[j]? = some v → Value.okWide Try.prog W .any base t v)
    (hW : DataW.Whole enc Try.prog Try.f3.params.toList Rows.frontTellsSpec.vars false W args.toList ds gs before)
    (hz : (DataW.weightsEach Try.prog (Try.f3.params.toList ++ Rows.frontTellsSpec.plain.varTypes Try.prog) (ds ++ gs)).all (· ≤ reachBytes) = true)
    (hL : laidMetH Try.prog Rows.frontTellsRow.laid W) (hsh : W.ShapedOpen Try.prog) :
    Calls Try.prog 3 args W fun e W' => e = .returned (.bool true) ∧ Below W.heap.size W W' := by
  obtain ⟨p, q, hA, _, _, _, _⟩ := hW
  rw [Try.params3] at hA hval
  rw [Try.params3] at hz
  obtain ⟨v0, vs0, d0, ds0, p0, q0, hargs, rfl, rfl, h0, r0⟩ := trodAll_cons hA
  obtain ⟨v1, vs1, d1, ds1, p1, q1, rfl, rfl, rfl, h1, r1⟩ := trodAll_cons r0
  obtain ⟨rfl, rfl, rfl⟩ := trodAll_nil r1
  obtain rfl : args = #[v0, v1] := by cases args; simp_all
  obtain ⟨l0, L0, b0, z0⟩ := arg_strs Try.underlying22 Try.underlying9 (show Try.prog.cellsOf 9 = 1 ∧ Try.prog.bytesOf 9 = 16 by exact ⟨by kernel_rfl, by kernel_rfl⟩) (hval 0 22 v0 rfl rfl) h0 (sized_arg hz (j := 0) (t := 22) (d := d0) rfl rfl)
  obtain ⟨x1, rfl, rfl, rfl, w1⟩ := Go.ChangeMaps.open_string Try.underlying9 (hval 1 9 v1 rfl rfl) h1
  rw [str_of x1]
  exact frontTells_any v0 l0 x1.data.toList W L0 b0 z0 (by rw [show x1.data.toList.length = x1.size from Array.length_toList]; unfold maxLen at w1; omega)

theorem frontTells_lifted (os : Os) (started : os.Started) (H : Type) (enc : TypeId × Value → H) (F : Stop.Interp) :
    ReturnsInHanded {} Try.checked os 3 .any ((OpenSpec.ofChange Rows.frontTellsSpec).preRow enc Try.prog Try.f3 Rows.frontTellsRow.domain false Rows.frontTellsRow.laid) (((OpenSpec.ofChange Rows.frontTellsSpec).at F).post enc Try.prog Try.f3 false true false false) := by
  obtain ⟨places, hx⟩ : ∃ places, DataW.whole enc Try.prog ((World.holding Try.prog os ⟨#[], #[], []⟩).forCall (fun _ _ => 0) ⟨#[], #[.slice none 0 0, .string ByteArray.empty], []⟩).memory Try.f3.params.toList Rows.frontTellsSpec.vars false (#[.slice none 0 0, .string ByteArray.empty] : Array Value).toList 8 = some ([.nil, .lit (.string [])], [], places) := ⟨[], by kernel_rfl⟩
  refine returnsInHanded_of_row (C := Try.checked) (s := OpenSpec.ofChange Rows.frontTellsSpec) own started (by kernel_rfl) Try.func3
    (witness_row_at (enc := enc) (C := Try.checked) false (World.holding Try.prog os ⟨#[], #[], []⟩) #[.slice none 0 0, .string ByteArray.empty] rfl (by kernel_rfl) (by kernel_rfl) (by kernel_rfl)
      (OpenSpec.preRow_of_cond 8 hx (by kernel_rfl) (fun k hk => by cases hk) (by kernel_rfl) (laidMet_nil _ _))) ?_
  intro W base args ds gs before hval hW _ _ hz hL hsh _
  refine (frontTells_walk H enc W base args ds gs before hval hW hz hL hsh).mono fun e W' ⟨he, hb⟩ => ⟨_, he, ?_⟩
  exact law_post (fn := Try.f3) (s := Rows.frontTellsSpec) (tb := 4) rfl (fun ds hd => by match ds, hd with | [d0, d1], _ => rfl) rfl Try.underlying4 (by kernel_rfl) hW hb

theorem frontTells_said : Rows.FrontTellsSaid :=
  OpenClaim.holds_of_cond 3 Try.f3 rfl rfl rfl rfl rfl rfl rfl ⟨rfl, rfl, rfl, rfl, rfl⟩ rfl rfl rfl rfl rfl (by kernel_rfl) Try.func3 (by kernel_rfl)
    (of_decide_eq_true (by kernel_rfl)) (by unfold Func.isWrapper; first | (rw [if_pos (by decide +kernel)]; kernel_rfl) | (rw [if_neg (by decide +kernel)]; exact ⟨rfl, rfl⟩))
    (fun os started H enc _ F => by rw [OpenClaim.pre_eq_preRow]; exact frontTells_lifted os started H enc F)
end Go.Proofs.Ytdahfejecbcakaa
