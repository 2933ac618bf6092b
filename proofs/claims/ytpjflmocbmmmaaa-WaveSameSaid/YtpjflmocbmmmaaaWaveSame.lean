/- WaveSame: a row of one number alone, for every input. -/
import Derived.Test.YtpjflmocbmmmaaaWvLaw
namespace Go.Proofs.Ytpjflmocbmmmaaa
set_option linter.unusedVariables false
set_option linter.unusedSimpArgs false
set_option maxRecDepth 100000
open Go.ChangeShapes Go.WideShapes Go.ChangeAt Go.RowKit

theorem waveSame_out (n v at' : Int) (W : World) (h : n < 0 ∨ (0 ≤ n ∧ 200 < n) ∨ (0 ≤ n ∧ n ≤ 200 ∧ v < 0) ∨ (0 ≤ n ∧ n ≤ 200 ∧ 0 ≤ v ∧ 1048576 ≤ v) ∨ (0 ≤ n ∧ n ≤ 200 ∧ 0 ≤ v ∧ v < 1048576 ∧ at' < 0) ∨ (0 ≤ n ∧ n ≤ 200 ∧ 0 ≤ v ∧ v < 1048576 ∧ 0 ≤ at' ∧ n < at')) :
    Calls Try.prog 9 #[.int .i64 n, .int .i64 v, .int .i64 at'] W fun e W' => e = .returned (.bool true) ∧ Below W.heap.size W W' := by
  rcases h with h | ⟨h, h1⟩ | ⟨h, h1, h2⟩ | ⟨h, h1, h2, h3⟩ | ⟨h, h1, h2, h3, h4⟩ | ⟨h, h1, h2, h3, h4, h5⟩
  all_goals
    go_enter Try.func9, Try.ntmps9
    go_wp2
    go_ret
    exact ⟨rfl, Below.refl _ _⟩
def scells (v i n : Nat) : List Value := (List.range n).map fun t => .int .i64 ((if t < i then v else 0 : Nat) : Int)
theorem scells_get (v i n t : Nat) (h : t < n) : (scells v i n)[t]? = some (.int .i64 ((if t < i then v else 0 : Nat) : Int)) := by
  unfold scells; rw [List.getElem?_map, List.getElem?_range h]; rfl
theorem scells_zero (v n : Nat) : (madeCells #[.int .i64 0] n).toList = scells v 0 n := by
  apply List.ext_getElem?
  intro t
  simp only [madeCells, Array.toList_map, Array.toList_range, List.getElem?_map, scells]
  by_cases ht : t < n
  · rw [List.getElem?_range ht]; simp [Nat.mod_one]
  · have e : (List.range n)[t]? = none := by simp; omega
    rw [e]; simp
theorem scells_set (v i n : Nat) (h : i < n) : (scells v i n).set i (.int .i64 (v : Int)) = scells v (i + 1) n := by
  apply List.ext_getElem?
  intro t
  rw [List.getElem?_set]
  have hl : (scells v i n).length = n := by simp [scells]
  by_cases ht : t < n
  · rw [scells_get _ _ _ _ ht, scells_get _ _ _ _ ht, hl]
    split
    · rename_i h1; subst h1; simp [h]
    · rename_i h1
      by_cases h2 : t < i
      · rw [if_pos h2, if_pos (by omega)]
      · rw [if_neg h2, if_neg (by omega)]
  · have e : ∀ i, (scells v i n)[t]? = none := fun i => by simp [scells]; omega
    rw [e, e, if_neg (by omega)]
theorem scells_row {w : World} {b v n : Nat} (h : Blk w b (scells v n n) 3) : NatsAt w (some ⟨b, 0, none⟩) (List.replicate n v) := by
  refine Or.inr ⟨b, 0, rfl, fun i hi => ?_⟩
  have hi' : i < n := by simpa using hi
  rw [Nat.zero_add, h.cell (scells_get v n n i hi'), if_pos hi']
  simp [List.getD, hi']
theorem rep_rng (n v k : Nat) (h : k ≤ n) : Wv.rng (List.replicate n v) 0 k = List.replicate k v := by
  rw [Wv.rng_zero, List.take_replicate, List.length_replicate]
  congr 1; unfold Wv.hiEnd; omega
theorem rep_cnt (k v : Nat) (lo hi : Int) : Wv.cntR (List.replicate k v) lo hi = if lo ≤ (v : Int) ∧ (v : Int) ≤ hi then k else 0 := by
  unfold Wv.cntR
  rw [List.countP_replicate]
  simp only [Bool.and_eq_true, decide_eq_true_eq]
theorem rep_next (n v : Nat) (x : Int) : Wv.nxt (List.replicate n v) x = if 0 < n ∧ x ≤ v then (v : Int) else -1 := by
  refine Wv.isNxt_unique (Wv.nxt_is _ _) ?_
  split
  · rename_i h
    exact Or.inr ⟨v, by simp; omega, rfl, h.2, fun y hy _ => by simp at hy; omega⟩
  · rename_i h
    refine Or.inl ⟨rfl, fun y hy => ?_⟩
    simp at hy; omega
theorem rep_cntE (n v i : Nat) (h : i ≤ n) : Bm.cnt (Wv.eqs (List.replicate n v) v) i = i := by
  rw [Wv.cnt_eqs, List.take_replicate, Nat.min_eq_left h, rep_cnt, if_pos (by omega)]
theorem rep_sel (n v i : Nat) (h : i ≤ n) : Bm.sel (Wv.eqs (List.replicate n v) v) i = if i < n then (i : Int) else -1 := by
  split
  · rename_i h1
    exact Bm.sel_eq (by rw [Wv.eqs_get _ _ _ (by simpa using h1)]; simp [List.getD, h1]) (by rw [rep_cntE n v i h])
  · rename_i h1
    exact Bm.sel_low (Or.inr (by rw [Wv.eqs_length, List.length_replicate, rep_cntE n v n (Nat.le_refl _)]; omega))
theorem rep_may (n v : Nat) (hn : n ≤ 200) (hv : v < 1048576) : Pm.May ((List.replicate n v).map fun x : Nat => (x : Int)) ((20 : Nat) : Int) := by
  refine ⟨by decide, by decide, by simp; omega, fun i hi => ?_⟩
  have hi' : i < n := by simpa using hi
  rw [map_getD]
  simp [List.getD, hi']; omega
theorem Try.wsinfo3 : (Try.prog.info? 3).map (fun i => (i.zero, i.size, i.bytes)) = some (some (.int .i64 0), 1, 8) := by kernel_rfl
set_option maxHeartbeats 1000000 in
theorem waveSame_in (n v q : Nat) (x : Int) (W : World) (h : n ≤ 200) (hx : (v : Int) = x) (hv : v < 1048576) (hq : q ≤ n) :
    Calls Try.prog 9 #[.int .i64 n, .int .i64 x, .int .i64 q] W fun e W' => e = .returned (.bool true) ∧ Below W.heap.size W W' := by
  obtain ⟨i0, hi, hz0, hz1, hz2⟩ := info_parts Try.wsinfo3
  have mk1 : ∀ W : World, (Instr.makeSlice 22 (.int .i64 (n : Int)) (.int .i64 (n : Int))).run Try.prog W = _ := fun W => run_make W 22 3 i0 _ Try.underlying22 hi hz0 .i64 .i64 n n (by omega) (by omega) (by rw [hz2]; omega) (by omega)
  have R1 := hid (fun p W (h : IsWave W p (List.replicate n v) 20) => by
    have := wrank_any p 20 (List.replicate n v) v q W h (by omega)
    rw [rep_rng n v q hq, rep_cnt, if_pos (by omega)] at this; rw [hx] at this; exact this)
  have R2 := hid (fun p W (h : IsWave W p (List.replicate n v) 20) => by
    have := wrank_any p 20 (List.replicate n v) ((v : Int) + 1) q W h (by omega)
    rw [rep_rng n v q hq, rep_cnt, if_neg (by omega)] at this; rw [hx] at this; exact this)
  have S1 := hid (fun p W (h : IsWave W p (List.replicate n v) 20) => by
    have := wsel_any p 20 (List.replicate n v) v q W h (by omega)
    rw [rep_sel n v q hq] at this; rw [hx] at this; exact this)
  have N1 := hid (fun p W (h : IsWave W p (List.replicate n v) 20) => by
    have := wnext_any p 20 (List.replicate n v) 0 n 0 W h
    rw [rep_rng n v n (Nat.le_refl _), rep_next] at this; rw [hx] at this; exact this)
  have N2 := hid (fun p W (h : IsWave W p (List.replicate n v) 20) => by
    have := wnext_any p 20 (List.replicate n v) 0 n ((v : Int) + 1) W h
    rw [rep_rng n v n (Nat.le_refl _), rep_next, if_neg (by omega)] at this; rw [hx] at this; exact this)
  have C1 := hid (fun p W (h : IsWave W p (List.replicate n v) 20) => by
    have := wcount_any p 20 (List.replicate n v) 0 q v v W h (by omega)
    rw [rep_rng n v q hq, rep_cnt, if_pos (by omega)] at this; rw [hx] at this; exact this)
  have HV := hid hv
  have hvI : x < 1048576 := by omega
  have hv0 : 0 ≤ x := by omega
  have HX := hid hx
  have hnI : (n : Int) ≤ 200 := by omega
  have hqI : (q : Int) ≤ n := by omega
  clear hv hx
  go_enter Try.func9, Try.ntmps9
  go_wp2
  go_loopw [8] (fun s8 wr => ∃ i : Nat, i ≤ n ∧ s8 = .int .i64 i ∧ Hid (Below W.heap.size W wr) ∧ Hid (Blk wr W.heap.size (scells v i n) 3)) (fun s8 _ => n - (intOf s8).toNat)
  case atStart => exact ⟨0, by omega, rfl, (Below.refl _ _).alloc (Nat.le_refl _) _, Blk.new' rfl (scells_zero v n)⟩
  case round =>
    obtain ⟨i, hin, rfl, HB, BO⟩ := hrel
    by_cases hlt : i < n
    · have c1 := BO.out.cell (scells_get v i n i hlt)
      have f1 := BO.out.free i
      have hst := BO.out.set i (.int .i64 (v : Int))
      rw [scells_set v i n hlt, HX.out] at hst
      have HST := hid hst
      have hltI : (i : Int) < n := by omega
      clear hst
      go_wp2
      go_roundw
      case rel => exact ⟨i + 1, by omega, by go_num, HB.out.setCell (Nat.le_refl _) _, HST.out⟩
      case measure => simp [intOf]; omega
    · obtain rfl : i = n := by omega
      have NW := hid (wnew_ok (some ⟨W.heap.size, 0, none⟩) i i 20 (List.replicate i v) wr (by simp) (rep_may i v h HV.out) (scells_row BO.out))
      have HQ := hid hq
      have CALLS : True := trivial
      rcases (show q < i ∨ (q = i ∧ 0 < i) ∨ (q = i ∧ i = 0) by omega) with hc | ⟨hc, hc2⟩ | ⟨hc, hc2⟩
      case' inl =>
        rw [if_pos hc] at S1
        rw [if_pos (by omega)] at N1
        have hci : (q : Int) < i := by omega
        have hci2 : (0 : Int) < i := by omega
      case' inr.inl =>
        rw [if_neg (by omega)] at S1
        rw [if_pos (by omega)] at N1
        subst hc
        have hci2 : (0 : Int) < q := by omega
      case' inr.inr =>
        rw [if_neg (by omega)] at S1
        rw [if_neg (by omega)] at N1
        subst hc
        subst hc2
        have e00 : ((0 : Nat) : Int) = 0 := rfl
        rw [e00] at R1 R2 S1 N1 N2 C1
        clear e00
      all_goals
        clear hlt hin
        go_wp2_with (first
          | (go_at_call 11; refine NW.out.mono ?_; rintro e w1 ⟨p, rfl, hB1, hF1⟩; have IW := hid (Fresh.it hF1); have hC := hid (Below.refl w1.heap.size w1); have hD := hid (below_then HB.out hB1))
          | (go_at_call 16; with_reducible refine (R1.out p _ (IW.out.keep hC.out)).mono ?_; rintro e w' ⟨rfl, hB⟩; have hC := hid (below_then hC.out hB))
          | (go_at_call 16; with_reducible refine (R2.out p _ (IW.out.keep hC.out)).mono ?_; rintro e w' ⟨rfl, hB⟩; have hC := hid (below_then hC.out hB))
          | (go_at_call 18; refine (S1.out p _ (IW.out.keep hC.out)).mono ?_; rintro e w' ⟨rfl, hB⟩; have hC := hid (below_then hC.out hB))
          | (go_at_call 22; with_reducible refine (N1.out p _ (IW.out.keep hC.out)).mono ?_; rintro e w' ⟨rfl, hB⟩; have hC := hid (below_then hC.out hB))
          | (go_at_call 22; with_reducible refine (N2.out p _ (IW.out.keep hC.out)).mono ?_; rintro e w' ⟨rfl, hB⟩; have hC := hid (below_then hC.out hB))
          | (go_at_call 20; refine (C1.out p _ (IW.out.keep hC.out)).mono ?_; rintro e w' ⟨rfl, hB⟩; have hC := hid (below_then hC.out hB))
          | (go_at_call 13; refine (known_any _).mono ?_; rintro e w' ⟨rfl, hB⟩; have hC := hid (below_then hC.out hB)))
        go_ret
        exact ⟨rfl, below_then hD.out hC.out⟩

theorem waveSame_walk (H : Type) (enc : TypeId × Value → H) (W : World) (base : Nat) (args : Array Value) (ds gs : List (DataW H)) (before : List MemPlace)
    (hval : ∀ (j : Nat) t v, Try.f9.params[j]? = some t → args[j]? = some v → Value.okWide Try.prog W .any base t v)
    (hW : DataW.Whole enc Try.prog Try.f9.params.toList Rows.waveSameSpec.vars false W args.toList ds gs before)
    (hz : (DataW.weightsEach Try.prog (Try.f9.params.toList ++ Rows.waveSameSpec.plain.varTypes Try.prog) (ds ++ gs)).all (· ≤ reachBytes) = true)
    (hL : laidMetH Try.prog Rows.waveSameRow.laid W) (hsh : W.ShapedOpen Try.prog) :
    Calls Try.prog 9 args W fun e W' => e = .returned (.bool true) ∧ Below W.heap.size W W' := by
  obtain ⟨p, q, hA, _, _, _, _⟩ := hW
  rw [Try.params9] at hA hval
  rw [Try.params9] at hz
  obtain ⟨v0, vs0, d0, ds0, p0, q0, hargs, rfl, rfl, h0, r0⟩ := trodAll_cons hA
  obtain ⟨v1, vs1, d1, ds1, p1, q1, rfl, rfl, rfl, h1, r1⟩ := trodAll_cons r0
  obtain ⟨v2, vs2, d2, ds2, p2, q2, rfl, rfl, rfl, h2, r2⟩ := trodAll_cons r1
  obtain ⟨rfl, rfl, rfl⟩ := trodAll_nil r2
  obtain rfl : args = #[v0, v1, v2] := by cases args; simp_all
  obtain ⟨x0, rfl, rfl, rfl, w0⟩ := open_int Try.underlying3 (hval 0 3 v0 rfl rfl) h0
  have b0 := bounds_i64 w0
  obtain ⟨x1, rfl, rfl, rfl, w1⟩ := open_int Try.underlying3 (hval 1 3 v1 rfl rfl) h1
  have b1 := bounds_i64 w1
  obtain ⟨x2, rfl, rfl, rfl, w2⟩ := open_int Try.underlying3 (hval 2 3 v2 rfl rfl) h2
  have b2 := bounds_i64 w2
  by_cases hb : x0 < 0 ∨ (0 ≤ x0 ∧ 200 < x0) ∨ (0 ≤ x0 ∧ x0 ≤ 200 ∧ x1 < 0) ∨ (0 ≤ x0 ∧ x0 ≤ 200 ∧ 0 ≤ x1 ∧ 1048576 ≤ x1) ∨ (0 ≤ x0 ∧ x0 ≤ 200 ∧ 0 ≤ x1 ∧ x1 < 1048576 ∧ x2 < 0) ∨ (0 ≤ x0 ∧ x0 ≤ 200 ∧ 0 ≤ x1 ∧ x1 < 1048576 ∧ 0 ≤ x2 ∧ x0 < x2)
  · exact waveSame_out x0 x1 x2 W hb
  · obtain ⟨n, rfl⟩ : ∃ k : Nat, x0 = k := ⟨x0.toNat, by omega⟩
    obtain ⟨v, rfl⟩ : ∃ k : Nat, x1 = k := ⟨x1.toNat, by omega⟩
    obtain ⟨q, rfl⟩ : ∃ k : Nat, x2 = k := ⟨x2.toNat, by omega⟩
    exact waveSame_in n v q v W (by omega) rfl (by omega) (by omega)

theorem waveSame_lifted (os : Os) (started : os.Started) (H : Type) (enc : TypeId × Value → H) (F : Stop.Interp) :
    ReturnsInHanded {} Try.checked os 9 .any ((OpenSpec.ofChange Rows.waveSameSpec).preRow enc Try.prog Try.f9 Rows.waveSameRow.domain false Rows.waveSameRow.laid) (((OpenSpec.ofChange Rows.waveSameSpec).at F).post enc Try.prog Try.f9 false true false false) := by
  obtain ⟨places, hx⟩ : ∃ places, DataW.whole enc Try.prog ((World.holding Try.prog os ⟨#[], #[], []⟩).forCall (fun _ _ => 0) ⟨#[], #[.int .i64 0, .int .i64 0, .int .i64 0], []⟩).memory Try.f9.params.toList Rows.waveSameSpec.vars false (#[.int .i64 0, .int .i64 0, .int .i64 0] : Array Value).toList 8 = some ([.lit (.int .i64 0), .lit (.int .i64 0), .lit (.int .i64 0)], [], places) := ⟨[], by kernel_rfl⟩
  refine returnsInHanded_of_row (C := Try.checked) (s := OpenSpec.ofChange Rows.waveSameSpec) own started (by kernel_rfl) Try.func9
    (witness_row_at (enc := enc) (C := Try.checked) false (World.holding Try.prog os ⟨#[], #[], []⟩) #[.int .i64 0, .int .i64 0, .int .i64 0] rfl (by kernel_rfl) (by kernel_rfl) (by kernel_rfl)
      (OpenSpec.preRow_of_cond 8 hx (by kernel_rfl) (fun k hk => by cases hk) (by kernel_rfl) (laidMet_nil _ _))) ?_
  intro W base args ds gs before hval hW _ _ hz hL hsh _
  refine (waveSame_walk H enc W base args ds gs before hval hW hz hL hsh).mono fun e W' ⟨he, hb⟩ => ⟨_, he, ?_⟩
  exact law_post (fn := Try.f9) (s := Rows.waveSameSpec) (tb := 4) rfl (fun ds hd => by match ds, hd with | [d0, d1, d2], _ => rfl) rfl Try.underlying4 (by kernel_rfl) hW hb

theorem waveSame_said : Rows.WaveSameSaid :=
  OpenClaim.holds_of_cond 9 Try.f9 rfl rfl rfl rfl rfl rfl rfl ⟨rfl, rfl, rfl, rfl, rfl⟩ rfl rfl rfl rfl rfl (by kernel_rfl) Try.func9 (by kernel_rfl)
    (of_decide_eq_true (by kernel_rfl)) (by unfold Func.isWrapper; first | (rw [if_pos (by decide +kernel)]; kernel_rfl) | (rw [if_neg (by decide +kernel)]; exact ⟨rfl, rfl⟩))
    (fun os started H enc _ F => by rw [OpenClaim.pre_eq_preRow]; exact waveSame_lifted os started H enc F)
end Go.Proofs.Ytpjflmocbmmmaaa
