/- BitsRuns: of long runs all is told as well: for every input. -/
import Derived.Test.YtmjnacbimafahaaDoorBitsRef
import Derived.Test.YtmjnacbimafahaaDoorLaid
namespace Go.Proofs.YtmjnacbimafahaaDoor
set_option linter.unusedVariables false
set_option maxRecDepth 100000
open Go.ChangeShapes Go.WideShapes Go.ChangeAt Go.RowKit

theorem bitsRuns_bad (a b c : Int) (W : World) (h : a < 0 ∨ (0 ≤ a ∧ 1300 < a) ∨ (0 ≤ a ∧ a ≤ 1300 ∧ b < 0) ∨ (0 ≤ a ∧ a ≤ 1300 ∧ 0 ≤ b ∧ 1300 < b) ∨ (0 ≤ a ∧ a ≤ 1300 ∧ 0 ≤ b ∧ b ≤ 1300 ∧ c < 0) ∨ (0 ≤ a ∧ a ≤ 1300 ∧ 0 ≤ b ∧ b ≤ 1300 ∧ 0 ≤ c ∧ 1300 < c)) :
    Calls Tryd.prog 5 #[.int .i64 a, .int .i64 b, .int .i64 c] W fun e W' => e = .returned (.bool true) ∧ Below W.heap.size W W' := by
  rcases h with h | ⟨h1, h⟩ | ⟨h1, h2, h⟩ | ⟨h1, h2, h3, h⟩ | ⟨h1, h2, h3, h4, h⟩ | ⟨h1, h2, h3, h4, h5, h⟩
  all_goals
    go_enter Tryd.func5, Tryd.ntmps5
    go_wp2
    go_ret
    exact ⟨rfl, Below.refl _ _⟩
theorem Tryd.info4 : (Tryd.prog.info? 4).map (fun i => (i.zero, i.size, i.bytes)) = some (some (.bool false), 1, 1) := by kernel_rfl
/-- The cells of a row whose ones stand from a up to i. -/
def runCells (a i n : Nat) : List Value := (List.range n).map fun t => .bool (decide (a ≤ t ∧ t < i))
theorem runCells_get {a i n t : Nat} (h : t < n) : (runCells a i n)[t]? = some (.bool (decide (a ≤ t ∧ t < i))) := by
  unfold runCells; rw [List.getElem?_map, List.getElem?_range h]; rfl
theorem runCells_set {a i n : Nat} (ha : a ≤ i) (h : i < n) : (runCells a i n).set i (.bool true) = runCells a (i + 1) n := by
  apply List.ext_getElem?
  intro t
  rw [List.getElem?_set]
  have hl : (runCells a i n).length = n := by simp [runCells]
  by_cases ht : t < n
  · rw [runCells_get ht, runCells_get ht, hl]
    split
    · rename_i h1; subst h1; simp [ha]
    · rename_i h1; congr 2; rw [decide_eq_decide]; omega
  · have e : ∀ i, (runCells a i n)[t]? = none := fun i => by simp [runCells]; omega
    rw [e, e, if_neg (by omega)]
set_option maxHeartbeats 1000000 in
theorem bitsRuns_good (a b c : Nat) (W : World) (hT : Tab W) (h1 : a ≤ 1300) (h2 : b ≤ 1300) (h3 : c ≤ 1300) :
    Calls Tryd.prog 5 #[.int .i64 a, .int .i64 b, .int .i64 c] W fun e W' => e = .returned (.bool true) ∧ Below W.heap.size W W' := by
  obtain ⟨i0, hi, hz0, hz1, hz2⟩ := info_parts Tryd.info4
  obtain ⟨n, hn⟩ : ∃ n, n = a + b + c := ⟨_, rfl⟩
  have hnI : (a : Int) + b + c = n := by omega
  have mk1 : ∀ W : World, (Instr.makeSlice 22 (.int .i64 (n : Int)) (.int .i64 (n : Int))).run Tryd.prog W = _ := fun W => run_make W 22 4 i0 _ Tryd.underlying22 hi hz0 .i64 .i64 n n (by omega) (by omega) (by rw [hz2]; omega) (by omega)
  have hna : a ≤ n := by omega
  have hnb : a + b ≤ n := by omega
  have hn4 : n ≤ 4096 := by omega
  have HN := hid hn
  clear hn
  go_enter Tryd.func5, Tryd.ntmps5
  go_wp2
  clear mk1
  go_loopw [8] (fun s8 wr => ∃ i : Nat, a ≤ i ∧ i ≤ a + b ∧ s8 = .int .i64 i ∧ Blk wr W.heap.size (runCells a i n) 4 ∧ Below W.heap.size W wr ∧ W.heap.size < wr.heap.size) (fun s8 _ => a + b - (intOf s8).toNat)
  case atStart =>
    refine ⟨a, Nat.le_refl _, by omega, rfl, ?_, (Below.refl _ _).alloc (Nat.le_refl _) _, by simp⟩
    refine Blk.new' rfl ?_
    apply List.ext_getElem?
    intro t
    simp only [madeCells, Array.toList_map, Array.toList_range, List.getElem?_map, runCells]
    by_cases ht : t < n
    · rw [List.getElem?_range ht]; simp [Nat.mod_one]
    · have e : (List.range n)[t]? = none := by simp; omega
      rw [e]; simp only [Option.map_none]
  case round =>
    obtain ⟨i, hai, hib, rfl, B, hb, hz⟩ := hrel
    by_cases hlt : i < a + b
    · have hin : i < n := by omega
      have c0 := B.cell (runCells_get hin)
      have f0 := B.free i
      go_wp2
      go_roundw
      case rel =>
        have B2 := B.set i (.bool true)
        rw [runCells_set hai hin] at B2
        exact ⟨i + 1, by omega, by omega, by go_num, B2, hb.setCell (by simp) _, by simpa using hz⟩
      case measure => simp [intOf]; omega
    · obtain rfl : i = a + b := by omega
      have hTr := hT.keep hb
      have HBr := hid hb
      have S := hid (start_bits (cap := n) (n := n) (l := Bm.run a b n) (a := some ⟨W.heap.size, 0, none⟩) hTr (by rw [Bm.run_length]) hn4 (Or.inr ⟨_, _, rfl, fun t ht => by
        show _ = some (Value.bool ((Bm.run a b n).getD t false))
        rw [Nat.zero_add, B.cell (runCells_get ht), Bm.run_get a b n t ht]⟩))
      clear B hb hT
      go_wp2_with fail
      refine S.out.mono ?_
      rintro e w1 ⟨p, rfl, hb1, V0, R0, K0⟩
      have V := hid V0
      have KN := hid K0
      have HB1 := hid (below_then HBr.out hb1)
      have hb0 := Below.refl w1.heap.size w1
      clear S hb1 V0 R0 K0 HBr
      have ra := hid (fun W' hW' => V.out.rank W' (a : Nat) hW')
      rw [Bm.run_rank a b n hnb a hna, show min (a - a) b = 0 by omega] at ra
      have rb := hid (fun W' hW' => V.out.rank W' (a + b : Nat) hW')
      rw [Bm.run_rank a b n hnb _ hnb, show min (a + b - a) b = b by omega, Int.natCast_add] at rb
      have rn := hid (fun W' hW' => V.out.rank W' n hW')
      rw [Bm.run_rank a b n hnb n (Nat.le_refl _), show min (n - a) b = b by omega] at rn
      have nx := hid (fun W' hW' => V.out.next W' (a + b : Nat) hW')
      rw [Bm.run_next_no a b n _ hnb hnb (Or.inl (Nat.le_refl _)), Int.natCast_add] at nx
      have sb := hid (fun W' hW' => V.out.sel W' b hW')
      rw [Bm.run_sel_no a b n hnb] at sb
      by_cases hb0 : b = 0
      · subst hb0
        have n0 := hid (fun W' hW' => V.out.next W' 0 hW')
        have e := Bm.run_next_no a 0 n 0 hnb (Nat.zero_le _) (Or.inr rfl)
        rw [show ((0 : Nat) : Int) = 0 from rfl] at e
        rw [e] at n0
        clear e
        simp only [Int.natCast_zero, Int.add_zero] at rb nx sb rn hnI
        go_wp2_with fail
        refine (ra.out _ (by assumption)).mono ?_
        rintro e w' ⟨rfl, hb⟩
        go_wp2_with fail
        refine (rb.out _ (by assumption)).mono ?_
        rintro e w' ⟨rfl, hb⟩
        go_wp2_with fail
        refine (rn.out _ (by assumption)).mono ?_
        rintro e w' ⟨rfl, hb⟩
        go_wp2_with fail
        refine (n0.out _ (by assumption)).mono ?_
        rintro e w' ⟨rfl, hb⟩
        go_wp2_with fail
        refine (nx.out _ (by assumption)).mono ?_
        rintro e w' ⟨rfl, hb⟩
        go_wp2_with fail
        refine (sb.out _ (by assumption)).mono ?_
        rintro e w' ⟨rfl, hb⟩
        go_wp2_with (go_at_call 19; refine (KN.out _ (by assumption)).mono ?_; rintro e w' ⟨rfl, hb⟩; have hz := below_then HB1.out (below_then (by assumption) hb))
        go_ret
        exact ⟨rfl, by assumption⟩
      · have n0 := hid (fun W' hW' => V.out.next W' 0 hW')
        rw [Bm.run_next a b n hnb (by omega)] at n0
        have s1 := hid (fun W' hW' => V.out.sel W' (b - 1 : Nat) hW')
        rw [Bm.run_sel a b n (b - 1) hnb (by omega), show ((b - 1 : Nat) : Int) = (b : Int) - 1 by omega, show ((a + (b - 1) : Nat) : Int) = (a : Int) + b - 1 by omega] at s1
        have hbI : ((b : Int) == 0) = false := by simp; omega
        have hbI' : 1 ≤ b := by omega
        go_wp2_with fail
        refine (ra.out _ (by assumption)).mono ?_
        rintro e w' ⟨rfl, hb⟩
        go_wp2_with fail
        refine (rb.out _ (by assumption)).mono ?_
        rintro e w' ⟨rfl, hb⟩
        go_wp2_with fail
        refine (rn.out _ (by assumption)).mono ?_
        rintro e w' ⟨rfl, hb⟩
        go_wp2_with fail
        refine (n0.out _ (by assumption)).mono ?_
        rintro e w' ⟨rfl, hb⟩
        go_wp2_with fail
        refine (nx.out _ (by assumption)).mono ?_
        rintro e w' ⟨rfl, hb⟩
        go_wp2_with fail
        refine (s1.out _ (by assumption)).mono ?_
        rintro e w' ⟨rfl, hb⟩
        go_wp2_with fail
        refine (sb.out _ (by assumption)).mono ?_
        rintro e w' ⟨rfl, hb⟩
        go_wp2_with (go_at_call 19; refine (KN.out _ (by assumption)).mono ?_; rintro e w' ⟨rfl, hb⟩; have hz := below_then HB1.out (below_then (by assumption) hb))
        go_ret
        exact ⟨rfl, by assumption⟩

theorem bitsRuns_walk (H : Type) (enc : TypeId × Value → H) (W : World) (base : Nat) (args : Array Value) (ds gs : List (DataW H)) (before : List MemPlace)
    (hval : ∀ (j : Nat) t v, Tryd.f5.params[j]? = some t → args[j]? = some v → Value.okWide Tryd.prog W .any base t v)
    (hW : DataW.Whole enc Tryd.prog Tryd.f5.params.toList Rows.bitsRunsSpec.vars false W args.toList ds gs before)
    (hz : (DataW.weightsEach Tryd.prog (Tryd.f5.params.toList ++ Rows.bitsRunsSpec.plain.varTypes Tryd.prog) (ds ++ gs)).all (· ≤ reachBytes) = true)
    (hL : laidMetH Tryd.prog Rows.bitsRunsRow.laid W) (hsh : W.ShapedOpen Tryd.prog) :
    Calls Tryd.prog 5 args W fun e W' => e = .returned (.bool true) ∧ Below W.heap.size W W' := by
  obtain ⟨p, q, hA, _, _, _, _⟩ := hW
  rw [Tryd.params5] at hA hval
  obtain ⟨v0, vs0, d0, ds0, p0, q0, hargs, rfl, rfl, h0, r0⟩ := trodAll_cons hA
  obtain ⟨v1, vs1, d1, ds1, p1, q1, rfl, rfl, rfl, h1, r1⟩ := trodAll_cons r0
  obtain ⟨v2, vs2, d2, ds2, p2, q2, rfl, rfl, rfl, h2, r2⟩ := trodAll_cons r1
  obtain ⟨rfl, rfl, rfl⟩ := trodAll_nil r2
  obtain rfl : args = #[v0, v1, v2] := by cases args; simp_all
  obtain ⟨x0, rfl, rfl, rfl, w0⟩ := open_int Tryd.underlying3 (hval 0 3 v0 rfl rfl) h0
  obtain ⟨x1, rfl, rfl, rfl, w1⟩ := open_int Tryd.underlying3 (hval 1 3 v1 rfl rfl) h1
  obtain ⟨x2, rfl, rfl, rfl, w2⟩ := open_int Tryd.underlying3 (hval 2 3 v2 rfl rfl) h2
  by_cases h : 0 ≤ x0 ∧ x0 ≤ 1300 ∧ 0 ≤ x1 ∧ x1 ≤ 1300 ∧ 0 ≤ x2 ∧ x2 ≤ 1300
  · obtain ⟨h0, h1, h2, h3, h4, h5⟩ := h
    obtain ⟨a, rfl⟩ := Int.eq_ofNat_of_zero_le h0
    obtain ⟨b, rfl⟩ := Int.eq_ofNat_of_zero_le h2
    obtain ⟨c, rfl⟩ := Int.eq_ofNat_of_zero_le h4
    exact bitsRuns_good a b c W (tab_of hL) (by omega) (by omega) (by omega)
  · exact bitsRuns_bad x0 x1 x2 W (by omega)

theorem bitsRuns_lifted (os : Os) (started : os.Started) (H : Type) (enc : TypeId × Value → H) (F : Stop.Interp) :
    ReturnsInHanded {} Tryd.checked os 5 .any ((OpenSpec.ofChange Rows.bitsRunsSpec).preRow enc Tryd.prog Tryd.f5 Rows.bitsRunsRow.domain false Rows.bitsRunsRow.laid) (((OpenSpec.ofChange Rows.bitsRunsSpec).at F).post enc Tryd.prog Tryd.f5 false true false false) := by
  obtain ⟨places, hx⟩ : ∃ places, DataW.whole enc Tryd.prog ((laidWorld os).forCall (fun _ _ => 0) ⟨#[], #[.int .i64 0, .int .i64 0, .int .i64 0], []⟩).memory Tryd.f5.params.toList Rows.bitsRunsSpec.vars false (#[.int .i64 0, .int .i64 0, .int .i64 0] : Array Value).toList 8 = some ([.lit (.int .i64 0), .lit (.int .i64 0), .lit (.int .i64 0)], [], places) := ⟨[], by kernel_rfl⟩
  refine returnsInHanded_of_row (C := Tryd.checked) (s := OpenSpec.ofChange Rows.bitsRunsSpec) own started (by kernel_rfl) Tryd.func5
    (witness_row_at (enc := enc) (C := Tryd.checked) false (laidWorld os) #[.int .i64 0, .int .i64 0, .int .i64 0] rfl (by kernel_rfl) (by kernel_rfl) (by kernel_rfl)
      (OpenSpec.preRow_of_cond 8 hx (by kernel_rfl) (fun k hk => by cases hk) (by kernel_rfl) (laidMet_of_run' 8 (by kernel_rfl) (by kernel_rfl)))) ?_
  intro W base args ds gs before hval hW _ _ hz hL hsh _
  refine (bitsRuns_walk H enc W base args ds gs before hval hW hz hL hsh).mono fun e W' ⟨he, hb⟩ => ⟨_, he, ?_⟩
  exact law_post (fn := Tryd.f5) (s := Rows.bitsRunsSpec) (tb := 4) rfl (fun ds hd => by match ds, hd with | [d0, d1, d2], _ => rfl) rfl Tryd.underlying4 (by kernel_rfl) hW hb

theorem bitsRuns_said : Rows.BitsRunsSaid :=
  OpenClaim.holds_of_cond 5 Tryd.f5 rfl rfl rfl rfl rfl rfl rfl ⟨rfl, rfl, rfl, rfl, rfl⟩ rfl rfl rfl rfl rfl (by kernel_rfl) Tryd.func5 (by kernel_rfl)
    (of_decide_eq_true (by kernel_rfl)) (by unfold Func.isWrapper; first | (rw [if_pos (by decide +kernel)]; kernel_rfl) | (rw [if_neg (by decide +kernel)]; exact ⟨rfl, rfl⟩))
    (fun os started H enc _ F => by rw [OpenClaim.pre_eq_preRow]; exact bitsRuns_lifted os started H enc F)

theorem bitsRuns_plain (f : FuncId) (fn : Func) (hf : Tryd.pinned.checked.prog.funcNamed Rows.bitsRunsRow.func = some f) (hfn : Tryd.pinned.checked.prog.funcs[f]? = some fn) :
    false = Tryd.pinned.checked.prog.looks [] ∧ ∀ (j : Nat) t, fn.params[j]? = some t → Tryd.pinned.checked.prog.wantsStandIn t = false := by
  obtain rfl : f = 5 := Option.some.inj ((show Tryd.prog.funcNamed Rows.bitsRunsRow.func = some 5 by kernel_rfl).symm.trans hf) |>.symm
  obtain rfl : fn = Tryd.f5 := (Option.some.inj (Tryd.func5.symm.trans hfn)).symm
  refine ⟨by kernel_rfl, fun j t ht => ?_⟩
  have h := Array.mem_of_getElem? ht
  have hall : Tryd.f5.params.all (fun t => !Tryd.prog.wantsStandIn t) = true := by kernel_rfl
  have := Array.all_eq_true_iff_forall_mem.1 hall t h
  show Tryd.prog.wantsStandIn t = false
  simpa using this

/-- THE STATEMENT. -/
theorem bitsRuns_card : Rows.BitsRunsCardSaid :=
  Claim7.holds_tied_plain_at .later [] _ _ _ _ bitsRuns_said (fun _ h => by cases h) (by kernel_rfl) (fun _ h => by cases h) bitsRuns_row_tie rfl ⟨rfl, rfl⟩ (by kernel_rfl) rfl bitsRuns_plain (by kernel_rfl)
end Go.Proofs.YtmjnacbimafahaaDoor
