/- BitsMany: so many bits there may be; a nil Vec has none; what is handed in is not kept: for every input. -/
import Derived.Test.YtmjnacbimafahaaDoorBitsRef
import Derived.Test.YtmjnacbimafahaaDoorLaid
namespace Go.Proofs.YtmjnacbimafahaaDoor
set_option linter.unusedVariables false
set_option maxRecDepth 100000
open Go.ChangeShapes Go.WideShapes Go.ChangeAt Go.RowKit

theorem Tryd.info4 : (Tryd.prog.info? 4).map (fun i => (i.zero, i.size, i.bytes)) = some (some (.bool false), 1, 1) := by kernel_rfl
theorem bitsMany_bad (n at0 : Int) (W : World) (h : n < 0 ∨ (0 ≤ n ∧ 4200 < n)) :
    Calls Tryd.prog 6 #[.int .i64 n, .int .i64 at0] W fun e W' => e = .returned (.bool true) ∧ Below W.heap.size W W' := by
  rcases h with h | ⟨h1, h⟩
  all_goals
    go_enter Tryd.func6, Tryd.ntmps6
    go_wp2
    go_ret
    exact ⟨rfl, Below.refl _ _⟩
/-- The cells of n bits the first i of which are ones. -/
def manyCells (i n : Nat) : List Value := (List.range n).map fun t => .bool (decide (t < i))
theorem manyCells_get {i n t : Nat} (h : t < n) : (manyCells i n)[t]? = some (.bool (decide (t < i))) := by
  unfold manyCells; rw [List.getElem?_map, List.getElem?_range h]; rfl
theorem manyCells_set {i n : Nat} (h : i < n) : (manyCells i n).set i (.bool true) = manyCells (i + 1) n := by
  apply List.ext_getElem?
  intro t
  rw [List.getElem?_set]
  have hl : (manyCells i n).length = n := by simp [manyCells]
  by_cases ht : t < n
  · rw [manyCells_get ht, manyCells_get ht, hl]
    split
    · rename_i h1; subst h1; simp
    · rename_i h1; congr 2; rw [decide_eq_decide]; omega
  · have e : ∀ i, (manyCells i n)[t]? = none := fun i => by simp [manyCells]; omega
    rw [e, e, if_neg (by omega)]
theorem none_cnt (n i : Nat) : Bm.cnt (List.replicate n false) i = 0 := by
  unfold Bm.cnt; rw [List.take_replicate]; simp [List.count_replicate]
theorem manyCells_zero (n : Nat) : (madeCells #[.bool false] (n * 1)).toList = manyCells 0 n := by
  apply List.ext_getElem?
  intro t
  simp only [madeCells, Array.toList_map, Array.toList_range, List.getElem?_map, manyCells]
  by_cases ht : t < n
  · rw [List.getElem?_range (by omega), List.getElem?_range ht]; simp [Nat.mod_one]
  · have e : (List.range n)[t]? = none := by simp; omega
    have e' : (List.range (n * 1))[t]? = none := by simp; omega
    rw [e, e']; simp only [Option.map_none]

set_option maxHeartbeats 1000000 in
theorem bitsMany_few (n : Nat) (at0 : Int) (W : World) (hT : Tab W) (h : n ≤ 4096) :
    Calls Tryd.prog 6 #[.int .i64 n, .int .i64 at0] W fun e W' => e = .returned (.bool true) ∧ Below W.heap.size W W' := by
  obtain ⟨i0, hi, hz0, hz1, hz2⟩ := info_parts Tryd.info4
  have mk1 : ∀ W : World, (Instr.makeSlice 22 (.int .i64 (n : Int)) (.int .i64 (n : Int))).run Tryd.prog W = _ := fun W => run_make W 22 4 i0 _ Tryd.underlying22 hi hz0 .i64 .i64 n n (by omega) (by omega) (by rw [hz2]; omega) (by omega)
  obtain ⟨w1, hw1⟩ : ∃ w1, w1 = W.alloc (.cells (madeCells #[.bool false] (n * 1)) 4) := ⟨_, rfl⟩
  have B0 : Blk w1 W.heap.size (manyCells 0 n) 4 := by rw [hw1]; exact Blk.new' rfl (manyCells_zero n)
  have hb1 : Below W.heap.size W w1 := by rw [hw1]; exact (Below.refl _ _).alloc (Nat.le_refl _) _
  have hs1 : w1.heap.size = W.heap.size + 1 := by rw [hw1]; simp
  have hT1 := hT.keep hb1
  have N := hid (new_any (some ⟨W.heap.size, 0, none⟩) n (List.replicate n false) w1 (by simp; omega) (by
    rw [List.length_replicate]
    refine Or.inr ⟨_, _, rfl, fun t ht => ?_⟩
    rw [Nat.zero_add, B0.cell (manyCells_get ht)]
    simp [List.getD, ht]))
  rw [List.length_replicate] at N
  have HS := hid hs1
  have HW := hid hw1
  simp only [Nat.mul_one] at hw1
  clear hs1
  have hn42 : (n : Int) ≤ 4096 := by omega
  go_enter Tryd.func6, Tryd.ntmps6
  go_wp2_with fail
  rw [← hw1]
  clear hw1
  refine N.out.mono ?_
  rintro e w2 ⟨p, rfl, hb2, _, hkey⟩
  have hdn : decide (n ≤ 4096) = true := by simpa using h
  have B2 : Blk w2 W.heap.size (manyCells 0 n) 4 := B0.keep hb2
  have HK := hid hkey
  have HB2 := hid hb2
  have hz2' := hb2.size
  rw [HS.out] at hz2'
  have hb02 := below_then hb1 hb2
  clear hkey hb2 N mk1
  go_wp2
  go_loopw [7] (fun s7 wr => ∃ i : Nat, i ≤ n ∧ s7 = .int .i64 i ∧ Blk wr W.heap.size (manyCells i n) 4 ∧ Below W.heap.size W wr ∧ W.heap.size < wr.heap.size ∧ Hid (∀ k, w1.heap.size ≤ k → wr.heap[k]? = w2.heap[k]?)) (fun s7 _ => n - (intOf s7).toNat)
  case atStart => exact ⟨0, by omega, rfl, B2, hb02, by omega, fun _ _ => rfl⟩
  case round =>
    obtain ⟨i, hin, rfl, B, hb, hz, HF⟩ := hrel
    by_cases hlt : i < n
    · have c0 := B.cell (manyCells_get hlt)
      have f0 := B.free i
      go_wp2
      go_roundw
      case rel =>
        have B3 := B.set i (.bool true)
        rw [manyCells_set hlt] at B3
        refine ⟨i + 1, by omega, by go_num, B3, hb.setCell (by simp) _, by simpa using hz, fun k hk => ?_⟩
        rw [Below.heap_setCell _ _ _ _ (by show k ≠ W.heap.size; have := HS.out; omega)]
        exact HF.out k hk
      case measure => simp [intOf]; omega
    · obtain rfl : i = n := by omega
      have hv := HK.out wr HF.out
      have V := hid (VecAt.mk' hv (hT.keep hb) (by rw [List.length_replicate]; exact h))
      have KN := hid (fun W' (hW' : Below wr.heap.size wr W') => known_any W' (hT.keep (below_then hb hW')))
      have ra := hid (fun W' hW' => V.out.rank W' i hW')
      rw [show Bm.rank (List.replicate i false) (i : Int) = 0 from none_cnt i _] at ra
      have HB := hid hb
      have hbr := Below.refl wr.heap.size wr
      clear B hb HF HK hv
      go_wp2_with fail
      refine (len_nil _).mono ?_
      rintro e w' ⟨rfl, rfl⟩
      go_wp2_with fail
      refine (rank_nil _ _).mono ?_
      rintro e w' ⟨rfl, rfl⟩
      go_wp2_with fail
      refine (sel_nil _ _).mono ?_
      rintro e w3 ⟨rfl, hc1⟩
      go_wp2_with fail
      refine (next_nil _ _).mono ?_
      rintro e w4 ⟨rfl, hc2⟩
      go_wp2_with fail
      refine (get_nil _ _).mono ?_
      rintro e w5 ⟨rfl, rfl⟩
      have hc3 := below_then hc1 hc2
      go_wp2_with fail
      refine (ra.out _ hc3).mono ?_
      rintro e w6 ⟨rfl, hc4⟩
      go_wp2_with fail
      refine (KN.out _ hc4).mono ?_
      rintro e w7 ⟨rfl, hc5⟩
      have hz := below_then HB.out (below_then hc4 hc5)
      go_wp2
      go_ret
      exact ⟨rfl, hz⟩

set_option maxHeartbeats 1000000 in
theorem bitsMany_more (n : Nat) (at0 : Int) (W : World) (hT : Tab W) (h : 4096 < n) (h2 : n ≤ 4200) :
    Calls Tryd.prog 6 #[.int .i64 n, .int .i64 at0] W fun e W' => e = .returned (.bool true) ∧ Below W.heap.size W W' := by
  obtain ⟨i0, hi, hz0, hz1, hz2⟩ := info_parts Tryd.info4
  have mk1 : ∀ W : World, (Instr.makeSlice 22 (.int .i64 (n : Int)) (.int .i64 (n : Int))).run Tryd.prog W = _ := fun W => run_make W 22 4 i0 _ Tryd.underlying22 hi hz0 .i64 .i64 n n (by omega) (by omega) (by rw [hz2]; omega) (by omega)
  obtain ⟨w1, hw1⟩ : ∃ w1, w1 = W.alloc (.cells (madeCells #[.bool false] (n * 1)) 4) := ⟨_, rfl⟩
  have B0 : Blk w1 W.heap.size (manyCells 0 n) 4 := by rw [hw1]; exact Blk.new' rfl (manyCells_zero n)
  have hb1 : Below W.heap.size W w1 := by rw [hw1]; exact (Below.refl _ _).alloc (Nat.le_refl _) _
  have hz1' : W.heap.size < w1.heap.size := by rw [hw1]; simp
  have hn42 : ¬ (n : Int) ≤ 4096 := by omega
  have hdn : decide (n ≤ 4096) = false := by simp; omega
  simp only [Nat.mul_one] at hw1
  go_enter Tryd.func6, Tryd.ntmps6
  go_wp2_with fail
  rw [← hw1]
  clear hw1 mk1
  refine (new_no _ n n _ h).mono ?_
  rintro e w2 ⟨rfl, rfl⟩
  go_wp2
  go_loopw [7] (fun s7 wr => ∃ i : Nat, i ≤ n ∧ s7 = .int .i64 i ∧ Blk wr W.heap.size (manyCells i n) 4 ∧ Below W.heap.size W wr ∧ W.heap.size < wr.heap.size) (fun s7 _ => n - (intOf s7).toNat)
  case atStart => exact ⟨0, by omega, rfl, B0, hb1, hz1'⟩
  case round =>
    obtain ⟨i, hin, rfl, B, hb, hz⟩ := hrel
    by_cases hlt : i < n
    · have c0 := B.cell (manyCells_get hlt)
      have f0 := B.free i
      go_wp2
      go_roundw
      case rel =>
        have B3 := B.set i (.bool true)
        rw [manyCells_set hlt] at B3
        exact ⟨i + 1, by omega, by go_num, B3, hb.setCell (by simp) _, by simpa using hz⟩
      case measure => simp [intOf]; omega
    · obtain rfl : i = n := by omega
      have KN := hid (fun W' (hW' : Below wr.heap.size wr W') => known_any W' (hT.keep (below_then hb hW')))
      have HB := hid hb
      clear B hb
      go_wp2_with fail
      refine (len_nil _).mono ?_
      rintro e w' ⟨rfl, rfl⟩
      go_wp2_with fail
      refine (rank_nil _ _).mono ?_
      rintro e w' ⟨rfl, rfl⟩
      go_wp2_with fail
      refine (sel_nil _ _).mono ?_
      rintro e w3 ⟨rfl, hc1⟩
      go_wp2_with fail
      refine (next_nil _ _).mono ?_
      rintro e w4 ⟨rfl, hc2⟩
      go_wp2_with fail
      refine (get_nil _ _).mono ?_
      rintro e w5 ⟨rfl, rfl⟩
      have hc3 := below_then hc1 hc2
      go_wp2_with fail
      refine (KN.out _ hc3).mono ?_
      rintro e w7 ⟨rfl, hc5⟩
      have hz := below_then HB.out (below_then hc3 hc5)
      go_wp2
      go_ret
      exact ⟨rfl, hz⟩

theorem bitsMany_walk (H : Type) (enc : TypeId × Value → H) (W : World) (base : Nat) (args : Array Value) (ds gs : List (DataW H)) (before : List MemPlace)
    (hval : ∀ (j : Nat) t v, Tryd.f6.params[j]? = some t → args[j]? = some v → Value.okWide Tryd.prog W .any base t v)
    (hW : DataW.Whole enc Tryd.prog Tryd.f6.params.toList Rows.bitsManySpec.vars false W args.toList ds gs before)
    (hz : (DataW.weightsEach Tryd.prog (Tryd.f6.params.toList ++ Rows.bitsManySpec.plain.varTypes Tryd.prog) (ds ++ gs)).all (· ≤ reachBytes) = true)
    (hL : laidMetH Tryd.prog Rows.bitsManyRow.laid W) (hsh : W.ShapedOpen Tryd.prog) :
    Calls Tryd.prog 6 args W fun e W' => e = .returned (.bool true) ∧ Below W.heap.size W W' := by
  obtain ⟨p, q, hA, _, _, _, _⟩ := hW
  rw [Tryd.params6] at hA hval
  obtain ⟨v0, vs0, d0, ds0, p0, q0, hargs, rfl, rfl, h0, r0⟩ := trodAll_cons hA
  obtain ⟨v1, vs1, d1, ds1, p1, q1, rfl, rfl, rfl, h1, r1⟩ := trodAll_cons r0
  obtain ⟨rfl, rfl, rfl⟩ := trodAll_nil r1
  obtain rfl : args = #[v0, v1] := by cases args; simp_all
  obtain ⟨x0, rfl, rfl, rfl, w0⟩ := open_int Tryd.underlying3 (hval 0 3 v0 rfl rfl) h0
  obtain ⟨x1, rfl, rfl, rfl, w1⟩ := open_int Tryd.underlying3 (hval 1 3 v1 rfl rfl) h1
  by_cases h : 0 ≤ x0 ∧ x0 ≤ 4200
  · obtain ⟨h0, h1⟩ := h
    obtain ⟨n, rfl⟩ := Int.eq_ofNat_of_zero_le h0
    by_cases h2 : n ≤ 4096
    · exact bitsMany_few n x1 W (tab_of hL) h2
    · exact bitsMany_more n x1 W (tab_of hL) (by omega) (by omega)
  · exact bitsMany_bad x0 x1 W (by omega)

theorem bitsMany_lifted (os : Os) (started : os.Started) (H : Type) (enc : TypeId × Value → H) (F : Stop.Interp) :
    ReturnsInHanded {} Tryd.checked os 6 .any ((OpenSpec.ofChange Rows.bitsManySpec).preRow enc Tryd.prog Tryd.f6 Rows.bitsManyRow.domain false Rows.bitsManyRow.laid) (((OpenSpec.ofChange Rows.bitsManySpec).at F).post enc Tryd.prog Tryd.f6 false true false false) := by
  obtain ⟨places, hx⟩ : ∃ places, DataW.whole enc Tryd.prog ((laidWorld os).forCall (fun _ _ => 0) ⟨#[], #[.int .i64 0, .int .i64 0], []⟩).memory Tryd.f6.params.toList Rows.bitsManySpec.vars false (#[.int .i64 0, .int .i64 0] : Array Value).toList 8 = some ([.lit (.int .i64 0), .lit (.int .i64 0)], [], places) := ⟨[], by kernel_rfl⟩
  refine returnsInHanded_of_row (C := Tryd.checked) (s := OpenSpec.ofChange Rows.bitsManySpec) own started (by kernel_rfl) Tryd.func6
    (witness_row_at (enc := enc) (C := Tryd.checked) false (laidWorld os) #[.int .i64 0, .int .i64 0] rfl (by kernel_rfl) (by kernel_rfl) (by kernel_rfl)
      (OpenSpec.preRow_of_cond 8 hx (by kernel_rfl) (fun k hk => by cases hk) (by kernel_rfl) (laidMet_of_run' 8 (by kernel_rfl) (by kernel_rfl)))) ?_
  intro W base args ds gs before hval hW _ _ hz hL hsh _
  refine (bitsMany_walk H enc W base args ds gs before hval hW hz hL hsh).mono fun e W' ⟨he, hb⟩ => ⟨_, he, ?_⟩
  exact law_post (fn := Tryd.f6) (s := Rows.bitsManySpec) (tb := 4) rfl (fun ds hd => by match ds, hd with | [d0, d1], _ => rfl) rfl Tryd.underlying4 (by kernel_rfl) hW hb

theorem bitsMany_said : Rows.BitsManySaid :=
  OpenClaim.holds_of_cond 6 Tryd.f6 rfl rfl rfl rfl rfl rfl rfl ⟨rfl, rfl, rfl, rfl, rfl⟩ rfl rfl rfl rfl rfl (by kernel_rfl) Tryd.func6 (by kernel_rfl)
    (of_decide_eq_true (by kernel_rfl)) (by unfold Func.isWrapper; first | (rw [if_pos (by decide +kernel)]; kernel_rfl) | (rw [if_neg (by decide +kernel)]; exact ⟨rfl, rfl⟩))
    (fun os started H enc _ F => by rw [OpenClaim.pre_eq_preRow]; exact bitsMany_lifted os started H enc F)

theorem bitsMany_plain (f : FuncId) (fn : Func) (hf : Tryd.pinned.checked.prog.funcNamed Rows.bitsManyRow.func = some f) (hfn : Tryd.pinned.checked.prog.funcs[f]? = some fn) :
    false = Tryd.pinned.checked.prog.looks [] ∧ ∀ (j : Nat) t, fn.params[j]? = some t → Tryd.pinned.checked.prog.wantsStandIn t = false := by
  obtain rfl : f = 6 := Option.some.inj ((show Tryd.prog.funcNamed Rows.bitsManyRow.func = some 6 by kernel_rfl).symm.trans hf) |>.symm
  obtain rfl : fn = Tryd.f6 := (Option.some.inj (Tryd.func6.symm.trans hfn)).symm
  refine ⟨by kernel_rfl, fun j t ht => ?_⟩
  have h := Array.mem_of_getElem? ht
  have hall : Tryd.f6.params.all (fun t => !Tryd.prog.wantsStandIn t) = true := by kernel_rfl
  have := Array.all_eq_true_iff_forall_mem.1 hall t h
  show Tryd.prog.wantsStandIn t = false
  simpa using this

/-- THE STATEMENT. -/
theorem bitsMany_card : Rows.BitsManyCardSaid :=
  Claim7.holds_tied_plain_at .later [] _ _ _ _ bitsMany_said (fun _ h => by cases h) (by kernel_rfl) (fun _ h => by cases h) bitsMany_row_tie rfl ⟨rfl, rfl⟩ (by kernel_rfl) rfl bitsMany_plain (by kernel_rfl)
end Go.Proofs.YtmjnacbimafahaaDoor
