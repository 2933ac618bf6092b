/- LinesShort: blanks may be left out where one term's end is plain, for every input. -/
import Derived.Test.YtemkbmhcohijnaaGreatDoorLnKnown
import Derived.Test.YtemkbmhcohijnaaGreatDoorLnLaid
namespace Go.Proofs.YtemkbmhcohijnaaGreatDoor
set_option linter.unusedVariables false
set_option linter.unusedSimpArgs false
set_option maxRecDepth 100000
open Go.ChangeShapes Go.WideShapes Go.ChangeAt Go.RowKit
/-- The lines. -/
def shL : List (List UInt8) := [[60, 97, 62, 60, 98, 62, 60, 99, 62, 46],
  [95, 58, 97, 60, 98, 62, 95, 58, 99, 46],
  [60, 97, 62, 60, 98, 62, 34, 99, 34, 64, 101, 110, 46],
  [60, 97, 62, 60, 98, 62, 34, 99, 34, 94, 94, 60, 100, 62, 46],
  [95, 58, 97, 95, 58, 98, 60, 99, 62, 46],
  [60, 97, 62, 60, 98, 62, 95, 58, 99, 35, 46],
  [60, 97, 62, 32, 60, 98, 62, 32, 60, 99, 62, 32, 46, 32, 120],
  [60, 97, 62, 32, 60, 98, 62, 32, 60, 99, 62],
  [60, 97, 62, 32, 60, 98, 62],
  [34, 97, 34, 32, 60, 98, 62, 32, 60, 99, 62, 32, 46],
  [60, 97, 62, 32, 95, 58, 98, 32, 60, 99, 62, 32, 46],
  [60, 97, 62, 32, 34, 98, 34, 32, 60, 99, 62, 32, 46],
  [60, 97, 62, 32, 60, 98, 62, 32, 34, 99, 34, 32, 64, 101, 110, 32, 46],
  [60, 97, 62, 32, 60, 98, 62, 32, 34, 99, 34, 94, 94, 32, 60, 100, 62, 32, 46],
  [60, 97, 62, 32, 60, 98, 62, 32, 34, 99, 34, 64, 69, 78, 32, 46],
  [95, 58, 32, 60, 98, 62, 32, 60, 99, 62, 32, 46],
  [60, 97, 62, 32, 60, 98, 62, 32, 34, 92, 120, 34, 32, 46],
  [60, 97, 62, 32, 60, 98, 62, 32, 60, 92, 116, 62, 32, 46]]
/-- Has it a triple, may it be. -/
def oneF : Option (Option (Tm.T3 × Tm.T3 × Tm.T3)) → Bool × Bool
  | none => (false, false)
  | some none => (false, true)
  | some (some _) => (true, true)
theorem oneV_flags (r : Option (Option (Tm.T3 × Tm.T3 × Tm.T3))) : ∃ (k1 : Int) (t1 x1 : List UInt8) (k2 : Int) (t2 x2 : List UInt8) (k3 : Int) (t3 x3 : List UInt8), oneV r = .tuple #[triV k1 t1 x1 k2 t2 x2 k3 t3 x3, .bool (oneF r).1, .bool (oneF r).2] := by
  match r with
  | none => exact ⟨0, [], [], 0, [], [], 0, [], [], rfl⟩
  | some none => exact ⟨0, [], [], 0, [], [], 0, [], [], rfl⟩
  | some (some (a, b, c)) => exact ⟨_, _, _, _, _, _, _, _, _, rfl⟩
theorem sh_flags : shL.map (fun s => oneF (Tm.one s)) = [(true, true), (true, true), (true, true), (true, true), (false, false), (false, false), (false, false), (false, false), (false, false), (false, false), (false, false), (false, false), (false, false), (false, false), (true, true), (false, false), (false, false), (false, false)] := by kernel_rfl
theorem sh_at (k : Nat) (hk : k < 18) : oneF (Tm.one (shL.getD k [])) = (decide (k ≤ 3 ∨ k = 14), decide (k ≤ 3 ∨ k = 14)) := by
  have h := congrArg (fun l => l[k]?) sh_flags
  simp only [List.getElem?_map] at h
  have hl : k < shL.length := hk
  rw [List.getElem?_eq_getElem hl] at h
  rw [List.getD, List.getElem?_eq_getElem hl]
  simp only [Option.map_some, Option.getD_some] at h ⊢
  rcases (show k = 0 ∨ k = 1 ∨ k = 2 ∨ k = 3 ∨ k = 4 ∨ k = 5 ∨ k = 6 ∨ k = 7 ∨ k = 8 ∨ k = 9 ∨ k = 10 ∨ k = 11 ∨ k = 12 ∨ k = 13 ∨ k = 14 ∨ k = 15 ∨ k = 16 ∨ k = 17 by omega) with rfl | rfl | rfl | rfl | rfl | rfl | rfl | rfl | rfl | rfl | rfl | rfl | rfl | rfl | rfl | rfl | rfl | rfl
  all_goals exact Option.some.inj h
theorem sh_len (k : Nat) : (shL.getD k []).length ≤ 100 := by
  rcases Nat.lt_or_ge k 18 with h | h
  · have : ∀ k : Fin 18, (shL.getD k.val []).length ≤ 100 := by decide
    exact this ⟨k, h⟩
  · rw [List.getD, List.getElem?_eq_none (by exact h)]; simp
set_option maxHeartbeats 2000000 in
theorem short_out (z : Int) (w : World) (hz : z < 0 ∨ 18 ≤ z) : Calls Tryz.prog 5 #[.int .i64 z] w fun e W' => e = .returned (.bool true) ∧ Below w.heap.size w W' := by
  rcases hz with hz | hz
  all_goals
    go_enter Tryz.func5, Tryz.ntmps5
    go_wp2
    go_ret
    exact ⟨rfl, (Below.refl _ _).alloc (Nat.le_refl _) _⟩
set_option maxHeartbeats 2000000 in
theorem short_in (k : Nat) (hk : k < 18) (w : World) (hV : Vars w) (hE : ErrAt w) : Calls Tryz.prog 5 #[.int .i64 (k : Nat)] w fun e W' => e = .returned (.bool true) ∧ Below w.heap.size w W' := by
  have hz : (k : Int) < 18 := by omega
  have hz0 : (0 : Int) ≤ (k : Int) := by omega
  have hlen := sh_len k
  have PO := hid (fun W h h2 => pone_any (shL.getD k []) W h h2 (by omega))
  obtain ⟨k1, t1, x1, k2, t2, x2, k3, t3, x3, hf⟩ := oneV_flags (Tm.one (shL.getD k []))
  rw [hf, sh_at k hk] at PO
  have KN := hid (fun W h h2 => known5_any W h h2)
  have HV := hid hV
  have HE := hid hE
  have HB1 := hid (show Below w.heap.size w (w.alloc (.cells (shL.map str).toArray 9)) from (Below.refl _ _).alloc (Nat.le_refl _) _)
  have HL1 := hid (show (w.alloc (.cells (shL.map str).toArray 9)).cell? ⟨w.heap.size, k, none⟩ = some (str (shL.getD k [])) from (Blk.new w (shL.map str) 9).cell (by
    rw [List.getElem?_map, List.getD, List.getElem?_eq_getElem (show k < shL.length from hk)]; rfl))
  clear hf hlen hV hE
  obtain ⟨S, hS⟩ : ∃ S, S = shL.getD k [] := ⟨_, rfl⟩
  rw [← hS] at PO HL1
  clear hS
  rcases (show k ≤ 3 ∨ k = 14 ∨ (3 < k ∧ k ≠ 14) by omega) with h | h | ⟨h, h'⟩
  all_goals
    first
      | (rw [decide_eq_true (show k ≤ 3 ∨ k = 14 by omega)] at PO)
      | (rw [decide_eq_false (show ¬ (k ≤ 3 ∨ k = 14) by omega)] at PO)
  · have h3 : (k : Int) ≤ 3 := by omega
    clear hk
    go_enter Tryz.func5, Tryz.ntmps5
    go_wp2_with (show wpList _ _ _ _ _ (w.alloc (.cells (shL.map str).toArray 9)); obtain ⟨w1, hw1⟩ : ∃ w1, w1 = w.alloc (.cells (shL.map str).toArray 9) := ⟨_, rfl⟩; rw [← hw1] at HB1 HL1 ⊢; clear hw1; have hl1 := HL1.out)
    refine (PO.out _ (HV.out.keep HB1.out) (HE.out.keep HB1.out)).mono ?_
    rintro e w2 ⟨rfl, hb⟩
    have HB3 := hid (show Below w.heap.size w (new9 w2 k1 t1 x1 k2 t2 x2 k3 t3 x3) from (below_then HB1.out hb).alloc (below_then HB1.out hb).size _)
    clear hb
    go_wp2_with fail
    refine (KN.out _ (HV.out.keep HB3.out) (HE.out.keep HB3.out)).mono ?_
    rintro e w5 ⟨rfl, hb⟩
    have HB5 := hid (below_then HB3.out hb)
    clear hb
    go_wp2
    go_ret
    exact ⟨rfl, HB5.out⟩
  · obtain rfl : k = 14 := h
    clear hk hz hz0
    go_enter Tryz.func5, Tryz.ntmps5
    go_wp2_with (show wpList _ _ _ _ _ (w.alloc (.cells (shL.map str).toArray 9)); obtain ⟨w1, hw1⟩ : ∃ w1, w1 = w.alloc (.cells (shL.map str).toArray 9) := ⟨_, rfl⟩; rw [← hw1] at HB1 HL1 ⊢; clear hw1; have hl1 := HL1.out)
    refine (PO.out _ (HV.out.keep HB1.out) (HE.out.keep HB1.out)).mono ?_
    rintro e w2 ⟨rfl, hb⟩
    have HB3 := hid (show Below w.heap.size w (new9 w2 k1 t1 x1 k2 t2 x2 k3 t3 x3) from (below_then HB1.out hb).alloc (below_then HB1.out hb).size _)
    clear hb
    go_wp2_with fail
    refine (KN.out _ (HV.out.keep HB3.out) (HE.out.keep HB3.out)).mono ?_
    rintro e w5 ⟨rfl, hb⟩
    have HB5 := hid (below_then HB3.out hb)
    clear hb
    go_wp2
    go_ret
    exact ⟨rfl, HB5.out⟩
  · have h3 : decide ((k : Int) ≤ 3) = false := decide_eq_false (by omega)
    have h14 : ((k : Int) == 14) = false := beq_eq_false_iff_ne.2 (by omega)
    clear hk
    go_enter Tryz.func5, Tryz.ntmps5
    go_wp2_with (show wpList _ _ _ _ _ (w.alloc (.cells (shL.map str).toArray 9)); obtain ⟨w1, hw1⟩ : ∃ w1, w1 = w.alloc (.cells (shL.map str).toArray 9) := ⟨_, rfl⟩; rw [← hw1] at HB1 HL1 ⊢; clear hw1; have hl1 := HL1.out)
    refine (PO.out _ (HV.out.keep HB1.out) (HE.out.keep HB1.out)).mono ?_
    rintro e w2 ⟨rfl, hb⟩
    have HB3 := hid (show Below w.heap.size w (new9 w2 k1 t1 x1 k2 t2 x2 k3 t3 x3) from (below_then HB1.out hb).alloc (below_then HB1.out hb).size _)
    clear hb
    go_wp2_with fail
    refine (KN.out _ (HV.out.keep HB3.out) (HE.out.keep HB3.out)).mono ?_
    rintro e w5 ⟨rfl, hb⟩
    have HB5 := hid (below_then HB3.out hb)
    clear hb
    go_wp2
    go_ret
    exact ⟨rfl, HB5.out⟩
theorem linesShort_any (z : Int) (w : World) (hV : Vars w) (hE : ErrAt w) : Calls Tryz.prog 5 #[.int .i64 z] w fun e W' => e = .returned (.bool true) ∧ Below w.heap.size w W' := by
  by_cases h : z < 0 ∨ 18 ≤ z
  · exact short_out z w h
  · obtain ⟨k, rfl⟩ : ∃ k : Nat, z = k := ⟨z.toNat, by omega⟩
    exact short_in k (by omega) w hV hE
theorem linesShort_walk (H : Type) (enc : TypeId × Value → H) (W : World) (base : Nat) (args : Array Value) (ds gs : List (DataW H)) (before : List MemPlace)
    (hval : ∀ (j : Nat) t v, Tryz.f5.params[j]? = some t → args[j]? = some v → Value.okWide Tryz.prog W .any base t v)
    (hW : DataW.Whole enc Tryz.prog Tryz.f5.params.toList Rows.linesShortSpec.vars false W args.toList ds gs before)
    (hz : (DataW.weightsEach Tryz.prog (Tryz.f5.params.toList ++ Rows.linesShortSpec.plain.varTypes Tryz.prog) (ds ++ gs)).all (· ≤ reachBytes) = true)
    (hL : laidMetH Tryz.prog Rows.linesShortRow.laid W) (hsh : W.ShapedOpen Tryz.prog) :
    Calls Tryz.prog 5 args W fun e W' => e = .returned (.bool true) ∧ Below W.heap.size W W' := by
  obtain ⟨p, q, hA, _, _, _, _⟩ := hW
  rw [Tryz.params5] at hA hval
  rw [Tryz.params5] at hz
  obtain ⟨v0, vs0, d0, ds0, p0, q0, hargs, rfl, rfl, h0, r0⟩ := trodAll_cons hA
  obtain ⟨rfl, rfl, rfl⟩ := trodAll_nil r0
  obtain rfl : args = #[v0] := by cases args; simp_all
  obtain ⟨x0, rfl, rfl, rfl, w0⟩ := open_int Tryz.underlying3 (hval 0 3 v0 rfl rfl) h0
  obtain ⟨hV, hE⟩ := vars5_of hL hsh
  exact linesShort_any x0 W hV hE

theorem linesShort_lifted (os : Os) (started : os.Started) (H : Type) (enc : TypeId × Value → H) (F : Stop.Interp) :
    ReturnsInHanded {} Tryz.checked os 5 .any ((OpenSpec.ofChange Rows.linesShortSpec).preRow enc Tryz.prog Tryz.f5 Rows.linesShortRow.domain false Rows.linesShortRow.laid) (((OpenSpec.ofChange Rows.linesShortSpec).at F).post enc Tryz.prog Tryz.f5 false true false false) := by
  obtain ⟨places, hx⟩ : ∃ places, DataW.whole enc Tryz.prog ((laidWorld os).forCall (fun _ _ => 0) ⟨#[], #[.int .i64 0], []⟩).memory Tryz.f5.params.toList Rows.linesShortSpec.vars false (#[.int .i64 0] : Array Value).toList 8 = some ([.lit (.int .i64 0)], [], places) := ⟨[], by kernel_rfl⟩
  refine returnsInHanded_of_row (C := Tryz.checked) (s := OpenSpec.ofChange Rows.linesShortSpec) own started (by kernel_rfl) Tryz.func5
    (witness_shaped_row (enc := enc) (C := Tryz.checked) false (laidWorld os) #[.int .i64 0] (World.laidAll_os _ _ _) (World.shaped_of_ZipB (by kernel_rfl) (by kernel_rfl)) (by kernel_rfl)
      (OpenSpec.preRow_of_cond 8 hx (by kernel_rfl) (fun k hk => by cases hk) (by kernel_rfl) (laid_met os _))) ?_
  intro W base args ds gs before hval hW _ _ hz hL hsh _
  refine (linesShort_walk H enc W base args ds gs before hval hW hz hL hsh).mono fun e W' ⟨he, hb⟩ => ⟨_, he, ?_⟩
  exact law_post (fn := Tryz.f5) (s := Rows.linesShortSpec) (tb := 4) rfl (fun ds hd => by match ds, hd with | [d0], _ => rfl) rfl Tryz.underlying4 (by kernel_rfl) hW hb

theorem linesShort_said : Rows.LinesShortSaid :=
  OpenClaim.holds_of_cond 5 Tryz.f5 rfl rfl rfl rfl rfl rfl rfl ⟨rfl, rfl, rfl, rfl, rfl⟩ rfl rfl rfl rfl rfl (by kernel_rfl) Tryz.func5 (by kernel_rfl)
    (of_decide_eq_true (by kernel_rfl)) (by unfold Func.isWrapper; first | (rw [if_pos (by decide +kernel)]; kernel_rfl) | (rw [if_neg (by decide +kernel)]; exact ⟨rfl, rfl⟩))
    (fun os started H enc _ F => by rw [OpenClaim.pre_eq_preRow]; exact linesShort_lifted os started H enc F)

theorem linesShort_plain (f : FuncId) (fn : Func) (hf : Tryz.pinned.checked.prog.funcNamed Rows.linesShortRow.func = some f) (hfn : Tryz.pinned.checked.prog.funcs[f]? = some fn) :
    true = Tryz.pinned.checked.prog.looks [] ∧ ∀ (j : Nat) t, fn.params[j]? = some t → Tryz.pinned.checked.prog.wantsStandIn t = false := by
  obtain rfl : f = 5 := Option.some.inj ((show Tryz.prog.funcNamed Rows.linesShortRow.func = some 5 by kernel_rfl).symm.trans hf) |>.symm
  obtain rfl : fn = Tryz.f5 := (Option.some.inj (Tryz.func5.symm.trans hfn)).symm
  refine ⟨by kernel_rfl, fun j t ht => ?_⟩
  have h := Array.mem_of_getElem? ht
  have hall : Tryz.f5.params.all (fun t => !Tryz.prog.wantsStandIn t) = true := by kernel_rfl
  have := Array.all_eq_true_iff_forall_mem.1 hall t h
  show Tryz.prog.wantsStandIn t = false
  simpa using this

/-- THE STATEMENT. -/
theorem linesShort_card : Rows.LinesShortCardSaid :=
  Claim7.holds_tied_plain_at .later [] _ _ _ _ linesShort_said (fun _ h => by cases h) (by kernel_rfl) (fun _ h => by cases h) linesShort_row_tie rfl ⟨rfl, rfl⟩ (by kernel_rfl) rfl linesShort_plain (by kernel_rfl)
end Go.Proofs.YtemkbmhcohijnaaGreatDoor
