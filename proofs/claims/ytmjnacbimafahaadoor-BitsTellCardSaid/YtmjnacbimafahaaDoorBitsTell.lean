/- BitsTell: of any bits each bit, how many ones are ahead, where each one is, which is next, as the document's own functions tell: for every input. -/
import Derived.Test.YtmjnacbimafahaaDoorBitsRef
import Derived.Test.YtmjnacbimafahaaDoorLaid
namespace Go.Proofs.YtmjnacbimafahaaDoor
set_option linter.unusedVariables false
set_option maxRecDepth 100000
open Go.ChangeShapes Go.WideShapes Go.ChangeAt Go.RowKit

theorem bitsTell_big (a : Option Addr) (n cap : Nat) (at0 : Int) (W : World) (h : 400 < n) :
    Calls Tryd.prog 3 #[.slice a n cap, .int .i64 at0] W fun e W' => e = .returned (.bool true) ∧ Below W.heap.size W W' := by
  go_enter Tryd.func3, Tryd.ntmps3
  go_wp2
  go_ret
  exact ⟨rfl, Below.refl _ _⟩
theorem bitsTell_small (a : Option Addr) (n cap : Nat) (l : List Bool) (at0 : Int) (W : World) (hT : Tab W) (hn : n = l.length) (h : n ≤ 400) (hR : RowAt W a n fun i => .bool (l.getD i false)) :
    Calls Tryd.prog 3 #[.slice a n cap, .int .i64 at0] W fun e W' => e = .returned (.bool true) ∧ Below W.heap.size W W' := by
  have NW := hid (new_any a cap l W (by omega) (by rw [← hn]; exact hR))
  have RF := hid (fun W' (hW : Below W.heap.size W W') => RefAt.mk' (cap := cap) (w := W') (a := a) (l := l) (by rw [← hn]; exact hR.keep hW) (by omega))
  rw [← hn] at NW RF
  have HN := hid hn
  clear hn
  go_enter Tryd.func3, Tryd.ntmps3
  go_wp2_with fail
  refine NW.out.mono ?_
  rintro e w1 ⟨p, rfl, hb1, hv, _⟩
  have V := hid (VecAt.mk' hv (hT.keep hb1) (by rw [← HN.out]; omega))
  have R := hid (RF.out w1 hb1)
  have KN := hid (fun W' (hW : Below w1.heap.size w1 W') => known_any W' (hT.keep (below_then hb1 hW)))
  have R1 := hR.keep hb1
  have HB1 := hid hb1
  clear hv RF NW hR hT hb1
  go_wp2_with fail
  refine (V.out.len w1 (Below.refl _ _)).mono ?_
  rw [← HN.out]
  rintro e w2 ⟨rfl, hb2⟩
  go_wp2
  go_loopw [6] (fun s6 wr => ∃ i : Int, -1 ≤ i ∧ i ≤ n + 2 ∧ s6 = .int .i64 i ∧ Below w1.heap.size w1 wr) (fun s6 _ => (n + 2 - intOf s6).toNat)
  case atStart => exact ⟨-1, by omega, by omega, rfl, hb2⟩
  case round =>
    obtain ⟨i, hi0, hi1, rfl, hb⟩ := hrel
    by_cases hlt : i ≤ n + 1
    · by_cases h0 : i < 0
      · have e0 : (decide (0 ≤ i) && l.getD i.toNat false) = false := by simp; omega
        have G := hid (fun W' hW' => V.out.get W' i hW')
        rw [e0] at G
        have h0' : ¬ 0 ≤ i := by omega
        clear e0
        go_wp2_with (first
          | (go_at_call 12; refine (G.out _ (by assumption)).mono ?_; rintro e w' ⟨rfl, hb⟩)
          | (go_at_call 13; refine (V.out.rank _ _ (by assumption)).mono ?_; rintro e w' ⟨rfl, hb⟩)
          | (go_at_call 15; refine (V.out.sel _ _ (by assumption)).mono ?_; rintro e w' ⟨rfl, hb⟩)
          | (go_at_call 17; refine (V.out.next _ _ (by assumption)).mono ?_; rintro e w' ⟨rfl, hb⟩)
          | (go_at_call 14; refine (R.out.rank _ _ (by assumption)).mono ?_; rintro e w' ⟨rfl, hb⟩)
          | (go_at_call 16; refine (R.out.sel _ _ (by assumption)).mono ?_; rintro e w' ⟨rfl, hb⟩)
          | (go_at_call 18; refine (R.out.next _ _ (by assumption)).mono ?_; rintro e w' ⟨rfl, hb⟩))
        go_roundw
        case rel => exact ⟨i + 1, by omega, by omega, by go_num, by assumption⟩
        case measure => simp [intOf]; omega
      · obtain ⟨k, rfl⟩ := Int.eq_ofNat_of_zero_le (show 0 ≤ i by omega)
        have h0' : 0 ≤ (k : Int) := by omega
        by_cases hk : k < n
        · obtain ⟨b, off, rfl, hc⟩ := R1.get hk
          have C := hid (fun W' (hW' : Below w1.heap.size w1 W') => below_keep hW' (hc k hk))
          clear hc
          have e0 : (decide (0 ≤ (k : Int)) && l.getD (k : Int).toNat false) = l.getD k false := by simp
          have G := hid (fun W' hW' => V.out.get W' k hW')
          rw [e0] at G
          clear e0
          go_wp2_with (first
            | (go_at_call 12; refine (G.out _ (by assumption)).mono ?_; rintro e w' ⟨rfl, hb⟩; have cc := C.out _ hb)
            | (go_at_call 13; refine (V.out.rank _ _ (by assumption)).mono ?_; rintro e w' ⟨rfl, hb⟩)
            | (go_at_call 15; refine (V.out.sel _ _ (by assumption)).mono ?_; rintro e w' ⟨rfl, hb⟩)
            | (go_at_call 17; refine (V.out.next _ _ (by assumption)).mono ?_; rintro e w' ⟨rfl, hb⟩)
            | (go_at_call 14; refine (R.out.rank _ _ (by assumption)).mono ?_; rintro e w' ⟨rfl, hb⟩)
            | (go_at_call 16; refine (R.out.sel _ _ (by assumption)).mono ?_; rintro e w' ⟨rfl, hb⟩)
            | (go_at_call 18; refine (R.out.next _ _ (by assumption)).mono ?_; rintro e w' ⟨rfl, hb⟩))
          go_roundw
          case rel => exact ⟨(k : Int) + 1, by omega, by omega, by go_num, by assumption⟩
          case measure => simp [intOf]; omega
        · have e0 : (decide (0 ≤ (k : Int)) && l.getD (k : Int).toNat false) = false := by
            have : l[k]? = none := List.getElem?_eq_none (by rw [← HN.out]; omega)
            simp [List.getD, this]
          have G := hid (fun W' hW' => V.out.get W' k hW')
          rw [e0] at G
          clear e0
          have hk' : ¬ (k : Int) < n := by omega
          go_wp2_with (first
            | (go_at_call 12; refine (G.out _ (by assumption)).mono ?_; rintro e w' ⟨rfl, hb⟩)
            | (go_at_call 13; refine (V.out.rank _ _ (by assumption)).mono ?_; rintro e w' ⟨rfl, hb⟩)
            | (go_at_call 15; refine (V.out.sel _ _ (by assumption)).mono ?_; rintro e w' ⟨rfl, hb⟩)
            | (go_at_call 17; refine (V.out.next _ _ (by assumption)).mono ?_; rintro e w' ⟨rfl, hb⟩)
            | (go_at_call 14; refine (R.out.rank _ _ (by assumption)).mono ?_; rintro e w' ⟨rfl, hb⟩)
            | (go_at_call 16; refine (R.out.sel _ _ (by assumption)).mono ?_; rintro e w' ⟨rfl, hb⟩)
            | (go_at_call 18; refine (R.out.next _ _ (by assumption)).mono ?_; rintro e w' ⟨rfl, hb⟩))
          go_roundw
          case rel => exact ⟨(k : Int) + 1, by omega, by omega, by go_num, by assumption⟩
          case measure => simp [intOf]; omega
    · have e0 : (decide (0 ≤ (n : Int)) && l.getD (n : Int).toNat false) = false := by
        have : l[n]? = none := List.getElem?_eq_none (by rw [← HN.out]; omega)
        simp [List.getD, this]
      have G := hid (fun W' hW' => V.out.get W' n hW')
      rw [e0] at G
      clear e0
      go_wp2_with (first
        | (go_at_call 12; refine (G.out _ (by assumption)).mono ?_; rintro e w' ⟨rfl, hb⟩)
        | (go_at_call 13; refine (V.out.rank _ _ (by assumption)).mono ?_; rintro e w' ⟨rfl, hb⟩)
        | (go_at_call 15; refine (V.out.sel _ _ (by assumption)).mono ?_; rintro e w' ⟨rfl, hb⟩)
        | (go_at_call 17; refine (V.out.next _ _ (by assumption)).mono ?_; rintro e w' ⟨rfl, hb⟩)
        | (go_at_call 14; refine (R.out.rank _ _ (by assumption)).mono ?_; rintro e w' ⟨rfl, hb⟩)
        | (go_at_call 16; refine (R.out.sel _ _ (by assumption)).mono ?_; rintro e w' ⟨rfl, hb⟩)
        | (go_at_call 18; refine (R.out.next _ _ (by assumption)).mono ?_; rintro e w' ⟨rfl, hb⟩)
        | (go_at_call 19; refine (KN.out _ (by assumption)).mono ?_; rintro e w' ⟨rfl, hb⟩; have hz := below_then HB1.out (below_then (by assumption) hb)))
      go_ret
      exact ⟨rfl, by assumption⟩

theorem bitsTell_walk (H : Type) (enc : TypeId × Value → H) (W : World) (base : Nat) (args : Array Value) (ds gs : List (DataW H)) (before : List MemPlace)
    (hval : ∀ (j : Nat) t v, Tryd.f3.params[j]? = some t → args[j]? = some v → Value.okWide Tryd.prog W .any base t v)
    (hW : DataW.Whole enc Tryd.prog Tryd.f3.params.toList Rows.bitsTellSpec.vars false W args.toList ds gs before)
    (hz : (DataW.weightsEach Tryd.prog (Tryd.f3.params.toList ++ Rows.bitsTellSpec.plain.varTypes Tryd.prog) (ds ++ gs)).all (· ≤ reachBytes) = true)
    (hL : laidMetH Tryd.prog Rows.bitsTellRow.laid W) (hsh : W.ShapedOpen Tryd.prog) :
    Calls Tryd.prog 3 args W fun e W' => e = .returned (.bool true) ∧ Below W.heap.size W W' := by
  obtain ⟨p, q, hA, _, _, _, _⟩ := hW
  rw [Tryd.params3] at hA hval
  obtain ⟨v0, vs0, d0, ds0, p0, q0, hargs, rfl, rfl, h0, r0⟩ := trodAll_cons hA
  obtain ⟨v1, vs1, d1, ds1, p1, q1, rfl, rfl, rfl, h1, r1⟩ := trodAll_cons r0
  obtain ⟨rfl, rfl, rfl⟩ := trodAll_nil r1
  obtain rfl : args = #[v0, v1] := by cases args; simp_all
  obtain ⟨a, cap, l, rfl, hl, hm, _, hr⟩ := read_bools Tryd.underlying22 Tryd.underlying4 cellsBool (hval 0 22 v0 rfl rfl) h0
  obtain ⟨at0, rfl, rfl, rfl, w1⟩ := open_int Tryd.underlying3 (hval 1 3 v1 rfl rfl) h1
  by_cases hb : 400 < l.length
  · exact bitsTell_big a _ cap at0 W hb
  · exact bitsTell_small a _ cap l at0 W (tab_of hL) rfl (by omega) hr

theorem bitsTell_lifted (os : Os) (started : os.Started) (H : Type) (enc : TypeId × Value → H) (F : Stop.Interp) :
    ReturnsInHanded {} Tryd.checked os 3 .any ((OpenSpec.ofChange Rows.bitsTellSpec).preRow enc Tryd.prog Tryd.f3 Rows.bitsTellRow.domain false Rows.bitsTellRow.laid) (((OpenSpec.ofChange Rows.bitsTellSpec).at F).post enc Tryd.prog Tryd.f3 false true false false) := by
  obtain ⟨places, hx⟩ : ∃ places, DataW.whole enc Tryd.prog ((laidWorld os).forCall (fun _ _ => 0) ⟨#[], #[.slice none 0 0, .int .i64 0], []⟩).memory Tryd.f3.params.toList Rows.bitsTellSpec.vars false (#[.slice none 0 0, .int .i64 0] : Array Value).toList 8 = some ([.nil, .lit (.int .i64 0)], [], places) := ⟨[], by kernel_rfl⟩
  refine returnsInHanded_of_row (C := Tryd.checked) (s := OpenSpec.ofChange Rows.bitsTellSpec) own started (by kernel_rfl) Tryd.func3
    (witness_row_at (enc := enc) (C := Tryd.checked) false (laidWorld os) #[.slice none 0 0, .int .i64 0] rfl (by kernel_rfl) (by kernel_rfl) (by kernel_rfl)
      (OpenSpec.preRow_of_cond 8 hx (by kernel_rfl) (fun k hk => by cases hk) (by kernel_rfl) (laidMet_of_run' 8 (by kernel_rfl) (by kernel_rfl)))) ?_
  intro W base args ds gs before hval hW _ _ hz hL hsh _
  refine (bitsTell_walk H enc W base args ds gs before hval hW hz hL hsh).mono fun e W' ⟨he, hb⟩ => ⟨_, he, ?_⟩
  exact law_post (fn := Tryd.f3) (s := Rows.bitsTellSpec) (tb := 4) rfl (fun ds hd => by match ds, hd with | [d0, d1], _ => rfl) rfl Tryd.underlying4 (by kernel_rfl) hW hb

theorem bitsTell_said : Rows.BitsTellSaid :=
  OpenClaim.holds_of_cond 3 Tryd.f3 rfl rfl rfl rfl rfl rfl rfl ⟨rfl, rfl, rfl, rfl, rfl⟩ rfl rfl rfl rfl rfl (by kernel_rfl) Tryd.func3 (by kernel_rfl)
    (of_decide_eq_true (by kernel_rfl)) (by unfold Func.isWrapper; first | (rw [if_pos (by decide +kernel)]; kernel_rfl) | (rw [if_neg (by decide +kernel)]; exact ⟨rfl, rfl⟩))
    (fun os started H enc _ F => by rw [OpenClaim.pre_eq_preRow]; exact bitsTell_lifted os started H enc F)

theorem bitsTell_plain (f : FuncId) (fn : Func) (hf : Tryd.pinned.checked.prog.funcNamed Rows.bitsTellRow.func = some f) (hfn : Tryd.pinned.checked.prog.funcs[f]? = some fn) :
    false = Tryd.pinned.checked.prog.looks [] ∧ ∀ (j : Nat) t, fn.params[j]? = some t → Tryd.pinned.checked.prog.wantsStandIn t = false := by
  obtain rfl : f = 3 := Option.some.inj ((show Tryd.prog.funcNamed Rows.bitsTellRow.func = some 3 by kernel_rfl).symm.trans hf) |>.symm
  obtain rfl : fn = Tryd.f3 := (Option.some.inj (Tryd.func3.symm.trans hfn)).symm
  refine ⟨by kernel_rfl, fun j t ht => ?_⟩
  have h := Array.mem_of_getElem? ht
  have hall : Tryd.f3.params.all (fun t => !Tryd.prog.wantsStandIn t) = true := by kernel_rfl
  have := Array.all_eq_true_iff_forall_mem.1 hall t h
  show Tryd.prog.wantsStandIn t = false
  simpa using this

/-- THE STATEMENT. -/
theorem bitsTell_card : Rows.BitsTellCardSaid :=
  Claim7.holds_tied_plain_at .later [] _ _ _ _ bitsTell_said (fun _ h => by cases h) (by kernel_rfl) (fun _ h => by cases h) bitsTell_row_tie rfl ⟨rfl, rfl⟩ (by kernel_rfl) rfl bitsTell_plain (by kernel_rfl)
end Go.Proofs.YtmjnacbimafahaaDoor
