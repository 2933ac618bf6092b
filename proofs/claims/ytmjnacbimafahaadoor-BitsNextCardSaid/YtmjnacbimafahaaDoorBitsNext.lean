/- BitsNext: by the next one all ones are found, in order: for every input. -/
import Derived.Test.YtmjnacbimafahaaDoorBitsRef
import Derived.Test.YtmjnacbimafahaaDoorLaid
namespace Go.Proofs.YtmjnacbimafahaaDoor
set_option linter.unusedVariables false
set_option maxRecDepth 100000
open Go.ChangeShapes Go.WideShapes Go.ChangeAt Go.RowKit

theorem bitsNext_big (a : Option Addr) (n cap : Nat)  (W : World) (h : 400 < n) :
    Calls Tryd.prog 9 #[.slice a n cap] W fun e W' => e = .returned (.bool true) ∧ Below W.heap.size W W' := by
  go_enter Tryd.func9, Tryd.ntmps9
  go_wp2
  go_ret
  exact ⟨rfl, Below.refl _ _⟩

theorem bitsNext_small (a : Option Addr) (n cap : Nat) (l : List Bool) (W : World) (hT : Tab W) (hn : n = l.length) (h : n ≤ 400) (hR : RowAt W a n fun i => .bool (l.getD i false)) :
    Calls Tryd.prog 9 #[.slice a n cap] W fun e W' => e = .returned (.bool true) ∧ Below W.heap.size W W' := by
  have S := hid (start_bits (cap := cap) hT hn (by omega) hR)
  obtain ⟨r, hr⟩ : ∃ r, r = Bm.cnt l n := ⟨_, rfl⟩
  have hrn : r ≤ n := by rw [hr]; exact Bm.cnt_le l n
  have hrk : Bm.rank l n = r := by rw [hr]; rfl
  have HN := hid hn
  rw [hn] at hr
  have HR := hid hr
  have HK := hid hrk
  clear hr hrk hn
  go_enter Tryd.func9, Tryd.ntmps9
  go_wp2_with fail
  refine S.out.mono ?_
  rintro e w1 ⟨p, rfl, hb1, V0, R0, K0⟩
  have V := hid V0
  have R := hid R0
  have KN := hid K0
  have HB1 := hid hb1
  have hb0 := Below.refl w1.heap.size w1
  clear S hR hT hb1 V0 R0 K0
  have N0 := hid (fun W' hW' => V.out.next W' 0 hW')
  rw [show Bm.next l 0 = Bm.sel l (0 : Nat) by unfold Bm.next Bm.rank; rw [show (0 : Int).toNat = 0 from rfl, Bm.cnt_zero]] at N0
  go_wp2_with (go_at_call 17; refine (N0.out _ (by assumption)).mono ?_; rintro e w' ⟨rfl, hb⟩)
  go_loopw [4, 5] (fun s4 s5 wr => ∃ (k : Nat) (i : Int), k ≤ r ∧ s4 = .int .i64 k ∧ s5 = .int .i64 i ∧ Hid (i = Bm.sel l k) ∧ Below w1.heap.size w1 wr) (fun s4 _ _ => r + 1 - (intOf s4).toNat)
  case atStart => exact ⟨0, _, by omega, rfl, rfl, rfl, by assumption⟩
  case round =>
    obtain ⟨k, i, hk, rfl, rfl, HI, hb⟩ := hrel
    by_cases hlt : 0 ≤ i
    · have hkr : k < r := by
        rcases Nat.lt_or_ge k r with h1 | h1
        · exact h1
        · have := Bm.sel_low (l := l) (k := k) (Or.inr (by rw [← HR.out]; omega))
          rw [← HI.out] at this; omega
      obtain ⟨j, hj, h1, h2, h3⟩ := Bm.sel_some (l := l) (k := k) (by omega) (by rw [← HR.out]; omega)
      have hjl := Bm.sel_lt l k
      rw [h3] at hjl
      have hij : i = j := by rw [HI.out, h3]
      have hjn : i ≤ 400 := by have := HN.out; omega
      have SE := hid (fun W' hW' => R.out.sel W' k hW')
      rw [← HI.out] at SE
      have NX := hid (fun W' hW' => V.out.next W' (i + 1) hW')
      have e1 : Bm.next l (i + 1) = Bm.sel l (k + 1 : Nat) := by
        unfold Bm.next Bm.rank
        rw [hij, show ((j : Int) + 1).toNat = j + 1 by omega, Bm.cnt_succ, if_pos h1]
        congr 1; omega
      have E1 := hid e1
      clear hj h1 h2 h3 hij e1 hjl
      go_wp2_with (first
        | (go_at_call 16; refine (SE.out _ (by assumption)).mono ?_; rintro e w' ⟨rfl, hb⟩)
        | (go_at_call 17; refine (NX.out _ (by assumption)).mono ?_; rintro e w' ⟨rfl, hb⟩))
      go_roundw
      case rel => exact ⟨k + 1, _, by omega, by go_num, rfl, E1.out, by assumption⟩
      case measure => simp [intOf]; omega
    · have hkr : k = r := by
        rcases Nat.lt_or_ge k r with h1 | h1
        · obtain ⟨j, hj, h1, h2, h3⟩ := Bm.sel_some (l := l) (k := k) (by omega) (by rw [← HR.out]; omega)
          rw [← HI.out] at h3; omega
        · omega
      subst hkr
      have RA := hid (fun W' hW' => R.out.rank W' n hW')
      rw [HK.out] at RA
      go_wp2_with (first
        | (go_at_call 14; refine (RA.out _ (by assumption)).mono ?_; rintro e w' ⟨rfl, hb⟩)
        | (go_at_call 19; refine (KN.out _ (by assumption)).mono ?_; rintro e w' ⟨rfl, hb⟩; have hz := below_then HB1.out (below_then (by assumption) hb)))
      go_ret
      exact ⟨rfl, by assumption⟩

theorem bitsNext_walk (H : Type) (enc : TypeId × Value → H) (W : World) (base : Nat) (args : Array Value) (ds gs : List (DataW H)) (before : List MemPlace)
    (hval : ∀ (j : Nat) t v, Tryd.f9.params[j]? = some t → args[j]? = some v → Value.okWide Tryd.prog W .any base t v)
    (hW : DataW.Whole enc Tryd.prog Tryd.f9.params.toList Rows.bitsNextSpec.vars false W args.toList ds gs before)
    (hz : (DataW.weightsEach Tryd.prog (Tryd.f9.params.toList ++ Rows.bitsNextSpec.plain.varTypes Tryd.prog) (ds ++ gs)).all (· ≤ reachBytes) = true)
    (hL : laidMetH Tryd.prog Rows.bitsNextRow.laid W) (hsh : W.ShapedOpen Tryd.prog) :
    Calls Tryd.prog 9 args W fun e W' => e = .returned (.bool true) ∧ Below W.heap.size W W' := by
  obtain ⟨p, q, hA, _, _, _, _⟩ := hW
  rw [Tryd.params9] at hA hval
  obtain ⟨v0, vs0, d0, ds0, p0, q0, hargs, rfl, rfl, h0, r0⟩ := trodAll_cons hA
  obtain ⟨rfl, rfl, rfl⟩ := trodAll_nil r0
  obtain rfl : args = #[v0] := by cases args; simp_all
  obtain ⟨a0, cap0, l0, rfl, hl0, hm0, hnil0, hr0⟩ := read_bools Tryd.underlying22 Tryd.underlying4 cellsBool (hval 0 22 v0 rfl rfl) h0
  by_cases hb : 400 < l0.length
  · exact bitsNext_big a0 _ cap0 W hb
  · exact bitsNext_small a0 _ cap0 l0 W (tab_of hL) rfl (by omega) hr0

theorem bitsNext_lifted (os : Os) (started : os.Started) (H : Type) (enc : TypeId × Value → H) (F : Stop.Interp) :
    ReturnsInHanded {} Tryd.checked os 9 .any ((OpenSpec.ofChange Rows.bitsNextSpec).preRow enc Tryd.prog Tryd.f9 Rows.bitsNextRow.domain false Rows.bitsNextRow.laid) (((OpenSpec.ofChange Rows.bitsNextSpec).at F).post enc Tryd.prog Tryd.f9 false true false false) := by
  obtain ⟨places, hx⟩ : ∃ places, DataW.whole enc Tryd.prog ((laidWorld os).forCall (fun _ _ => 0) ⟨#[], #[.slice none 0 0], []⟩).memory Tryd.f9.params.toList Rows.bitsNextSpec.vars false (#[.slice none 0 0] : Array Value).toList 8 = some ([.nil], [], places) := ⟨[], by kernel_rfl⟩
  refine returnsInHanded_of_row (C := Tryd.checked) (s := OpenSpec.ofChange Rows.bitsNextSpec) own started (by kernel_rfl) Tryd.func9
    (witness_row_at (enc := enc) (C := Tryd.checked) false (laidWorld os) #[.slice none 0 0] rfl (by kernel_rfl) (by kernel_rfl) (by kernel_rfl)
      (OpenSpec.preRow_of_cond 8 hx (by kernel_rfl) (fun k hk => by cases hk) (by kernel_rfl) (laidMet_of_run' 8 (by kernel_rfl) (by kernel_rfl)))) ?_
  intro W base args ds gs before hval hW _ _ hz hL hsh _
  refine (bitsNext_walk H enc W base args ds gs before hval hW hz hL hsh).mono fun e W' ⟨he, hb⟩ => ⟨_, he, ?_⟩
  exact law_post (fn := Tryd.f9) (s := Rows.bitsNextSpec) (tb := 4) rfl (fun ds hd => by match ds, hd with | [d0], _ => rfl) rfl Tryd.underlying4 (by kernel_rfl) hW hb

theorem bitsNext_said : Rows.BitsNextSaid :=
  OpenClaim.holds_of_cond 9 Tryd.f9 rfl rfl rfl rfl rfl rfl rfl ⟨rfl, rfl, rfl, rfl, rfl⟩ rfl rfl rfl rfl rfl (by kernel_rfl) Tryd.func9 (by kernel_rfl)
    (of_decide_eq_true (by kernel_rfl)) (by unfold Func.isWrapper; first | (rw [if_pos (by decide +kernel)]; kernel_rfl) | (rw [if_neg (by decide +kernel)]; exact ⟨rfl, rfl⟩))
    (fun os started H enc _ F => by rw [OpenClaim.pre_eq_preRow]; exact bitsNext_lifted os started H enc F)

theorem bitsNext_plain (f : FuncId) (fn : Func) (hf : Tryd.pinned.checked.prog.funcNamed Rows.bitsNextRow.func = some f) (hfn : Tryd.pinned.checked.prog.funcs[f]? = some fn) :
    false = Tryd.pinned.checked.prog.looks [] ∧ ∀ (j : Nat) t, fn.params[j]? = some t → Tryd.pinned.checked.prog.wantsStandIn t = false := by
  obtain rfl : f = 9 := Option.some.inj ((show Tryd.prog.funcNamed Rows.bitsNextRow.func = some 9 by kernel_rfl).symm.trans hf) |>.symm
  obtain rfl : fn = Tryd.f9 := (Option.some.inj (Tryd.func9.symm.trans hfn)).symm
  refine ⟨by kernel_rfl, fun j t ht => ?_⟩
  have h := Array.mem_of_getElem? ht
  have hall : Tryd.f9.params.all (fun t => !Tryd.prog.wantsStandIn t) = true := by kernel_rfl
  have := Array.all_eq_true_iff_forall_mem.1 hall t h
  show Tryd.prog.wantsStandIn t = false
  simpa using this

/-- THE STATEMENT. -/
theorem bitsNext_card : Rows.BitsNextCardSaid :=
  Claim7.holds_tied_plain_at .later [] _ _ _ _ bitsNext_said (fun _ h => by cases h) (by kernel_rfl) (fun _ h => by cases h) bitsNext_row_tie rfl ⟨rfl, rfl⟩ (by kernel_rfl) rfl bitsNext_plain (by kernel_rfl)
end Go.Proofs.YtmjnacbimafahaaDoor
