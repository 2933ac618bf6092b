/- BitsBack: as many ones are ahead of each one as it is told by; next of a one is itself: for every input. -/
import Derived.Test.YtmjnacbimafahaaDoorBitsRef
import Derived.Test.YtmjnacbimafahaaDoorLaid
namespace Go.Proofs.YtmjnacbimafahaaDoor
set_option linter.unusedVariables false
set_option maxRecDepth 100000
open Go.ChangeShapes Go.WideShapes Go.ChangeAt Go.RowKit

theorem bitsBack_big (a : Option Addr) (n cap : Nat) (W : World) (h : 400 < n) :
    Calls Tryd.prog 4 #[.slice a n cap] W fun e W' => e = .returned (.bool true) ∧ Below W.heap.size W W' := by
  go_enter Tryd.func4, Tryd.ntmps4
  go_wp2
  go_ret
  exact ⟨rfl, Below.refl _ _⟩
theorem bitsBack_small (a : Option Addr) (n cap : Nat) (l : List Bool) (W : World) (hT : Tab W) (hn : n = l.length) (h : n ≤ 400) (hR : RowAt W a n fun i => .bool (l.getD i false)) :
    Calls Tryd.prog 4 #[.slice a n cap] W fun e W' => e = .returned (.bool true) ∧ Below W.heap.size W W' := by
  have S := hid (start_bits (cap := cap) hT hn (by omega) hR)
  have HN := hid hn
  have hrl : Bm.rank l n ≤ n := by unfold Bm.rank; have := Bm.cnt_le l n; simpa using this
  have hsl : Bm.sel l (Bm.rank l n : Nat) = -1 := Bm.sel_low (Or.inr (by rw [hn]; unfold Bm.rank; simp))
  have HS := hid hsl
  clear hn hsl
  go_enter Tryd.func4, Tryd.ntmps4
  go_wp2_with fail
  refine S.out.mono ?_
  rintro e w1 ⟨p, rfl, hb1, V0, R0, K0⟩
  have V := hid V0
  have R := hid R0
  have KN := hid K0
  have R1 := hR.keep hb1
  have HB1 := hid hb1
  have hb0 := Below.refl w1.heap.size w1
  clear S hR hT hb1 V0 R0 K0
  have RK := hid (fun W' hW' => V.out.rank W' n hW')
  obtain ⟨r, hr⟩ : ∃ r, r = Bm.rank l n := ⟨_, rfl⟩
  rw [← hr] at HS hrl RK
  have HR := hid hr
  clear hr
  go_wp2_with (go_at_call 13; refine (RK.out _ (by assumption)).mono ?_; rintro e w' ⟨rfl, hb⟩)
  go_loopw [5] (fun s5 wr => ∃ k : Nat, k ≤ r ∧ s5 = .int .i64 k ∧ Below w1.heap.size w1 wr) (fun s5 _ => r - (intOf s5).toNat)
  case atStart => exact ⟨0, by omega, rfl, by assumption⟩
  case round =>
    obtain ⟨k, hk, rfl, hb⟩ := hrel
    by_cases hlt : k < r
    · obtain ⟨i, hi, h1, h2, h3⟩ := Bm.sel_some (l := l) (k := k) (by omega) (by rw [← HN.out]; have := HR.out; unfold Bm.rank at this; simp at this; omega)
      have hin : i < n := by rw [HN.out]; exact hi
      have e1 : Bm.rank l i = k := by unfold Bm.rank; simp; omega
      have e2 : Bm.rank l (i + 1 : Int) = k + 1 := by
        unfold Bm.rank
        rw [show ((i : Int) + 1).toNat = i + 1 by omega, Bm.cnt_succ, if_pos h1]; omega
      have e3 : Bm.next l i = i := Bm.next_eq (Int.le_refl _) h1 (fun t h4 h5 => by omega)
      have SE := hid (fun W' hW' => V.out.sel W' k hW')
      have RA := hid (fun W' hW' => V.out.rank W' i hW')
      have RB := hid (fun W' hW' => V.out.rank W' (i + 1) hW')
      have NX := hid (fun W' hW' => V.out.next W' i hW')
      rw [h3] at SE; rw [e1] at RA; rw [e2] at RB; rw [e3] at NX
      obtain ⟨b, off, rfl, hc⟩ := R1.get hin
      have C := hid (fun W' (hW' : Below w1.heap.size w1 W') => by have := below_keep hW' (hc i hin); rw [h1] at this; exact this)
      clear hc h1 h2 h3 e1 e2 e3 hi
      go_wp2_with fail
      refine (SE.out _ hb).mono ?_
      rintro e w2 ⟨rfl, hb2⟩
      have cc := C.out _ hb2
      go_wp2_with fail
      refine (RA.out _ hb2).mono ?_
      rintro e w3 ⟨rfl, hb3⟩
      go_wp2_with fail
      refine (RB.out _ hb3).mono ?_
      rintro e w4 ⟨rfl, hb4⟩
      go_wp2_with fail
      refine (NX.out _ hb4).mono ?_
      rintro e w5 ⟨rfl, hb5⟩
      go_wp2
      go_roundw
      case rel => exact ⟨k + 1, by omega, by go_num, hb5⟩
      case measure => simp [intOf]; omega
    · obtain rfl : k = r := by omega
      have SE := hid (fun W' hW' => V.out.sel W' k hW')
      rw [HS.out] at SE
      go_wp2_with (first
        | (go_at_call 15; refine (SE.out _ (by assumption)).mono ?_; rintro e w' ⟨rfl, hb⟩)
        | (go_at_call 19; refine (KN.out _ (by assumption)).mono ?_; rintro e w' ⟨rfl, hb⟩; have hz := below_then HB1.out (below_then (by assumption) hb)))
      go_ret
      exact ⟨rfl, by assumption⟩

theorem bitsBack_walk (H : Type) (enc : TypeId × Value → H) (W : World) (base : Nat) (args : Array Value) (ds gs : List (DataW H)) (before : List MemPlace)
    (hval : ∀ (j : Nat) t v, Tryd.f4.params[j]? = some t → args[j]? = some v → Value.okWide Tryd.prog W .any base t v)
    (hW : DataW.Whole enc Tryd.prog Tryd.f4.params.toList Rows.bitsBackSpec.vars false W args.toList ds gs before)
    (hz : (DataW.weightsEach Tryd.prog (Tryd.f4.params.toList ++ Rows.bitsBackSpec.plain.varTypes Tryd.prog) (ds ++ gs)).all (· ≤ reachBytes) = true)
    (hL : laidMetH Tryd.prog Rows.bitsBackRow.laid W) (hsh : W.ShapedOpen Tryd.prog) :
    Calls Tryd.prog 4 args W fun e W' => e = .returned (.bool true) ∧ Below W.heap.size W W' := by
  obtain ⟨p, q, hA, _, _, _, _⟩ := hW
  rw [Tryd.params4] at hA hval
  obtain ⟨v0, vs0, d0, ds0, p0, q0, hargs, rfl, rfl, h0, r0⟩ := trodAll_cons hA
  obtain ⟨rfl, rfl, rfl⟩ := trodAll_nil r0
  obtain rfl : args = #[v0] := by cases args; simp_all
  obtain ⟨a0, cap0, l0, rfl, hl0, hm0, hnil0, hr0⟩ := read_bools Tryd.underlying22 Tryd.underlying4 cellsBool (hval 0 22 v0 rfl rfl) h0
  by_cases hb : 400 < l0.length
  · exact bitsBack_big a0 _ cap0 W hb
  · exact bitsBack_small a0 _ cap0 l0 W (tab_of hL) rfl (by omega) hr0

theorem bitsBack_lifted (os : Os) (started : os.Started) (H : Type) (enc : TypeId × Value → H) (F : Stop.Interp) :
    ReturnsInHanded {} Tryd.checked os 4 .any ((OpenSpec.ofChange Rows.bitsBackSpec).preRow enc Tryd.prog Tryd.f4 Rows.bitsBackRow.domain false Rows.bitsBackRow.laid) (((OpenSpec.ofChange Rows.bitsBackSpec).at F).post enc Tryd.prog Tryd.f4 false true false false) := by
  obtain ⟨places, hx⟩ : ∃ places, DataW.whole enc Tryd.prog ((laidWorld os).forCall (fun _ _ => 0) ⟨#[], #[.slice none 0 0], []⟩).memory Tryd.f4.params.toList Rows.bitsBackSpec.vars false (#[.slice none 0 0] : Array Value).toList 8 = some ([.nil], [], places) := ⟨[], by kernel_rfl⟩
  refine returnsInHanded_of_row (C := Tryd.checked) (s := OpenSpec.ofChange Rows.bitsBackSpec) own started (by kernel_rfl) Tryd.func4
    (witness_row_at (enc := enc) (C := Tryd.checked) false (laidWorld os) #[.slice none 0 0] rfl (by kernel_rfl) (by kernel_rfl) (by kernel_rfl)
      (OpenSpec.preRow_of_cond 8 hx (by kernel_rfl) (fun k hk => by cases hk) (by kernel_rfl) (laidMet_of_run' 8 (by kernel_rfl) (by kernel_rfl)))) ?_
  intro W base args ds gs before hval hW _ _ hz hL hsh _
  refine (bitsBack_walk H enc W base args ds gs before hval hW hz hL hsh).mono fun e W' ⟨he, hb⟩ => ⟨_, he, ?_⟩
  exact law_post (fn := Tryd.f4) (s := Rows.bitsBackSpec) (tb := 4) rfl (fun ds hd => by match ds, hd with | [d0], _ => rfl) rfl Tryd.underlying4 (by kernel_rfl) hW hb

theorem bitsBack_said : Rows.BitsBackSaid :=
  OpenClaim.holds_of_cond 4 Tryd.f4 rfl rfl rfl rfl rfl rfl rfl ⟨rfl, rfl, rfl, rfl, rfl⟩ rfl rfl rfl rfl rfl (by kernel_rfl) Tryd.func4 (by kernel_rfl)
    (of_decide_eq_true (by kernel_rfl)) (by unfold Func.isWrapper; first | (rw [if_pos (by decide +kernel)]; kernel_rfl) | (rw [if_neg (by decide +kernel)]; exact ⟨rfl, rfl⟩))
    (fun os started H enc _ F => by rw [OpenClaim.pre_eq_preRow]; exact bitsBack_lifted os started H enc F)

theorem bitsBack_plain (f : FuncId) (fn : Func) (hf : Tryd.pinned.checked.prog.funcNamed Rows.bitsBackRow.func = some f) (hfn : Tryd.pinned.checked.prog.funcs[f]? = some fn) :
    false = Tryd.pinned.checked.prog.looks [] ∧ ∀ (j : Nat) t, fn.params[j]? = some t → Tryd.pinned.checked.prog.wantsStandIn t = false := by
  obtain rfl : f = 4 := Option.some.inj ((show Tryd.prog.funcNamed Rows.bitsBackRow.func = some 4 by kernel_rfl).symm.trans hf) |>.symm
  obtain rfl : fn = Tryd.f4 := (Option.some.inj (Tryd.func4.symm.trans hfn)).symm
  refine ⟨by kernel_rfl, fun j t ht => ?_⟩
  have h := Array.mem_of_getElem? ht
  have hall : Tryd.f4.params.all (fun t => !Tryd.prog.wantsStandIn t) = true := by kernel_rfl
  have := Array.all_eq_true_iff_forall_mem.1 hall t h
  show Tryd.prog.wantsStandIn t = false
  simpa using this

/-- THE STATEMENT. -/
theorem bitsBack_card : Rows.BitsBackCardSaid :=
  Claim7.holds_tied_plain_at .later [] _ _ _ _ bitsBack_said (fun _ h => by cases h) (by kernel_rfl) (fun _ h => by cases h) bitsBack_row_tie rfl ⟨rfl, rfl⟩ (by kernel_rfl) rfl bitsBack_plain (by kernel_rfl)
end Go.Proofs.YtmjnacbimafahaaDoor
