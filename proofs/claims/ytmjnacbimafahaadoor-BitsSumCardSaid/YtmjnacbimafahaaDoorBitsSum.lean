/- BitsSum: ones ahead of a place, and from it on, are all ones: for every input. -/
import Derived.Test.YtmjnacbimafahaaDoorBitsRef
import Derived.Test.YtmjnacbimafahaaDoorLaid
namespace Go.Proofs.YtmjnacbimafahaaDoor
set_option linter.unusedVariables false
set_option maxRecDepth 100000
open Go.ChangeShapes Go.WideShapes Go.ChangeAt Go.RowKit

theorem bitsSum_big (a : Option Addr) (n cap : Nat) (at0 : Int) (W : World) (h : 400 < n) :
    Calls Tryd.prog 7 #[.slice a n cap, .int .i64 at0] W fun e W' => e = .returned (.bool true) ∧ Below W.heap.size W W' := by
  go_enter Tryd.func7, Tryd.ntmps7
  go_wp2
  go_ret
  exact ⟨rfl, Below.refl _ _⟩

theorem bitsSum_small (a : Option Addr) (n cap j : Nat) (at0 q : Int) (l : List Bool) (W : World) (hT : Tab W) (hn : n = l.length) (h : n ≤ 400) (hR : RowAt W a n fun i => .bool (l.getD i false))
    (hj : (at0 < 0 ∧ j = 0 ∧ q = 0) ∨ (at0 = 0 ∧ j = 0 ∧ q = 0) ∨ (at0 = j ∧ 0 < j ∧ j ≤ n ∧ q = j) ∨ (at0 = j ∧ n < j ∧ q = n)) :
    Calls Tryd.prog 7 #[.slice a n cap, .int .i64 at0] W fun e W' => e = .returned (.bool true) ∧ Below W.heap.size W W' := by
  have S := hid (start_bits (cap := cap) hT hn (by omega) hR)
  obtain ⟨r, hr⟩ : ∃ r, r = Bm.cnt l n := ⟨_, rfl⟩
  have hrn : r ≤ n := by rw [hr]; exact Bm.cnt_le l n
  have hrk : Bm.rank l n = r := by rw [hr]; rfl
  obtain ⟨r0, hr0⟩ : ∃ r0, r0 = Bm.cnt l (min j n) := ⟨_, rfl⟩
  have hrn0 : r0 ≤ r := by rw [hr0, hr]; exact Bm.cnt_mono l (by omega)
  have hrk0 : Bm.rank l q = r0 := by rw [hr0]; unfold Bm.rank; rw [show q.toNat = min j n by omega]
  have HR := hid hr
  have HR0 := hid hr0
  have HK := hid hrk
  have HK0 := hid hrk0
  clear hr hrk hr0 hrk0
  have HN := hid hn
  clear hn
  go_enter Tryd.func7, Tryd.ntmps7
  go_wp2_with fail
  refine S.out.mono ?_
  rintro e w1 ⟨p, rfl, hb1, V0, R0, K0⟩
  have V := hid V0
  have R := hid R0
  have KN := hid K0
  have HB1 := hid hb1
  have hb0 := Below.refl w1.heap.size w1
  clear S hR hT hb1 V0 R0 K0
  have RA := hid (fun W' hW' => V.out.rank W' n hW')
  rw [HK.out] at RA
  have RB := hid (fun W' hW' => V.out.rank W' q hW')
  rw [HK0.out] at RB
  have GE := hid (fun (k : Nat) W' hW' => V.out.get W' k hW')
  clear HK HK0
  rcases hj with ⟨hj, rfl, rfl⟩ | ⟨rfl, rfl, rfl⟩ | ⟨rfl, h1, h2, rfl⟩ | ⟨rfl, h1, rfl⟩
  all_goals
    go_wp2_with (go_at_call 13; refine (RA.out _ (by assumption)).mono ?_; rintro e w' ⟨rfl, hb⟩)
    go_loopw [7, 8] (fun s7 s8 wr => ∃ c t : Nat, s7 = .int .i64 c ∧ s8 = .int .i64 t ∧ c + r0 ≤ r ∧ Hid (c + r0 = Bm.cnt l (min t n)) ∧ Below w1.heap.size w1 wr) (fun _ s8 _ => n - (intOf s8).toNat)
    case atStart => exact ⟨0, _, rfl, rfl, by omega, by rw [HR0.out]; exact Nat.zero_add _, by assumption⟩
    case round =>
      obtain ⟨c, t, rfl, rfl, hcr, HC, hb⟩ := hrel
      by_cases hlt : t < n
      · have G := hid (fun W' hW' => GE.out t W' hW')
        rw [show (decide (0 ≤ (t : Int)) && l.getD (t : Int).toNat false) = l.getD t false by simp] at G
        have hs := Bm.cnt_succ l t
        have hm := Bm.cnt_mono l (show t + 1 ≤ n by omega)
        rw [← HR.out] at hm
        have hc0 := HC.out
        rw [show min t n = t by omega] at hc0
        cases hbit : l.getD t false <;> rw [hbit] at G hs
        · have HC' := hid (show c + r0 = Bm.cnt l (min (t + 1) n) by rw [show min (t + 1) n = t + 1 by omega, hs, hc0]; simp)
          clear hbit hs hm hc0
          go_wp2_with (go_at_call 12; refine (G.out _ (by assumption)).mono ?_; rintro e w' ⟨rfl, hb⟩)
          go_roundw
          case rel => exact ⟨c, t + 1, rfl, by go_num, hcr, HC', by assumption⟩
          case measure => simp [intOf]; omega
        · have HC' := hid (show c + 1 + r0 = Bm.cnt l (min (t + 1) n) by rw [show min (t + 1) n = t + 1 by omega, hs, ← hc0]; simp; omega)
          have hcr' : c + 1 + r0 ≤ r := by simp at hs; omega
          clear hbit hs hm hc0
          go_wp2_with (go_at_call 12; refine (G.out _ (by assumption)).mono ?_; rintro e w' ⟨rfl, hb⟩)
          go_roundw
          case rel => exact ⟨c + 1, t + 1, by go_num, by go_num, hcr', HC', by assumption⟩
          case measure => simp [intOf]; omega
      · have hcn : c + r0 = r := by have := HC.out; rw [show min t n = n by omega, ← HR.out] at this; exact this
        have hcb : ((r0 : Int) + (c : Int) == (r : Int)) = true := by rw [beq_iff_eq]; omega
        clear hcn
        go_wp2_with (first
          | (go_at_call 13; refine (RB.out _ (by assumption)).mono ?_; rintro e w' ⟨rfl, hb⟩)
          | (go_at_call 19; refine (KN.out _ (by assumption)).mono ?_; rintro e w' ⟨rfl, hb⟩; have hz := below_then HB1.out (below_then (by assumption) hb)))
        go_ret
        exact ⟨rfl, by assumption⟩

theorem bitsSum_walk (H : Type) (enc : TypeId × Value → H) (W : World) (base : Nat) (args : Array Value) (ds gs : List (DataW H)) (before : List MemPlace)
    (hval : ∀ (j : Nat) t v, Tryd.f7.params[j]? = some t → args[j]? = some v → Value.okWide Tryd.prog W .any base t v)
    (hW : DataW.Whole enc Tryd.prog Tryd.f7.params.toList Rows.bitsSumSpec.vars false W args.toList ds gs before)
    (hz : (DataW.weightsEach Tryd.prog (Tryd.f7.params.toList ++ Rows.bitsSumSpec.plain.varTypes Tryd.prog) (ds ++ gs)).all (· ≤ reachBytes) = true)
    (hL : laidMetH Tryd.prog Rows.bitsSumRow.laid W) (hsh : W.ShapedOpen Tryd.prog) :
    Calls Tryd.prog 7 args W fun e W' => e = .returned (.bool true) ∧ Below W.heap.size W W' := by
  obtain ⟨p, q, hA, _, _, _, _⟩ := hW
  rw [Tryd.params7] at hA hval
  obtain ⟨v0, vs0, d0, ds0, p0, q0, hargs, rfl, rfl, h0, r0⟩ := trodAll_cons hA
  obtain ⟨v1, vs1, d1, ds1, p1, q1, rfl, rfl, rfl, h1, r1⟩ := trodAll_cons r0
  obtain ⟨rfl, rfl, rfl⟩ := trodAll_nil r1
  obtain rfl : args = #[v0, v1] := by cases args; simp_all
  obtain ⟨a0, cap0, l0, rfl, hl0, hm0, hnil0, hr0⟩ := read_bools Tryd.underlying22 Tryd.underlying4 cellsBool (hval 0 22 v0 rfl rfl) h0
  obtain ⟨x1, rfl, rfl, rfl, w1⟩ := open_int Tryd.underlying3 (hval 1 3 v1 rfl rfl) h1
  by_cases hb : 400 < l0.length
  · exact bitsSum_big a0 _ cap0 x1 W hb
  · by_cases h : x1 ≤ 0
    · exact bitsSum_small a0 _ cap0 0 x1 0 l0 W (tab_of hL) rfl (by omega) hr0 (by omega)
    · by_cases h2 : x1 ≤ l0.length
      · exact bitsSum_small a0 _ cap0 x1.toNat x1 x1.toNat l0 W (tab_of hL) rfl (by omega) hr0 (by omega)
      · exact bitsSum_small a0 _ cap0 x1.toNat x1 l0.length l0 W (tab_of hL) rfl (by omega) hr0 (by omega)

theorem bitsSum_lifted (os : Os) (started : os.Started) (H : Type) (enc : TypeId × Value → H) (F : Stop.Interp) :
    ReturnsInHanded {} Tryd.checked os 7 .any ((OpenSpec.ofChange Rows.bitsSumSpec).preRow enc Tryd.prog Tryd.f7 Rows.bitsSumRow.domain false Rows.bitsSumRow.laid) (((OpenSpec.ofChange Rows.bitsSumSpec).at F).post enc Tryd.prog Tryd.f7 false true false false) := by
  obtain ⟨places, hx⟩ : ∃ places, DataW.whole enc Tryd.prog ((laidWorld os).forCall (fun _ _ => 0) ⟨#[], #[.slice none 0 0, .int .i64 0], []⟩).memory Tryd.f7.params.toList Rows.bitsSumSpec.vars false (#[.slice none 0 0, .int .i64 0] : Array Value).toList 8 = some ([.nil, .lit (.int .i64 0)], [], places) := ⟨[], by kernel_rfl⟩
  refine returnsInHanded_of_row (C := Tryd.checked) (s := OpenSpec.ofChange Rows.bitsSumSpec) own started (by kernel_rfl) Tryd.func7
    (witness_row_at (enc := enc) (C := Tryd.checked) false (laidWorld os) #[.slice none 0 0, .int .i64 0] rfl (by kernel_rfl) (by kernel_rfl) (by kernel_rfl)
      (OpenSpec.preRow_of_cond 8 hx (by kernel_rfl) (fun k hk => by cases hk) (by kernel_rfl) (laidMet_of_run' 8 (by kernel_rfl) (by kernel_rfl)))) ?_
  intro W base args ds gs before hval hW _ _ hz hL hsh _
  refine (bitsSum_walk H enc W base args ds gs before hval hW hz hL hsh).mono fun e W' ⟨he, hb⟩ => ⟨_, he, ?_⟩
  exact law_post (fn := Tryd.f7) (s := Rows.bitsSumSpec) (tb := 4) rfl (fun ds hd => by match ds, hd with | [d0, d1], _ => rfl) rfl Tryd.underlying4 (by kernel_rfl) hW hb

theorem bitsSum_said : Rows.BitsSumSaid :=
  OpenClaim.holds_of_cond 7 Tryd.f7 rfl rfl rfl rfl rfl rfl rfl ⟨rfl, rfl, rfl, rfl, rfl⟩ rfl rfl rfl rfl rfl (by kernel_rfl) Tryd.func7 (by kernel_rfl)
    (of_decide_eq_true (by kernel_rfl)) (by unfold Func.isWrapper; first | (rw [if_pos (by decide +kernel)]; kernel_rfl) | (rw [if_neg (by decide +kernel)]; exact ⟨rfl, rfl⟩))
    (fun os started H enc _ F => by rw [OpenClaim.pre_eq_preRow]; exact bitsSum_lifted os started H enc F)

theorem bitsSum_plain (f : FuncId) (fn : Func) (hf : Tryd.pinned.checked.prog.funcNamed Rows.bitsSumRow.func = some f) (hfn : Tryd.pinned.checked.prog.funcs[f]? = some fn) :
    false = Tryd.pinned.checked.prog.looks [] ∧ ∀ (j : Nat) t, fn.params[j]? = some t → Tryd.pinned.checked.prog.wantsStandIn t = false := by
  obtain rfl : f = 7 := Option.some.inj ((show Tryd.prog.funcNamed Rows.bitsSumRow.func = some 7 by kernel_rfl).symm.trans hf) |>.symm
  obtain rfl : fn = Tryd.f7 := (Option.some.inj (Tryd.func7.symm.trans hfn)).symm
  refine ⟨by kernel_rfl, fun j t ht => ?_⟩
  have h := Array.mem_of_getElem? ht
  have hall : Tryd.f7.params.all (fun t => !Tryd.prog.wantsStandIn t) = true := by kernel_rfl
  have := Array.all_eq_true_iff_forall_mem.1 hall t h
  show Tryd.prog.wantsStandIn t = false
  simpa using this

/-- THE STATEMENT. -/
theorem bitsSum_card : Rows.BitsSumCardSaid :=
  Claim7.holds_tied_plain_at .later [] _ _ _ _ bitsSum_said (fun _ h => by cases h) (by kernel_rfl) (fun _ h => by cases h) bitsSum_row_tie rfl ⟨rfl, rfl⟩ (by kernel_rfl) rfl bitsSum_plain (by kernel_rfl)
end Go.Proofs.YtmjnacbimafahaaDoor
