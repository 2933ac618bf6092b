/- RingOwn: what is handed in is not kept, what is answered is new memory. -/
import Derived.Test.YtagadfgginneeaaRgLaw
namespace Go.Proofs.Ytagadfgginneeaa
set_option linter.unusedVariables false
set_option linter.unusedSimpArgs false
set_option maxRecDepth 100000
open Go.ChangeShapes Go.WideShapes Go.ChangeAt Go.RowKit
set_option maxHeartbeats 1000000 in
theorem ringOwn_in (n : Int) (W : World) : Calls Try.prog 10 #[.int .i64 n] W fun e W' => e = .returned (.bool true) ∧ Below W.heap.size W W' := by
  obtain ⟨L, hL⟩ : ∃ L : List Rg.T, L = [(1, 2, 3), (1, 2, 4)] := ⟨_, rfl⟩
  have hm : RMay L := by rw [hL]; exact (mayB_iff _).1 (by decide)
  have e0 : L.filter (Rg.mt (0, 0, 0)) = L := by rw [hL]; decide
  have e1 : L.countP (Rg.mt (1, 2, 3)) = 1 := by rw [hL]; decide
  have hl2 : L.length = 2 := by rw [hL]; rfl
  have l0 : ∀ c, c < 3 → (-9223372036854775808 : Int) ≤ Rg.at' (0, 0, 0) c := by intro c hc; rcases Rg.c3 hc with rfl | rfl | rfl <;> decide
  have l1 : ∀ c, c < 3 → (-9223372036854775808 : Int) ≤ Rg.at' (1, 2, 3) c := by intro c hc; rcases Rg.c3 hc with rfl | rfl | rfl <;> decide
  have HL := hid hL
  have HM := hid hm
  have H0 := hid l0
  have H1 := hid l1
  have E0 := hid e0
  have E1 := hid e1
  have HL2 := hid hl2
  clear hL hm l0 l1 e0 e1 hl2
  go_enter Try.func10, Try.ntmps10
  go_upto_region 2 with fail
  have hat := lit2_at (1, 2, 3) (1, 2, 4) W
  rw [← HL.out] at hat
  obtain ⟨w1, hw1⟩ : ∃ w1, w1 = W.alloc (.cells #[.int .i64 1, .int .i64 2, .int .i64 3, .int .i64 1, .int .i64 2, .int .i64 4] 24) := ⟨_, rfl⟩
  rw [← hw1]
  have hat1 : IdsAt w1 (.slice (some ⟨W.heap.size, 0, none⟩) 2 2) L := by rw [hw1]; exact hat
  have HB1 := hid (show Below W.heap.size W w1 by rw [hw1]; exact (Below.refl _ _).alloc (Nat.le_refl _) _)
  have HK1 := hid (show Blk w1 W.heap.size [.int .i64 1, .int .i64 2, .int .i64 3, .int .i64 1, .int .i64 2, .int .i64 4] 24 by rw [hw1]; exact Blk.new W _ _)
  have NW := rgnew_ok _ L w1 hat1 HM.out
  clear hw1 hat hat1
  go_upto_region 3 with (go_at_call 11; refine NW.mono ?_; rintro e w2 ⟨p, rfl, hb2, hF2⟩)
  have HF2 := hid hF2
  have HB2 := hid (below_then HB1.out hb2)
  have HK2 := hid (HK1.out.keep hb2)
  have c0 := HK2.out.cell (i := 0) rfl
  have f0 := HK2.out.free 0
  have hlt := HK1.out.lt
  clear NW hb2 hF2
  go_upto_region 4 with fail
  obtain ⟨w3, hw3⟩ : ∃ w3, w3 = w2.setCell ⟨W.heap.size, 0, none⟩ (.int .i64 n) := ⟨_, rfl⟩
  rw [← hw3]
  have HR3 := hid (show IsRing w3 p L by rw [hw3]; exact (fresh_set HF2.out W.heap.size 0 (.int .i64 n) hlt).it)
  have HB3 := hid (show Below W.heap.size W w3 by rw [hw3]; exact HB2.out.setCell (Nat.le_refl _) _)
  clear hw3 c0 f0 HF2 HK2 HB2
  have AL := rall_any p L (0, 0, 0) w3 HR3.out H0.out
  rw [E0.out] at AL
  unfold tv at AL
  go_upto_region 7 with (go_at_call 18; refine AL.mono ?_; rintro e w4 ⟨v4, rfl, ⟨a4, cap4, hv4, hI4, hO4⟩, hb4⟩; subst hv4)
  have hg : ∃ g, a4 = some ⟨g, 0, none⟩ ∧ w3.heap.size ≤ g ∧ g < w4.heap.size ∧ Go.Sort.HoldsK tl 3 w4 g 0 L.toArray := by
    rcases hO4 with h | h
    · have := HL2.out; omega
    · exact h
  obtain ⟨g, rfl, hg1, hg2, hH⟩ := hg
  have hc := Go.Sort.HoldsK.cell hH (i := 0) (c := 2) (by simp [HL2.out]) (by omega)
  have c2 := hc.1
  have f2 := hc.2
  rw [show 0 + 0 * 3 + 2 = 2 by omega] at c2 f2
  have HB4 := hid hb4
  rw [HL2.out]
  clear AL hI4 hO4 hH hc hb4
  go_upto_region 10 with fail
  obtain ⟨w5, hw5⟩ : ∃ w5, w5 = w4.setCell ⟨g, 2, none⟩ (.int .i64 n) := ⟨_, rfl⟩
  rw [← hw5]
  have HB35 := hid (show Below w3.heap.size w3 w5 by rw [hw5]; exact HB4.out.setCell hg1 _)
  have HR5 := hid (HR3.out.keep HB35.out)
  have HB5 := hid (below_then HB3.out HB35.out)
  clear hw5 c2 f2
  have CN := count_any p L (1, 2, 3) w5 HR5.out H1.out
  rw [E1.out] at CN
  unfold tv at CN
  go_wp2_with (go_at_call 16; refine CN.mono ?_; rintro e w6 ⟨rfl, hb6⟩)
  have HB6 := hid (below_then HB5.out hb6)
  have AL := rall_any p L (0, 0, 0) w6 (HR5.out.keep hb6) H0.out
  rw [E0.out] at AL
  unfold tv at AL
  clear CN hb6
  go_wp2_with (go_at_call 18; refine AL.mono ?_; rintro e w7 ⟨v7, rfl, hN7, hb7⟩)
  have hat := lit2_at (1, 2, 3) (1, 2, 4) w7
  rw [← HL.out] at hat
  have HAT := hid hat
  have HN7 := hid (hN7.at.keep ((Below.refl w7.heap.size w7).alloc (Nat.le_refl _) (.cells #[.int .i64 1, .int .i64 2, .int .i64 3, .int .i64 1, .int .i64 2, .int .i64 4] 24)))
  have HB7 := hid (below_then HB6.out hb7)
  have hl140 : L.length ≤ 140737488351232 := by rw [HL2.out]; omega
  have SM := rsame_any v7 (.slice (some ⟨w7.heap.size, 0, none⟩) 2 2) L L _ HN7.out HAT.out hl140 hl140
  rw [decide_eq_true (rfl : L = L)] at SM
  clear AL hN7 hat hb7
  go_wp2_with (go_at_call 17; refine SM.mono ?_; rintro e w8 ⟨rfl, hb8⟩)
  have HB8 := hid (below_then (HB7.out.alloc (by have := HB7.out.size; omega) _) hb8)
  clear SM hb8
  go_wp2_with (go_at_call 13; refine (known_any _).mono ?_; rintro e w9 ⟨rfl, hb9⟩)
  go_ret
  exact ⟨rfl, below_then HB8.out hb9⟩

theorem ringOwn_walk (H : Type) (enc : TypeId × Value → H) (W : World) (base : Nat) (args : Array Value) (ds gs : List (DataW H)) (before : List MemPlace)
    (hval : ∀ (j : Nat) t v, Try.f10.params[j]? = some t → args[j]? = some v → Value.okWide Try.prog W .any base t v)
    (hW : DataW.Whole enc Try.prog Try.f10.params.toList Rows.ringOwnSpec.vars false W args.toList ds gs before)
    (hz : (DataW.weightsEach Try.prog (Try.f10.params.toList ++ Rows.ringOwnSpec.plain.varTypes Try.prog) (ds ++ gs)).all (· ≤ reachBytes) = true)
    (hL : laidMetH Try.prog Rows.ringOwnRow.laid W) (hsh : W.ShapedOpen Try.prog) :
    Calls Try.prog 10 args W fun e W' => e = .returned (.bool true) ∧ Below W.heap.size W W' := by
  obtain ⟨p, q, hA, _, _, _, _⟩ := hW
  rw [Try.params10] at hA hval
  rw [Try.params10] at hz
  obtain ⟨v0, vs0, d0, ds0, p0, q0, hargs, rfl, rfl, h0, r0⟩ := trodAll_cons hA
  obtain ⟨rfl, rfl, rfl⟩ := trodAll_nil r0
  obtain rfl : args = #[v0] := by cases args; simp_all
  obtain ⟨x0, rfl, rfl, rfl, w0⟩ := open_int Try.underlying3 (hval 0 3 v0 rfl rfl) h0
  have b0 := bounds_i64 w0
  exact ringOwn_in x0 W

theorem ringOwn_lifted (os : Os) (started : os.Started) (H : Type) (enc : TypeId × Value → H) (F : Stop.Interp) :
    ReturnsInHanded {} Try.checked os 10 .any ((OpenSpec.ofChange Rows.ringOwnSpec).preRow enc Try.prog Try.f10 Rows.ringOwnRow.domain false Rows.ringOwnRow.laid) (((OpenSpec.ofChange Rows.ringOwnSpec).at F).post enc Try.prog Try.f10 false true false false) := by
  obtain ⟨places, hx⟩ : ∃ places, DataW.whole enc Try.prog ((World.holding Try.prog os ⟨#[], #[], []⟩).forCall (fun _ _ => 0) ⟨#[], #[.int .i64 0], []⟩).memory Try.f10.params.toList Rows.ringOwnSpec.vars false (#[.int .i64 0] : Array Value).toList 8 = some ([.lit (.int .i64 0)], [], places) := ⟨[], by kernel_rfl⟩
  refine returnsInHanded_of_row (C := Try.checked) (s := OpenSpec.ofChange Rows.ringOwnSpec) own started (by kernel_rfl) Try.func10
    (witness_row_at (enc := enc) (C := Try.checked) false (World.holding Try.prog os ⟨#[], #[], []⟩) #[.int .i64 0] rfl (by kernel_rfl) (by kernel_rfl) (by kernel_rfl)
      (OpenSpec.preRow_of_cond 8 hx (by kernel_rfl) (fun k hk => by cases hk) (by kernel_rfl) (laidMet_nil _ _))) ?_
  intro W base args ds gs before hval hW _ _ hz hL hsh _
  refine (ringOwn_walk H enc W base args ds gs before hval hW hz hL hsh).mono fun e W' ⟨he, hb⟩ => ⟨_, he, ?_⟩
  exact law_post (fn := Try.f10) (s := Rows.ringOwnSpec) (tb := 4) rfl (fun ds hd => by match ds, hd with | [d0], _ => rfl) rfl Try.underlying4 (by kernel_rfl) hW hb

theorem ringOwn_said : Rows.RingOwnSaid :=
  OpenClaim.holds_of_cond 10 Try.f10 rfl rfl rfl rfl rfl rfl rfl ⟨rfl, rfl, rfl, rfl, rfl⟩ rfl rfl rfl rfl rfl (by kernel_rfl) Try.func10 (by kernel_rfl)
    (of_decide_eq_true (by kernel_rfl)) (by unfold Func.isWrapper; first | (rw [if_pos (by decide +kernel)]; kernel_rfl) | (rw [if_neg (by decide +kernel)]; exact ⟨rfl, rfl⟩))
    (fun os started H enc _ F => by rw [OpenClaim.pre_eq_preRow]; exact ringOwn_lifted os started H enc F)
end Go.Proofs.Ytagadfgginneeaa
