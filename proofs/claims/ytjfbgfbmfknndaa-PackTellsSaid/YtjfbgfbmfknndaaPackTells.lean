/- PackTells: any numbers as bytes, any bytes as numbers, widths: for every input. -/
import Derived.Test.YtjfbgfbmfknndaaPackLaw
namespace Go.Proofs.Ytjfbgfbmfknndaa
set_option linter.unusedVariables false
set_option linter.unusedSimpArgs false
set_option maxRecDepth 100000
open Go.ChangeShapes Go.WideShapes Go.ChangeAt Go.RowKit

theorem packTells_big (a c : Option Addr) (n cap m cap2 : Nat) (w i j : Int) (W : World) (h : 1100 < n ∨ (n ≤ 1100 ∧ 3000 < m)) :
    Calls Try.prog 3 #[.slice a n cap, .int .i64 w, .slice c m cap2, .int .i64 i, .int .i64 j] W fun e W' => e = .returned (.bool true) ∧ Below W.heap.size W W' := by
  rcases h with h | ⟨h, h2⟩
  all_goals
    go_enter Try.func3, Try.ntmps3
    go_wp2
    go_ret
    exact ⟨rfl, Below.refl _ _⟩
theorem packTells_small (a c : Option Addr) (cap cap2 : Nat) (l : List Int) (k : List Nat) (w i j : Int) (W : World) (h1 : l.length ≤ 1100) (h2 : k.length ≤ 3000) (hi : i ≤ 9223372036854775807)
    (hl : ∀ i, -9223372036854775808 ≤ l.getD i 0 ∧ l.getD i 0 ≤ 9223372036854775807) (hk : ∀ i, k.getD i 0 < 256)
    (hR : RowAt W a l.length fun i => .int .i64 (l.getD i 0)) (hK : RowAt W c k.length fun i => .int .u8 (k.getD i 0 : Nat)) :
    Calls Try.prog 3 #[.slice a l.length cap, .int .i64 w, .slice c k.length cap2, .int .i64 i, .int .i64 j] W fun e W' => e = .returned (.bool true) ∧ Below W.heap.size W W' := by
  obtain ⟨n, hn⟩ : ∃ n, n = l.length := ⟨_, rfl⟩
  obtain ⟨m, hm⟩ : ∃ m, m = k.length := ⟨_, rfl⟩
  have LA : NumsAt W (.slice a n cap) l := ⟨a, cap, by rw [hn], hR⟩
  have KA : BytesAt W (.slice c m cap2) k := ⟨c, cap2, by rw [hm], hK⟩
  have SP := hid (pack_all _ W l w (fun i _ => (hl i).2) LA)
  have SR := hid (fun W' hb => rpack_all _ W' l w (by omega) (fun i _ => (hl i).2) (LA.keep hb))
  have SU := hid (fun W' hb => unpack_all _ W' k i j (by unfold maxLen; omega) hk (KA.keep hb))
  have SV := hid (fun W' hb => runpack_all _ W' k i j (by unfold maxLen; omega) hk (KA.keep hb))
  have ul : (unList k i j).length ≤ 9223372036854775807 := by
    rcases unList_length (l := k) (n := i) (w := j) with h | h
    · rw [h]; decide
    · rw [h]; omega
  have SM := hid (fun W' v v' h h' => rsame_all v v' (unList k i j) (unList k i j) W' true ul ul (by simp) h h')
  have WD := hid (fun W' => width_any i W' hi)
  have RD := hid (fun W' => rwidth_any i W' hi)
  have KN := hid (fun W' => known_any W')
  have hst : ((strOf (pkList l w)).toList == (strOf (pkList l w)).toList) = true := by simp
  obtain ⟨wd, hwd⟩ : ∃ wd : Int, wd = (Bn.width i.toNat : Nat) := ⟨_, rfl⟩
  obtain ⟨st, hst0⟩ : ∃ st, st = strOf (pkList l w) := ⟨_, rfl⟩
  obtain ⟨pc, hpc⟩ : ∃ pc, pc = pkCode l w := ⟨_, rfl⟩
  obtain ⟨uc, huc⟩ : ∃ uc, uc = unCode k i j := ⟨_, rfl⟩
  rw [← hwd] at WD RD
  rw [← hst0] at hst
  rw [← hpc] at SP SR
  rw [← huc] at SU SV
  rw [← hn] at h1 ⊢
  rw [← hm] at h2 ⊢
  have HS := hid hst0
  clear hwd hpc huc hst0 hn hm LA KA ul hR hK hi hl hk
  go_enter Try.func3, Try.ntmps3
  go_wp2_with fail
  refine SP.out.mono ?_
  rintro e w1 ⟨p1, rfl, hb1, B1⟩
  have HB1 := hid hb1
  have BB1 := hid B1
  clear SP hb1 B1
  go_wp2_with fail
  refine (SR.out _ HB1.out).mono ?_
  rintro e w2 ⟨p2, rfl, hb2, B2⟩
  have BB1' := hid (BB1.out.keep hb2)
  have HB2 := hid (below_then HB1.out hb2)
  have BB2 := hid B2
  clear SR BB1 HB1 hb2 B2
  go_wp2_with fail
  refine (SU.out _ HB2.out).mono ?_
  rintro e w3 ⟨p3, rfl, hb3, B3⟩
  have BB1 := hid (BB1'.out.keep hb3)
  have BB2' := hid (BB2.out.keep hb3)
  have HB3 := hid (below_then HB2.out hb3)
  have BB3 := hid B3
  clear SU BB1' BB2 HB2 hb3 B3
  go_wp2_with fail
  refine (SV.out _ HB3.out).mono ?_
  rintro e w4 ⟨p4, rfl, hb4, B4⟩
  have C1 := conv_row w4 p1 _ (BB1.out.keep hb4)
  have C2 := conv_row w4 p2 _ (BB2'.out.keep hb4)
  have SM4 := hid (SM.out w4 p3 p4 (BB3.out.keep hb4) B4)
  have HB4 := hid (below_then HB3.out hb4)
  rw [← HS.out] at C1 C2
  clear SV SM BB1 BB2' BB3 HB3 hb4 B4
  go_wp2_with (first
    | (go_at_call 14; refine SM4.out.mono ?_; rintro e w5 ⟨rfl, hb5⟩; have HB5 := hid (below_then HB4.out hb5); clear hb5)
    | (go_at_call 15; refine (WD.out _).mono ?_; rintro e w' ⟨rfl, rfl⟩)
    | (go_at_call 16; refine (RD.out _).mono ?_; rintro e w' ⟨rfl, rfl⟩)
    | (go_at_call 17; refine (KN.out _).mono ?_; rintro e w' ⟨rfl, hb6⟩; have HB6 := hid (below_then HB5.out hb6); clear hb6))
  go_ret
  exact ⟨by simp, HB6.out⟩

theorem packTells_walk (H : Type) (enc : TypeId × Value → H) (W : World) (base : Nat) (args : Array Value) (ds gs : List (DataW H)) (before : List MemPlace)
    (hval : ∀ (j : Nat) t v, Try.f3.params[j]? = some t → args[j]? = some v → Value.okWide Try.prog W .any base t v)
    (hW : DataW.Whole enc Try.prog Try.f3.params.toList Rows.packTellsSpec.vars false W args.toList ds gs before)
    (hz : (DataW.weightsEach Try.prog (Try.f3.params.toList ++ Rows.packTellsSpec.plain.varTypes Try.prog) (ds ++ gs)).all (· ≤ reachBytes) = true)
    (hL : laidMetH Try.prog Rows.packTellsRow.laid W) (hsh : W.ShapedOpen Try.prog) :
    Calls Try.prog 3 args W fun e W' => e = .returned (.bool true) ∧ Below W.heap.size W W' := by
  obtain ⟨p, q, hA, _, _, _, _⟩ := hW
  rw [Try.params3] at hA hval
  obtain ⟨v0, vs0, d0, ds0, p0, q0, hargs, rfl, rfl, h0, r0⟩ := trodAll_cons hA
  obtain ⟨v1, vs1, d1, ds1, p1, q1, rfl, rfl, rfl, h1, r1⟩ := trodAll_cons r0
  obtain ⟨v2, vs2, d2, ds2, p2, q2, rfl, rfl, rfl, h2, r2⟩ := trodAll_cons r1
  obtain ⟨v3, vs3, d3, ds3, p3, q3, rfl, rfl, rfl, h3, r3⟩ := trodAll_cons r2
  obtain ⟨v4, vs4, d4, ds4, p4, q4, rfl, rfl, rfl, h4, r4⟩ := trodAll_cons r3
  obtain ⟨rfl, rfl, rfl⟩ := trodAll_nil r4
  obtain rfl : args = #[v0, v1, v2, v3, v4] := by cases args; simp_all
  obtain ⟨a0, cap0, l0, rfl, hl0, hm0, hnil0, hb0, hr0⟩ := read_ints Try.underlying22 Try.underlying3 (show Try.prog.cellsOf 3 = 1 by kernel_rfl) (hval 0 22 v0 rfl rfl) h0
  obtain ⟨x1, rfl, rfl, rfl, w1⟩ := open_int Try.underlying3 (hval 1 3 v1 rfl rfl) h1
  obtain ⟨a2, cap2, l2, rfl, hl2, hm2, hnil2, hb2, hr2⟩ := read_bytes Try.underlying23 Try.underlying5 (show Try.prog.cellsOf 5 = 1 by kernel_rfl) (hval 2 23 v2 rfl rfl) h2
  obtain ⟨x3, rfl, rfl, rfl, w3⟩ := open_int Try.underlying3 (hval 3 3 v3 rfl rfl) h3
  obtain ⟨x4, rfl, rfl, rfl, w4⟩ := open_int Try.underlying3 (hval 4 3 v4 rfl rfl) h4
  by_cases hb : 1100 < l0.length ∨ (l0.length ≤ 1100 ∧ 3000 < l2.length)
  · exact packTells_big a0 a2 _ cap0 _ cap2 x1 x3 x4 W hb
  · exact packTells_small a0 a2 cap0 cap2 l0 l2 x1 x3 x4 W (by omega) (by omega) (by have := bounds_i64 w3; omega) hb0 hb2 hr0 hr2

theorem packTells_lifted (os : Os) (started : os.Started) (H : Type) (enc : TypeId × Value → H) (F : Stop.Interp) :
    ReturnsInHanded {} Try.checked os 3 .any ((OpenSpec.ofChange Rows.packTellsSpec).preRow enc Try.prog Try.f3 Rows.packTellsRow.domain false Rows.packTellsRow.laid) (((OpenSpec.ofChange Rows.packTellsSpec).at F).post enc Try.prog Try.f3 false true false false) := by
  obtain ⟨places, hx⟩ : ∃ places, DataW.whole enc Try.prog ((World.holding Try.prog os ⟨#[], #[], []⟩).forCall (fun _ _ => 0) ⟨#[], #[.slice none 0 0, .int .i64 0, .slice none 0 0, .int .i64 0, .int .i64 0], []⟩).memory Try.f3.params.toList Rows.packTellsSpec.vars false (#[.slice none 0 0, .int .i64 0, .slice none 0 0, .int .i64 0, .int .i64 0] : Array Value).toList 8 = some ([.nil, .lit (.int .i64 0), .nil, .lit (.int .i64 0), .lit (.int .i64 0)], [], places) := ⟨[], by kernel_rfl⟩
  refine returnsInHanded_of_row (C := Try.checked) (s := OpenSpec.ofChange Rows.packTellsSpec) own started (by kernel_rfl) Try.func3
    (witness_row_at (enc := enc) (C := Try.checked) false (World.holding Try.prog os ⟨#[], #[], []⟩) #[.slice none 0 0, .int .i64 0, .slice none 0 0, .int .i64 0, .int .i64 0] rfl (by kernel_rfl) (by kernel_rfl) (by kernel_rfl)
      (OpenSpec.preRow_of_cond 8 hx (by kernel_rfl) (fun k hk => by cases hk) (by kernel_rfl) (laidMet_nil _ _))) ?_
  intro W base args ds gs before hval hW _ _ hz hL hsh _
  refine (packTells_walk H enc W base args ds gs before hval hW hz hL hsh).mono fun e W' ⟨he, hb⟩ => ⟨_, he, ?_⟩
  exact law_post (fn := Try.f3) (s := Rows.packTellsSpec) (tb := 4) rfl (fun ds hd => by match ds, hd with | [d0, d1, d2, d3, d4], _ => rfl) rfl Try.underlying4 (by kernel_rfl) hW hb

theorem packTells_said : Rows.PackTellsSaid :=
  OpenClaim.holds_of_cond 3 Try.f3 rfl rfl rfl rfl rfl rfl rfl ⟨rfl, rfl, rfl, rfl, rfl⟩ rfl rfl rfl rfl rfl (by kernel_rfl) Try.func3 (by kernel_rfl)
    (of_decide_eq_true (by kernel_rfl)) (by unfold Func.isWrapper; first | (rw [if_pos (by decide +kernel)]; kernel_rfl) | (rw [if_neg (by decide +kernel)]; exact ⟨rfl, rfl⟩))
    (fun os started H enc _ F => by rw [OpenClaim.pre_eq_preRow]; exact packTells_lifted os started H enc F)
end Go.Proofs.Ytjfbgfbmfknndaa
