/- CrcTurned: two rows that differ in one byte have unlike sums, for every input. -/
import Derived.Test.YtoccijceceikoaaCrcRef
import Derived.Deep.AppendLies
namespace Go.Proofs.Ytoccijceceikoaa
set_option linter.unusedVariables false
set_option linter.unusedSimpArgs false
set_option maxRecDepth 100000
open Go.ChangeShapes Go.WideShapes Go.ChangeAt Go.RowKit

theorem Try.info5 : (Try.prog.info? 5).map (fun i => (i.zero, i.size, i.bytes)) = some (some (.int .u8 0), 1, 1) := by kernel_rfl
theorem crcTurned_out (a : Option Addr) (n cap : Nat) (at0 y : Int) (W : World) (hnm : n ≤ 9223372036854775807) (h : n = 0 ∨ 1000 < n ∨ (1 ≤ n ∧ n ≤ 1000 ∧ y = 0)) :
    Calls Try.prog 5 #[.slice a n cap, .int .i64 at0, .int .u8 y] W fun e W' => e = .returned (.bool true) ∧ Below W.heap.size W W' := by
  rcases h with rfl | h | ⟨h0, h1, rfl⟩
  all_goals
    go_enter Try.func5, Try.ntmps5
    go_wp2
    go_ret
    exact ⟨rfl, Below.refl _ _⟩
theorem and_low (x : Int) : ∃ A : Nat, A ≤ 65535 ∧ bits BinOp.and IntKind.i64 x 65535 = (A : Int) := by
  refine ⟨((BitVec.ofInt 64 x) &&& 65535#64).toNat, ?_, ?_⟩
  · rw [BitVec.toNat_and]
    exact Nat.and_le_right
  · show IntKind.i64.wrap ((BitVec.ofInt 64 x &&& BitVec.ofInt 64 65535).toNat : Int) = _
    have h : ((BitVec.ofInt 64 x) &&& 65535#64).toNat ≤ 65535 := by rw [BitVec.toNat_and]; exact Nat.and_le_right
    rw [show BitVec.ofInt 64 65535 = 65535#64 from rfl]
    exact IntWalk.i64_in _ ⟨by omega, by omega⟩
theorem getD_set (B : List Nat) (q x i : Nat) (hq : q < B.length) : (B.set q x).getD i 0 = if i = q then x else B.getD i 0 := by
  simp only [List.getD, List.getElem?_set]
  by_cases h : i = q
  · subst h; simp [hq]
  · rw [if_neg (Ne.symm h), if_neg h]
theorem xor_ne (c y : Nat) (hy : 0 < y) : c ^^^ y ≠ c := by
  intro h
  have := congrArg (fun z => c ^^^ z) h
  simp only [← Nat.xor_assoc, Nat.xor_self, Nat.zero_xor] at this
  omega
theorem list_map_range (l : List Nat) (n : Nat) (hn : n = l.length) : (List.range n).map (fun i => u8v (l.getD i 0)) = l.map u8v := by
  subst hn
  refine List.ext_getElem (by simp) fun i h1 h2 => ?_
  simp [List.getD, show i < l.length by simpa using h1]

set_option maxHeartbeats 1000000 in
theorem crcTurned_in (a : Option Addr) (n cap : Nat) (at0 : Int) (y : Nat) (l : List Nat) (W : World) (hn : n = l.length) (h0 : 1 ≤ n) (h1 : n ≤ 1000) (hy0 : 0 < y) (hy : y < 256) (h : BytesAt W (.slice a n cap) l) (hl : ∀ i, l.getD i 0 < 256) :
    Calls Try.prog 5 #[.slice a n cap, .int .i64 at0, .int .u8 y] W fun e W' => e = .returned (.bool true) ∧ Below W.heap.size W W' := by
  obtain ⟨i0, hi, hz0, hz1, hz2⟩ := info_parts Try.info5
  obtain ⟨A, hA, hand⟩ := and_low at0
  obtain ⟨k, hk⟩ : ∃ k, k = A % n := ⟨_, rfl⟩
  have hkn : k < n := by rw [hk]; exact Nat.mod_lt _ (by omega)
  have hkI : (A : Int) % (n : Int) = k := by rw [hk, Int.natCast_emod]
  have KN := hid (fun W' => known_any W')
  have HN := hid hn
  have HL := hid hl
  have HA := hid h
  have hrow := h.open
  obtain ⟨a', cap', e1, _, _, hnil, hr⟩ := hrow
  rw [← hn] at e1 hnil hr
  obtain ⟨rfl, rfl⟩ : a = a' ∧ cap = cap' := by simpa using e1
  have HNIL := hid hnil
  have HR := hid hr
  have hyb : ((y : Int) == 0) = false := beq_eq_false_iff_ne.2 (by omega)
  clear hk hn hl h hnil hr e1
  go_enter Try.func5, Try.ntmps5
  go_wp2_with (at_builtin; refine wpList_append_row rfl (.tmp 20) (.tmp 21) 22 rfl W.heap.size 5 i0 _ 1 Try.underlying22 hi hz0 hz1 hz2 rfl (.slice (some ⟨W.heap.size, 0, none⟩) 0 0) 0 [] rfl ?own a n cap (fun i => u8v (l.getD i 0)) rfl ?nil ?row ?one ?b1 ?b2 ?base ?_)
  case own => exact World.ownsRow_made W #[] 0 (Nat.le_refl _) (by unfold maxLen; omega) rfl
  case nil => exact HNIL.out
  case row => exact HR.out.keep ((Below.refl _ _).alloc (Nat.le_refl _) _)
  case one => intro j _; rfl
  case b1 => unfold maxLen; omega
  case b2 => omega
  case base => simp
  intro v1 w1 hown hgr
  have hb1 : Below W.heap.size W w1 := ((Below.refl W.heap.size W).alloc (Nat.le_refl _) _).grown hgr (by simp) (fun k hk => by
    simp only [Value.ownBlock, Option.some.injEq] at hk; omega)
  replace hown : w1.ownsRow W.heap.size 5 1 v1 n (l.map u8v) := by rw [← list_map_range l n HN.out]; simpa [List.getD] using hown
  obtain ⟨g, cap1, rfl, hge, hgl⟩ := hown.form (by omega)
  have c1 := hown.cellAt k (by omega)
  have f1 := hown.frozenAt k
  have hlk : (l.map u8v)[k]? = some (.int .u8 ((l.getD k 0 : Nat) : Int)) := by
    have : k < l.length := by rw [← HN.out]; exact hkn
    simp [List.getD, this, u8v]
  rw [hlk] at c1
  have hc := HL.out k
  obtain ⟨c, hc0⟩ : ∃ c, c = l.getD k 0 := ⟨_, rfl⟩
  rw [← hc0] at c1 hc
  have hx8 := u8_xor_nat c y hc hy
  obtain ⟨x, hx⟩ : ∃ x, x = c ^^^ y := ⟨_, rfl⟩
  have hxl : x < 256 := by rw [hx]; exact Nat.xor_lt_two_pow (n := 8) hc hy
  rw [← hx] at hx8
  have hst := (hown.stored k (u8v x)).1
  have hb2 : Below W.heap.size W (w1.setCell ⟨g, k, none⟩ (u8v x)) := hb1.setCell hge _
  have hls : (l.map u8v).set k (u8v x) = (l.set k x).map u8v := by rw [List.map_set]
  rw [hls] at hst
  have BQ := SlAt.own (f := u8v) (d := 0) hst (by rw [List.length_set]; exact HN.out)
  have hql : ∀ i, (l.set k x).getD i 0 < 256 := by
    intro i
    rw [getD_set _ _ _ _ (by rw [← HN.out]; exact hkn)]
    split
    · exact hxl
    · exact HL.out i
  have hne : Cr.sum l ≠ Cr.sum (l.set k x) := by
    intro e
    have e2 : l = l.set k c := by rw [hc0]; simp [List.getD, show k < l.length by rw [← HN.out]; exact hkn]
    rw [show Cr.sum l = Cr.sum (l.set k c) by rw [← e2]] at e
    have := Cr.sum_set l k c x (by rw [← HN.out]; exact hkn) e
    rw [hx] at this
    exact xor_ne c y hy0 this.symm
  obtain ⟨w2, hw2⟩ : ∃ w2, w2 = w1.setCell ⟨g, k, none⟩ (u8v x) := ⟨_, rfl⟩
  have C1 := hid (csum_one (HA.out.keep hb2) HL.out (b := w1.heap.size) (by simp))
  have C2 := hid (csum_one (BQ.keep ((Below.refl _ _).alloc (Nat.le_refl _) (.cells #[.slice a n cap] 22))) hql (b := w1.heap.size + 1) (by simp))
  have hsz := hb2.size
  have HB2 := hid ((hb2.alloc (by simpa using hsz) (.cells #[.slice a n cap] 22)).alloc (by simp at hsz ⊢; omega) (.cells #[.slice (some ⟨g, 0, none⟩) n cap1] 22))
  obtain ⟨s1, hs1⟩ : ∃ s, s = Cr.sum l := ⟨_, rfl⟩
  obtain ⟨s2, hs2⟩ : ∃ s, s = Cr.sum (l.set k x) := ⟨_, rfl⟩
  rw [← hs1] at C1 hne
  rw [← hs2] at C2 hne
  have hss : ((s1 : Int) != s2) = true := by rw [bne_iff_ne]; omega
  have cw : w1.cell? ⟨g, k, none⟩ = some (.int .u8 (c : Int)) := c1
  clear hown hgr hb1 hgl c1 hlk hc0 hx hst hb2 hls BQ hql hne hw2 hs1 hs2
  simp only [u8v] at C1 C2 HB2
  go_wp2_with fail
  refine C1.out.mono ?_
  rintro e w' ⟨rfl, rfl⟩
  go_wp2_with fail
  refine C2.out.mono ?_
  rintro e w' ⟨rfl, rfl⟩
  go_wp2_with (go_at_call 11; refine (KN.out _).mono ?_; rintro e w' ⟨rfl, hb⟩; have HB3 := hid (below_then HB2.out hb); clear hb)
  go_ret
  exact ⟨rfl, HB3.out⟩

theorem crcTurned_walk (H : Type) (enc : TypeId × Value → H) (W : World) (base : Nat) (args : Array Value) (ds gs : List (DataW H)) (before : List MemPlace)
    (hval : ∀ (j : Nat) t v, Try.f5.params[j]? = some t → args[j]? = some v → Value.okWide Try.prog W .any base t v)
    (hW : DataW.Whole enc Try.prog Try.f5.params.toList Rows.crcTurnedSpec.vars false W args.toList ds gs before)
    (hz : (DataW.weightsEach Try.prog (Try.f5.params.toList ++ Rows.crcTurnedSpec.plain.varTypes Try.prog) (ds ++ gs)).all (· ≤ reachBytes) = true)
    (hL : laidMetH Try.prog Rows.crcTurnedRow.laid W) (hsh : W.ShapedOpen Try.prog) :
    Calls Try.prog 5 args W fun e W' => e = .returned (.bool true) ∧ Below W.heap.size W W' := by
  obtain ⟨p, q, hA, _, _, _, _⟩ := hW
  rw [Try.params5] at hA hval
  rw [Try.params5] at hz
  obtain ⟨v0, vs0, d0, ds0, p0, q0, hargs, rfl, rfl, h0, r0⟩ := trodAll_cons hA
  obtain ⟨v1, vs1, d1, ds1, p1, q1, rfl, rfl, rfl, h1, r1⟩ := trodAll_cons r0
  obtain ⟨v2, vs2, d2, ds2, p2, q2, rfl, rfl, rfl, h2, r2⟩ := trodAll_cons r1
  obtain ⟨rfl, rfl, rfl⟩ := trodAll_nil r2
  obtain rfl : args = #[v0, v1, v2] := by cases args; simp_all
  obtain ⟨l0, L0, b0, z0⟩ := arg_bytes Try.underlying22 Try.underlying5 (show Try.prog.cellsOf 5 = 1 ∧ Try.prog.bytesOf 5 = 1 by exact ⟨by kernel_rfl, by kernel_rfl⟩) (hval 0 22 v0 rfl rfl) h0 (sized_arg hz (j := 0) (t := 22) (d := d0) rfl rfl)
  obtain ⟨x1, rfl, rfl, rfl, w1⟩ := open_int Try.underlying3 (hval 1 3 v1 rfl rfl) h1
  have b1 := bounds_i64 w1
  obtain ⟨x2, rfl, rfl, rfl, w2⟩ := open_int Try.underlying5 (hval 2 5 v2 rfl rfl) h2
  have b2 := bounds_u8 w2
  obtain ⟨a, cap, rfl, h1, h2, h3, hr⟩ := id L0
  have hnm : l0.length ≤ 9223372036854775807 := by unfold maxLen at h2; omega
  by_cases hb : l0.length = 0 ∨ 1000 < l0.length ∨ (1 ≤ l0.length ∧ l0.length ≤ 1000 ∧ x2 = 0)
  · exact crcTurned_out a _ cap x1 x2 W hnm hb
  · obtain ⟨y, rfl⟩ : ∃ y : Nat, x2 = y := ⟨x2.toNat, by omega⟩
    exact crcTurned_in a _ cap x1 y l0 W rfl (by omega) (by omega) (by omega) (by omega) L0 b0

theorem crcTurned_lifted (os : Os) (started : os.Started) (H : Type) (enc : TypeId × Value → H) (F : Stop.Interp) :
    ReturnsInHanded {} Try.checked os 5 .any ((OpenSpec.ofChange Rows.crcTurnedSpec).preRow enc Try.prog Try.f5 Rows.crcTurnedRow.domain false Rows.crcTurnedRow.laid) (((OpenSpec.ofChange Rows.crcTurnedSpec).at F).post enc Try.prog Try.f5 false true false false) := by
  obtain ⟨places, hx⟩ : ∃ places, DataW.whole enc Try.prog ((World.holding Try.prog os ⟨#[], #[], []⟩).forCall (fun _ _ => 0) ⟨#[], #[.slice none 0 0, .int .i64 0, .int .u8 0], []⟩).memory Try.f5.params.toList Rows.crcTurnedSpec.vars false (#[.slice none 0 0, .int .i64 0, .int .u8 0] : Array Value).toList 8 = some ([.nil, .lit (.int .i64 0), .lit (.int .u8 0)], [], places) := ⟨[], by kernel_rfl⟩
  refine returnsInHanded_of_row (C := Try.checked) (s := OpenSpec.ofChange Rows.crcTurnedSpec) own started (by kernel_rfl) Try.func5
    (witness_row_at (enc := enc) (C := Try.checked) false (World.holding Try.prog os ⟨#[], #[], []⟩) #[.slice none 0 0, .int .i64 0, .int .u8 0] rfl (by kernel_rfl) (by kernel_rfl) (by kernel_rfl)
      (OpenSpec.preRow_of_cond 8 hx (by kernel_rfl) (fun k hk => by cases hk) (by kernel_rfl) (laidMet_nil _ _))) ?_
  intro W base args ds gs before hval hW _ _ hz hL hsh _
  refine (crcTurned_walk H enc W base args ds gs before hval hW hz hL hsh).mono fun e W' ⟨he, hb⟩ => ⟨_, he, ?_⟩
  exact law_post (fn := Try.f5) (s := Rows.crcTurnedSpec) (tb := 4) rfl (fun ds hd => by match ds, hd with | [d0, d1, d2], _ => rfl) rfl Try.underlying4 (by kernel_rfl) hW hb

theorem crcTurned_said : Rows.CrcTurnedSaid :=
  OpenClaim.holds_of_cond 5 Try.f5 rfl rfl rfl rfl rfl rfl rfl ⟨rfl, rfl, rfl, rfl, rfl⟩ rfl rfl rfl rfl rfl (by kernel_rfl) Try.func5 (by kernel_rfl)
    (of_decide_eq_true (by kernel_rfl)) (by unfold Func.isWrapper; first | (rw [if_pos (by decide +kernel)]; kernel_rfl) | (rw [if_neg (by decide +kernel)]; exact ⟨rfl, rfl⟩))
    (fun os started H enc _ F => by rw [OpenClaim.pre_eq_preRow]; exact crcTurned_lifted os started H enc F)
end Go.Proofs.Ytoccijceceikoaa
