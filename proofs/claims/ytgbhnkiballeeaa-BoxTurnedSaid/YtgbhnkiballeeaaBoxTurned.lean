/- BoxTurned: a file one byte of which is turned is none, for every input. -/
import Derived.Test.YtgbhnkiballeeaaBxLaw
import Derived.Deep.AppendLies
import Derived.Deep.DeepCutAuto
namespace Go.Proofs.Ytgbhnkiballeeaa
set_option linter.unusedVariables false
set_option linter.unusedSimpArgs false
set_option maxRecDepth 100000
open Go.ChangeShapes Go.WideShapes Go.ChangeAt Go.RowKit

theorem and_low (x : Int) : ∃ A : Nat, A ≤ 65535 ∧ bits BinOp.and IntKind.i64 x 65535 = (A : Int) := by
  refine ⟨((BitVec.ofInt 64 x) &&& 65535#64).toNat, ?_, ?_⟩
  · rw [BitVec.toNat_and]
    exact Nat.and_le_right
  · show IntKind.i64.wrap ((BitVec.ofInt 64 x &&& BitVec.ofInt 64 65535).toNat : Int) = _
    have h : ((BitVec.ofInt 64 x) &&& 65535#64).toNat ≤ 65535 := by rw [BitVec.toNat_and]; exact Nat.and_le_right
    rw [show BitVec.ofInt 64 65535 = 65535#64 from rfl]
    exact IntWalk.i64_in _ ⟨by omega, by omega⟩
theorem xor_ne (c y : Nat) (hy : 0 < y) : c ^^^ y ≠ c := by
  intro h
  have := congrArg (fun z => c ^^^ z) h
  simp only [← Nat.xor_assoc, Nat.xor_self, Nat.zero_xor] at this
  omega

theorem boxTurned_out (a : Option Addr) (n cap : Nat) (L : List Bx.Sec) (q : Int) (y : Int) (W : World) (hn : n = L.length) (h : SecsAt W (.slice a n cap) L) (hby : Bx.Bytes L) (hbd : ∀ s ∈ L, -9223372036854775808 ≤ s.1 ∧ s.1 ≤ 9223372036854775807 ∧ s.2.length ≤ 140737488351232) (hnm : n ≤ 9223372036854775807) (ho : longB L 0 = true ∨ (longB L 0 = false ∧ ¬ Bx.May L)) :
    Calls Try.prog 6 #[.slice a n cap, .int .i64 q, .int .u8 y] W fun e W' => e = .returned (.bool true) ∧ Below W.heap.size W W' := by
  have LG := hid (long_any a n cap L W hn h hnm (fun s hs => (hbd s hs).2.2))
  rcases ho with ho | ⟨ho, hM⟩
  · rw [ho] at LG
    clear hn h hby hbd ho
    go_enter Try.func6, Try.ntmps6
    go_wp2_with (go_at_call 11; refine LG.out.mono ?_; rintro e w' ⟨rfl, rfl⟩)
    go_ret
    exact ⟨rfl, Below.refl _ _⟩
  · have hs := long_no ho
    have MY := hid (rmay_any a n cap L W hn h (by omega) (by omega) (fun s hs => ⟨(hbd s hs).1, (hbd s hs).2.1⟩))
    rw [show Bx.mayB L = false by cases hh : Bx.mayB L with
      | false => rfl
      | true => exact absurd ((Bx.mayB_iff L).1 hh) hM] at MY
    rw [ho] at LG
    clear hn h hby hbd ho hM hs
    go_enter Try.func6, Try.ntmps6
    go_wp2_with (first
      | (go_at_call 11; refine LG.out.mono ?_; rintro e w' ⟨rfl, hww⟩; have hww' := hww.symm; subst hww')
      | (go_at_call 18; refine MY.out.mono ?_; rintro e w1 ⟨rfl, hB1⟩))
    go_ret
    exact ⟨rfl, hB1⟩

theorem boxTurned_nought (a : Option Addr) (n cap : Nat) (L : List Bx.Sec) (q : Int) (W : World) (hn : n = L.length) (h : SecsAt W (.slice a n cap) L) (hby : Bx.Bytes L) (hbd : ∀ s ∈ L, -9223372036854775808 ≤ s.1 ∧ s.1 ≤ 9223372036854775807 ∧ s.2.length ≤ 140737488351232) (hnm : n ≤ 9223372036854775807) (hlo : longB L 0 = false) (hM : Bx.May L) :
    Calls Try.prog 6 #[.slice a n cap, .int .i64 q, .int .u8 0] W fun e W' => e = .returned (.bool true) ∧ Below W.heap.size W W' := by
  have LG := hid (long_any a n cap L W hn h hnm (fun s hs => (hbd s hs).2.2))
  have hs := long_no hlo
  have MY := hid (rmay_any a n cap L W hn h (by omega) (by omega) (fun s hs => ⟨(hbd s hs).1, (hbd s hs).2.1⟩))
  rw [(Bx.mayB_iff L).2 hM] at MY
  rw [hlo] at LG
  have PK := hid (fun W' (hW : Below W.heap.size W W') => bpack_ok a n cap L W' hn (h.keep hW) hM hby)
  have HN := hid hn
  have HS := hid h
  have HM := hid hM
  have HBY := hid hby
  have hT9 : 9 ≤ Bx.total L := by unfold Bx.total; omega
  have hT := hM.2.2
  clear hn h hby hbd hlo hM hs
  go_enter Try.func6, Try.ntmps6
  go_wp2_with (first
      | (go_at_call 11; refine LG.out.mono ?_; rintro e w' ⟨rfl, hww⟩; have hww' := hww.symm; subst hww')
      | (go_at_call 18; refine MY.out.mono ?_; rintro e w1 ⟨rfl, hB1⟩)
      | (go_at_call 12; refine (PK.out _ hB1).mono ?_; rintro e w2 ⟨v2, rfl, hB2, hown⟩; obtain ⟨g, cap2, rfl, hge, hgl⟩ := hown.form (by omega)))
  go_ret
  exact ⟨rfl, hB1⟩
set_option maxHeartbeats 1000000 in
theorem boxTurned_in (a : Option Addr) (n cap : Nat) (L : List Bx.Sec) (q : Int) (y : Nat) (W : World) (hn : n = L.length) (h : SecsAt W (.slice a n cap) L) (hby : Bx.Bytes L) (hbd : ∀ s ∈ L, -9223372036854775808 ≤ s.1 ∧ s.1 ≤ 9223372036854775807 ∧ s.2.length ≤ 140737488351232) (hnm : n ≤ 9223372036854775807) (hlo : longB L 0 = false) (hM : Bx.May L) (hy0 : 0 < y) (hy : y < 256) :
    Calls Try.prog 6 #[.slice a n cap, .int .i64 q, .int .u8 y] W fun e W' => e = .returned (.bool true) ∧ Below W.heap.size W W' := by
  have LG := hid (long_any a n cap L W hn h hnm (fun s hs => (hbd s hs).2.2))
  have hs := long_no hlo
  have MY := hid (rmay_any a n cap L W hn h (by omega) (by omega) (fun s hs => ⟨(hbd s hs).1, (hbd s hs).2.1⟩))
  rw [(Bx.mayB_iff L).2 hM] at MY
  rw [hlo] at LG
  have PK := hid (fun W' (hW : Below W.heap.size W W') => bpack_ok a n cap L W' hn (h.keep hW) hM hby)
  have HN := hid hn
  have HS := hid h
  have HM := hid hM
  have HBY := hid hby
  have hT9 : 9 ≤ Bx.total L := by unfold Bx.total; omega
  have hT := hM.2.2
  clear hn h hby hbd hlo hM hs
  obtain ⟨A, hA, hand⟩ := and_low q
  obtain ⟨k, hk⟩ : ∃ k, k = A % Bx.total L := ⟨_, rfl⟩
  have hkn : k < Bx.total L := by rw [hk]; exact Nat.mod_lt _ (by omega)
  have hkI : (A : Int) % ((Bx.total L : Nat) : Int) = k := by rw [hk, Int.natCast_emod]
  have hfl := file_lt L HBY.out
  have hc := hfl k
  have hUN : ∀ c, c < 256 → c ≠ (Bx.file L).getD k 0 → Bx.unp ((Bx.file L).set k c) = none := fun c h1 h2 => unp_turned HM.out HBY.out hkn h1 h2
  have HUN := hid hUN
  have HFL := hid hfl
  have hlen := Bx.file_length L
  have HLEN := hid hlen
  have hyb : ((y : Int) == 0) = false := beq_eq_false_iff_ne.2 (by omega)
  generalize Bx.file L = F at *
  generalize Bx.total L = T at *
  clear hk hUN hfl hlen
  go_enter Try.func6, Try.ntmps6
  go_upto_region 6 with (first
      | (go_at_call 11; refine LG.out.mono ?_; rintro e w' ⟨rfl, hww⟩; have hww' := hww.symm; subst hww')
      | (go_at_call 18; refine MY.out.mono ?_; rintro e w1 ⟨rfl, hB1⟩)
      | (go_at_call 12; refine (PK.out _ hB1).mono ?_; rintro e w2 ⟨v2, rfl, hB2, hown⟩; obtain ⟨g, cap2, rfl, hge, hgl⟩ := hown.form (by omega)))
  have HB2 := hid (below_then hB1 hB2)
  have hgw : W.heap.size ≤ g := Nat.le_trans hB1.size hge
  have c1 := hown.cellAt k (by omega)
  have f1 := hown.frozenAt k
  have hlk : (F.map u8v)[k]? = some (.int .u8 ((F.getD k 0 : Nat) : Int)) := by
    have : k < F.length := by rw [HLEN.out]; exact hkn
    simp [List.getD, this, u8v]
  rw [hlk] at c1
  obtain ⟨c, hc0⟩ : ∃ c, c = F.getD k 0 := ⟨_, rfl⟩
  rw [← hc0] at c1 hc HUN
  have hx8 := u8_xor_nat c y hc hy
  obtain ⟨x, hx⟩ : ∃ x, x = c ^^^ y := ⟨_, rfl⟩
  have hxl : x < 256 := by rw [hx]; exact Nat.xor_lt_two_pow (n := 8) hc hy
  rw [← hx] at hx8
  have hst := (hown.stored k (u8v x)).1
  rw [← List.map_set] at hst
  have HNO := hid (HUN.out x hxl (by rw [hx]; exact xor_ne c y hy0))
  have hql : ∀ i, (F.set k x).getD i 0 < 256 := by
    intro i
    by_cases hik : i = k
    · subst hik; rw [Bx.set_getD_self (by rw [HLEN.out]; exact hkn)]; exact hxl
    · rw [Bx.set_getD (fun e => hik e.symm)]; exact HFL.out i
  have hsl : T = (F.set k x).length := by rw [List.length_set, HLEN.out]
  have UN := hid (bunp_any (some ⟨g, 0, none⟩) T cap2 (F.set k x) (w2.setCell ⟨g, k, none⟩ (u8v x)) hsl (own_bytes hst hsl) hql)
  have HB3 := hid (show Below W.heap.size W (w2.setCell ⟨g, k, none⟩ (u8v x)) from HB2.out.setCell hgw _)
  simp only [u8v] at UN HB3
  have cw : w2.cell? ⟨g, k, none⟩ = some (.int .u8 (c : Int)) := c1
  clear hown hlk hc0 hx hst hql hsl HUN c1 hB2 PK LG MY
  go_wp2_with fail
  refine UN.out.mono ?_
  rintro e w3 ⟨hB4, hE⟩
  have he := ends_none hE HNO.out
  subst he
  have HB4 := hid (below_then HB3.out hB4)
  clear hE hB4 UN HB3
  go_wp2_with (go_at_call 14; refine (known_any _).mono ?_; rintro e w6 ⟨rfl, hB6⟩)
  go_ret
  exact ⟨rfl, below_then HB4.out hB6⟩

theorem boxTurned_walk (H : Type) (enc : TypeId × Value → H) (W : World) (base : Nat) (args : Array Value) (ds gs : List (DataW H)) (before : List MemPlace)
    (hval : ∀ (j : Nat) t v, Try.f6.params[j]? = some t → args[j]? = some v → Value.okWide Try.prog W .any base t v)
    (hW : DataW.Whole enc Try.prog Try.f6.params.toList Rows.boxTurnedSpec.vars false W args.toList ds gs before)
    (hz : (DataW.weightsEach Try.prog (Try.f6.params.toList ++ Rows.boxTurnedSpec.plain.varTypes Try.prog) (ds ++ gs)).all (· ≤ reachBytes) = true)
    (hL : laidMetH Try.prog Rows.boxTurnedRow.laid W) (hsh : W.ShapedOpen Try.prog) :
    Calls Try.prog 6 args W fun e W' => e = .returned (.bool true) ∧ Below W.heap.size W W' := by
  obtain ⟨p, q, hA, _, _, _, _⟩ := hW
  rw [Try.params6] at hA hval
  rw [Try.params6] at hz
  obtain ⟨v0, vs0, d0, ds0, p0, q0, hargs, rfl, rfl, h0, r0⟩ := trodAll_cons hA
  obtain ⟨v1, vs1, d1, ds1, p1, q1, rfl, rfl, rfl, h1, r1⟩ := trodAll_cons r0
  obtain ⟨v2, vs2, d2, ds2, p2, q2, rfl, rfl, rfl, h2, r2⟩ := trodAll_cons r1
  obtain ⟨rfl, rfl, rfl⟩ := trodAll_nil r2
  obtain rfl : args = #[v0, v1, v2] := by cases args; simp_all
  obtain ⟨l0, L0, b0, y0, z0⟩ := arg_secs (hval 0 22 v0 rfl rfl) h0 (sized_arg hz (j := 0) (t := 22) (d := d0) rfl rfl)
  obtain ⟨x1, rfl, rfl, rfl, w1⟩ := open_int Try.underlying3 (hval 1 3 v1 rfl rfl) h1
  have b1 := bounds_i64 w1
  obtain ⟨x2, rfl, rfl, rfl, w2⟩ := open_int Try.underlying5 (hval 2 5 v2 rfl rfl) h2
  have b2 := bounds_u8 w2
  obtain ⟨a, cap, rfl, h1, h2, h3⟩ := SecsAt.open L0
  have hnm : l0.length ≤ 9223372036854775807 := by unfold maxLen at h2; omega
  by_cases hlo : longB l0 0 = true
  · exact boxTurned_out a _ cap l0 x1 x2 W rfl L0 b0 y0 hnm (Or.inl hlo)
  · have hlo' : longB l0 0 = false := by simpa using hlo
    by_cases hM : Bx.May l0
    · rcases (show x2 = 0 ∨ 0 < x2 by omega) with h0 | h0
      · subst h0
        exact boxTurned_nought a _ cap l0 x1 W rfl L0 b0 y0 hnm hlo' hM
      · obtain ⟨y, rfl⟩ : ∃ y : Nat, x2 = y := ⟨x2.toNat, by omega⟩
        exact boxTurned_in a _ cap l0 x1 y W rfl L0 b0 y0 hnm hlo' hM (by omega) (by omega)
    · exact boxTurned_out a _ cap l0 x1 x2 W rfl L0 b0 y0 hnm (Or.inr ⟨hlo', hM⟩)

theorem boxTurned_lifted (os : Os) (started : os.Started) (H : Type) (enc : TypeId × Value → H) (F : Stop.Interp) :
    ReturnsInHanded {} Try.checked os 6 .any ((OpenSpec.ofChange Rows.boxTurnedSpec).preRow enc Try.prog Try.f6 Rows.boxTurnedRow.domain false Rows.boxTurnedRow.laid) (((OpenSpec.ofChange Rows.boxTurnedSpec).at F).post enc Try.prog Try.f6 false true false false) := by
  obtain ⟨places, hx⟩ : ∃ places, DataW.whole enc Try.prog ((World.holding Try.prog os ⟨#[], #[], []⟩).forCall (fun _ _ => 0) ⟨#[], #[.slice none 0 0, .int .i64 0, .int .u8 0], []⟩).memory Try.f6.params.toList Rows.boxTurnedSpec.vars false (#[.slice none 0 0, .int .i64 0, .int .u8 0] : Array Value).toList 8 = some ([.nil, .lit (.int .i64 0), .lit (.int .u8 0)], [], places) := ⟨[], by kernel_rfl⟩
  refine returnsInHanded_of_row (C := Try.checked) (s := OpenSpec.ofChange Rows.boxTurnedSpec) own started (by kernel_rfl) Try.func6
    (witness_row_at (enc := enc) (C := Try.checked) false (World.holding Try.prog os ⟨#[], #[], []⟩) #[.slice none 0 0, .int .i64 0, .int .u8 0] rfl (by kernel_rfl) (by kernel_rfl) (by kernel_rfl)
      (OpenSpec.preRow_of_cond 8 hx (by kernel_rfl) (fun k hk => by cases hk) (by kernel_rfl) (laidMet_nil _ _))) ?_
  intro W base args ds gs before hval hW _ _ hz hL hsh _
  refine (boxTurned_walk H enc W base args ds gs before hval hW hz hL hsh).mono fun e W' ⟨he, hb⟩ => ⟨_, he, ?_⟩
  exact law_post (fn := Try.f6) (s := Rows.boxTurnedSpec) (tb := 4) rfl (fun ds hd => by match ds, hd with | [d0, d1, d2], _ => rfl) rfl Try.underlying4 (by kernel_rfl) hW hb

theorem boxTurned_said : Rows.BoxTurnedSaid :=
  OpenClaim.holds_of_cond 6 Try.f6 rfl rfl rfl rfl rfl rfl rfl ⟨rfl, rfl, rfl, rfl, rfl⟩ rfl rfl rfl rfl rfl (by kernel_rfl) Try.func6 (by kernel_rfl)
    (of_decide_eq_true (by kernel_rfl)) (by unfold Func.isWrapper; first | (rw [if_pos (by decide +kernel)]; kernel_rfl) | (rw [if_neg (by decide +kernel)]; exact ⟨rfl, rfl⟩))
    (fun os started H enc _ F => by rw [OpenClaim.pre_eq_preRow]; exact boxTurned_lifted os started H enc F)
end Go.Proofs.Ytgbhnkiballeeaa
