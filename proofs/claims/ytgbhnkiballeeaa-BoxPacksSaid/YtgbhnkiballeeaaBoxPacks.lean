/- BoxPacks: any sections are packed as the document packs them, for every input. -/
import Derived.Test.YtgbhnkiballeeaaBxLaw
import Derived.Test.YtgbhnkiballeeaaBxRPack
import Derived.Deep.AppendLies
import Derived.Deep.DeepCutAuto
namespace Go.Proofs.Ytgbhnkiballeeaa
set_option linter.unusedVariables false
set_option linter.unusedSimpArgs false
set_option maxRecDepth 100000
open Go.ChangeShapes Go.WideShapes Go.ChangeAt Go.RowKit

theorem boxPacks_long (a : Option Addr) (n cap : Nat) (L : List Bx.Sec) (W : World) (hn : n = L.length) (h : SecsAt W (.slice a n cap) L) (hby : Bx.Bytes L) (hbd : ∀ s ∈ L, -9223372036854775808 ≤ s.1 ∧ s.1 ≤ 9223372036854775807 ∧ s.2.length ≤ 140737488351232) (hnm : n ≤ 9223372036854775807) (ho : longB L 0 = true) :
    Calls Try.prog 3 #[.slice a n cap] W fun e W' => e = .returned (.bool true) ∧ Below W.heap.size W W' := by
  have LG := hid (long_any a n cap L W hn h hnm (fun s hs => (hbd s hs).2.2))
  rw [ho] at LG
  clear hn h hby hbd ho
  go_enter Try.func3, Try.ntmps3
  go_wp2_with (go_at_call 11; refine LG.out.mono ?_; rintro e w' ⟨rfl, rfl⟩)
  go_ret
  exact ⟨rfl, Below.refl _ _⟩
set_option maxHeartbeats 1000000 in
theorem boxPacks_no (a : Option Addr) (n cap : Nat) (L : List Bx.Sec) (W : World) (hn : n = L.length) (h : SecsAt W (.slice a n cap) L) (hby : Bx.Bytes L) (hbd : ∀ s ∈ L, -9223372036854775808 ≤ s.1 ∧ s.1 ≤ 9223372036854775807 ∧ s.2.length ≤ 140737488351232) (hnm : n ≤ 9223372036854775807) (hlo : longB L 0 = false) (hM : ¬ Bx.May L) :
    Calls Try.prog 3 #[.slice a n cap] W fun e W' => e = .returned (.bool true) ∧ Below W.heap.size W W' := by
  have LG := hid (long_any a n cap L W hn h hnm (fun s hs => (hbd s hs).2.2))
  have hs := long_no hlo
  rw [hlo] at LG
  have PK := hid (bpack_no a n cap L W hn h hbd hM)
  have RK := hid (fun W' (hW : Below W.heap.size W W') => rpack_no a n cap L W' hn (h.keep hW) (by omega) (by omega) (fun s hs => ⟨(hbd s hs).1, (hbd s hs).2.1⟩) hM)
  have kn := fun (w : World) => conv_row (P := Try.prog) Try.underlying24 Try.underlying5 Try.underlying9 w (.slice none 0 0) [] (SlAt.nil w)
  clear hn h hby hbd hlo hM hs
  go_enter Try.func3, Try.ntmps3
  go_wp2_with (first
    | (go_at_call 11; refine LG.out.mono ?_; rintro e w' ⟨rfl, hww⟩; have hww' := hww.symm; subst hww')
    | (go_at_call 12; refine PK.out.mono ?_; rintro e w1 ⟨rfl, hB1⟩)
    | (go_at_call 13; refine (RK.out _ hB1).mono ?_; rintro e w2 ⟨rfl, hB2⟩)
    | (go_at_call 14; refine (known_any _).mono ?_; rintro e w6 ⟨rfl, hB6⟩))
  go_ret
  exact ⟨rfl, below_then (below_then hB1 hB2) hB6⟩
set_option maxHeartbeats 1000000 in
theorem boxPacks_in (a : Option Addr) (n cap : Nat) (L : List Bx.Sec) (W : World) (hn : n = L.length) (h : SecsAt W (.slice a n cap) L) (hby : Bx.Bytes L) (hbd : ∀ s ∈ L, -9223372036854775808 ≤ s.1 ∧ s.1 ≤ 9223372036854775807 ∧ s.2.length ≤ 140737488351232) (hnm : n ≤ 9223372036854775807) (hlo : longB L 0 = false) (hM : Bx.May L) :
    Calls Try.prog 3 #[.slice a n cap] W fun e W' => e = .returned (.bool true) ∧ Below W.heap.size W W' := by
  have LG := hid (long_any a n cap L W hn h hnm (fun s hs => (hbd s hs).2.2))
  have hs := long_no hlo
  rw [hlo] at LG
  have PK := hid (bpack_ok a n cap L W hn h hM hby)
  have RK := hid (fun W' (hW : Below W.heap.size W W') => rpack_ok a n cap L W' hn (h.keep hW) (by omega) (by omega) hM hby)
  have HLEN := hid (Bx.file_length L)
  clear hn h hby hbd hlo hM hs
  generalize Bx.file L = F at *
  generalize Bx.total L = T at *
  go_enter Try.func3, Try.ntmps3
  go_upto_region 5 with (first
    | (go_at_call 11; refine LG.out.mono ?_; rintro e w' ⟨rfl, hww⟩; have hww' := hww.symm; subst hww')
    | (go_at_call 12; refine PK.out.mono ?_; rintro e w1 ⟨v1, rfl, hB1, hown1⟩)
    | (go_at_call 13; refine (RK.out _ hB1).mono ?_; rintro e w2 ⟨v2, rfl, hB2, hown2⟩))
  have HB2 := hid (below_then hB1 hB2)
  have k1 := conv_row (P := Try.prog) Try.underlying24 Try.underlying5 Try.underlying9 w2 v1 F ((own_bytes hown1 HLEN.out.symm).keep hB2)
  have k2 := conv_row (P := Try.prog) Try.underlying24 Try.underlying5 Try.underlying9 w2 v2 F (own_bytes hown2 HLEN.out.symm)
  clear hown1 hown2 hB1 hB2 PK RK LG
  go_wp2_with (go_at_call 14; refine (known_any _).mono ?_; rintro e w6 ⟨rfl, hB6⟩)
  go_ret
  exact ⟨rfl, below_then HB2.out hB6⟩

theorem boxPacks_walk (H : Type) (enc : TypeId × Value → H) (W : World) (base : Nat) (args : Array Value) (ds gs : List (DataW H)) (before : List MemPlace)
    (hval : ∀ (j : Nat) t v, Try.f3.params[j]? = some t → args[j]? = some v → Value.okWide Try.prog W .any base t v)
    (hW : DataW.Whole enc Try.prog Try.f3.params.toList Rows.boxPacksSpec.vars false W args.toList ds gs before)
    (hz : (DataW.weightsEach Try.prog (Try.f3.params.toList ++ Rows.boxPacksSpec.plain.varTypes Try.prog) (ds ++ gs)).all (· ≤ reachBytes) = true)
    (hL : laidMetH Try.prog Rows.boxPacksRow.laid W) (hsh : W.ShapedOpen Try.prog) :
    Calls Try.prog 3 args W fun e W' => e = .returned (.bool true) ∧ Below W.heap.size W W' := by
  obtain ⟨p, q, hA, _, _, _, _⟩ := hW
  rw [Try.params3] at hA hval
  rw [Try.params3] at hz
  obtain ⟨v0, vs0, d0, ds0, p0, q0, hargs, rfl, rfl, h0, r0⟩ := trodAll_cons hA
  obtain ⟨rfl, rfl, rfl⟩ := trodAll_nil r0
  obtain rfl : args = #[v0] := by cases args; simp_all
  obtain ⟨l0, L0, b0, y0, z0⟩ := arg_secs (hval 0 22 v0 rfl rfl) h0 (sized_arg hz (j := 0) (t := 22) (d := d0) rfl rfl)
  obtain ⟨a, cap, rfl, h1, h2, h3⟩ := SecsAt.open L0
  have hnm : l0.length ≤ 9223372036854775807 := by unfold maxLen at h2; omega
  by_cases hlo : longB l0 0 = true
  · exact boxPacks_long a _ cap l0 W rfl L0 b0 y0 hnm hlo
  · have hlo' : longB l0 0 = false := by simpa using hlo
    by_cases hM : Bx.May l0
    · exact boxPacks_in a _ cap l0 W rfl L0 b0 y0 hnm hlo' hM
    · exact boxPacks_no a _ cap l0 W rfl L0 b0 y0 hnm hlo' hM

theorem boxPacks_lifted (os : Os) (started : os.Started) (H : Type) (enc : TypeId × Value → H) (F : Stop.Interp) :
    ReturnsInHanded {} Try.checked os 3 .any ((OpenSpec.ofChange Rows.boxPacksSpec).preRow enc Try.prog Try.f3 Rows.boxPacksRow.domain false Rows.boxPacksRow.laid) (((OpenSpec.ofChange Rows.boxPacksSpec).at F).post enc Try.prog Try.f3 false true false false) := by
  obtain ⟨places, hx⟩ : ∃ places, DataW.whole enc Try.prog ((World.holding Try.prog os ⟨#[], #[], []⟩).forCall (fun _ _ => 0) ⟨#[], #[.slice none 0 0], []⟩).memory Try.f3.params.toList Rows.boxPacksSpec.vars false (#[.slice none 0 0] : Array Value).toList 8 = some ([.nil], [], places) := ⟨[], by kernel_rfl⟩
  refine returnsInHanded_of_row (C := Try.checked) (s := OpenSpec.ofChange Rows.boxPacksSpec) own started (by kernel_rfl) Try.func3
    (witness_row_at (enc := enc) (C := Try.checked) false (World.holding Try.prog os ⟨#[], #[], []⟩) #[.slice none 0 0] rfl (by kernel_rfl) (by kernel_rfl) (by kernel_rfl)
      (OpenSpec.preRow_of_cond 8 hx (by kernel_rfl) (fun k hk => by cases hk) (by kernel_rfl) (laidMet_nil _ _))) ?_
  intro W base args ds gs before hval hW _ _ hz hL hsh _
  refine (boxPacks_walk H enc W base args ds gs before hval hW hz hL hsh).mono fun e W' ⟨he, hb⟩ => ⟨_, he, ?_⟩
  exact law_post (fn := Try.f3) (s := Rows.boxPacksSpec) (tb := 4) rfl (fun ds hd => by match ds, hd with | [d0], _ => rfl) rfl Try.underlying4 (by kernel_rfl) hW hb

theorem boxPacks_said : Rows.BoxPacksSaid :=
  OpenClaim.holds_of_cond 3 Try.f3 rfl rfl rfl rfl rfl rfl rfl ⟨rfl, rfl, rfl, rfl, rfl⟩ rfl rfl rfl rfl rfl (by kernel_rfl) Try.func3 (by kernel_rfl)
    (of_decide_eq_true (by kernel_rfl)) (by unfold Func.isWrapper; first | (rw [if_pos (by decide +kernel)]; kernel_rfl) | (rw [if_neg (by decide +kernel)]; exact ⟨rfl, rfl⟩))
    (fun os started H enc _ F => by rw [OpenClaim.pre_eq_preRow]; exact boxPacks_lifted os started H enc F)
end Go.Proofs.Ytgbhnkiballeeaa
