/- CrcEach: a sum hangs on each byte: rows of one length that differ in it have 256 sums, for every input. -/
import Derived.Test.YtoccijceceikoaaCrcRef
import Derived.Maps.OwnOps
import Derived.Maps.OwnSet
import Derived.Maps.Views
namespace Go.Proofs.Ytoccijceceikoaa
set_option linter.unusedVariables false
set_option linter.unusedSimpArgs false
set_option maxRecDepth 100000
open Go.ChangeShapes Go.WideShapes Go.ChangeAt Go.RowKit

theorem Try.info5 : (Try.prog.info? 5).map (fun i => (i.zero, i.size, i.bytes)) = some (some (.int .u8 0), 1, 1) := by kernel_rfl
theorem crcEach_out (n q : Int) (W : World) (h : n < 1 ∨ (1 ≤ n ∧ 60 < n) ∨ (1 ≤ n ∧ n ≤ 60 ∧ q < 0) ∨ (1 ≤ n ∧ n ≤ 60 ∧ 0 ≤ q ∧ n ≤ q)) :
    Calls Try.prog 7 #[.int .i64 n, .int .i64 q] W fun e W' => e = .returned (.bool true) ∧ Below W.heap.size W W' := by
  rcases h with h | ⟨h0, h⟩ | ⟨h0, h1, h⟩ | ⟨h0, h1, h2, h⟩
  all_goals
    go_enter Try.func7, Try.ntmps7
    go_wp2
    go_ret
    exact ⟨rfl, Below.refl _ _⟩
open Go.Maps in
theorem keyI : Keyed Try.prog 3 := int_keyed Try.underlying3
theorem zeroI (w : World) : (zeroValue 3).run Try.prog w = .ok (.int .i64 0) w := by kernel_rfl
theorem ownsMap_same {H : Type} {w w' : World} {P : Program} {k : TypeId} {R : Value → Option (DataW H × List MemPlace)} {b n : Nat} {D : DataW H} (h : w.ownsMap P k R b n D) (e : w'.heap[b]? = w.heap[b]?) : w'.ownsMap P k R b n D := by
  obtain ⟨es, clock, h1, h2⟩ := h
  exact ⟨es, clock, by rw [e]; exact h1, h2⟩
theorem zeros_made (n : Nat) : (madeCells #[.int .u8 0] n).toList = (List.replicate n 0).map u8v := by
  refine List.ext_getElem (by simp [madeCells]) fun i h1 h2 => ?_
  simp [madeCells, u8v, Nat.mod_one]
theorem getD_set (B : List Nat) (q x i : Nat) (hq : q < B.length) : (B.set q x).getD i 0 = if i = q then x else B.getD i 0 := by
  simp only [List.getD, List.getElem?_set]
  by_cases h : i = q
  · subst h; simp [hq]
  · rw [if_neg (Ne.symm h), if_neg h]
/-- The sum of n noughts, but c at q. -/
def one (n q c : Nat) : Nat := Cr.sum ((List.replicate n 0).set q c)
theorem one_lt (n q c : Nat) (hc : c < 256) (hq : q < n) : ∀ i, ((List.replicate n 0).set q c).getD i 0 < 256 := by
  intro i
  rw [getD_set _ _ _ _ (by simpa using hq)]
  split
  · exact hc
  · rcases Nat.lt_or_ge i n with h | h
    · simp [List.getD, h]
    · simp [List.getD, Nat.not_lt.2 h]
theorem one_inj {n q c d : Nat} (hq : q < n) (h : one n q c = one n q d) : c = d := Cr.sum_set _ q c d (by simpa using hq) h

set_option maxHeartbeats 1000000 in
open Go.Maps in
theorem crcEach_in (n q : Nat) (W : World) (h0 : 1 ≤ n) (h1 : n ≤ 60) (hq : q < n) :
    Calls Try.prog 7 #[.int .i64 n, .int .i64 q] W fun e W' => e = .returned (.bool true) ∧ Below W.heap.size W W' := by
  obtain ⟨i0, hi, hz0, hz1, hz2⟩ := info_parts Try.info5
  have mk1 : ∀ W : World, (Instr.makeSlice 22 (.int .i64 (n : Int)) (.int .i64 (n : Int))).run Try.prog W = _ := fun W => run_make W 22 5 i0 _ Try.underlying22 hi hz0 .i64 .i64 n n (by omega) (by omega) (by rw [hz2]; omega) (by omega)
  have hmm := @run_makeMap Try.prog
  have KN := hid (fun W' => known_any W')
  have hnq : decide (n ≤ q) = false := by rw [decide_eq_false_iff_not]; omega
  go_enter Try.func7, Try.ntmps7
  go_wp2
  clear hmm
  go_loopw [6] (fun s6 wr => ∃ c : Nat, c ≤ 256 ∧ s6 = .int .i64 c ∧ Hid (∃ D : DataW Unit, wr.ownsMap Try.prog 3 (plainElem (H := Unit) Try.prog 3) W.heap.size c D ∧ Maps.size D = c ∧ ∀ d, c ≤ d → d < 256 → Maps.has D (.int .i64 (one n q d : Nat)) = false) ∧ Hid (Below W.heap.size W wr) ∧ W.heap.size < wr.heap.size) (fun s6 _ => 256 - (intOf s6).toNat)
  case atStart => exact ⟨0, by omega, rfl, ⟨.map [], World.ownsMap_made _ _ _ _, rfl, fun _ _ _ => rfl⟩, (Below.refl _ _).alloc (Nat.le_refl _) _, by simp⟩
  case round =>
    obtain ⟨c, hc, rfl, HD, HB, hz⟩ := hrel
    obtain ⟨D, O, hsize, hhas⟩ := HD.out
    have HO := hid O
    have HS := hid hsize
    have HH := hid hhas
    clear O hsize hhas HD
    by_cases hlt : c < 256
    · have hcc : IntKind.u8.wrap (c : Int) = (c : Int) := by rw [IntKind.wrap_u8']; omega
      have hqI : (q : Int) < n := by omega
      have hcs : ((madeCells #[.int .u8 0] n).setIfInBounds q (.int .u8 (c : Int))).toList = ((List.replicate n 0).set q c).map u8v := by
        rw [Array.toList_setIfInBounds, zeros_made, List.map_set]; rfl
      have R2 : BytesAt (wr.alloc (.cells ((madeCells #[.int .u8 0] n).setIfInBounds q (.int .u8 (c : Int))) 5)) (.slice (some ⟨wr.heap.size, 0, none⟩) n n) ((List.replicate n 0).set q c) :=
        SlAt.built rfl (by simp) hcs (by unfold maxLen; omega)
      have C1 := hid (csum_one R2 (one_lt n q c hlt hq) (b := wr.heap.size + 1) (by simp))
      have hms : (madeCells #[.int .u8 0] n).size = n := by simp [madeCells]
      have e0 : ((wr.alloc (.cells ((madeCells #[.int .u8 0] n).setIfInBounds q (.int .u8 (c : Int))) 5)).alloc (.cells #[.slice (some ⟨wr.heap.size, 0, none⟩) n n] 22)).heap[W.heap.size]? = wr.heap[W.heap.size]? := by
        rw [Below.heap_alloc _ _ _ (by simp; omega), Below.heap_alloc _ _ _ hz]
      have HO2 := hid (ownsMap_same HO.out e0)
      have HB2 := hid ((HB.out.alloc (by omega) (.cells ((madeCells #[.int .u8 0] n).setIfInBounds q (.int .u8 (c : Int))) 5)).alloc (by simp; omega) (.cells #[.slice (some ⟨wr.heap.size, 0, none⟩) n n] 22))
      have hkl := Cr.sum_lt _ (one_lt n q c hlt hq)
      rw [show Cr.sum ((List.replicate n 0).set q c) = one n q c from rfl] at C1 hkl
      obtain ⟨k, hk⟩ : ∃ k, k = one n q c := ⟨_, rfl⟩
      rw [← hk] at C1 hkl
      have HK := hid hk
      have hkey : keyOf Try.prog 3 (.int .i64 (k : Int)) = some (.int .i64 (k : Int)) := keyOf_int_mk Try.underlying3 (WalkArith.wf_i64 (by omega))
      have hh := HH.out c (Nat.le_refl _) hlt
      rw [← hk] at hh
      have h0D := atKey_of_not_has (z := .lit (.int .i64 0)) hh
      have HH0 := hid h0D
      have HHH := hid hh
      clear hcs R2 e0 hk hh h0D
      go_wp2_with fail
      refine C1.out.mono ?_
      rintro e w' ⟨rfl, rfl⟩
      go_wp2_with (first
        | (at_lookup; refine wpList_lookup_own_int _ rfl _ _ 31 rfl 3 3 .i64 keyI Try.underlying31 Try.underlying3 (zeroI _) W.heap.size c _ rfl HO2.out _ _ rfl hkey ?_; intro c0 hat hwc; obtain rfl : c0 = 0 := by (have := HH0.out.symm.trans hat; simpa using this.symm))
        | (at_mapUpdate; refine wpList_mapUpdate_own _ rfl _ _ _ 31 rfl 3 3 keyI Try.underlying31 _ W.heap.size c _ rfl HO2.out (by unfold maxLen; omega) _ _ _ rfl rfl hkey _ [] (plainElem_int Try.underlying3 (by decide)) ?_; intro w1 hown1 hgrow1))
      have hT := HO2.out.tidy keyI
      have N1 := size_put (k := .int .i64 (k : Int)) hT (.lit (.int .i64 1))
      rw [HHH.out, HS.out] at N1
      have HB3 := hid (HB2.out.grown hgrow1 (by simp; omega) (fun j hj => by cases hj; exact Nat.le_refl _))
      have hz1 := HB3.out.size
      have hz2 := hgrow1.size
      simp only [World.size_alloc] at hz2
      have HD1 : Hid (∃ D : DataW Unit, w1.ownsMap Try.prog 3 (plainElem (H := Unit) Try.prog 3) W.heap.size (c + 1) D ∧ Maps.size D = c + 1 ∧ ∀ d, c + 1 ≤ d → d < 256 → Maps.has D (.int .i64 (one n q d : Nat)) = false) := by
        refine ⟨_, hown1, N1, fun d h1 h2 => ?_⟩
        rw [has_put_other (fun e => ?_)]
        · exact HH.out d (by omega) h2
        · simp only [Lit.int.injEq, true_and] at e
          have := one_inj (n := n) hq (show one n q d = one n q c by rw [← HK.out]; omega)
          omega
      clear hT N1 hown1 hgrow1
      go_roundw
      case rel => exact ⟨c + 1, by omega, by go_num, HD1, HB3, by omega⟩
      case measure => simp [intOf]; omega
    · obtain rfl : c = 256 := by omega
      go_wp2_with (first
        | (at_len; refine wpList_len_own _ rfl _ 31 rfl 3 3 Try.underlying31 _ W.heap.size 256 _ rfl HO.out ?_; rw [HS.out])
        | (go_at_call 11; refine (KN.out _).mono ?_; rintro e w' ⟨rfl, hb⟩; have HB5 := hid (below_then HB.out hb); clear hb))
      go_ret
      exact ⟨rfl, HB5.out⟩

theorem crcEach_walk (H : Type) (enc : TypeId × Value → H) (W : World) (base : Nat) (args : Array Value) (ds gs : List (DataW H)) (before : List MemPlace)
    (hval : ∀ (j : Nat) t v, Try.f7.params[j]? = some t → args[j]? = some v → Value.okWide Try.prog W .any base t v)
    (hW : DataW.Whole enc Try.prog Try.f7.params.toList Rows.crcEachSpec.vars false W args.toList ds gs before)
    (hz : (DataW.weightsEach Try.prog (Try.f7.params.toList ++ Rows.crcEachSpec.plain.varTypes Try.prog) (ds ++ gs)).all (· ≤ reachBytes) = true)
    (hL : laidMetH Try.prog Rows.crcEachRow.laid W) (hsh : W.ShapedOpen Try.prog) :
    Calls Try.prog 7 args W fun e W' => e = .returned (.bool true) ∧ Below W.heap.size W W' := by
  obtain ⟨p, q, hA, _, _, _, _⟩ := hW
  rw [Try.params7] at hA hval
  rw [Try.params7] at hz
  obtain ⟨v0, vs0, d0, ds0, p0, q0, hargs, rfl, rfl, h0, r0⟩ := trodAll_cons hA
  obtain ⟨v1, vs1, d1, ds1, p1, q1, rfl, rfl, rfl, h1, r1⟩ := trodAll_cons r0
  obtain ⟨rfl, rfl, rfl⟩ := trodAll_nil r1
  obtain rfl : args = #[v0, v1] := by cases args; simp_all
  obtain ⟨x0, rfl, rfl, rfl, w0⟩ := open_int Try.underlying3 (hval 0 3 v0 rfl rfl) h0
  have b0 := bounds_i64 w0
  obtain ⟨x1, rfl, rfl, rfl, w1⟩ := open_int Try.underlying3 (hval 1 3 v1 rfl rfl) h1
  have b1 := bounds_i64 w1
  by_cases hb : x0 < 1 ∨ (1 ≤ x0 ∧ 60 < x0) ∨ (1 ≤ x0 ∧ x0 ≤ 60 ∧ x1 < 0) ∨ (1 ≤ x0 ∧ x0 ≤ 60 ∧ 0 ≤ x1 ∧ x0 ≤ x1)
  · exact crcEach_out x0 x1 W hb
  · obtain ⟨n, rfl⟩ : ∃ y : Nat, x0 = y := ⟨x0.toNat, by omega⟩
    obtain ⟨q, rfl⟩ : ∃ y : Nat, x1 = y := ⟨x1.toNat, by omega⟩
    exact crcEach_in n q W (by omega) (by omega) (by omega)

theorem crcEach_lifted (os : Os) (started : os.Started) (H : Type) (enc : TypeId × Value → H) (F : Stop.Interp) :
    ReturnsInHanded {} Try.checked os 7 .any ((OpenSpec.ofChange Rows.crcEachSpec).preRow enc Try.prog Try.f7 Rows.crcEachRow.domain false Rows.crcEachRow.laid) (((OpenSpec.ofChange Rows.crcEachSpec).at F).post enc Try.prog Try.f7 false true false false) := by
  obtain ⟨places, hx⟩ : ∃ places, DataW.whole enc Try.prog ((World.holding Try.prog os ⟨#[], #[], []⟩).forCall (fun _ _ => 0) ⟨#[], #[.int .i64 0, .int .i64 0], []⟩).memory Try.f7.params.toList Rows.crcEachSpec.vars false (#[.int .i64 0, .int .i64 0] : Array Value).toList 8 = some ([.lit (.int .i64 0), .lit (.int .i64 0)], [], places) := ⟨[], by kernel_rfl⟩
  refine returnsInHanded_of_row (C := Try.checked) (s := OpenSpec.ofChange Rows.crcEachSpec) own started (by kernel_rfl) Try.func7
    (witness_row_at (enc := enc) (C := Try.checked) false (World.holding Try.prog os ⟨#[], #[], []⟩) #[.int .i64 0, .int .i64 0] rfl (by kernel_rfl) (by kernel_rfl) (by kernel_rfl)
      (OpenSpec.preRow_of_cond 8 hx (by kernel_rfl) (fun k hk => by cases hk) (by kernel_rfl) (laidMet_nil _ _))) ?_
  intro W base args ds gs before hval hW _ _ hz hL hsh _
  refine (crcEach_walk H enc W base args ds gs before hval hW hz hL hsh).mono fun e W' ⟨he, hb⟩ => ⟨_, he, ?_⟩
  exact law_post (fn := Try.f7) (s := Rows.crcEachSpec) (tb := 4) rfl (fun ds hd => by match ds, hd with | [d0, d1], _ => rfl) rfl Try.underlying4 (by kernel_rfl) hW hb

theorem crcEach_said : Rows.CrcEachSaid :=
  OpenClaim.holds_of_cond 7 Try.f7 rfl rfl rfl rfl rfl rfl rfl ⟨rfl, rfl, rfl, rfl, rfl⟩ rfl rfl rfl rfl rfl (by kernel_rfl) Try.func7 (by kernel_rfl)
    (of_decide_eq_true (by kernel_rfl)) (by unfold Func.isWrapper; first | (rw [if_pos (by decide +kernel)]; kernel_rfl) | (rw [if_neg (by decide +kernel)]; exact ⟨rfl, rfl⟩))
    (fun os started H enc _ F => by rw [OpenClaim.pre_eq_preRow]; exact crcEach_lifted os started H enc F)
end Go.Proofs.Ytoccijceceikoaa
