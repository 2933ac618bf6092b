/- BoxLong: a file may have so many bytes, and no more, for every input. -/
import Derived.Test.YtgbhnkiballeeaaBxLaw
import Derived.Deep.AppendLies
import Derived.Deep.DeepCutAuto
import Derived.BigRegion
import Derived.RegionTactic
namespace Go.Proofs.Ytgbhnkiballeeaa
set_option linter.unusedVariables false
set_option linter.unusedSimpArgs false
set_option maxRecDepth 100000
open Go.ChangeShapes Go.WideShapes Go.ChangeAt Go.RowKit

theorem Try.blinfo5 : (Try.prog.info? 5).map (fun i => (i.zero, i.size, i.bytes)) = some (some (.int .u8 0), 1, 1) := by kernel_rfl
theorem boxLong_out (x : Int) (t : Bool) (W : World) (h : x < -20 ∨ (-20 ≤ x ∧ 20 < x)) :
    Calls Try.prog 10 #[.int .i64 x, .bool t] W fun e W' => e = .returned (.bool true) ∧ Below W.heap.size W W' := by
  rcases h with h | ⟨h, h1⟩
  all_goals
    go_enter Try.func10, Try.ntmps10
    go_wp2
    go_ret
    exact ⟨rfl, Below.refl _ _⟩
def zs (n : Nat) : List Nat := List.replicate n 0
theorem zs_at {w : World} {b n : Nat} (h : Blk w b (madeCells #[.int .u8 0] n).toList 5) (hn : n ≤ 200000) : BytesAt w (.slice (some ⟨b, 0, none⟩) n n) (zs n) := by
  have := SlAt.blk (f := u8v) (d := 0) (l := zs n) (n := n) h (by simp [zs]) (fun i hi => by
    simp only [madeCells, Array.toList_map, Array.toList_range, List.getElem?_map]
    rw [List.getElem?_range hi]
    simp [Nat.mod_one, u8v, zs, List.getD, hi]) n (Nat.le_refl _) (by unfold maxLen; omega)
  exact this
theorem zs_lt (n : Nat) : ∀ i, (zs n).getD i 0 < 256 := list_lt fun x hx => by
  unfold zs at hx; rw [List.mem_replicate] at hx; omega
/-- One section, or two, built. -/
theorem secs_one {w : World} {b : Nat} {v : Value} {s : Bx.Sec} (h : Blk w b [.int .i64 s.1, v] 42) (hv : BytesAt w v s.2) : SecsAt w (.slice (some ⟨b, 0, none⟩) 1 1) [s] :=
  ⟨_, _, rfl, Nat.le_refl _, by unfold maxLen; show 1 ≤ _; omega, (fun h => by cases h), Or.inr ⟨b, 0, rfl, fun i hi => by
    obtain rfl : i = 0 := by simpa using hi
    exact ⟨h.cell rfl, v, h.cell rfl, hv⟩⟩⟩
theorem secs_two {w : World} {b : Nat} {v1 v2 : Value} {s1 s2 : Bx.Sec} (h : Blk w b [.int .i64 s1.1, v1, .int .i64 s2.1, v2] 42) (hv1 : BytesAt w v1 s1.2) (hv2 : BytesAt w v2 s2.2) : SecsAt w (.slice (some ⟨b, 0, none⟩) 2 2) [s1, s2] :=
  ⟨_, _, rfl, Nat.le_refl _, by unfold maxLen; show 2 ≤ _; omega, (fun h => by cases h), Or.inr ⟨b, 0, rfl, fun i hi => by
    match i, hi with
    | 0, _ => exact ⟨h.cell rfl, v1, h.cell rfl, hv1⟩
    | 1, _ => exact ⟨h.cell rfl, v2, h.cell rfl, hv2⟩
    | i + 2, hi => simp at hi; omega⟩⟩
theorem long_total1 (m : Nat) : Bx.total [(1, zs m)] = m + 16 := by simp [Bx.total, Bx.sizes, zs]; omega
theorem long_total2 (m k : Nat) : Bx.total [(1, zs m), (255, zs k)] = m + k + 23 := by simp [Bx.total, Bx.sizes, zs]; omega
theorem long_may1 (m : Nat) : Bx.May [(1, zs m)] ↔ m + 16 ≤ 100000 := by
  unfold Bx.May; rw [long_total1]; simp [Bx.rise]
theorem long_may2 (m k : Nat) : Bx.May [(1, zs m), (255, zs k)] ↔ m + k + 23 ≤ 100000 := by
  unfold Bx.May; rw [long_total2]; simp [Bx.rise]
theorem long_bytes1 (m : Nat) : Bx.Bytes [(1, zs m)] := fun s hs => by
  simp at hs; subst hs; exact zs_lt m
theorem long_bytes2 (m k : Nat) : Bx.Bytes [(1, zs m), (255, zs k)] := fun s hs => by
  simp at hs; rcases hs with rfl | rfl
  · exact zs_lt m
  · exact zs_lt k
set_option maxHeartbeats 1000000 in
theorem boxLong_one (m : Nat) (x : Int) (W : World) (hx : -20 ≤ x) (hx2 : x ≤ 20) (hm : (m : Int) = 99984 + x) :
    Calls Try.prog 10 #[.int .i64 x, .bool false] W fun e W' => e = .returned (.bool true) ∧ Below W.heap.size W W' := by
  obtain ⟨i0, hi, hz0, hz1, hz2⟩ := info_parts Try.blinfo5
  have mk1 : ∀ W : World, (Instr.makeSlice 24 (.int .i64 (m : Int)) (.int .i64 (m : Int))).run Try.prog W = _ := fun W => run_make W 24 5 i0 _ Try.underlying24 hi hz0 .i64 .i64 m m (by omega) (by omega) (by rw [hz2]; omega) (by omega)
  rw [hm] at mk1
  have HMM := hid hm
  have htn : (99984 + x).toNat = m := by omega
  clear hm
  go_enter Try.func10, Try.ntmps10
  go_upto_region 5 with fail
  obtain ⟨w3, hw3⟩ : ∃ w3, w3 = (W.alloc (.cells (madeCells #[.int .u8 0] m) 5)).alloc (.cells #[.int .i64 1, .slice (some ⟨W.heap.size, 0, none⟩) m m] 42) := ⟨_, rfl⟩
  rw [← hw3]
  have SA := hid (show SecsAt w3 (.slice (some ⟨W.heap.size + 1, 0, none⟩) 1 1) [(1, zs m)] by
    rw [hw3]
    refine secs_one (v := .slice (some ⟨W.heap.size, 0, none⟩) m m) (Blk.new' (by simp) rfl) (zs_at ((Blk.new' rfl rfl).alloc _) (by omega)))
  have HB3 := hid (show Below W.heap.size W w3 by rw [hw3]; exact ((Below.refl _ _).alloc (Nat.le_refl _) _).alloc (by simp) _)
  generalize W.heap.size + 1 = bs at *
  clear hw3 mk1
  by_cases hpos : 0 < x
  · have hpb : decide (0 < x) = true := decide_eq_true hpos
    have PK := hid (bpack_no (some ⟨bs, 0, none⟩) 1 1 [(1, zs m)] w3 rfl SA.out (fun s hs => by simp at hs; subst hs; simp [zs]; have := HMM.out; omega) (by rw [long_may1]; have := HMM.out; omega))
    clear SA
    go_wp2_with (first
      | (go_at_call 12; refine PK.out.mono ?_; rintro e w4 ⟨rfl, hB4⟩)
      | (go_at_call 14; refine (known_any _).mono ?_; rintro e w6 ⟨rfl, hB6⟩))
    go_ret
    exact ⟨rfl, below_then (below_then HB3.out hB4) hB6⟩
  · have hpb : decide (0 < x) = false := decide_eq_false hpos
    have hM : Bx.May [(1, zs m)] := by rw [long_may1]; have := HMM.out; omega
    have PK := hid (bpack_ok (some ⟨bs, 0, none⟩) 1 1 [(1, zs m)] w3 rfl SA.out hM (long_bytes1 m))
    have UB := hid (unp_back hM)
    have HFL := hid (file_lt [(1, zs m)] (long_bytes1 m))
    have HLEN := hid (Bx.file_length [(1, zs m)])
    have HT := hid (long_total1 m)
    have hTI : ((Bx.total [(1, zs m)] : Nat) : Int) = 100000 + x := by rw [HT.out]; have := HMM.out; omega
    generalize Bx.file [(1, zs m)] = F at *
    generalize Bx.total [(1, zs m)] = T at *
    clear hM SA
    have hTb : ((T : Int) == 100000 + x) = true := by rw [beq_iff_eq]; exact hTI
    clear hTI
    go_upto_region 8 with (go_at_call 12; refine PK.out.mono ?_; rintro e w4 ⟨v4, rfl, hB4, hown⟩; obtain ⟨a4, c4, rfl, _⟩ := rowAt_own hown)
    have HB4 := hid (below_then HB3.out hB4)
    have UN := hid (bunp_any a4 T c4 F w4 HLEN.out.symm (own_bytes hown HLEN.out.symm) HFL.out)
    clear hown hB4 PK
    go_wp2_with fail
    refine UN.out.mono ?_
    rintro e w5 ⟨hB5, hE⟩
    obtain ⟨v5, rfl, hF5⟩ := ends_some hE UB.out
    obtain ⟨a5, c5, rfl, _⟩ := SecsAt.open hF5.it
    have HB5 := hid (below_then HB4.out hB5)
    clear hE hF5 hB5 UN
    go_wp2_with (go_at_call 14; refine (known_any _).mono ?_; rintro e w6 ⟨rfl, hB6⟩)
    go_ret
    exact ⟨rfl, below_then HB5.out hB6⟩
set_option maxHeartbeats 1000000 in
theorem boxLong_two (m : Nat) (x : Int) (W : World) (hx : -20 ≤ x) (hx2 : x ≤ 20) (hm : (m : Int) = 99984 + x) :
    Calls Try.prog 10 #[.int .i64 x, .bool true] W fun e W' => e = .returned (.bool true) ∧ Below W.heap.size W W' := by
  obtain ⟨i0, hi, hz0, hz1, hz2⟩ := info_parts Try.blinfo5
  obtain ⟨k, hk⟩ : ∃ k : Nat, (k : Int) = 99984 + x - 1000 - 7 := ⟨(99984 + x - 1000 - 7).toNat, by omega⟩
  have hmk : m = k + 1007 := by omega
  have mk1 : ∀ W : World, (Instr.makeSlice 24 (.int .i64 (m : Int)) (.int .i64 (m : Int))).run Try.prog W = _ := fun W => run_make W 24 5 i0 _ Try.underlying24 hi hz0 .i64 .i64 m m (by omega) (by omega) (by rw [hz2]; omega) (by omega)
  have mk2 : ∀ W : World, (Instr.makeSlice 24 (.int .i64 (k : Int)) (.int .i64 (k : Int))).run Try.prog W = _ := fun W => run_make W 24 5 i0 _ Try.underlying24 hi hz0 .i64 .i64 k k (by omega) (by omega) (by rw [hz2]; omega) (by omega)
  have mk3 : ∀ W : World, (Instr.makeSlice 24 (.int .i64 1000) (.int .i64 1000)).run Try.prog W = _ := fun W => run_make W 24 5 i0 _ Try.underlying24 hi hz0 .i64 .i64 1000 1000 (by omega) (by omega) (by rw [hz2]; omega) (by omega)
  rw [hm] at mk1
  rw [hk] at mk2
  have HMM := hid hm
  have HKK := hid hk
  have HMK := hid hmk
  have htn : (99984 + x).toNat = m := by omega
  have htk : (99984 + x - 1000 - 7).toNat = k := by omega
  have hk3 : k ≤ 100000 := by omega
  have hm3 : m ≤ 100100 := by omega
  clear hm hk hmk
  go_enter Try.func10, Try.ntmps10
  go_upto_region 5 with fail
  obtain ⟨w3, hw3⟩ : ∃ w3, w3 = (W.alloc (.cells (madeCells #[.int .u8 0] m) 5)).alloc (.cells #[.int .i64 1, .slice (some ⟨W.heap.size, 0, none⟩) m m] 42) := ⟨_, rfl⟩
  rw [← hw3]
  have HB3 := hid (show Below W.heap.size W w3 by rw [hw3]; exact ((Below.refl _ _).alloc (Nat.le_refl _) _).alloc (by simp) _)
  clear hw3 mk1
  go_upto_region 6 with fail
  go_cut [6] (fun s6 wx => ∃ bs, s6 = .slice (some ⟨bs, 0, none⟩) 2 2 ∧ Hid (SecsAt wx s6 [(1, zs k), (255, zs 1000)]) ∧ Hid (Below W.heap.size W wx))
  case first =>
    go_region
    all_goals
      go_wp2_with fail
      go_meet
      refine ⟨_, rfl, hid ?_, hid ?_⟩
      · refine SecsAt.keep ?_ (Below.refl _ _).drew
        first
          | exact secs_two (Blk.new' (by simp) rfl) (zs_at (((Blk.new' rfl rfl).alloc _).alloc _) (by omega)) (zs_at ((Blk.new' (by simp) rfl).alloc _) (by omega))
          | exact secs_two (Blk.new' (by simp) rfl) (zs_at ((Blk.new' (by simp) rfl).alloc _) (by omega)) (zs_at (((Blk.new' rfl rfl).alloc _).alloc _) (by omega))
      · have hz3 := HB3.out.size
        exact (((HB3.out.alloc hz3 _).alloc (by simp; omega) _).alloc (by simp; omega) _).drew
  case rest =>
    obtain ⟨bs, rfl, SA, HB3⟩ := hcut
    by_cases hpos : 0 < x
    · have hpb : decide (0 < x) = true := decide_eq_true hpos
      have PK := hid (bpack_no (some ⟨bs, 0, none⟩) 2 2 [(1, zs k), (255, zs 1000)] wc rfl SA.out (fun s hs => by
        simp at hs
        have := HKK.out
        rcases hs with rfl | rfl <;> simp [zs] <;> omega) (by rw [long_may2]; have := HKK.out; omega))
      clear SA
      go_wp2_with (first
        | (go_at_call 12; refine PK.out.mono ?_; rintro e w4 ⟨rfl, hB4⟩)
        | (go_at_call 14; refine (known_any _).mono ?_; rintro e w6 ⟨rfl, hB6⟩))
      go_ret
      exact ⟨rfl, below_then (below_then HB3.out hB4) hB6⟩
    · have hpb : decide (0 < x) = false := decide_eq_false hpos
      have hM : Bx.May [(1, zs k), (255, zs 1000)] := by rw [long_may2]; have := HKK.out; omega
      have PK := hid (bpack_ok (some ⟨bs, 0, none⟩) 2 2 [(1, zs k), (255, zs 1000)] wc rfl SA.out hM (long_bytes2 k 1000))
      have UB := hid (unp_back hM)
      have HFL := hid (file_lt [(1, zs k), (255, zs 1000)] (long_bytes2 k 1000))
      have HLEN := hid (Bx.file_length [(1, zs k), (255, zs 1000)])
      have HT := hid (long_total2 k 1000)
      have hTI : ((Bx.total [(1, zs k), (255, zs 1000)] : Nat) : Int) = 100000 + x := by rw [HT.out]; have := HKK.out; omega
      generalize Bx.file [(1, zs k), (255, zs 1000)] = F at *
      generalize Bx.total [(1, zs k), (255, zs 1000)] = T at *
      clear hM SA
      have hTb : ((T : Int) == 100000 + x) = true := by rw [beq_iff_eq]; exact hTI
      clear hTI
      go_upto_region 8 with (go_at_call 12; refine PK.out.mono ?_; rintro e w4 ⟨v4, rfl, hB4, hown⟩; obtain ⟨a4, c4, rfl, _⟩ := rowAt_own hown)
      have HB4 := hid (below_then HB3.out hB4)
      have UN := hid (bunp_any a4 T c4 F w4 HLEN.out.symm (own_bytes hown HLEN.out.symm) HFL.out)
      clear hown hB4 PK
      go_wp2_with fail
      refine UN.out.mono ?_
      rintro e w5 ⟨hB5, hE⟩
      obtain ⟨v5, rfl, hF5⟩ := ends_some hE UB.out
      obtain ⟨a5, c5, rfl, _⟩ := SecsAt.open hF5.it
      have HB5 := hid (below_then HB4.out hB5)
      clear hE hF5 hB5 UN
      go_wp2_with (go_at_call 14; refine (known_any _).mono ?_; rintro e w6 ⟨rfl, hB6⟩)
      go_ret
      exact ⟨rfl, below_then HB5.out hB6⟩


theorem boxLong_walk (H : Type) (enc : TypeId × Value → H) (W : World) (base : Nat) (args : Array Value) (ds gs : List (DataW H)) (before : List MemPlace)
    (hval : ∀ (j : Nat) t v, Try.f10.params[j]? = some t → args[j]? = some v → Value.okWide Try.prog W .any base t v)
    (hW : DataW.Whole enc Try.prog Try.f10.params.toList Rows.boxLongSpec.vars false W args.toList ds gs before)
    (hz : (DataW.weightsEach Try.prog (Try.f10.params.toList ++ Rows.boxLongSpec.plain.varTypes Try.prog) (ds ++ gs)).all (· ≤ reachBytes) = true)
    (hL : laidMetH Try.prog Rows.boxLongRow.laid W) (hsh : W.ShapedOpen Try.prog) :
    Calls Try.prog 10 args W fun e W' => e = .returned (.bool true) ∧ Below W.heap.size W W' := by
  obtain ⟨p, q, hA, _, _, _, _⟩ := hW
  rw [Try.params10] at hA hval
  rw [Try.params10] at hz
  obtain ⟨v0, vs0, d0, ds0, p0, q0, hargs, rfl, rfl, h0, r0⟩ := trodAll_cons hA
  obtain ⟨v1, vs1, d1, ds1, p1, q1, rfl, rfl, rfl, h1, r1⟩ := trodAll_cons r0
  obtain ⟨rfl, rfl, rfl⟩ := trodAll_nil r1
  obtain rfl : args = #[v0, v1] := by cases args; simp_all
  obtain ⟨x0, rfl, rfl, rfl, w0⟩ := open_int Try.underlying3 (hval 0 3 v0 rfl rfl) h0
  have b0 := bounds_i64 w0
  obtain ⟨x1, rfl, rfl, rfl⟩ := Go.RowKit.open_bool Try.underlying4 (hval 1 4 v1 rfl rfl) h1
  by_cases hb : x0 < -20 ∨ (-20 ≤ x0 ∧ 20 < x0)
  · exact boxLong_out x0 x1 W hb
  · obtain ⟨m, hm⟩ : ∃ m : Nat, (m : Int) = 99984 + x0 := ⟨(99984 + x0).toNat, by omega⟩
    cases x1 with
    | false => exact boxLong_one m x0 W (by omega) (by omega) hm
    | true => exact boxLong_two m x0 W (by omega) (by omega) hm

theorem boxLong_lifted (os : Os) (started : os.Started) (H : Type) (enc : TypeId × Value → H) (F : Stop.Interp) :
    ReturnsInHanded {} Try.checked os 10 .any ((OpenSpec.ofChange Rows.boxLongSpec).preRow enc Try.prog Try.f10 Rows.boxLongRow.domain false Rows.boxLongRow.laid) (((OpenSpec.ofChange Rows.boxLongSpec).at F).post enc Try.prog Try.f10 false true false false) := by
  obtain ⟨places, hx⟩ : ∃ places, DataW.whole enc Try.prog ((World.holding Try.prog os ⟨#[], #[], []⟩).forCall (fun _ _ => 0) ⟨#[], #[.int .i64 0, .bool false], []⟩).memory Try.f10.params.toList Rows.boxLongSpec.vars false (#[.int .i64 0, .bool false] : Array Value).toList 8 = some ([.lit (.int .i64 0), .lit (.bool false)], [], places) := ⟨[], by kernel_rfl⟩
  refine returnsInHanded_of_row (C := Try.checked) (s := OpenSpec.ofChange Rows.boxLongSpec) own started (by kernel_rfl) Try.func10
    (witness_row_at (enc := enc) (C := Try.checked) false (World.holding Try.prog os ⟨#[], #[], []⟩) #[.int .i64 0, .bool false] rfl (by kernel_rfl) (by kernel_rfl) (by kernel_rfl)
      (OpenSpec.preRow_of_cond 8 hx (by kernel_rfl) (fun k hk => by cases hk) (by kernel_rfl) (laidMet_nil _ _))) ?_
  intro W base args ds gs before hval hW _ _ hz hL hsh _
  refine (boxLong_walk H enc W base args ds gs before hval hW hz hL hsh).mono fun e W' ⟨he, hb⟩ => ⟨_, he, ?_⟩
  exact law_post (fn := Try.f10) (s := Rows.boxLongSpec) (tb := 4) rfl (fun ds hd => by match ds, hd with | [d0, d1], _ => rfl) rfl Try.underlying4 (by kernel_rfl) hW hb

theorem boxLong_said : Rows.BoxLongSaid :=
  OpenClaim.holds_of_cond 10 Try.f10 rfl rfl rfl rfl rfl rfl rfl ⟨rfl, rfl, rfl, rfl, rfl⟩ rfl rfl rfl rfl rfl (by kernel_rfl) Try.func10 (by kernel_rfl)
    (of_decide_eq_true (by kernel_rfl)) (by unfold Func.isWrapper; first | (rw [if_pos (by decide +kernel)]; kernel_rfl) | (rw [if_neg (by decide +kernel)]; exact ⟨rfl, rfl⟩))
    (fun os started H enc _ F => by rw [OpenClaim.pre_eq_preRow]; exact boxLong_lifted os started H enc F)
end Go.Proofs.Ytgbhnkiballeeaa
