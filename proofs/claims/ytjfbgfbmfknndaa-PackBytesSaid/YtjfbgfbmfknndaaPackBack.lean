/- PackBack: what was packed is unpacked as it was; with a byte more or less it is none: for every input. -/
import Derived.Test.YtjfbgfbmfknndaaPackLaw
namespace Go.Proofs.Ytjfbgfbmfknndaa
set_option linter.unusedVariables false
set_option linter.unusedSimpArgs false
set_option maxRecDepth 100000
open Go.ChangeShapes Go.WideShapes Go.ChangeAt Go.RowKit

theorem packBack_out (a : Option Addr) (cap : Nat) (l : List Int) (w : Int) (W : World) (hbig : l.length ≤ 9223372036854775807) (h : 500 < l.length ∨ (l.length ≤ 500 ∧ ¬ Pm.May l w))
    (hl : ∀ i, -9223372036854775808 ≤ l.getD i 0 ∧ l.getD i 0 ≤ 9223372036854775807) (hR : RowAt W a l.length fun i => .int .i64 (l.getD i 0)) :
    Calls Try.prog 4 #[.slice a l.length cap, .int .i64 w] W fun e W' => e = .returned (.bool true) ∧ Below W.heap.size W W' := by
  rcases h with h | ⟨h1, h⟩
  · clear hR hl
    go_enter Try.func4, Try.ntmps4
    go_wp2
    go_ret
    exact ⟨rfl, Below.refl _ _⟩
  · have MY := hid (rmay_any a l.length cap w l W false rfl hbig (by simp [h]) (fun i _ => (hl i).2) hR)
    clear hR hl h hbig
    go_enter Try.func4, Try.ntmps4
    go_wp2_with (go_at_call 18; refine MY.out.mono ?_; rintro e w' ⟨rfl, rfl⟩)
    go_ret
    exact ⟨rfl, Below.refl _ _⟩
theorem bytesAt_append {W : World} {base : Nat} {t : TypeId} {v : Value} {l : List Nat} (h : W.ownsRow base t 1 v l.length (l.map fun x => Value.int .u8 (x : Nat))) : BytesAt W v l := by
  obtain ⟨a, cap, rfl, _, _, _, hr⟩ := rowAt_own h
  refine ⟨a, cap, rfl, ?_⟩
  rcases hr with h0 | ⟨b, off, ha, hc⟩
  · exact Or.inl h0
  · refine Or.inr ⟨b, off, ha, fun i hi => ?_⟩
    rw [hc i hi]
    simp [List.getD, hi]
theorem bytesAt_take {W : World} {a : Option Addr} {m : Nat} {l : List Nat} (k : Nat) (hm : m = l.length) (h : RowAt W a m fun i => .int .u8 (l.getD i 0 : Nat)) (hk : k ≤ m) (cap2 : Nat) : BytesAt W (.slice a k cap2) (l.take k) := by
  refine ⟨a, cap2, by rw [List.length_take]; congr 1; omega, ?_⟩
  rw [List.length_take, show min k l.length = k by omega]
  rcases h with h0 | ⟨b, off, ha, hc⟩
  · exact Or.inl (by omega)
  · refine Or.inr ⟨b, off, ha, fun i hi => ?_⟩
    rw [hc i (by omega)]
    simp [List.getD, hi]
theorem un_len {l : List Nat} {n w : Nat} (h : mb n w = true) (hs : l.length ≠ Pm.size n w) : unCode l n w = 2 ∧ unList l n w = [] := by
  have : ¬ Un l n w := fun h => hs (by simpa using h.2.1)
  have := un_no this
  rw [if_pos h] at this
  exact this
theorem un_bytes {l : List Int} {w : Nat} (h : Pm.May l w) : unCode (Pm.bytes l w) l.length w = 0 ∧ unList (Pm.bytes l w) l.length w = l := by
  have hu : Un (Pm.bytes l w) l.length w := by
    refine ⟨((may_iff l w).1 h).1, by rw [Pm.bytes_length]; simp, ?_⟩
    simpa using Pm.bytes_noughts l w
  have := un_yes hu
  simp only [Int.toNat_natCast] at this
  rw [Pm.nums_bytes l w h] at this
  exact this
theorem packed_row {W : World} {b n m w : Nat} {l : List Int} {B : List Nat} {t : TypeId} (hn : n = l.length) (hm : m = Pm.size n w) (hB : B = Pm.bytes l w) (h : Blk W b (packCells l w (n * w) m) t) :
    RowAt W (some ⟨b, 0, none⟩) m fun i => .int .u8 (B.getD i 0 : Nat) := by
  subst hn hm hB
  have h := packed_at h
  obtain ⟨a', cap', e1, r1⟩ := h
  rw [Pm.bytes_length] at e1 r1
  simp only [Value.slice.injEq] at e1
  rw [e1.1]
  exact r1

set_option maxHeartbeats 1000000 in
theorem packBack_in (a : Option Addr) (cap : Nat) (l : List Int) (w : Nat) (W : World) (h1 : l.length ≤ 500) (hm : Pm.May l w)
    (hl : ∀ i, -9223372036854775808 ≤ l.getD i 0 ∧ l.getD i 0 ≤ 9223372036854775807) (hR : RowAt W a l.length fun i => .int .i64 (l.getD i 0)) :
    Calls Try.prog 4 #[.slice a l.length cap, .int .i64 w] W fun e W' => e = .returned (.bool true) ∧ Below W.heap.size W W' := by
  obtain ⟨n, hn⟩ : ∃ n, n = l.length := ⟨_, rfl⟩
  have LA : NumsAt W (.slice a n cap) l := ⟨a, cap, by rw [hn], hR⟩
  have hw20 : w ≤ 20 := by have := hm.2.1; omega
  have MY := hid (rmay_any a l.length cap w l W true rfl (by omega) (by simp [hm]) (fun i _ => (hl i).2) hR)
  have SP := hid (pack_ok a n cap w l W hn hm (by rw [hn]; exact hR))
  have hmb := ((may_iff l w).1 hm).1
  have HU := hid (un_bytes hm)
  have hbl := Pm.bytes_length l w
  have hbt := Pm.bytes_lt l w
  have hsz : Pm.size n w ≤ 1251 := by unfold Pm.size; have : n * w ≤ 500 * 20 := Nat.mul_le_mul (by omega) hw20; omega
  rw [← hn] at hbl h1 hmb HU MY ⊢
  obtain ⟨B, hB⟩ : ∃ B, B = Pm.bytes l w := ⟨_, rfl⟩
  obtain ⟨m, hmm⟩ : ∃ m, m = Pm.size n w := ⟨_, rfl⟩
  rw [← hB] at hbl hbt HU
  rw [← hmm] at hbl hsz
  rw [← hmm] at SP
  obtain ⟨N, hN⟩ : ∃ N, N = n * w := ⟨_, rfl⟩
  have hNI : (n : Int) * w = N := by rw [hN]; simp
  have hmI : ((N : Int) + 7) / 8 = m := by rw [hmm, hN]; unfold Pm.size; omega
  have hN0 : N ≤ 10000 := by rw [hN]; exact Nat.mul_le_mul h1 hw20
  have SU := hid (fun W' v (h : BytesAt W' v B) => unpack_all v W' B n w (by rw [hbl]; unfold maxLen; omega) hbt h)
  rw [HU.out.1, HU.out.2] at SU
  have U2 := hid (un_len (l := B ++ [0]) hmb (by rw [List.length_append, hbl, ← hmm]; simp))
  have SU2 := hid (fun W' v (h : BytesAt W' v (B ++ [0])) => unpack_all v W' (B ++ [0]) n w (by rw [List.length_append, hbl]; unfold maxLen; simp; omega) (fun i => by
    rcases Nat.lt_or_ge i B.length with h1 | h1
    · rw [getD_left h1]; exact hbt i
    · rw [getD_right h1]; cases i - B.length <;> simp) h)
  rw [U2.out.1, U2.out.2] at SU2
  have SM := hid (fun W' v (h : NumsAt W' v l) (hb : Below W.heap.size W W') => rsame_all v _ l l W' true (by omega) (by omega) (by simp) h (LA.keep hb))
  have KN := hid (fun W' => known_any W')
  obtain ⟨i0, hi, hz0, hz1, hz2⟩ := info_parts Try.info5
  have HBL := hid hbl
  have SZ0 := hid hmm
  have HMB := hid hmb
  have HBT := hid hbt
  have HLA := hid LA
  have HBB := hid hB
  have HN0 := hid hn
  clear hmb hbl hbt hmm hN hB hm hn hl hR U2 LA
  go_enter Try.func4, Try.ntmps4
  go_wp2_with (go_at_call 18; refine MY.out.mono ?_; rintro e w' ⟨rfl, rfl⟩)
  refine SP.out.mono ?_
  rintro e w1 ⟨b1, rfl, hb1, _, B1⟩
  have hr1 := packed_row HN0.out SZ0.out HBB.out B1
  have HR1 := hid hr1
  have BB1 := hid (show BytesAt w1 (.slice (some ⟨b1, 0, none⟩) m m) B from ⟨_, _, by rw [HBL.out], by rw [HBL.out]; exact hr1⟩)
  have HB1 := hid hb1
  clear SP hr1 hb1 B1
  go_wp2_with fail
  refine (SU.out _ _ BB1.out).mono ?_
  rintro e w2 ⟨p2, rfl, hb2, B2⟩
  have HR2 := hid (HR1.out.keep hb2)
  have BB2 := hid (BB1.out.keep hb2)
  have HB2 := hid (below_then HB1.out hb2)
  have HN2 := hid B2
  clear SU HR1 BB1 HB1 hb2 B2
  go_wp2_with (at_builtin; refine wpList_append_row rfl (.tmp 50) (.tmp 51) 23 rfl w2.heap.size 5 i0 _ 1 Try.underlying23 hi hz0 hz1 hz2 rfl (.slice (some ⟨w2.heap.size, 0, none⟩) 0 0) 0 [] rfl ?own (some ⟨b1, 0, none⟩) m m (fun i => .int .u8 (B.getD i 0 : Nat)) rfl ?nil ?row ?one ?b1 ?b2 ?base ?_)
  case own => exact World.ownsRow_made w2 #[] 0 (Nat.le_refl _) (by unfold maxLen; omega) rfl
  case nil => intro h0; cases h0
  case row => exact HR2.out.keep ((Below.refl _ _).alloc (Nat.le_refl _) _)
  case one => intro j _; rfl
  case b1 => unfold maxLen; omega
  case b2 => omega
  case base => simp
  intro v1 w3 hown hgr
  have hb3 : Below w2.heap.size w2 w3 := ((Below.refl w2.heap.size w2).alloc (Nat.le_refl _) _).grown hgr (by simp) (fun k hk => by
    simp only [Value.ownBlock, Option.some.injEq] at hk; omega)
  try simp only [Nat.zero_add, List.nil_append] at hown
  have HG3 := hid hb3
  have hs3 := hb3.size
  have HO := hid hown
  clear hown hgr hb3
  go_wp2_with (at_builtin; refine wpList_append_row rfl (.tmp 52) (.tmp 53) 23 rfl w2.heap.size 5 i0 _ 1 Try.underlying23 hi hz0 hz1 hz2 rfl v1 _ _ rfl (HO.out.alloc _) (some ⟨w3.heap.size, 0, none⟩) 1 1 (fun _ => .int .u8 0) rfl ?nil ?row ?one ?b1 ?b2 ?base ?_)
  case nil => intro h0; cases h0
  case row => exact Or.inr ⟨_, _, rfl, fun j hj => by obtain rfl : j = 0 := by omega
                                                      rw [Nat.zero_add, World.cell?_alloc_at _ _ _ _ rfl]; rfl⟩
  case one => intro j _; rfl
  case b1 => unfold maxLen; omega
  case b2 => omega
  case base => simp; omega
  intro v2 w4 hown2 hgr2
  have hb4 : Below w2.heap.size w2 w4 := (HG3.out.alloc hs3 _).grown hgr2 (by simp; omega) (fun k hk => (HO.out.lt k hk).1)
  have hba : BytesAt w4 v2 (B ++ [0]) := by
    refine bytesAt_append (base := w2.heap.size) (t := 5) ?_
    rw [List.length_append, HBL.out, List.map_append]
    have e : (List.range m).map (fun i => Value.int .u8 (B.getD i 0 : Nat)) = B.map fun x => Value.int .u8 (x : Nat) := by
      rw [← HBL.out]
      refine List.ext_getElem (by simp) fun i h1 h2 => ?_
      simp [List.getD, show i < B.length by simpa using h1]
    rw [← e]
    exact hown2
  have BB4 := hid hba
  have HN4 := hid (HN2.out.keep hb4)
  have HR4 := hid (HR2.out.keep hb4)
  have HB4 := hid (below_then HB2.out hb4)
  clear hown2 hgr2 hb4 HO HG3 hba HN2 HR2 HB2 BB2 hs3
  go_wp2_with fail
  refine (SU2.out _ _ BB4.out).mono ?_
  rintro e w5 ⟨p5, rfl, hb5, -⟩
  have HN5 := hid (HN4.out.keep hb5)
  have HR5 := hid (HR4.out.keep hb5)
  have HB5 := hid (below_then HB4.out hb5)
  clear SU2 BB4 HN4 HR4 HB4 hb5
  go_wp2_with fail
  refine (SM.out _ _ HN5.out HB5.out).mono ?_
  rintro e w6 ⟨rfl, hb6⟩
  have HR6 := hid (HR5.out.keep hb6)
  have HB6 := hid (below_then HB5.out hb6)
  clear SM HN5 HR5 HB5 hb6
  by_cases hm0 : 0 < m
  · have BT := bytesAt_take (W := w6) (m - 1) HBL.out.symm HR6.out (by omega) m
    have U3 := un_len (l := B.take (m - 1)) HMB.out (by rw [List.length_take, HBL.out, ← SZ0.out]; omega)
    have SU3 := hid (unpack_all _ w6 (B.take (m - 1)) n w (by rw [List.length_take, HBL.out]; unfold maxLen; omega) (fun i => by
      by_cases hi : i < m - 1
      · have := HBT.out i; simpa [List.getD, hi] using this
      · simp only [List.getD, List.getElem?_take, if_neg hi]; decide) BT)
    rw [U3.1, U3.2] at SU3
    clear BT U3
    go_wp2_with fail
    refine SU3.out.mono ?_
    rintro e w7 ⟨p7, rfl, hb7, -⟩
    have HB7 := hid (below_then HB6.out hb7)
    clear SU3 hb7
    go_wp2_with (go_at_call 17; refine (KN.out _).mono ?_; rintro e w' ⟨rfl, hb⟩; have HB8 := hid (below_then HB7.out hb); clear hb)
    go_ret
    exact ⟨rfl, HB8.out⟩
  · obtain rfl : m = 0 := by omega
    go_wp2_with (go_at_call 17; refine (KN.out _).mono ?_; rintro e w' ⟨rfl, hb⟩; have HB7 := hid (below_then HB6.out hb); clear hb)
    go_ret
    exact ⟨rfl, HB7.out⟩

theorem packBack_walk (H : Type) (enc : TypeId × Value → H) (W : World) (base : Nat) (args : Array Value) (ds gs : List (DataW H)) (before : List MemPlace)
    (hval : ∀ (j : Nat) t v, Try.f4.params[j]? = some t → args[j]? = some v → Value.okWide Try.prog W .any base t v)
    (hW : DataW.Whole enc Try.prog Try.f4.params.toList Rows.packBackSpec.vars false W args.toList ds gs before)
    (hz : (DataW.weightsEach Try.prog (Try.f4.params.toList ++ Rows.packBackSpec.plain.varTypes Try.prog) (ds ++ gs)).all (· ≤ reachBytes) = true)
    (hL : laidMetH Try.prog Rows.packBackRow.laid W) (hsh : W.ShapedOpen Try.prog) :
    Calls Try.prog 4 args W fun e W' => e = .returned (.bool true) ∧ Below W.heap.size W W' := by
  obtain ⟨p, q, hA, _, _, _, _⟩ := hW
  rw [Try.params4] at hA hval
  obtain ⟨v0, vs0, d0, ds0, p0, q0, hargs, rfl, rfl, h0, r0⟩ := trodAll_cons hA
  obtain ⟨v1, vs1, d1, ds1, p1, q1, rfl, rfl, rfl, h1, r1⟩ := trodAll_cons r0
  obtain ⟨rfl, rfl, rfl⟩ := trodAll_nil r1
  obtain rfl : args = #[v0, v1] := by cases args; simp_all
  obtain ⟨a0, cap0, l0, rfl, hl0, hm0, hnil0, hb0, hr0⟩ := read_ints Try.underlying22 Try.underlying3 (show Try.prog.cellsOf 3 = 1 by kernel_rfl) (hval 0 22 v0 rfl rfl) h0
  obtain ⟨x1, rfl, rfl, rfl, w1⟩ := open_int Try.underlying3 (hval 1 3 v1 rfl rfl) h1
  by_cases hb : 500 < l0.length ∨ (l0.length ≤ 500 ∧ ¬ Pm.May l0 x1)
  · exact packBack_out a0 cap0 l0 x1 W (by unfold maxLen at hm0; omega) hb hb0 hr0
  · have hs : l0.length ≤ 500 := by omega
    have hm : Pm.May l0 x1 := by
      rcases Classical.em (Pm.May l0 x1) with h | h
      · exact h
      · exact absurd (Or.inr ⟨hs, h⟩) hb
    obtain ⟨k, rfl⟩ : ∃ k : Nat, x1 = k := ⟨x1.toNat, by have := hm.1; omega⟩
    exact packBack_in a0 cap0 l0 k W hs hm hb0 hr0

theorem packBack_lifted (os : Os) (started : os.Started) (H : Type) (enc : TypeId × Value → H) (F : Stop.Interp) :
    ReturnsInHanded {} Try.checked os 4 .any ((OpenSpec.ofChange Rows.packBackSpec).preRow enc Try.prog Try.f4 Rows.packBackRow.domain false Rows.packBackRow.laid) (((OpenSpec.ofChange Rows.packBackSpec).at F).post enc Try.prog Try.f4 false true false false) := by
  obtain ⟨places, hx⟩ : ∃ places, DataW.whole enc Try.prog ((World.holding Try.prog os ⟨#[], #[], []⟩).forCall (fun _ _ => 0) ⟨#[], #[.slice none 0 0, .int .i64 0], []⟩).memory Try.f4.params.toList Rows.packBackSpec.vars false (#[.slice none 0 0, .int .i64 0] : Array Value).toList 8 = some ([.nil, .lit (.int .i64 0)], [], places) := ⟨[], by kernel_rfl⟩
  refine returnsInHanded_of_row (C := Try.checked) (s := OpenSpec.ofChange Rows.packBackSpec) own started (by kernel_rfl) Try.func4
    (witness_row_at (enc := enc) (C := Try.checked) false (World.holding Try.prog os ⟨#[], #[], []⟩) #[.slice none 0 0, .int .i64 0] rfl (by kernel_rfl) (by kernel_rfl) (by kernel_rfl)
      (OpenSpec.preRow_of_cond 8 hx (by kernel_rfl) (fun k hk => by cases hk) (by kernel_rfl) (laidMet_nil _ _))) ?_
  intro W base args ds gs before hval hW _ _ hz hL hsh _
  refine (packBack_walk H enc W base args ds gs before hval hW hz hL hsh).mono fun e W' ⟨he, hb⟩ => ⟨_, he, ?_⟩
  exact law_post (fn := Try.f4) (s := Rows.packBackSpec) (tb := 4) rfl (fun ds hd => by match ds, hd with | [d0, d1], _ => rfl) rfl Try.underlying4 (by kernel_rfl) hW hb

theorem packBack_said : Rows.PackBackSaid :=
  OpenClaim.holds_of_cond 4 Try.f4 rfl rfl rfl rfl rfl rfl rfl ⟨rfl, rfl, rfl, rfl, rfl⟩ rfl rfl rfl rfl rfl (by kernel_rfl) Try.func4 (by kernel_rfl)
    (of_decide_eq_true (by kernel_rfl)) (by unfold Func.isWrapper; first | (rw [if_pos (by decide +kernel)]; kernel_rfl) | (rw [if_neg (by decide +kernel)]; exact ⟨rfl, rfl⟩))
    (fun os started H enc _ F => by rw [OpenClaim.pre_eq_preRow]; exact packBack_lifted os started H enc F)
end Go.Proofs.Ytjfbgfbmfknndaa
