/- RingEach: each triple is found by all that it matches. -/
import Derived.Test.YtagadfgginneeaaRgLaw
namespace Go.Proofs.Ytagadfgginneeaa
set_option linter.unusedVariables false
set_option linter.unusedSimpArgs false
set_option maxRecDepth 100000
open Go.ChangeShapes Go.WideShapes Go.ChangeAt Go.RowKit
/-- A triple with noughts where a mask has none, up to column k. -/
def pmk (t : Rg.T) (m k : Nat) : Rg.T := (if decide (0 < k) && m.testBit 0 then t.1 else 0, if decide (1 < k) && m.testBit 1 then t.2.1 else 0, if decide (2 < k) && m.testBit 2 then t.2.2 else 0)
theorem pmk_zero (t : Rg.T) (m : Nat) : pmk t m 0 = (0, 0, 0) := by simp [pmk]
theorem pmk_yes (t : Rg.T) (m k : Nat) (hk : k < 3) (h : m.testBit k = true) : (tl (pmk t m k)).set k (.int .i64 (Rg.at' t k)) = tl (pmk t m (k + 1)) := by
  rcases Rg.c3 hk with rfl | rfl | rfl <;> simp [pmk, tl, Rg.at', h]
theorem pmk_no (t : Rg.T) (m k : Nat) (hk : k < 3) (h : m.testBit k = false) : pmk t m (k + 1) = pmk t m k := by
  rcases Rg.c3 hk with rfl | rfl | rfl <;> simp [pmk, h]
theorem pmk_at (t : Rg.T) (m d : Nat) (hd : d < 3) : Rg.at' (pmk t m 3) d = if m.testBit d then Rg.at' t d else 0 := by
  rcases Rg.c3 hd with rfl | rfl | rfl <;> simp [pmk, Rg.at']
theorem pmk_mt (t : Rg.T) (m : Nat) : Rg.mt (pmk t m 3) t = true := by
  rw [mt_iff]
  intro c hc
  rw [pmk_at t m c hc]
  split
  · exact Or.inr rfl
  · exact Or.inl rfl
theorem pmk_one {l : List Rg.T} (hl : l.Pairwise Rg.lt) (hok : ∀ t ∈ l, Rg.Ok t) {t : Rg.T} (ht : t ∈ l) : (l.filter (Rg.mt (pmk t 7 3))).length = 1 := by
  have hp := hl.filter (Rg.mt (pmk t 7 3))
  have hall : ∀ s ∈ l.filter (Rg.mt (pmk t 7 3)), s = t := fun s hs => by
    have h := (mt_iff _ _).1 (List.mem_filter.1 hs).2
    refine (at_ext fun d hd => ?_).symm
    have h1 := h d hd
    rw [pmk_at t 7 d hd] at h1
    have h2 : Nat.testBit 7 d = true := by rcases Rg.c3 hd with rfl | rfl | rfl <;> decide
    rw [if_pos h2] at h1
    have := hok t ht d hd
    omega
  have hmem : t ∈ l.filter (Rg.mt (pmk t 7 3)) := List.mem_filter.2 ⟨ht, pmk_mt t 7⟩
  match h : l.filter (Rg.mt (pmk t 7 3)) with
  | [] => rw [h] at hmem; cases hmem
  | [x] => rfl
  | x :: y :: r =>
    rw [h] at hp hall
    have h1 := hall x (by simp)
    have h2 := hall y (by simp)
    rw [List.pairwise_cons] at hp
    have := hp.1 y (by simp)
    rw [h1, h2] at this
    exact absurd this (Rg.lt_irrefl t)
theorem pmk_all (l : List Rg.T) (t : Rg.T) : (l.filter (Rg.mt (pmk t 0 3))).length = l.length := by
  have e : pmk t 0 3 = (0, 0, 0) := by simp [pmk]
  rw [e, List.filter_eq_self.2 (fun s _ => Rg.mt_zero s)]
theorem pmk_low {t : Rg.T} (h : Rg.Ok t) (m : Nat) : ∀ d, d < 3 → -9223372036854775808 ≤ Rg.at' (pmk t m 3) d := by
  intro d hd
  rw [pmk_at t m d hd]
  have := h d hd
  split <;> omega
theorem ringEach_out (v0 : Value) (l : List Rg.T) (W : World) (h : IdsAt W v0 l) (hl : l.length ≤ 140737488351232) (ho : 60 < l.length ∨ ¬ RMay l) :
    Calls Try.prog 4 #[v0] W fun e W' => e = .returned (.bool true) ∧ Below W.heap.size W W' := by
  obtain ⟨a, cap, rfl, p1, p2, p3⟩ := h.open
  have MY := rmay_any _ l W h hl
  clear h
  by_cases hbig : 60 < l.length
  · clear ho
    go_enter Try.func4, Try.ntmps4
    go_wp2
    go_ret
    exact ⟨rfl, Below.refl _ _⟩
  · have hm : ¬ RMay l := by
      rcases ho with h | h
      · exact absurd h hbig
      · exact h
    rw [mayB_no hm] at MY
    clear ho hm
    go_enter Try.func4, Try.ntmps4
    go_wp2_with (go_at_call 12; refine MY.mono ?_; rintro e w2 ⟨rfl, hb2⟩)
    go_ret
    exact ⟨rfl, hb2⟩
set_option maxHeartbeats 4000000 in
theorem ringEach_yes (v0 : Value) (l : List Rg.T) (W : World) (h : IdsAt W v0 l) (hm : RMay l) (h60 : ¬ 60 < l.length) :
    Calls Try.prog 4 #[v0] W fun e W' => e = .returned (.bool true) ∧ Below W.heap.size W W' := by
  obtain ⟨a, cap, hv0, p1, p2, p3⟩ := h.open
  have hl := hm.2.2
  have hl140 : l.length ≤ 140737488351232 := by omega
  have HI := hid h
  have HM := hid hm
  have MY := rmay_any v0 l W h hl140
  rw [(mayB_iff l).2 hm] at MY
  have NW := hid fun w (h : Below W.heap.size W w) => rgnew_ok v0 l w (HI.out.keep h) hm
  have AL := hid fun p q w (h : IsRing w p l) (hq : ∀ c, c < 3 → -9223372036854775808 ≤ Rg.at' q c) => rall_any p l q w h hq
  have CN := hid fun p q w (h : IsRing w p l) (hq : ∀ c, c < 3 → -9223372036854775808 ≤ Rg.at' q c) => count_any p l q w h hq
  subst hv0
  clear h hm
  unfold tv at *
  go_enter Try.func4, Try.ntmps4
  go_upto_region 3 with (go_at_call 12; refine MY.mono ?_; rintro e w2 ⟨rfl, hb2⟩)
  have HB2 := hid hb2
  have NW2 := NW.out w2 hb2
  clear MY hb2
  go_upto_region 6 with (go_at_call 11; refine NW2.mono ?_; rintro e w3 ⟨p, rfl, hb3, hF3⟩)
  have HB3 := hid (below_then HB2.out hb3)
  have HR3 := hid hF3.it
  have HI3 := hid (HI.out.keep HB3.out)
  clear NW2 hb3 hF3 NW
  go_wp2
  go_loopw [5] (fun s5 wr => ∃ i : Nat, i ≤ l.length ∧ s5 = .int .i64 i ∧ Hid (Below w3.heap.size w3 wr)) (fun s5 _ => l.length - (intOf s5).toNat)
  case atStart => exact ⟨0, by omega, rfl, Below.refl _ _⟩
  case round =>
    obtain ⟨i, hin, rfl, HBi⟩ := hrel
    by_cases hil : i < l.length
    · obtain ⟨t, ht⟩ : ∃ t, t = l[i] := ⟨_, rfl⟩
      have htm : t ∈ l := by rw [ht]; exact List.getElem_mem _
      have HTM := hid htm
      have HTT := hid ht
      have hOK := HM.out.2.1 t htm
      have HOK := hid hOK
      clear htm ht hOK
      go_wp2
      obtain ⟨w9, hw9⟩ : ∃ w9 : World, w9 = wr := ⟨_, rfl⟩
      rw [← hw9] at HBi
      go_loopw [6] (fun s6 wr => ∃ m : Nat, m ≤ 8 ∧ s6 = .int .i64 m ∧ Hid (Below w3.heap.size w3 wr)) (fun s6 _ => 8 - (intOf s6).toNat)
      case atStart => exact ⟨0, by omega, rfl, by rw [← hw9]; exact HBi⟩
      case round =>
        obtain ⟨m, hm8, rfl, HBm⟩ := hrel
        by_cases hm : m < 8
        · go_upto_region 13 with fail
          obtain ⟨w5, hw5, HQ, HB5⟩ := new3 wr (.int .i64 0) (.int .i64 0) (.int .i64 0) 24
          rw [← hw5]
          have HQ2 := hid (show Blk w5 wr.heap.size (tl (pmk t m 0)) 24 by rw [pmk_zero]; exact HQ.out)
          have HBQ := hid (below_then HBm.out HB5.out)
          obtain ⟨wm, hwm⟩ : ∃ wm : World, wm = wr := ⟨_, rfl⟩
          rw [← hwm] at HBm HQ2 ⊢
          have hz3 : w3.heap.size ≤ wm.heap.size := HBm.out.size
          clear hw5 HQ hw9 hwm HB5
          go_wp2
          go_loopw [8] (fun s8 wr => ∃ k : Nat, k ≤ 3 ∧ s8 = .int .i64 k ∧ Hid (Below w3.heap.size w3 wr) ∧ Hid (Blk wr wm.heap.size (tl (pmk t m k)) 24)) (fun s8 _ => 3 - (intOf s8).toNat)
          case atStart => exact ⟨0, by omega, rfl, HBQ.out, HQ2.out⟩
          case round =>
            obtain ⟨k, hk3, rfl, HBk, HQk⟩ := hrel
            by_cases hk : k < 3
            · have DG := digit_at m k (by omega)
              obtain ⟨b, off, rfl, hx⟩ := (HI3.out.keep HBk.out).get (i := i) hil
              have cx := hx i hil k hk
              rw [← HTT.out] at cx
              have qc := HQk.out.cell (tl_get _ k hk)
              have qf := HQk.out.free k
              cases hbt : m.testBit k
              · have hno := pmk_no t m k hk hbt
                have HNO := hid hno
                rw [hbt] at DG
                clear hno hbt hx
                go_wp2
                go_roundw
                case rel => exact ⟨k + 1, by omega, by go_num, HBk.out, hid (by rw [HNO.out]; exact HQk.out)⟩
                case measure => simp [intOf]; omega
              · have hyes := pmk_yes t m k hk hbt
                have HYES := hid hyes
                rw [hbt] at DG
                clear hyes hbt hx
                go_wp2
                go_roundw
                case rel =>
                  refine ⟨k + 1, by omega, by go_num, HBk.out.setCell hz3 _, hid ?_⟩
                  rw [← HYES.out]
                  exact HQk.out.set k _
                case measure => simp [intOf]; omega
            · obtain rfl : k = 3 := by omega
              obtain ⟨q, hq⟩ : ∃ q, q = pmk t m 3 := ⟨_, rfl⟩
              have hlow := pmk_low HOK.out m
              have hmt := pmk_mt t m
              have h7 : m = 7 → (l.filter (Rg.mt q)).length = 1 := fun e => by rw [hq, e]; exact pmk_one HM.out.1 HM.out.2.1 HTM.out
              have h0 : m = 0 → (l.filter (Rg.mt q)).length = l.length := fun e => by rw [hq, e]; exact pmk_all l t
              rw [← hq] at HQk hlow hmt
              have AL5 := AL.out p q wr (HR3.out.keep HBk.out) hlow
              have CN5 := hid fun w (h : Below w3.heap.size w3 w) => CN.out p q w (HR3.out.keep h) hlow
              rw [← mt_len] at CN5
              obtain ⟨F, hF⟩ : ∃ F, F = l.filter (Rg.mt q) := ⟨_, rfl⟩
              rw [← hF] at AL5 CN5 h7 h0
              have hFl : F.length ≤ l.length := by rw [hF]; exact List.length_filter_le _ _
              have htF : t ∈ F := by rw [hF]; exact List.mem_filter.2 ⟨HTM.out, hmt⟩
              have HTF := hid htF
              have H7 := hid h7
              have H0 := hid h0
              obtain ⟨y0, y1, y2⟩ := ids_cells HQk.out
              clear hq hlow hmt h7 h0 hF htF HQ2 HBQ
              go_upto_region 19 with (go_at_call 18; refine AL5.mono ?_; rintro e w6 ⟨v6, rfl, hN6, hb6⟩)
              obtain ⟨a6, cap6, rfl, p5, p6, p7⟩ := hN6.at.open
              have HN6 := hid hN6.at
              have HB6 := hid (below_then HBk.out hb6)
              have HQ6 := hid (HQk.out.keep hb6)
              have HI6 := hid (HI3.out.keep HB6.out)
              clear AL5 hN6 hb6 y0 y1 y2 HQk
              have EQ := fun (a b c d e f : Int) w => eql_ids a b c d e f w
              go_wp2
              obtain ⟨wb, hwb⟩ : ∃ wb : World, wb = w6 := ⟨_, rfl⟩
              go_loopw [10, 11] (fun s10 s11 wr => ∃ j : Nat, j ≤ F.length ∧ s11 = .int .i64 j ∧ s10 = .bool (decide (t ∈ F.take j)) ∧ Hid (Below w6.heap.size w6 wr)) (fun s10 s11 _ => F.length - (intOf s11).toNat)
              case atStart => exact ⟨0, by omega, rfl, by simp, Below.refl _ _⟩
              case round =>
                obtain ⟨j, hj, rfl, rfl, HBj⟩ := hrel
                by_cases hjl : j < F.length
                · have htk : F.take (j + 1) = F.take j ++ [F[j]] := by rw [List.take_add_one, List.getElem?_eq_getElem hjl]; rfl
                  by_cases hin : t ∈ F.take j
                  · have hnx : decide (t ∈ F.take (j + 1)) = true := decide_eq_true (by rw [htk]; exact List.mem_append_left _ hin)
                    have HNX := hid hnx
                    rw [decide_eq_true hin]
                    clear htk hin hnx
                    go_upto_region 23 with fail
                    go_quiet (fail)
                    go_wp2
                    go_roundw
                    case rel => exact ⟨j + 1, by omega, by go_num, by rw [HNX.out], below_drawn HBj.out _⟩
                    case measure => simp [intOf]; omega
                  · obtain ⟨b6, o6, rfl, hx6⟩ := ids_get (HN6.out.keep HBj.out) hjl
                    obtain ⟨b, off, rfl, hx⟩ := ids_get (HI6.out.keep HBj.out) hil
                    obtain ⟨x, hxx⟩ : ∃ x, x = F[j] := ⟨_, rfl⟩
                    have cx := hx6 j hjl
                    have ct := hx i hil
                    rw [← hxx] at cx htk
                    rw [← HTT.out] at ct
                    obtain ⟨cx0, cx1, cx2⟩ := cx
                    obtain ⟨ct0, ct1, ct2⟩ := ct
                    have EQ1 := fun w => EQ x.1 x.2.1 x.2.2 t.1 t.2.1 t.2.2 w
                    have hnx : decide (((x.1, x.2.1, x.2.2) : Rg.T) = (t.1, t.2.1, t.2.2)) = decide (t ∈ F.take (j + 1)) := by
                      rw [decide_eq_decide, htk, List.mem_append, List.mem_singleton]
                      constructor
                      · intro e; exact Or.inr (show t = x from (show x = t from e).symm)
                      · rintro (h | h)
                        · exact absurd h hin
                        · exact (show x = t from h.symm)
                    rw [hnx] at EQ1
                    rw [decide_eq_false hin]
                    obtain ⟨r, hr⟩ : ∃ r, r = decide (t ∈ F.take (j + 1)) := ⟨_, rfl⟩
                    rw [← hr] at EQ1
                    have HRR := hid hr
                    have hiI : (i : Int) < l.length := by omega
                    have hjI : (j : Int) < F.length := by omega
                    clear htk hin hnx hr hx hx6 hxx EQ
                    go_upto_region 23 with fail
                    go_quiet (fail)
                    go_wp2
                    go_roundw
                    case rel => exact ⟨j + 1, by omega, by go_num, by rw [HRR.out], below_drawn HBj.out _⟩
                    case measure => simp [intOf]; omega
                · obtain rfl : j = F.length := by omega
                  have hdt : decide (t ∈ F.take F.length) = true := decide_eq_true (by rw [List.take_length]; exact HTF.out)
                  rw [hdt]
                  have HBj2 := hid (below_then HB6.out HBj.out)
                  have HQj := hid (HQ6.out.keep HBj.out)
                  obtain ⟨y0, y1, y2⟩ := ids_cells HQj.out
                  have CN6 := CN5.out wr HBj2.out
                  have hmc : (m = 7 ∧ F.length = 1) ∨ (m = 0 ∧ F.length = l.length) ∨ (¬ m = 7 ∧ ¬ m = 0) := by
                    by_cases e7 : m = 7
                    · exact Or.inl ⟨e7, H7.out e7⟩
                    · by_cases e0 : m = 0
                      · exact Or.inr (Or.inl ⟨e0, H0.out e0⟩)
                      · exact Or.inr (Or.inr ⟨e7, e0⟩)
                  clear hdt CN5 EQ
                  rcases hmc with ⟨e7, hf⟩ | ⟨e0, hf⟩ | ⟨e7, e0⟩
                  · subst e7
                    rw [hf] at CN6 ⊢
                    clear H7 H0 HTF HN6
                    go_wp2_with (go_at_call 16; refine CN6.mono ?_; rintro e w7 ⟨rfl, hb7⟩)
                    go_roundw
                    case rel => exact ⟨8, by omega, by go_num, below_then HBj2.out hb7⟩
                    case measure => simp [intOf]
                  · subst e0
                    rw [hf] at CN6 ⊢
                    clear H7 H0 HTF HN6
                    go_wp2_with (go_at_call 16; refine CN6.mono ?_; rintro e w7 ⟨rfl, hb7⟩)
                    go_roundw
                    case rel => exact ⟨1, by omega, by go_num, below_then HBj2.out hb7⟩
                    case measure => simp [intOf]
                  · have hb7 : ((m : Int) == 7) = false := by rw [beq_eq_false_iff_ne]; omega
                    have hb0 : ((m : Int) == 0) = false := by rw [beq_eq_false_iff_ne]; omega
                    clear H7 H0 HTF HN6
                    go_wp2_with (go_at_call 16; refine CN6.mono ?_; rintro e w7 ⟨rfl, hb7⟩)
                    go_roundw
                    case rel => exact ⟨m + 1, by omega, by go_num, below_then HBj2.out hb7⟩
                    case measure => simp [intOf]; omega
        · obtain rfl : m = 8 := by omega
          go_wp2
          go_roundw
          case rel => exact ⟨i + 1, by omega, by go_num, HBm.out⟩
          case measure => simp [intOf]; omega
    · obtain rfl : i = l.length := by omega
      go_wp2_with (go_at_call 13; refine (known_any _).mono ?_; rintro e w6 ⟨rfl, hb6⟩)
      go_ret
      exact ⟨rfl, below_then (below_then HB3.out HBi.out) hb6⟩
theorem ringEach_in (l : List Rg.T) (v0 : Value) (W : World) (h : IdsAt W v0 l) (hf : ∀ t ∈ l, Fits t) (hl : l.length ≤ 140737488351232) :
    Calls Try.prog 4 #[v0] W fun e W' => e = .returned (.bool true) ∧ Below W.heap.size W W' := by
  by_cases h1 : 60 < l.length
  · exact ringEach_out v0 l W h hl (Or.inl h1)
  · by_cases h2 : RMay l
    · exact ringEach_yes v0 l W h h2 h1
    · exact ringEach_out v0 l W h hl (Or.inr h2)

theorem ringEach_walk (H : Type) (enc : TypeId × Value → H) (W : World) (base : Nat) (args : Array Value) (ds gs : List (DataW H)) (before : List MemPlace)
    (hval : ∀ (j : Nat) t v, Try.f4.params[j]? = some t → args[j]? = some v → Value.okWide Try.prog W .any base t v)
    (hW : DataW.Whole enc Try.prog Try.f4.params.toList Rows.ringEachSpec.vars false W args.toList ds gs before)
    (hz : (DataW.weightsEach Try.prog (Try.f4.params.toList ++ Rows.ringEachSpec.plain.varTypes Try.prog) (ds ++ gs)).all (· ≤ reachBytes) = true)
    (hL : laidMetH Try.prog Rows.ringEachRow.laid W) (hsh : W.ShapedOpen Try.prog) :
    Calls Try.prog 4 args W fun e W' => e = .returned (.bool true) ∧ Below W.heap.size W W' := by
  obtain ⟨p, q, hA, _, _, _, _⟩ := hW
  rw [Try.params4] at hA hval
  rw [Try.params4] at hz
  obtain ⟨v0, vs0, d0, ds0, p0, q0, hargs, rfl, rfl, h0, r0⟩ := trodAll_cons hA
  obtain ⟨rfl, rfl, rfl⟩ := trodAll_nil r0
  obtain rfl : args = #[v0] := by cases args; simp_all
  obtain ⟨l0, L0, b0, z0⟩ := arg_ids (hval 0 22 v0 rfl rfl) h0 (sized_arg hz (j := 0) (t := 22) (d := d0) rfl rfl)
  exact ringEach_in l0 v0 W L0 b0 z0

theorem ringEach_lifted (os : Os) (started : os.Started) (H : Type) (enc : TypeId × Value → H) (F : Stop.Interp) :
    ReturnsInHanded {} Try.checked os 4 .any ((OpenSpec.ofChange Rows.ringEachSpec).preRow enc Try.prog Try.f4 Rows.ringEachRow.domain false Rows.ringEachRow.laid) (((OpenSpec.ofChange Rows.ringEachSpec).at F).post enc Try.prog Try.f4 false true false false) := by
  obtain ⟨places, hx⟩ : ∃ places, DataW.whole enc Try.prog ((World.holding Try.prog os ⟨#[], #[], []⟩).forCall (fun _ _ => 0) ⟨#[], #[.slice none 0 0], []⟩).memory Try.f4.params.toList Rows.ringEachSpec.vars false (#[.slice none 0 0] : Array Value).toList 8 = some ([.nil], [], places) := ⟨[], by kernel_rfl⟩
  refine returnsInHanded_of_row (C := Try.checked) (s := OpenSpec.ofChange Rows.ringEachSpec) own started (by kernel_rfl) Try.func4
    (witness_row_at (enc := enc) (C := Try.checked) false (World.holding Try.prog os ⟨#[], #[], []⟩) #[.slice none 0 0] rfl (by kernel_rfl) (by kernel_rfl) (by kernel_rfl)
      (OpenSpec.preRow_of_cond 8 hx (by kernel_rfl) (fun k hk => by cases hk) (by kernel_rfl) (laidMet_nil _ _))) ?_
  intro W base args ds gs before hval hW _ _ hz hL hsh _
  refine (ringEach_walk H enc W base args ds gs before hval hW hz hL hsh).mono fun e W' ⟨he, hb⟩ => ⟨_, he, ?_⟩
  exact law_post (fn := Try.f4) (s := Rows.ringEachSpec) (tb := 4) rfl (fun ds hd => by match ds, hd with | [d0], _ => rfl) rfl Try.underlying4 (by kernel_rfl) hW hb

theorem ringEach_said : Rows.RingEachSaid :=
  OpenClaim.holds_of_cond 4 Try.f4 rfl rfl rfl rfl rfl rfl rfl ⟨rfl, rfl, rfl, rfl, rfl⟩ rfl rfl rfl rfl rfl (by kernel_rfl) Try.func4 (by kernel_rfl)
    (of_decide_eq_true (by kernel_rfl)) (by unfold Func.isWrapper; first | (rw [if_pos (by decide +kernel)]; kernel_rfl) | (rw [if_neg (by decide +kernel)]; exact ⟨rfl, rfl⟩))
    (fun os started H enc _ F => by rw [OpenClaim.pre_eq_preRow]; exact ringEach_lifted os started H enc F)
end Go.Proofs.Ytagadfgginneeaa
