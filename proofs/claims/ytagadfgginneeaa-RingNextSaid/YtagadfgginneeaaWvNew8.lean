/- A wave: New. -/
import Derived.Test.YtagadfgginneeaaWvPart8
import Derived.Test.YtagadfgginneeaaWvBelow
import Derived.Test.YtagadfgginneeaaPack
import Derived.Deep.DeepCutAuto
namespace Go.Proofs.Ytagadfgginneeaa
set_option linter.unusedVariables false
set_option linter.unusedSimpArgs false
set_option maxRecDepth 100000
open Go.ChangeShapes Go.WideShapes Go.ChangeAt Go.RowKit

theorem ownsRow_heap {w w'' : World} {base : Nat} {e : TypeId} {size : Nat} {v : Value} {n : Nat} {xs : List Value} (h : w.ownsRow base e size v n xs)
    (hw : ∀ k, v.ownBlock = some k → w''.heap[k]? = w.heap[k]?) : w''.ownsRow base e size v n xs := by
  obtain ⟨hl, h⟩ := h
  refine ⟨hl, ?_⟩
  rcases h with h | ⟨g, cap, cur, rfl, hg, hh, hrest⟩
  · exact Or.inl h
  · exact Or.inr ⟨g, cap, cur, rfl, hg, by rw [hw g rfl]; exact hh, hrest⟩
/-- All blocks from B on but pw and what v owns are as they were. -/
def Frm (B pw : Nat) (v : Value) (w w'' : World) : Prop := ∀ b, B ≤ b → b < w.heap.size → b ≠ pw → v.ownBlock ≠ some b → w''.heap[b]? = w.heap[b]?
def Hold (B pw : Nat) (v : Value) (w : World) (P : World → Prop) : Prop := ∀ w'', Frm B pw v w w'' → P w''
theorem Frm.refl (B pw : Nat) (v : Value) (w : World) : Frm B pw v w w := fun _ _ _ _ _ => rfl
theorem Hold.it {B pw : Nat} {v : Value} {w : World} {P : World → Prop} (h : Hold B pw v w P) : P w := h w (Frm.refl _ _ _ _)
theorem Hold.step {B pw : Nat} {v v2 : Value} {w w2 : World} {P : World → Prop} (h : Hold B pw v w P) (hf : Frm B pw v w w2) (hs : w.heap.size ≤ w2.heap.size) (hm : Moved w v v2) : Hold B pw v2 w2 P :=
  fun w'' hw => h w'' fun b hB hb hp hv => by
    have e1 : w''.heap[b]? = w2.heap[b]? := hw b hB (Nat.lt_of_lt_of_le hb hs) hp (by
      rcases hm with e | ⟨k, e, hk⟩
      · rw [e]; exact hv
      · rw [e]; intro h'; cases h'; omega)
    rw [e1, hf b hB hb hp hv]
theorem Frm.below {B pw : Nat} {v : Value} {w w2 : World} (h : Below w.heap.size w w2) : Frm B pw v w w2 := fun b _ hb _ _ => h.block b hb
theorem Frm.trans {B pw : Nat} {v : Value} {w w2 w3 : World} (h : Frm B pw v w w2) (hs : w.heap.size ≤ w2.heap.size) (k : Frm B pw v w2 w3) : Frm B pw v w w3 :=
  fun b hB hb hp hv => by rw [k b hB (Nat.lt_of_lt_of_le hb hs) hp hv, h b hB hb hp hv]
theorem Frm.grown {B pw : Nat} {v : Value} {w w2 : World} (h : w.grownBy w2 v.ownBlock) : Frm B pw v w w2 := fun b _ hb _ hv => h.block b hb (fun e => hv e.symm)
theorem Frm.set {B pw : Nat} {v : Value} (w : World) (o : Nat) (x : Value) : Frm B pw v w (w.setCell ⟨pw, o, none⟩ x) := fun b _ hb hp _ => Below.heap_setCell _ _ _ _ (by simpa using hp)
theorem Hold.same {B pw : Nat} {v : Value} {w w2 : World} {P : World → Prop} (h : Hold B pw v w P) (hb : Below w.heap.size w w2) : Hold B pw v w2 P := h.step (Frm.below hb) hb.size (Or.inl rfl)
theorem Fresh.hold {B C pw : Nat} {v : Value} {w : World} {P : World → Prop} (h : Fresh C w P) (hpw : pw < C) (hv : ∀ b, v.ownBlock = some b → b < C) (hC : B ≤ C) : Hold B pw v w P :=
  fun w'' hw => h w'' fun k hk hl => hw k (Nat.le_trans hC hk) hl (by omega) (fun e => by have := hv _ e; omega)
theorem numsAt_heap {w w'' : World} {a : Option Addr} {l : List Nat} (h : NatsAt w a l) (hw : ∀ b, b < w.heap.size → w''.heap[b]? = w.heap[b]?) : NatsAt w'' a l := by
  rcases h with h | ⟨b, off, h1, h2⟩
  · exact Or.inl h
  · exact Or.inr ⟨b, off, h1, fun i hi => by rw [cell_heap (hw b (lt_of_cell (h2 i hi)))]; exact h2 i hi⟩
/-- The levels' cells. -/
def lcells (pv : Nat → Nat) (l : List Nat) (wd k : Nat) : List Value :=
  (List.range k).flatMap fun j => [.pointer (some ⟨pv j, 0, none⟩), .int .i64 (Wv.zeros (Wv.rows l wd j) (wd - 1 - j) : Nat)]
theorem lcells_succ (pv : Nat → Nat) (l : List Nat) (wd k x : Nat) :
    lcells pv l wd k ++ [.pointer (some ⟨x, 0, none⟩), .int .i64 (Wv.zeros (Wv.rows l wd k) (wd - 1 - k) : Nat)] = lcells (fun j => if j = k then x else pv j) l wd (k + 1) := by
  unfold lcells
  rw [List.range_succ, List.flatMap_append]
  congr 1
  · rw [List.flatMap_def, List.flatMap_def]
    congr 1
    apply List.map_congr_left
    intro j hj
    have hne : ¬ j = k := by have := List.mem_range.1 hj; omega
    simp only [if_neg hne]
  · simp
theorem lcells_length (pv : Nat → Nat) (l : List Nat) (wd k : Nat) : (lcells pv l wd k).length = k * 2 := by
  induction k with
  | zero => rfl
  | succ k ih => unfold lcells at *; rw [List.range_succ, List.flatMap_append, List.length_append, ih]; simp; omega
theorem lcells_get (pv : Nat → Nat) (l : List Nat) (wd : Nat) : ∀ (k j : Nat), j < k → (lcells pv l wd k)[j * 2]? = some (.pointer (some ⟨pv j, 0, none⟩)) ∧ (lcells pv l wd k)[j * 2 + 1]? = some (.int .i64 (Wv.zeros (Wv.rows l wd j) (wd - 1 - j) : Nat)) := by
  intro k
  induction k with
  | zero => intro j hj; exact absurd hj (Nat.not_lt_zero _)
  | succ k ih =>
    intro j hj
    have hlen := lcells_length pv l wd k
    have e : lcells pv l wd (k + 1) = lcells pv l wd k ++ [.pointer (some ⟨pv k, 0, none⟩), .int .i64 (Wv.zeros (Wv.rows l wd k) (wd - 1 - k) : Nat)] := by
      unfold lcells; rw [List.range_succ, List.flatMap_append]; simp
    rw [e]
    by_cases h : j < k
    · rw [List.getElem?_append_left (by omega), List.getElem?_append_left (by omega)]
      exact ih j h
    · obtain rfl : j = k := by omega
      rw [List.getElem?_append_right (by omega), List.getElem?_append_right (by omega), hlen]
      simp
/-- The digits told so far. -/
def bcells (R : List Nat) (d i n : Nat) : List Value := (List.range n).map fun t => .bool (decide (t < i) && (R.getD t 0).testBit d)
theorem bcells_get (R : List Nat) (d i n t : Nat) (h : t < n) : (bcells R d i n)[t]? = some (.bool (decide (t < i) && (R.getD t 0).testBit d)) := by
  unfold bcells; rw [List.getElem?_map, List.getElem?_range h]; rfl
theorem bcells_zero (R : List Nat) (d n : Nat) : (madeCells #[.bool false] n).toList = bcells R d 0 n := by
  apply List.ext_getElem?
  intro t
  simp only [madeCells, Array.toList_map, Array.toList_range, List.getElem?_map, bcells]
  by_cases ht : t < n
  · rw [List.getElem?_range ht]; simp [Nat.mod_one]
  · have e : (List.range n)[t]? = none := by simp; omega
    rw [e]; simp
theorem bcells_set (R : List Nat) (d i n : Nat) (h : i < n) : (bcells R d i n).set i (.bool ((R.getD i 0).testBit d)) = bcells R d (i + 1) n := by
  apply List.ext_getElem?
  intro t
  rw [List.getElem?_set]
  have hl : (bcells R d i n).length = n := by simp [bcells]
  by_cases ht : t < n
  · rw [bcells_get _ _ _ _ _ ht, bcells_get _ _ _ _ _ ht, hl]
    split
    · rename_i h1; subst h1; simp [h]
    · rename_i h1
      congr 3
      rw [decide_eq_decide]; omega
  · have e : ∀ i, (bcells R d i n)[t]? = none := fun i => by simp [bcells]; omega
    rw [e, e, if_neg (by omega)]
theorem bcells_row {w : World} {b : Nat} {R : List Nat} {d n : Nat} (h : Blk w b (bcells R d n n) 4) : RowAt w (some ⟨b, 0, none⟩) n fun i => .bool ((R.getD i 0).testBit d) := by
  refine Or.inr ⟨b, 0, rfl, fun i hi => ?_⟩
  rw [Nat.zero_add, h.cell (bcells_get R d n n i hi), decide_eq_true hi, Bool.true_and]
/-- A Vec in every world that agrees with this one. -/
theorem isVec_fresh {B : Nat} {w : World} {p : Nat} {l : List Bool} (h : IsVec w p l) (hw : ∀ w'', (∀ k, B ≤ k → w''.heap[k]? = w.heap[k]?) → IsVec w'' p l) : Fresh B w (fun W => IsVec W p l) := by
  intro w'' hh
  have h1 : IsVec { w'' with heap := w''.heap.extract 0 w.heap.size } p l := hw _ fun k hk => by
    show (w''.heap.extract 0 w.heap.size)[k]? = _
    rw [Array.getElem?_extract]
    by_cases hl : k < w.heap.size
    · rw [← hh k hk hl]
      simp only [Nat.sub_zero, Nat.zero_add]
      by_cases h2 : k < w''.heap.size
      · rw [if_pos (by omega)]
      · rw [if_neg (by omega), Array.getElem?_eq_none (by omega)]
    · simp only [Nat.sub_zero]
      rw [if_neg (by omega), Array.getElem?_eq_none (by omega)]
  obtain ⟨bw, ba, m, e1, e2, e3, e4, e5⟩ := h1
  have up : ∀ {b : Nat} {A : List Value} {t : TypeId}, Blk { w'' with heap := w''.heap.extract 0 w.heap.size } b A t → Blk w'' b A t := by
    intro b A t hb
    have hlt := hb.lt
    unfold Blk at *
    have : (w''.heap.extract 0 w.heap.size)[b]? = some (.cells A.toArray t (0, 0)) := hb
    rw [Array.getElem?_extract] at this
    split at this
    · simpa using this
    · cases this
  exact ⟨bw, ba, m, e1, e2, up e3, up e4, up e5⟩
theorem may_nat {l : List Nat} {wd : Nat} (h : Pm.May (l.map fun x : Nat => (x : Int)) wd) : wd ≤ 20 ∧ l.length ≤ 1000 ∧ ∀ x ∈ l, x < 2 ^ wd := by
  obtain ⟨h1, h2, h3, h4⟩ := h
  refine ⟨by omega, by simpa using h3, fun x hx => ?_⟩
  obtain ⟨i, hi, rfl⟩ := List.getElem_of_mem hx
  have := (h4 i (by simpa using hi)).2
  simpa [List.getD, hi] using this
theorem Try.wninfo4 : (Try.prog.info? 4).map (fun i => (i.zero, i.size, i.bytes)) = some (some (.bool false), 1, 1) := by kernel_rfl
theorem Try.wninfo76 : (Try.prog.info? 76).map (fun i => (i.zero, i.size, i.bytes)) = some (some (.agg #[.pointer none, .int .i64 0]), 2, 16) := by kernel_rfl
set_option maxHeartbeats 2000000 in
theorem wnew_ok (a : Option Addr) (n cap wd : Nat) (l : List Nat) (w : World) (hn : n = l.length) (hm : Pm.May (l.map fun x : Nat => (x : Int)) wd) (hA : NatsAt w a l) :
    Calls Try.prog 24 #[.slice a n cap, .int .i64 wd] w fun e w' => ∃ p, e = .returned (.tuple #[.pointer (some ⟨p, 0, none⟩), .int .i64 0]) ∧ Below w.heap.size w w' ∧ Fresh w.heap.size w' (fun W => IsWave W p l wd) := by
  obtain ⟨i0, hi, hz0, hz1, hz2⟩ := info_parts Try.wninfo4
  obtain ⟨i1, hi1, hy0, hy1, hy2⟩ := info_parts Try.wninfo76
  obtain ⟨hw20, hn1000, hlt⟩ := may_nat hm
  have hnl := hn
  rw [← hn] at hn1000
  have mk1 : ∀ W : World, (Instr.makeSlice 72 (.int .i64 (n : Int)) (.int .i64 (n : Int))).run Try.prog W = _ := fun W => run_make W 72 4 i0 _ Try.underlying72 hi hz0 .i64 .i64 n n (by omega) (by omega) (by rw [hz2]; omega) (by omega)
  have PK := hid (pack_ok a n cap wd (l.map fun x : Nat => (x : Int)) w (by simpa using hn) hm (by
    have e : ∀ i, (l.map fun x : Nat => (x : Int)).getD i 0 = ((l.getD i 0 : Nat) : Int) := fun i => by
      simp only [List.getD, List.getElem?_map]; cases l[i]? <;> rfl
    have h := hA
    unfold NatsAt at h
    rw [← hn] at h
    rcases h with h | ⟨b, off, h1, h2⟩
    · exact Or.inl h
    · exact Or.inr ⟨b, off, h1, fun i hi => by rw [h2 i hi]; show some (Value.int .i64 _) = some (Value.int .i64 _); rw [e]⟩))
  have HA := hid hA
  have HN := hid hn
  have HLT := hid hlt
  generalize Pm.size n wd = psz at PK
  have hpz := hid (show True from trivial)
  clear hn hm hA hlt hnl
  go_enter Try.func24, Try.ntmps24
  go_wp2_with (go_at_call 37; refine PK.out.mono ?_; rintro e w1 ⟨pb, rfl, hB1, _, _⟩)
  obtain ⟨w2, hw2⟩ : ∃ w2, w2 = w1.alloc (.cells #[.int .i64 n, .slice none 0 0] 71) := ⟨_, rfl⟩
  rw [← hw2]
  have BW0 : Hid (Blk w2 w1.heap.size [.int .i64 n, .slice none 0 0] 71) := hid (by rw [hw2]; exact Blk.new' rfl rfl)
  have hpw : w.heap.size ≤ w1.heap.size := hB1.size
  have HB2 : Hid (Below w.heap.size w w2) := hid (by rw [hw2]; exact hB1.alloc hpw _)
  have HPW := hid (show w1.heap.size < w2.heap.size by rw [hw2]; simp)
  have HN0 : Hid (Hold 0 w1.heap.size (.slice none 0 0) w2 (fun W => NatsAt W a (Wv.rows l wd 0))) := hid (fun w'' hw'' => by
    refine numsAt_heap HA.out fun b hb => ?_
    rw [hw'' b (Nat.zero_le _) (by have := HPW.out; omega) (by omega) (by intro h; cases h), HB2.out.block b hb])
  generalize w1.heap.size = pw at *
  clear hw2 hB1 PK
  go_loopw [0, 9] (fun s0 s9 wr => ∃ (k cap : Nat) (a : Option Addr) (pv : Nat → Nat) (lv : Value), s0 = .slice a n cap ∧ s9 = .int .i64 ((wd : Int) - 1 - k) ∧ k ≤ wd ∧ Hid (Hold 0 pw lv wr (fun W => NatsAt W a (Wv.rows l wd k))) ∧
      Hid (wr.ownsRow w.heap.size 76 2 lv k (lcells pv l wd k)) ∧ Hid (Blk wr pw [.int .i64 n, lv] 71) ∧ Hid (∀ j, j < k → Hold w.heap.size pw lv wr (fun W => IsVec W (pv j) (Wv.digs (Wv.rows l wd j) (wd - 1 - j)))) ∧
      Hid (lv.ownBlock ≠ some pw) ∧ Hid (Below w.heap.size w wr)) (fun _ s9 _ => (intOf s9 + 1).toNat)
  case atStart => exact ⟨0, cap, a, fun _ => 0, _, rfl, by simp, by omega, HN0, World.ownsRow_nil _ _ _ _, BW0, hid (fun j hj => absurd hj (Nat.not_lt_zero _)), hid (by intro h; cases h), HB2⟩
  case round =>
    obtain ⟨k, cap, a, pv, lv, rfl, rfl, hk, HR, HO, BW, HV, HNE, HB⟩ := hrel
    by_cases hkw : k < wd
    · have e9 : (wd : Int) - 1 - k = ((wd - 1 - k : Nat) : Int) := by omega
      rw [e9]
      obtain ⟨R, hR⟩ : ∃ R, R = Wv.rows l wd k := ⟨_, rfl⟩
      obtain ⟨d, hd⟩ : ∃ d, d = wd - 1 - k := ⟨_, rfl⟩
      have hRl : n = R.length := by rw [hR, Wv.rows_length]; exact HN.out
      have hRlt : ∀ x ∈ R, x < 9223372036854775808 := fun x hx => by
        have h1 := HLT.out x ((Wv.rows_mem l wd k x).1 (by rw [← hR]; exact hx))
        have h2 : 2 ^ wd ≤ 1048576 := Nat.pow_le_pow_right (by omega) hw20
        omega
      rw [← hd]
      have HRE := hid hR
      have HD := hid hd
      have HRL := hid hRl
      have HRLT := hid hRlt
      rw [← HRE.out] at HR
      have hd19 : d ≤ 19 := by omega
      clear hR hd hRl hRlt e9 BW0 HN0 HB2 HPW
      go_wp2
      obtain ⟨wo, rfl⟩ : ∃ wo : World, wo = wr := ⟨_, rfl⟩
      go_loopw [39] (fun s39 wr => ∃ i : Nat, i ≤ n ∧ s39 = .int .i64 i ∧ Hid (Below wo.heap.size wo wr) ∧ Hid (Blk wr wo.heap.size (bcells R d i n) 4)) (fun s39 _ => n - (intOf s39).toNat)
      case atStart => exact ⟨0, by omega, rfl, (Below.refl _ _).alloc (Nat.le_refl _) _, Blk.new' rfl (bcells_zero R d n)⟩
      case round =>
        obtain ⟨i, hin, rfl, HI, BO⟩ := hrel
        by_cases hlt : i < n
        · obtain ⟨b, off, rfl, hc⟩ := (NatsAt.keep HR.out.it HI.out).get (i := i) (by rw [← HRL.out]; exact hlt)
          have c0 := hc i (by rw [← HRL.out]; exact hlt)
          have hx := HRLT.out (R.getD i 0) (by rw [List.getD, List.getElem?_eq_getElem (by rw [← HRL.out]; exact hlt)]; exact List.getElem_mem _)
          have c1 := BO.out.cell (bcells_get R d i n i hlt)
          have f1 := BO.out.free i
          have hst := BO.out.set i (.bool ((R.getD i 0).testBit d))
          rw [bcells_set R d i n hlt] at hst
          obtain ⟨x, hx0⟩ : ∃ x, x = R.getD i 0 := ⟨_, rfl⟩
          rw [← hx0] at c0 hx hst
          simp only [Nat.lt_irrefl, decide_false, Bool.false_and] at c1
          have DG := hid (digit_at x d hx)
          have HST := hid hst
          have hltI : (i : Int) < n := by omega
          clear hc hx0 hst
          go_wp2
          rw [DG.out]
          go_roundw
          case rel => exact ⟨i + 1, by omega, by go_num, HI.out.setCell (Nat.le_refl _) _, HST.out⟩
          case measure => simp [intOf]; omega
        · obtain rfl : i = n := by omega
          have hdl : (Wv.digs R d).length = i := by simp only [Wv.digs, List.length_map]; exact HRL.out.symm
          have ROW := hid (bcells_row BO.out)
          have NW := hid (new_any (some ⟨wo.heap.size, 0, none⟩) i (Wv.digs R d) wr (by omega) (by
            rw [hdl]
            refine Or.inr ⟨wo.heap.size, 0, rfl, fun j hj => ?_⟩
            rw [Nat.zero_add, BO.out.cell (bcells_get R d i i j hj), decide_eq_true hj, Bool.true_and]
            show _ = some (Value.bool ((Wv.digs R d).getD j false))
            rw [Wv.testBit_digs R d j (by rw [← HRL.out]; exact hj)]))
          rw [hdl] at NW
          have HDL := hid hdl
          clear hdl
          go_wp2_with (go_at_call 38; refine NW.out.mono ?_; rintro e w4 ⟨p4, rfl, hB4, hV4, hF4⟩)
          have HB4 := hid hB4
          have HV4 := hid hV4
          have FR4 := hid (isVec_fresh hV4 hF4)
          have RK := hid (fun W (hW : W = w4) => by rw [hW]; exact rank_any p4 (Wv.digs R d) i w4 HV4.out (by rw [HDL.out]; omega) : ∀ W, W = w4 → Calls Try.prog 39 #[.pointer (some ⟨p4, 0, none⟩), .int .i64 i] W fun e w' => e = .returned (.int .i64 (Bm.rank (Wv.digs R d) i : Nat)) ∧ ∃ n, w' = W.drewN n)
          have hrk : Bm.rank (Wv.digs R d) (i : Int) ≤ i := by unfold Bm.rank; rw [Int.toNat_natCast]; exact Bm.cnt_le _ _
          have hzz := hid (show Wv.zeros R d = i - Bm.rank (Wv.digs R d) (i : Int) by unfold Wv.zeros Bm.rank; rw [← HRL.out, Int.toNat_natCast])
          generalize Bm.rank (Wv.digs R d) (i : Int) = rk at *
          have HP4 := hid (show wo.heap.size < w4.heap.size by have := HB4.out.size; have := BO.out.lt; omega)
          clear hB4 hV4 hF4 NW
          have hz : (i : Int) - rk = ((Wv.zeros R d : Nat) : Int) := by have := hzz.out; omega
          have HZ := hid hz
          clear hz
          go_upto_region 16 with (go_at_call 39; refine (RK.out _ rfl).mono ?_; rintro e w5' ⟨rfl, q5, rfl⟩)
          rw [HZ.out]
          obtain ⟨w5, hw5⟩ : ∃ w5, w5 = w4.drewN q5 := ⟨_, rfl⟩
          rw [← hw5]
          have HB45 := hid (show Below w4.heap.size w4 w5 by rw [hw5]; exact below_drawn (Below.refl _ _) _)
          have HBo5 := hid (show Below wo.heap.size wo w5 from below_then (below_then HI.out HB4.out) HB45.out)
          have BW5 := hid (BW.out.keep HBo5.out)
          have HO5 := hid (own_below HO.out HBo5.out)
          have BO5 := hid (BO.out.keep (below_then HB4.out HB45.out))
          have c5 := BW5.out.cell (i := 1) (v := lv) rfl
          have f5 := BW5.out.free 1
          have HS5 := hid (show wo.heap.size < w5.heap.size by have := HB45.out.size; have := HP4.out; omega)
          have FR5 := hid (FR4.out.keep HB45.out)
          clear hw5 RK HZ hzz hrk FR4 HV4 HB4 HB45 HP4
          obtain ⟨z, hz0⟩ : ∃ z, z = Wv.zeros R d := ⟨_, rfl⟩
          rw [← hz0]
          have HZ0 := hid hz0
          clear hz0
          go_wp2_with (at_builtin; refine wpList_append_blk rfl (.tmp 66) (.tmp 70) 69 rfl w.heap.size 76 i1 _ 2 16 Try.underlying69 hi1 hy0 hy1 hy2 rfl (by decide) _ _ _ rfl (HO5.out.alloc _) (some ⟨w5.heap.size, 0, none⟩) 1 1 [.pointer (some ⟨p4, 0, none⟩), .int .i64 (z : Nat)] rfl ?nil rfl ?news ?one ?b1 ?b2 ?base ?_)
          case nil => intro h; cases h
          case news =>
            intro ad had j u hu
            cases had
            match j with
            | 0 => simp at hu; subst hu; simp [go_sem]
            | 1 => simp at hu; subst hu; simp [go_sem]
            | j + 2 => simp at hu
          case one => intro u hu; simp at hu; rcases hu with rfl | rfl <;> rfl
          case b1 => unfold maxLen; omega
          case b2 => omega
          case base => have := HBo5.out.size; have := HB.out.size; simp; omega
          intro lv' w6 hown hgr hmv
          obtain ⟨ao, cp, hlv⟩ : ∃ ao cp, lv' = .slice ao (k + 1) cp := by
            rcases hown.2 with ⟨rfl, h⟩ | ⟨g, cap, cur, rfl, _⟩
            · omega
            · exact ⟨_, _, rfl⟩
          subst hlv
          have hgr5 : w5.grownBy w6 lv.ownBlock := ⟨hgr.os, hgr.tape, hgr.output, by have := hgr.size; simp at this; omega, fun k hk hne => by
            rw [hgr.block k (by simp; omega) hne, Below.heap_alloc _ _ _ hk]⟩
          have hmv5 : Moved w5 lv (.slice ao (k + 1) cp) := by
            rcases hmv with c | ⟨k, c, e⟩
            · exact Or.inl c
            · exact Or.inr ⟨k, c, by simp at e; omega⟩
          have hownlt : ∀ g, lv.ownBlock = some g → w.heap.size ≤ g ∧ g < wo.heap.size := fun g hg => HO.out.lt g hg
          have hpwlt : pw < wo.heap.size := BW.out.lt
          have hwz := HB.out.size
          have hz5 := HBo5.out.size
          have hz6 := hgr5.size
          have BW6 : Blk w6 pw [.int .i64 (i : Nat), lv] 71 := by
            have h := BW5.out
            unfold Blk at *
            rw [hgr5.block pw (by omega) (fun e => HNE.out e.symm)]; exact h
          have BO6 : Blk w6 wo.heap.size (bcells R d i i) 4 := by
            have h := BO5.out
            unfold Blk at *
            rw [hgr5.block wo.heap.size HS5.out (fun e => by have := (hownlt _ e.symm).2; omega)]; exact h
          have c6 := BW6.cell (i := 1) (v := lv) rfl
          have f6 := BW6.free 1
          have HOWN := hid hown
          have HGR := hid hgr5
          have HMV := hid hmv5
          have HLT2 := hid hownlt
          have B6 := hid BW6
          have B6' := hid BO6
          clear hown hgr hmv hgr5 hmv5 hownlt BW6 BO6 c5 f5
          go_upto_region 17 with fail
          obtain ⟨w7, hw7⟩ : ∃ w7, w7 = w6.setCell ⟨pw, 1, none⟩ (.slice ao (k + 1) cp) := ⟨_, rfl⟩
          rw [← hw7]
          have hz7 : w7.heap.size = w6.heap.size := by rw [hw7]; simp
          have F07 : ∀ B, Frm B pw lv wo w7 := fun B => by
            rw [hw7]
            exact ((Frm.below HBo5.out).trans hz5 ((Frm.grown HGR.out).trans hz6 (Frm.set w6 1 (.slice ao (k + 1) cp))))
          have F57 : ∀ B, Frm B pw lv w5 w7 := fun B => by
            rw [hw7]
            exact (Frm.grown HGR.out).trans hz6 (Frm.set w6 1 (.slice ao (k + 1) cp))
          have NR7 := HR.out w7 (F07 0)
          have BO7 : Blk w7 wo.heap.size (bcells R d i i) 4 := by rw [hw7]; exact B6'.out.other (by omega) 1 (.slice ao (k + 1) cp)
          have BW7 : Blk w7 pw [.int .i64 (i : Nat), (.slice ao (k + 1) cp)] 71 := by rw [hw7]; exact B6.out.set 1 (.slice ao (k + 1) cp)
          have hne' : (Value.slice ao (k + 1) cp).ownBlock ≠ some pw := by
            rcases HMV.out with e | ⟨k, e, hk⟩
            · rw [e]; exact HNE.out
            · rw [e]; intro h; cases h; omega
          have HO7 : w7.ownsRow w.heap.size 76 2 (.slice ao (k + 1) cp) (k + 1) (lcells (fun j => if j = k then p4 else pv j) l wd (k + 1)) := by
            rw [← lcells_succ]
            rw [← HRE.out, ← HD.out, ← HZ0.out]
            refine ownsRow_heap (w := w6) ?_ fun g hg => ?_
            · have := HOWN.out; exact this
            · rw [hw7]; exact Below.heap_setCell _ _ _ _ (by intro e; exact hne' (by rw [hg, e]))
          have HVK : ∀ j, j < k + 1 → Hold w.heap.size pw (.slice ao (k + 1) cp) w7 (fun W => IsVec W ((fun j => if j = k then p4 else pv j) j) (Wv.digs (Wv.rows l wd j) (wd - 1 - j))) := fun j hj => by
            have hlast : ∀ {v : Value} (x : World), Moved w5 v (.slice ao (k + 1) cp) → x.heap.size ≤ w5.heap.size → Moved x v (.slice ao (k + 1) cp) := fun x hm hx => by
              rcases hm with e | ⟨k, e, hk⟩
              · exact Or.inl e
              · exact Or.inr ⟨k, e, by omega⟩
            by_cases hjk : j < k
            · have hne : ¬ j = k := by omega
              simp only [if_neg hne]
              exact (HV.out j hjk).step (F07 w.heap.size) (by omega) (hlast wo HMV.out (by omega))
            · obtain rfl : j = k := by omega
              simp only [if_pos]
              rw [← HRE.out, ← HD.out]
              have hzr := HI.out.size
              exact (FR5.out.hold (B := w.heap.size) (pw := pw) (v := lv) (by omega) (fun b hb => by have := (HLT2.out b hb).2; omega) (by omega)).step (F57 w.heap.size) (by omega) HMV.out
          have HB7 : Below w.heap.size w w7 := by
            rw [hw7]
            refine Below.setCell ?_ (by omega) _
            exact (below_then HB.out HBo5.out).grown HGR.out (by omega) (fun k hk => (HLT2.out k hk).1)
          have hpw7 : pw < w7.heap.size := by omega
          have hown7 : ∀ b, (Value.slice ao (k + 1) cp).ownBlock = some b → b < w7.heap.size := fun b hb => (HO7.lt b hb).2
          have PT := hid (wpart_any a (some ⟨wo.heap.size, 0, none⟩) i cap i d R w7 HRL.out (by omega) NR7 (bcells_row BO7))
          have HHO7 := hid HO7
          have HHVK := hid HVK
          have HHB7 := hid HB7
          have HBW7 := hid BW7
          have HOWN7 := hid hown7
          have HNE7 := hid hne'
          clear HO7 HVK HB7 BW7 hown7 hne' F07 F57 NR7 BO7 hw7 B6 B6' c6 f6 HOWN HGR HMV HV HR HO BO ROW FR5 BW5 HO5 BO5 HBo5 BW
          go_wp2_with (go_at_call 40; refine PT.out.mono ?_; rintro e w8 ⟨a8, cap8, rfl, h81, h82, h83, hB8, hF8⟩)
          have HB8 := hid hB8
          have hrw : Wv.part R d = Wv.rows l wd (k + 1) := by rw [HRE.out, HD.out]; rfl
          rw [hrw] at hF8
          have HF8 := hid hF8
          clear hB8 hF8 hrw
          go_roundw
          case rel =>
            refine ⟨k + 1, cap8, a8, fun j => if j = k then p4 else pv j, _, rfl, by have := HD.out; congr 1; omega, by omega, hid ?_, hid (own_below HHO7.out HB8.out), hid (HBW7.out.keep HB8.out), hid fun j hj => (HHVK.out j hj).same HB8.out, HNE7, hid (below_then HHB7.out HB8.out)⟩
            exact HF8.out.hold (by omega) HOWN7.out (Nat.zero_le _)
          case measure => simp [intOf]
    · obtain rfl : k = wd := by omega
      have hlev : ∀ (w'' : World), (∀ b, w.heap.size ≤ b → b < wr.heap.size → w''.heap[b]? = wr.heap[b]?) → IsWave w'' pw l k := fun w'' hw'' => by
        refine ⟨hw20, by rw [← HN.out]; exact hn1000, HLT.out, ?_⟩
        have hpl := BW.out.lt
        have BW2 : Blk w'' pw [.int .i64 n, lv] 71 := by
          have h := BW.out
          unfold Blk at *
          rw [hw'' pw (by omega) hpl]; exact h
        have hO := HO.out
        rcases hO.2 with ⟨rfl, h0⟩ | ⟨g, cp, cur, rfl, hg, hrest⟩
        · subst h0
          exact ⟨none, 0, by rw [← HN.out]; exact BW2.cell rfl, BW2.cell rfl, Or.inl rfl⟩
        · refine ⟨some ⟨g, 0, none⟩, cp, by rw [← HN.out]; exact BW2.cell rfl, BW2.cell rfl, Or.inr ⟨g, rfl, fun j hj => ?_⟩⟩
          obtain ⟨e1, e2⟩ := lcells_get pv l k k j hj
          have hgl := (hO.lt g rfl).2
          have hcell : ∀ o x, (lcells pv l k k)[o]? = some x → w''.cell? ⟨g, o, none⟩ = some x := fun o x hx => by
            rw [cell_heap (hw'' g hg hgl)]
            have := hO.cells (g := g) rfl o x hx
            rwa [add_cell rfl, Nat.zero_add] at this
          refine ⟨pv j, hcell _ _ e1, hcell _ _ e2, ?_⟩
          exact HV.out j hj w'' fun b hB hb _ _ => hw'' b hB hb
      have HLEV := hid hlev
      clear hlev
      rw [show ((k : Int) - 1 - k) = -1 by omega]
      go_wp2
      go_ret2
      exact ⟨pw, rfl, HB.out, HLEV.out⟩
theorem wnew_no (a : Option Addr) (n cap : Nat) (wd : Int) (L : List Int) (w : World) (hn : n = L.length) (hm : ¬ Pm.May L wd) (hmax : ∀ i, i < n → L.getD i 0 ≤ 9223372036854775807) (hR : RowAt w a n fun i => .int .i64 (L.getD i 0)) :
    Calls Try.prog 24 #[.slice a n cap, .int .i64 wd] w fun e w' => e = .returned (.tuple #[.pointer none, .int .i64 1]) ∧ w' = w := by
  have PK := hid (pack_no a n cap wd L w hn hm hmax hR)
  clear hn hm hmax hR
  go_enter Try.func24, Try.ntmps24
  go_wp2_with (go_at_call 37; refine PK.out.mono ?_; rintro e w1 ⟨rfl, rfl⟩)
  go_ret2
  exact ⟨rfl, rfl⟩
end Go.Proofs.Ytagadfgginneeaa
