import Derived.Test.YtagadfgginneeaaBase
import Derived.Test.YtagadfgginneeaaBitsMath
namespace Go.Proofs.Ytagadfgginneeaa
set_option linter.unusedVariables false
set_option maxRecDepth 100000
set_option linter.unusedSimpArgs false
open Go.ChangeShapes Go.WideShapes Go.ChangeAt Go.RowKit
theorem ones_any (x : Nat) (w : World) (h1 : x < 18446744073709551616) :
    Calls Try.prog 56 #[.int .u64 x] w fun e w' => e = .returned (.int .i64 (Bm.pop 64 x : Nat)) ∧ w' = w := by
  rw [← Bm.ones_eq x h1]
  go_enter Try.func56, Try.ntmps56
  go_wp2
  go_ret
  exact ⟨rfl, rfl⟩

theorem Try.info89 : (Try.prog.info? 89).map (fun i => (i.zero, i.size, i.bytes)) = some (some (.int .u64 0), 1, 8) := by kernel_rfl
theorem Try.ninfo3 : (Try.prog.info? 3).map (fun i => (i.zero, i.size, i.bytes)) = some (some (.int .i64 0), 1, 8) := by kernel_rfl

/-- The words of the first k bits, in m words. -/
def words (l : List Bool) (k m : Nat) : List Value := (List.range m).map fun i => .int .u64 (Bm.word (l.take k) i)
theorem words_no {l : List Bool} {k m : Nat} (h : l.getD k false = false) : ((List.range m).map fun i => Value.int .u64 (Bm.word (l.take (k + 1)) i)) = ((List.range m).map fun i => Value.int .u64 (Bm.word (l.take k) i)) :=
  List.map_congr_left fun i _ => by rw [Bm.word_step_no l k i h]
theorem words_yes {l : List Bool} {k m : Nat} (h : l.getD k false = true) (hm : k / 64 < m) :
    ((List.range m).map fun i => Value.int .u64 (Bm.word (l.take k) i)).set (k / 64) (.int .u64 (bits BinOp.or IntKind.u64 (↑(Bm.word (List.take k l) (k / 64))) (IntKind.u64.wrap (2 ^ (k % 64))))) =
      ((List.range m).map fun i => Value.int .u64 (Bm.word (l.take (k + 1)) i)) := by
  have e : bits BinOp.or IntKind.u64 (↑(Bm.word (List.take k l) (k / 64))) (IntKind.u64.wrap (2 ^ (k % 64))) = (Bm.word (l.take (k + 1)) (k / 64) : Nat) := by
    have h64 : 2 ^ (k % 64) < 18446744073709551616 := by
      have h := Nat.pow_lt_pow_right (a := 2) (by omega) (show k % 64 < 64 by omega)
      simpa using h
    rw [show ((2 : Int) ^ (k % 64)) = ((2 ^ (k % 64) : Nat) : Int) from (Int.natCast_pow 2 (k % 64)).symm, Bm.wrap_u64_small _ h64, u64_or_nat _ _ (Bm.word_lt _ _) h64, Bm.word_step_yes l k h]
  rw [e]
  apply List.ext_getElem?
  intro i
  rw [List.getElem?_set]
  split
  · rename_i h1; subst h1; simp [hm]
  · rename_i h1; simp only [List.getElem?_map]
    by_cases hi : i < m
    · rw [List.getElem?_range hi]; simp only [Option.map_some]; rw [Bm.word_step_other l k i (by omega)]
    · have e : (List.range m)[i]? = none := by simp; omega
      rw [e]; simp only [Option.map_none]

theorem aheads_step {l : List Bool} {j m : Nat} (hj : j < m) (h : Bm.cnt l (64 * j) + Bm.pop 64 (Bm.word l j) = Bm.cnt l (64 * j + 64)) :
    ((List.range (m + 1)).map fun i => Value.int .i64 (if i ≤ j then (Bm.cnt l (64 * i) : Int) else 0)).set (j + 1) (.int .i64 ((Bm.cnt l (64 * j) : Int) + (Bm.pop 64 (Bm.word l j) : Int))) =
      ((List.range (m + 1)).map fun i => Value.int .i64 (if i ≤ j + 1 then (Bm.cnt l (64 * i) : Int) else 0)) := by
  apply List.ext_getElem?
  intro i
  rw [List.getElem?_set]
  simp only [List.getElem?_map, List.length_map, List.length_range]
  by_cases hi : i < m + 1
  · rw [List.getElem?_range hi]
    simp only [Option.map_some]
    split
    · rename_i h1; subst h1
      rw [if_pos hi, if_pos (Nat.le_refl _), show 64 * (j + 1) = 64 * j + 64 by omega, ← h]
      simp
    · rename_i h1
      by_cases h2 : i ≤ j
      · rw [if_pos h2, if_pos (by omega)]
      · rw [if_neg h2, if_neg (by omega)]
  · have e : (List.range (m + 1))[i]? = none := by simp; omega
    rw [e]
    split
    · rename_i h1; omega
    · rfl

/-- Block p holds a Vec of the bits l. -/
def IsVec (w : World) (p : Nat) (l : List Bool) : Prop := ∃ bw ba m, l.length ≤ 64 * m ∧ 64 * m < l.length + 64 ∧
  Blk w p [.int .i64 l.length, .slice (some ⟨bw, 0, none⟩) m m, .slice (some ⟨ba, 0, none⟩) (m + 1) (m + 1)] 88 ∧
  Blk w bw ((List.range m).map fun i => .int .u64 (Bm.word l i)) 89 ∧ Blk w ba ((List.range (m + 1)).map fun i => .int .i64 (Bm.cnt l (64 * i))) 3
theorem IsVec.keep {w w' : World} {p : Nat} {l : List Bool} (h : IsVec w p l) (hb : Below w.heap.size w w') : IsVec w' p l := by
  obtain ⟨bw, ba, m, h1, h2, h3, h4, h5⟩ := h
  exact ⟨bw, ba, m, h1, h2, h3.keep hb, h4.keep hb, h5.keep hb⟩

/-- Too many bits: none. -/
theorem new_no (a : Option Addr) (n cap : Nat) (w : World) (hl : 4096 < n) : Calls Try.prog 38 #[.slice a n cap] w fun e w' => e = .returned (.pointer none) ∧ w' = w := by
  go_enter Try.func38, Try.ntmps38
  go_wp2
  go_ret
  exact ⟨rfl, rfl⟩

theorem new_any (a : Option Addr) (cap : Nat) (l : List Bool) (w : World) (hl : l.length ≤ 4096) (hc0 : RowAt w a l.length fun i => .bool (l.getD i false)) :
    Calls Try.prog 38 #[.slice a l.length cap] w fun e w' => ∃ p, e = .returned (.pointer (some ⟨p, 0, none⟩)) ∧ Below w.heap.size w w' ∧ IsVec w' p l ∧
      (∀ w'', (∀ k, w.heap.size ≤ k → w''.heap[k]? = w'.heap[k]?) → IsVec w'' p l) := by
  obtain ⟨i0, hi, hz0, hz1, hz2⟩ := info_parts Try.info89
  obtain ⟨i1, hi1, hy0, hy1, hy2⟩ := info_parts Try.ninfo3
  generalize hn0 : l.length = n at *
  have hn := hid hn0
  clear hn0
  generalize hm : (n + 63) / 64 = m at *
  have hm2 : ((n : Int) + 64 - 1) / 64 = m := by omega
  have hml : n ≤ 64 * m := by omega
  have hml2 : 64 * m < n + 64 := by omega
  have hmr : m ≤ 64 := by omega
  have mk1 : ∀ W : World, (Instr.makeSlice 86 (.int .i64 (m : Int)) (.int .i64 (m : Int))).run Try.prog W = _ := fun W => run_make W 86 89 i0 _ Try.underlying86 hi hz0 .i64 .i64 m m (by omega) (by omega) (by rw [hz2]; omega) (by omega)
  go_enter Try.func38, Try.ntmps38
  go_wp2
  go_loopw [23] (fun i wr => ∃ k : Nat, k ≤ n ∧ i = .int .i64 k ∧ Below w.heap.size w wr ∧ w.heap.size + 1 < wr.heap.size ∧
      Blk wr w.heap.size ((List.range m).map fun i => .int .u64 (Bm.word (l.take k) i)) 89 ∧
      Blk wr (w.heap.size + 1) [.int .i64 n, .slice (some ⟨w.heap.size, 0, none⟩) m m, .slice none 0 0] 88) (fun i _ => n - (intOf i).toNat)
  case atStart =>
    refine ⟨0, Nat.zero_le _, rfl, ?_, ?_, ?_, ?_⟩
    · exact (((Below.refl _ _).alloc (Nat.le_refl _) _).alloc (by simp) _)
    · simp
    · refine (Blk.new' rfl ?_).alloc _
      apply List.ext_getElem?
      intro i
      simp only [madeCells, Array.toList_map, Array.toList_range, List.getElem?_map, List.take_zero, Bm.word_nil]
      by_cases hi : i < m
      · rw [List.getElem?_range hi]; simp [Nat.mod_one]
      · have e : (List.range m)[i]? = none := by simp; omega
        rw [e]; simp only [Option.map_none]
    · exact Blk.new' (by simp) rfl
  case round =>
    obtain ⟨k, hk, rfl, hb, hz, B1, B2⟩ := hrel
    by_cases hlt : k < n
    · obtain ⟨b, off, rfl, hc⟩ := hc0.get hlt
      have c0 : wr.cell? ⟨b, off + k, none⟩ = some (.bool (l.getD k false)) := below_keep hb (hc k (by omega))
      have c1 : wr.cell? ⟨w.heap.size, k / 64, none⟩ = some (.int .u64 (Bm.word (l.take k) (k / 64))) := B1.cell (by rw [List.getElem?_map, List.getElem?_range (by omega)]; rfl)
      have c2 : wr.cell? ⟨w.heap.size + 1, 1, none⟩ = some (.slice (some ⟨w.heap.size, 0, none⟩) m m) := B2.cell (by simp)
      have f1 := B1.free (k / 64)
      have hkm : k / 64 < m := by omega
      have hkm' : (k : Int) / 64 < m := by omega
      cases hbit : l.getD k false
      · rw [hbit] at c0
        have HB := hid hbit
        clear hbit hm hm2 mk1
        go_wp2
        go_roundw
        case rel => exact ⟨k + 1, by omega, by go_num, hb, hz, by rw [words_no HB.out]; exact B1, B2⟩
        case measure => simp [intOf]; omega
      · rw [hbit] at c0
        have HB := hid hbit
        clear hbit hm hm2 mk1
        go_wp2
        go_region
        go_wp2
        go_roundw
        case rel =>
          refine ⟨k + 1, by omega, by go_num, (hb.setCell (by simp) _).drew, by simpa using hz, ?_, (B2.other (by omega) _ _).drew⟩
          have := (B1.set (k / 64) (.int .u64 (bits BinOp.or IntKind.u64 (↑(Bm.word (List.take k l) (k / 64))) (IntKind.u64.wrap (2 ^ (k % 64)))))).drew
          rw [words_yes HB.out hkm] at this
          exact this
        case measure => simp [intOf]; omega
    · obtain rfl : k = n := by omega
      have mk2 : ∀ W : World, (Instr.makeSlice 55 (.int .i64 ((m : Int) + 1)) (.int .i64 ((m : Int) + 1))).run Try.prog W = _ := fun W => run_make W 55 3 i1 _ Try.underlying55 hi1 hy0 .i64 .i64 _ _ (by omega) (by omega) (by rw [hy2]; omega) (by omega)
      have c2 : wr.cell? ⟨w.heap.size + 1, 1, none⟩ = some (.slice (some ⟨w.heap.size, 0, none⟩) m m) := B2.cell (by simp)
      have c3 : wr.cell? ⟨w.heap.size + 1, 2, none⟩ = some (.slice none 0 0) := B2.cell (by simp)
      have f1 := B2.free 2
      clear hm hm2 mk1
      go_wp2
      obtain ⟨wo, rfl⟩ : ∃ wo : World, wo = wr := ⟨_, rfl⟩
      go_loopw [58] (fun i wr' => ∃ j : Nat, j ≤ m ∧ i = .int .i64 j ∧ Below w.heap.size w wr' ∧ wo.heap.size < wr'.heap.size ∧
          Blk wr' w.heap.size ((List.range m).map fun i => .int .u64 (Bm.word (l.take k) i)) 89 ∧
          Blk wr' (w.heap.size + 1) [.int .i64 k, .slice (some ⟨w.heap.size, 0, none⟩) m m, .slice (some ⟨wo.heap.size, 0, none⟩) (m + 1) (m + 1)] 88 ∧
          Blk wr' wo.heap.size ((List.range (m + 1)).map fun i => .int .i64 (if i ≤ j then (Bm.cnt l (64 * i) : Int) else 0)) 3) (fun i _ => m - (intOf i).toNat)
      case atStart =>
        refine ⟨0, Nat.zero_le _, rfl, ?_, ?_, ?_, ?_, ?_⟩
        · exact (hb.setCell (by simp) _).alloc (by simp; omega) _
        · simp
        · exact (B1.other (by omega) _ _).alloc _
        · exact (B2.set 2 _).alloc _
        · refine Blk.new' (by simp) ?_
          apply List.ext_getElem?
          intro i
          simp only [madeCells, Array.toList_map, Array.toList_range, List.getElem?_map]
          by_cases hi : i < m + 1
          · rw [List.getElem?_range hi]
            cases i <;> simp [Bm.cnt_zero, Nat.mod_one]
          · have e : (List.range (m + 1))[i]? = none := by simp; omega
            rw [e]; rfl
      case round =>
        obtain ⟨j, hj, rfl, hb', hz', B1', B2', B3'⟩ := hrel
        by_cases hlt : j < m
        · have c0 : wr.cell? ⟨w.heap.size, j, none⟩ = some (.int .u64 (Bm.word l j)) := B1'.cell (by rw [List.getElem?_map, List.getElem?_range (by omega)]; simp only [Option.map_some, List.take_of_length_le (Nat.le_of_eq hn.out)])
          have c1 : wr.cell? ⟨w.heap.size + 1, 2, none⟩ = some (.slice (some ⟨wo.heap.size, 0, none⟩) (m + 1) (m + 1)) := B2'.cell (by simp)
          have c2 : wr.cell? ⟨wo.heap.size, j, none⟩ = some (.int .i64 (Bm.cnt l (64 * j))) := B3'.cell (by rw [List.getElem?_map, List.getElem?_range (by omega)]; simp)
          have c3 : wr.cell? ⟨wo.heap.size, j + 1, none⟩ = some (.int .i64 0) := B3'.cell (by rw [List.getElem?_map, List.getElem?_range (by omega)]; simp only [Option.map_some, if_neg (show ¬ j + 1 ≤ j by omega)])
          have f1 := B3'.free (j + 1)
          have hpop := Bm.pop_le 64 (Bm.word l j)
          have hcnt := Bm.cnt_le l (64 * j)
          go_wp2
          refine wp_region_drawn_tail 17 (by kernel_rfl) (by kernel_rfl) ?_
          simp only [List.take_succ_cons, List.take_zero, List.drop_succ_cons, List.drop_zero]
          repeat (go_big_quiet_step ((go_at_call 56; exact drawn_same fun W hW => ones_any _ _ (Bm.word_lt l j))))
          refine wpQuiet_nil ?_
          rintro _ ⟨nq, rfl⟩
          go_wp2
          have hcj := Bm.pop_word l j 64 (Nat.le_refl _)
          go_roundw
          case rel =>
            refine ⟨j + 1, by omega, by go_num, (below_drawn hb' nq).setCell (by show w.heap.size ≤ wo.heap.size; omega) _, by simpa using hz', (B1'.drewN nq).other (by omega) _ _, (B2'.drewN nq).other (by omega) _ _, ?_⟩
            have := (B3'.drewN nq).set (j + 1) (.int .i64 ((Bm.cnt l (64 * j) : Int) + (Bm.pop 64 (Bm.word l j) : Int)))
            rw [aheads_step hlt hcj] at this
            exact this
          case measure => simp [intOf]; omega
        · obtain rfl : j = m := by omega
          go_wp2
          go_ret
          have e1 : l.take k = l := List.take_of_length_le (Nat.le_of_eq hn.out)
          have e2 : ((List.range (j + 1)).map fun i => Value.int .i64 (if i ≤ j then (Bm.cnt l (64 * i) : Int) else 0)) = (List.range (j + 1)).map fun i => Value.int .i64 (Bm.cnt l (64 * i)) :=
              List.map_congr_left fun i hi => by rw [if_pos (by have := List.mem_range.1 hi; omega)]
          rw [e1] at B1'
          rw [e2] at B3'
          have key : ∀ w'', (∀ k, w.heap.size ≤ k → w''.heap[k]? = wr.heap[k]?) → IsVec w'' (w.heap.size + 1) l := fun w'' hw'' => by
            refine ⟨w.heap.size, wo.heap.size, j, by rw [hn.out]; exact hml, by rw [hn.out]; exact hml2, ?_, ?_, ?_⟩
            · rw [hn.out]; unfold Blk at *; rw [hw'' _ (by omega)]; exact B2'
            · unfold Blk at *; rw [hw'' _ (by omega)]; exact B1'
            · unfold Blk at *; rw [hw'' _ (by omega)]; exact B3'
          exact ⟨_, rfl, hb', key wr (fun _ _ => rfl), key⟩
end Go.Proofs.Ytagadfgginneeaa
