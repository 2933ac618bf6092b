/- What Pack and Unpack answer, all cases in one; the rows of the laws. -/
import Derived.Test.YtjfbgfbmfknndaaPackRef2
import Derived.Test.YtjfbgfbmfknndaaPack
namespace Go.Proofs.Ytjfbgfbmfknndaa
set_option linter.unusedVariables false
set_option linter.unusedSimpArgs false
open Go.ChangeShapes Go.WideShapes Go.ChangeAt Go.RowKit

namespace Pm
/-- The bytes of a row in w bits. -/
def bytes (l : List Int) (w : Nat) : List Nat := (List.range (size l.length w)).map fun t => byte l w t
theorem bytes_length (l : List Int) (w : Nat) : (bytes l w).length = size l.length w := by simp [bytes]
theorem bytes_get (l : List Int) (w t : Nat) (h : t < size l.length w) : (bytes l w).getD t 0 = byte l w t := by
  simp [bytes, List.getD, h]
theorem bytes_lt (l : List Int) (w t : Nat) : (bytes l w).getD t 0 < 256 := by
  by_cases h : t < size l.length w
  · rw [bytes_get l w t h]; exact byte_lt l w t
  · have : (bytes l w).length ≤ t := by rw [bytes_length]; omega
    simp [List.getD, List.getElem?_eq_none this]
theorem testBit_grp (bit : Nat → Bool) (c k t j : Nat) (hj : j < c) : (Bn.grp bit c k t).testBit j = (decide (c * t + j < k) && bit (c * t + j)) := by
  unfold Bn.grp; rw [Bn.testBit_val]; simp [hj]
theorem bitB_bytes (l : List Int) (w j : Nat) (hj : j < 8 * size l.length w) : bitB (bytes l w) j = (decide (j < l.length * w) && nbit l w j) := by
  unfold bitB
  rw [bytes_get l w (j / 8) (by omega)]
  unfold byte
  rw [testBit_grp _ 8 _ _ _ (by omega), show 8 * (j / 8) + j % 8 = j by omega]
theorem size_bits (n w : Nat) : n * w ≤ 8 * size n w := by unfold size; omega
theorem bytes_noughts (l : List Int) (w : Nat) : Noughts (bytes l w) (l.length * w) (bytes l w).length := by
  intro j h1 h2
  rw [bytes_length] at h2
  rw [bitB_bytes l w j h2, decide_eq_false (by omega)]; rfl
theorem list_ext {a b : List Int} (h : a.length = b.length) (hi : ∀ i, i < a.length → a.getD i 0 = b.getD i 0) : a = b := by
  refine List.ext_getElem h fun i h1 h2 => ?_
  have := hi i h1
  simpa [List.getD, h1, h2] using this
theorem list_extN {a b : List Nat} (h : a.length = b.length) (hi : ∀ i, i < a.length → a.getD i 0 = b.getD i 0) : a = b := by
  refine List.ext_getElem h fun i h1 h2 => ?_
  have := hi i h1
  simpa [List.getD, h1, h2] using this
theorem nums_bytes (l : List Int) (w : Nat) (h : May l w) : nums (bytes l w) w l.length = l := by
  refine list_ext (nums_length _ _ _) fun i hi => ?_
  rw [nums_length] at hi
  rw [nums_get _ _ _ _ hi]
  obtain ⟨h0, h1⟩ := h.2.2.2 i hi
  have : num (bytes l w) w i = (l.getD i 0).toNat := by
    unfold num
    rw [← Bn.val_of_testBit w (l.getD i 0).toNat h1]
    refine Bn.val_congr fun j hj => ?_
    have h2 := at_lt hi hj
    have h3 := size_bits l.length w
    rw [bitB_bytes l w _ (by omega), decide_eq_true h2, nbit_at l w i j hj]; rfl
  rw [this]; omega
end Pm

open Classical in
/-- What Pack answers: the code, and the bytes. -/
noncomputable def pkCode (l : List Int) (w : Int) : Int := if Pm.May l w then 0 else 1
open Classical in
noncomputable def pkList (l : List Int) (w : Int) : List Nat := if Pm.May l w then Pm.bytes l w.toNat else []
open Classical in
noncomputable def unCode (l : List Nat) (n w : Int) : Int := if Un l n w then 0 else if mb n w = true then 2 else 1
open Classical in
noncomputable def unList (l : List Nat) (n w : Int) : List Int := if Un l n w then Pm.nums l w.toNat n.toNat else []
theorem pk_yes {l : List Int} {w : Int} (h : Pm.May l w) : pkCode l w = 0 ∧ pkList l w = Pm.bytes l w.toNat := by simp [pkCode, pkList, h]
theorem pk_no {l : List Int} {w : Int} (h : ¬ Pm.May l w) : pkCode l w = 1 ∧ pkList l w = [] := by simp [pkCode, pkList, h]
theorem un_yes {l : List Nat} {n w : Int} (h : Un l n w) : unCode l n w = 0 ∧ unList l n w = Pm.nums l w.toNat n.toNat := by simp [unCode, unList, h]
theorem un_no {l : List Nat} {n w : Int} (h : ¬ Un l n w) : unCode l n w = (if mb n w = true then 2 else 1) ∧ unList l n w = [] := by simp [unCode, unList, h]
theorem unList_length {l : List Nat} {n w : Int} : unList l n w = [] ∨ (unList l n w).length = n.toNat := by
  by_cases h : Un l n w
  · rw [(un_yes h).2, Pm.nums_length]; exact Or.inr rfl
  · exact Or.inl (un_no h).2
theorem pkList_lt (l : List Int) (w : Int) (i : Nat) : (pkList l w).getD i 0 < 256 := by
  by_cases h : Pm.May l w
  · rw [(pk_yes h).2]; exact Pm.bytes_lt _ _ _
  · rw [(pk_no h).2]; simp

/-- A row of bytes, of numbers, in the world. -/
def BytesAt (W : World) (v : Value) (l : List Nat) : Prop := ∃ a cap, v = .slice a l.length cap ∧ RowAt W a l.length fun i => .int .u8 (l.getD i 0 : Nat)
def NumsAt (W : World) (v : Value) (l : List Int) : Prop := ∃ a cap, v = .slice a l.length cap ∧ RowAt W a l.length fun i => .int .i64 (l.getD i 0)
theorem BytesAt.keep {W W' : World} {v : Value} {l : List Nat} (h : BytesAt W v l) (hb : Below W.heap.size W W') : BytesAt W' v l := by
  obtain ⟨a, cap, e, r⟩ := h; exact ⟨a, cap, e, r.keep hb⟩
theorem NumsAt.keep {W W' : World} {v : Value} {l : List Int} (h : NumsAt W v l) (hb : Below W.heap.size W W') : NumsAt W' v l := by
  obtain ⟨a, cap, e, r⟩ := h; exact ⟨a, cap, e, r.keep hb⟩
theorem bytes_nil (W : World) : BytesAt W (.slice none 0 0) [] := ⟨none, 0, rfl, Or.inl rfl⟩
theorem nums_nil (W : World) : NumsAt W (.slice none 0 0) [] := ⟨none, 0, rfl, Or.inl rfl⟩
theorem packed_at {W : World} {b : Nat} {l : List Int} {w : Nat} {t : TypeId} (h : Blk W b (packCells l w (l.length * w) (Pm.size l.length w)) t) :
    BytesAt W (.slice (some ⟨b, 0, none⟩) (Pm.size l.length w) (Pm.size l.length w)) (Pm.bytes l w) := by
  refine ⟨_, Pm.size l.length w, by rw [Pm.bytes_length], Or.inr ⟨b, 0, rfl, fun i hi => ?_⟩⟩
  rw [Pm.bytes_length] at hi
  rw [Nat.zero_add, h.cell (packCells_get hi)]
  show _ = some (Value.int .u8 ((Pm.bytes l w).getD i 0 : Nat))
  rw [Pm.bytes_get l w i hi]; rfl
theorem numbered_at {W : World} {b : Nat} {l : List Nat} {n w : Nat} {t : TypeId} (h : Blk W b (numCells l n w n 0) t) :
    NumsAt W (.slice (some ⟨b, 0, none⟩) n n) (Pm.nums l w n) := by
  refine ⟨_, n, by rw [Pm.nums_length], Or.inr ⟨b, 0, rfl, fun i hi => ?_⟩⟩
  rw [Pm.nums_length] at hi
  rw [Nat.zero_add, h.cell (numCells_get hi), if_pos hi]
  show _ = some (Value.int .i64 ((Pm.nums l w n).getD i 0))
  rw [Pm.nums_get l w n i hi]

section
variable (v : Value) (W : World)
theorem pack_all (l : List Int) (w : Int) (hmax : ∀ i, i < l.length → l.getD i 0 ≤ 9223372036854775807) (hR : NumsAt W v l) :
    Calls Try.prog 10 #[v, .int .i64 w] W fun e W' => ∃ v', e = .returned (.tuple #[v', .int .i64 (pkCode l w)]) ∧ Below W.heap.size W W' ∧ BytesAt W' v' (pkList l w) := by
  obtain ⟨a, cap, rfl, hR⟩ := hR
  by_cases h : Pm.May l w
  · rw [(pk_yes h).1, (pk_yes h).2]
    obtain ⟨k, rfl⟩ : ∃ k : Nat, w = k := ⟨w.toNat, by have := h.1; omega⟩
    refine (pack_ok a _ cap k l W rfl h hR).mono ?_
    rintro e W' ⟨b, rfl, hb, _, B⟩
    exact ⟨_, rfl, hb, packed_at B⟩
  · rw [(pk_no h).1, (pk_no h).2]
    refine (pack_no a _ cap w l W rfl h hmax hR).mono ?_
    rintro e W' ⟨rfl, rfl⟩
    exact ⟨_, rfl, Below.refl _ _, bytes_nil _⟩
theorem rpack_all (l : List Int) (w : Int) (hl : l.length ≤ 9223372036854775807) (hmax : ∀ i, i < l.length → l.getD i 0 ≤ 9223372036854775807) (hR : NumsAt W v l) :
    Calls Try.prog 11 #[v, .int .i64 w] W fun e W' => ∃ v', e = .returned (.tuple #[v', .int .i64 (pkCode l w)]) ∧ Below W.heap.size W W' ∧ BytesAt W' v' (pkList l w) := by
  obtain ⟨a, cap, rfl, hR⟩ := hR
  by_cases h : Pm.May l w
  · rw [(pk_yes h).1, (pk_yes h).2]
    obtain ⟨k, rfl⟩ : ∃ k : Nat, w = k := ⟨w.toNat, by have := h.1; omega⟩
    refine (rpack_ok a _ cap k l W rfl h hR).mono ?_
    rintro e W' ⟨b, rfl, hb, _, B⟩
    exact ⟨_, rfl, hb, packed_at B⟩
  · rw [(pk_no h).1, (pk_no h).2]
    refine (rpack_no a _ cap w l W rfl hl h hmax hR).mono ?_
    rintro e W' ⟨rfl, rfl⟩
    exact ⟨_, rfl, Below.refl _ _, bytes_nil _⟩
theorem un_nat {l : List Nat} {n w : Int} (h : mb n w = true) : ∃ i j : Nat, n = i ∧ w = j := by
  unfold mb at h; simp at h; exact ⟨n.toNat, w.toNat, by omega, by omega⟩
theorem unpack_all (l : List Nat) (n w : Int) (hl : l.length ≤ maxLen) (hb : ∀ i, l.getD i 0 < 256) (hR : BytesAt W v l) :
    Calls Try.prog 12 #[v, .int .i64 n, .int .i64 w] W fun e W' => ∃ v', e = .returned (.tuple #[v', .int .i64 (unCode l n w)]) ∧ Below W.heap.size W W' ∧ NumsAt W' v' (unList l n w) := by
  obtain ⟨a, cap, rfl, hR⟩ := hR
  by_cases h1 : mb n w = true
  · obtain ⟨i, j, rfl, rfl⟩ := un_nat (l := l) h1
    by_cases h : Un l i j
    · rw [(un_yes h).1, (un_yes h).2]
      refine (unpack_ok a _ cap i j l W rfl hb h hR).mono ?_
      rintro e W' ⟨b, rfl, hb, _, B⟩
      exact ⟨_, rfl, hb, numbered_at B⟩
    · rw [(un_no h).1, (un_no h).2, if_pos h1]
      refine (unpack_no2 a _ cap i j l W rfl hl hb h1 h hR).mono ?_
      rintro e W' ⟨rfl, rfl⟩
      exact ⟨_, rfl, Below.refl _ _, nums_nil _⟩
  · have h : ¬ Un l n w := fun h => h1 h.1
    rw [(un_no h).1, (un_no h).2, if_neg h1]
    refine (unpack_no1 a _ cap n w W (by simpa using h1)).mono ?_
    rintro e W' ⟨rfl, rfl⟩
    exact ⟨_, rfl, Below.refl _ _, nums_nil _⟩
theorem runpack_all (l : List Nat) (n w : Int) (hl : l.length ≤ maxLen) (hb : ∀ i, l.getD i 0 < 256) (hR : BytesAt W v l) :
    Calls Try.prog 13 #[v, .int .i64 n, .int .i64 w] W fun e W' => ∃ v', e = .returned (.tuple #[v', .int .i64 (unCode l n w)]) ∧ Below W.heap.size W W' ∧ NumsAt W' v' (unList l n w) := by
  obtain ⟨a, cap, rfl, hR⟩ := hR
  by_cases h1 : mb n w = true
  · obtain ⟨i, j, rfl, rfl⟩ := un_nat (l := l) h1
    by_cases hs : l.length = Pm.size i j
    · refine (runpack_go a _ cap i j l W rfl hb h1 hs hR).mono ?_
      rintro e W' ⟨v1, q, rfl, hb1, hy, hn⟩
      by_cases hno : Noughts l (i * j) l.length
      · have h : Un l i j := ⟨h1, hs, hno⟩
        obtain ⟨a', cap', rfl, rfl, hrow⟩ := hy hno
        rw [(un_yes h).1, (un_yes h).2]
        exact ⟨_, rfl, hb1, a', cap', by rw [Pm.nums_length]; rfl, by rw [Pm.nums_length]; exact hrow⟩
      · have h : ¬ Un l i j := fun h => hno h.2.2
        obtain ⟨rfl, rfl⟩ := hn hno
        rw [(un_no h).1, (un_no h).2, if_pos h1]
        exact ⟨_, rfl, hb1, nums_nil _⟩
    · have h : ¬ Un l i j := fun h => hs h.2.1
      rw [(un_no h).1, (un_no h).2, if_pos h1]
      refine (runpack_no2 a _ cap i j W hl h1 hs).mono ?_
      rintro e W' ⟨rfl, rfl⟩
      exact ⟨_, rfl, Below.refl _ _, nums_nil _⟩
  · have h : ¬ Un l n w := fun h => h1 h.1
    rw [(un_no h).1, (un_no h).2, if_neg h1]
    refine (runpack_no1 a _ cap n w W (by simpa using h1)).mono ?_
    rintro e W' ⟨rfl, rfl⟩
    exact ⟨_, rfl, Below.refl _ _, nums_nil _⟩
end
theorem rsame_all (v v' : Value) (k l : List Int) (W : World) (r : Bool) (h1 : k.length ≤ 9223372036854775807) (h2 : l.length ≤ 9223372036854775807) (hr : r = true ↔ k = l) (hR : NumsAt W v k) (hR2 : NumsAt W v' l) :
    Calls Try.prog 14 #[v, v'] W fun e W' => e = .returned (.bool r) ∧ Below W.heap.size W W' := by
  obtain ⟨a, cap, rfl, hR⟩ := hR
  obtain ⟨b, cap2, rfl, hR2⟩ := hR2
  refine (rsame_any a b _ _ cap cap2 k l W r rfl rfl h1 h2 hr hR hR2).mono ?_
  rintro e W' ⟨rfl, q, rfl⟩
  exact ⟨rfl, below_drawn (Below.refl _ _) q⟩
theorem conv_row (w : World) (v : Value) (l : List Nat) (hR : BytesAt w v l) : (convert 23 9 v).run Try.prog w = .ok (.string (strOf l)) w := by
  obtain ⟨a, cap, rfl, hR⟩ := hR
  exact conv_bytes (P := Try.prog) w 23 5 9 Try.underlying23 Try.underlying5 Try.underlying9 a _ cap l rfl hR

theorem known_any (w : World) : Calls Try.prog 17 #[] w fun e w' => e = .returned (.bool true) ∧ Below w.heap.size w w' := by
  have N := hid (fun W (b : Nat) (h : ∀ i, i < 3 → W.cell? ⟨b, 0 + i, none⟩ = some (.int .i64 (([1, 2, 3] : List Int).getD i 0))) =>
    pack_all (.slice (some ⟨b, 0, none⟩) 3 3) W [1, 2, 3] 3 (by intro i hi; match i, hi with | 0, _ => decide | 1, _ => decide | 2, _ => decide) ⟨_, 3, rfl, Or.inr ⟨b, 0, rfl, h⟩⟩)
  have hmay : Pm.May [1, 2, 3] 3 := ⟨by decide, by decide, by decide, by intro i hi; match i, hi with | 0, _ => decide | 1, _ => decide | 2, _ => decide⟩
  have e1 : pkList [1, 2, 3] 3 = [209, 0] := by rw [(pk_yes hmay).2]; decide
  have e2 : pkCode [1, 2, 3] 3 = 0 := (pk_yes hmay).1
  rw [e1, e2] at N
  have hs : ((strOf [209, 0]).toList == ([209, 0] : List UInt8)) = true := by rw [ByteArray.toList_eq]; rfl
  have W5 := hid (fun W => width_any 5 W (by decide))
  have W0 := hid (fun W => width_any 0 W (by decide))
  rw [show ((Bn.width (5 : Int).toNat : Nat) : Int) = 3 by decide] at W5
  rw [show ((Bn.width (0 : Int).toNat : Nat) : Int) = 0 by decide] at W0
  clear hmay e1 e2
  go_enter Try.func17, Try.ntmps17
  go_wp2_with fail
  have hb0 : Below w.heap.size w (w.alloc (.cells #[.int .i64 1, .int .i64 2, .int .i64 3] 3)) := (Below.refl _ _).alloc (Nat.le_refl _) _
  refine (N.out _ w.heap.size (fun i hi => ?_)).mono ?_
  · rw [Nat.zero_add, World.cell?_alloc_at _ _ _ _ rfl]
    match i, hi with
    | 0, _ => rfl
    | 1, _ => rfl
    | 2, _ => rfl
  rintro e w1 ⟨v', rfl, hb1, hv⟩
  have hb2 := hid (below_then hb0 hb1)
  have CV := hid (conv_row w1 v' _ hv)
  clear hb0 hb1 hv
  have cv := CV.out
  go_wp2_with (first
    | (go_at_call 15; refine (W5.out _).mono ?_; rintro e w' ⟨rfl, rfl⟩)
    | (go_at_call 15; refine (W0.out _).mono ?_; rintro e w' ⟨rfl, rfl⟩))
  go_ret
  exact ⟨rfl, hb2.out⟩
end Go.Proofs.Ytjfbgfbmfknndaa
