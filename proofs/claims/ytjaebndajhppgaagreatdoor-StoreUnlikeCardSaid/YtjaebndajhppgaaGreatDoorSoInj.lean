/- plain facts: a store's file tells its triples, and so does its text. -/
import Derived.Test.YtjaebndajhppgaaGreatDoorSoFileM
import Derived.Test.YtjaebndajhppgaaGreatDoorGFr2
namespace Go.Proofs.YtjaebndajhppgaaGreatDoor
set_option linter.unusedVariables false
set_option linter.unusedSimpArgs false
set_option maxRecDepth 100000
namespace Pm
/-- The bytes of a row in w bits. -/
def bytes (l : List Int) (w : Nat) : List Nat := (List.range (size l.length w)).map fun t => byte l w t
theorem bytes_length (l : List Int) (w : Nat) : (bytes l w).length = size l.length w := by simp [bytes]
theorem bytes_get (l : List Int) (w t : Nat) (h : t < size l.length w) : (bytes l w).getD t 0 = byte l w t := by
  simp [bytes, List.getD, h]
theorem testBit_grp (bit : Nat → Bool) (c k t j : Nat) (hj : j < c) : (Bn.grp bit c k t).testBit j = (decide (c * t + j < k) && bit (c * t + j)) := by
  unfold Bn.grp; rw [Bn.testBit_val]; simp [hj]
theorem bitB_bytes (l : List Int) (w j : Nat) (hj : j < 8 * size l.length w) : bitB (bytes l w) j = (decide (j < l.length * w) && nbit l w j) := by
  unfold bitB
  rw [bytes_get l w (j / 8) (by omega)]
  unfold byte
  rw [testBit_grp _ 8 _ _ _ (by omega), show 8 * (j / 8) + j % 8 = j by omega]
theorem size_bits (n w : Nat) : n * w ≤ 8 * size n w := by unfold size; omega
theorem list_ext {a b : List Int} (h : a.length = b.length) (hi : ∀ i, i < a.length → a.getD i 0 = b.getD i 0) : a = b := by
  refine List.ext_getElem h fun i h1 h2 => ?_
  have := hi i h1
  simpa [List.getD, h1, h2] using this
theorem nums_bytes (l : List Int) (w : Nat) (h : May l w) : nums (bytes l w) w l.length = l := by
  refine list_ext (nums_length _ _ _) fun i hi => ?_
  rw [nums_length] at hi
  rw [nums_get _ _ _ _ hi]
  obtain ⟨h0, h1⟩ := h.2.2.2 i hi
  have : num (bytes l w) w i = (l.getD i 0).toNat := by
    unfold num
    rw [← Bn.val_of_testBit w (l.getD i 0).toNat h1]
    refine Bn.val_congr fun j hj => ?_
    have h2 := at_lt hi hj
    have h3 := size_bits l.length w
    rw [bitB_bytes l w _ (by omega), decide_eq_true h2, nbit_at l w i j hj]; rfl
  rw [this]; omega
end Pm
theorem so_strOf_inj {k l : List Nat} (hk : ∀ i, k.getD i 0 < 256) (hl : ∀ i, l.getD i 0 < 256) (h : strOf k = strOf l) : k = l := by
  have h1 : k.map (fun x => UInt8.ofNat x) = l.map (fun x => UInt8.ofNat x) := by
    have := congrArg (fun s : ByteArray => s.data.toList) h
    simpa [strOf] using this
  have hlen : k.length = l.length := by simpa using congrArg List.length h1
  refine List.ext_getElem hlen fun i h2 h3 => ?_
  have h4 := congrArg (fun s => s[i]?) h1
  simp only [List.getElem?_map, List.getElem?_eq_getElem h2, List.getElem?_eq_getElem h3, Option.map_some, Option.some.injEq] at h4
  have h5 := congrArg UInt8.toNat h4
  have a1 := hk i
  have a2 := hl i
  simp only [List.getD, List.getElem?_eq_getElem h2, List.getElem?_eq_getElem h3, Option.getD_some] at a1 a2
  simp only [UInt8.toNat_ofNat'] at h5
  omega
namespace So
theorem map_inj_on {α β : Type} {f : α → β} : ∀ {l m : List α}, (∀ a ∈ l, ∀ b ∈ m, f a = f b → a = b) → l.map f = m.map f → l = m
  | [], [], _, _ => rfl
  | [], b :: m, _, h => by simp at h
  | a :: l, [], _, h => by simp at h
  | a :: l, b :: m, hi, h => by
    simp only [List.map_cons, List.cons.injEq] at h
    have e := hi a (by simp) b (by simp) h.1
    have e2 := map_inj_on (fun x hx y hy => hi x (by simp [hx]) y (by simp [hy])) h.2
    rw [e, e2]
theorem num3_inj : ∀ {r s : List Rg.T}, r.flatMap num3 = s.flatMap num3 → r = s
  | [], [], _ => rfl
  | [], b :: s, h => by simp [num3] at h
  | a :: r, [], h => by simp [num3] at h
  | (a1, a2, a3) :: r, (b1, b2, b3) :: s, h => by
    simp only [List.flatMap_cons, num3, List.cons_append, List.nil_append, List.cons.injEq] at h
    obtain ⟨rfl, rfl, rfl, h⟩ := h
    rw [num3_inj h]
theorem numE_inj {E : List T3} {a b : T3} (ha : a ∈ E) (hb : b ∈ E) (h : num E a = num E b) : a = b := by
  obtain ⟨i, hi, e1, e2⟩ := num_get ha
  obtain ⟨j, hj, e3, e4⟩ := num_get hb
  have : i = j := by omega
  subst this
  rw [← e2, ← e4]
theorem file_lt {l : List TT} (h : ∀ p ∈ l, Tm.isTri p = true) (hn : l.length ≤ 100) : ∀ x ∈ file l, x < 256 := fun x hx => by
  have h1 := secs_bytes h hn
  have three : ∀ k x, x ∈ Bx.three k → x < 256 := fun k x hx => by
    unfold Bx.three at hx
    simp only [List.mem_cons, List.not_mem_nil, or_false] at hx
    rcases hx with rfl | rfl | rfl <;> exact Nat.mod_lt _ (by omega)
  have ent : ∀ x ∈ Bx.entries (secs l), x < 256 := fun x hx => by
    unfold Bx.entries at hx
    obtain ⟨s, _, hs⟩ := List.mem_flatMap.1 hx
    unfold Bx.entry at hs
    rcases List.mem_cons.1 hs with rfl | hs
    · have := Int.emod_lt_of_pos s.1 (show (0 : Int) < 256 by omega)
      have := Int.emod_nonneg s.1 (show (256 : Int) ≠ 0 by omega)
      omega
    · rcases List.mem_append.1 hs with hs | hs <;> exact three _ _ hs
  unfold file Bx.file at hx
  rcases List.mem_append.1 hx with hx | hx
  · rcases List.mem_append.1 hx with hx | hx
    · unfold Bx.head at hx
      rcases List.mem_append.1 hx with hx | hx
      · simp only [List.mem_cons, List.not_mem_nil, or_false] at hx
        rcases hx with rfl | rfl | rfl | rfl | rfl | rfl
        · omega
        · omega
        · omega
        · omega
        · omega
        · exact Nat.mod_lt _ (by omega)
      · exact ent x hx
    · exact three _ _ hx
  · unfold Bx.bodies secs at hx
    obtain ⟨s, hs, hx⟩ := List.mem_flatMap.1 hx
    simp only [List.mem_cons, List.not_mem_nil, or_false] at hs
    rcases hs with rfl | rfl
    · exact body1_lt h hn x hx
    · exact body2_lt l x hx
theorem file_inj {l m : List TT} (hl : ∀ p ∈ l, Tm.isTri p = true) (hm : ∀ p ∈ m, Tm.isTri p = true) (h1 : l.length ≤ 100) (h2 : m.length ≤ 100) (h : file l = file m) : l = m := by
  have hs : secs l = secs m := by
    have a := Bx.unp_some.2 ⟨secs_may hl h1, rfl⟩
    have b := Bx.unp_some.2 ⟨secs_may hm h2, rfl⟩
    unfold file at h
    rw [h, b] at a
    exact (Option.some.inj a).symm
  have hb1 : body1 l = body1 m := congrArg (fun s : List Bx.Sec => (s.getD 0 (0, [])).2) hs
  have hb2 : body2 l = body2 m := congrArg (fun s : List Bx.Sec => (s.getD 1 (0, [])).2) hs
  have ht : texts l = texts m := by
    have a := Fr.back_res (texts_may hl h1)
    have b := Fr.back_res (texts_may hm h2)
    unfold body1 at hb1
    rw [hb1, b] at a
    exact (Option.some.inj a).symm
  have hE : terms l = terms m := map_inj_on (fun a ha b hb e => sh_inj (terms_is hl a ha) (terms_is hm b hb) e) ht
  have hw : wid l = wid m := by unfold wid; rw [hE]
  unfold body2 at hb2
  simp only [List.cons_append, List.nil_append, List.cons.injEq] at hb2
  have hlen : l.length = m.length := by omega
  have pb : ∀ k : List TT, packed k = Pm.bytes (numsI k) (wid k) := fun k => by unfold packed Pm.bytes; rw [numsI_len]
  have hp : Pm.bytes (numsI l) (wid l) = Pm.bytes (numsI m) (wid m) := by rw [← pb l, ← pb m]; exact hb2.2.2
  have hn : numsI l = numsI m := by
    have a := Pm.nums_bytes (numsI l) (wid l) (pack_may h1)
    have b := Pm.nums_bytes (numsI m) (wid m) (pack_may h2)
    rw [hp, numsI_len, hlen, hw, ← numsI_len m, b] at a
    exact a.symm
  have hi : ids l = ids m := num3_inj hn
  unfold ids at hi
  rw [← hE] at hi
  refine map_inj_on (fun p hp q hq e => ?_) hi
  obtain ⟨p1, p2, p3⟩ := terms_tri hl hp
  obtain ⟨q1, q2, q3⟩ := terms_tri hm hq
  rw [← hE] at q1 q2 q3
  unfold nums at e
  simp only [Prod.mk.injEq] at e
  obtain ⟨e1, e2, e3⟩ := e
  exact Prod.ext (numE_inj p1 q1 (by omega)) (Prod.ext (numE_inj p2 q2 (by omega)) (numE_inj p3 q3 (by omega)))
theorem text_inj {l m : List TT} (hl : ∀ p ∈ l, Tm.isTri p = true) (hm : ∀ p ∈ m, Tm.isTri p = true) (sl : Tm.Srt l) (sm : Tm.Srt m) (h1 : l.length ≤ 100) (h2 : m.length ≤ 100) (h : Tm.printL l = Tm.printL m) : l = m := by
  have one : ∀ k : List TT, (∀ p ∈ k, Tm.isTri p = true) → k.length ≤ 100 → Tm.plU (Tm.printL k) 0 [] = (0, k.length, Tm.addAll [] k) := fun k hk hn => by
    have h := Tm.plU_lines k [] 0 [] hk (by omega) (by simp only [List.length_nil]; omega)
    rw [List.append_nil, Nat.zero_add] at h
    rw [h]; exact Tm.plU_nil _ _
  have a := one l hl h1
  rw [h, one m hm h2] at a
  have e : Tm.addAll [] m = Tm.addAll [] l := by
    simp only [Prod.mk.injEq] at a; exact a.2.2
  have el := Tm.rsort_addAll hl
  have em := Tm.rsort_addAll hm
  rw [e, el] at em
  rw [Tm.rsort_eq hl sl (fun t => Iff.rfl), em, ← Tm.rsort_eq hm sm (fun t => Iff.rfl)]
end So
end Go.Proofs.YtjaebndajhppgaaGreatDoor
