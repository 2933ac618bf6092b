/- plain facts of a store's file: its texts, its numbers, its sections. -/
import Derived.Test.YtjaebndajhppgaaGreatDoorGSo1
import Derived.Test.YtjaebndajhppgaaGreatDoorGFr
import Derived.Test.YtjaebndajhppgaaGreatDoorGBx1
import Derived.Test.YtjaebndajhppgaaGreatDoorGRg6
namespace Go.Proofs.YtjaebndajhppgaaGreatDoor.So
set_option linter.unusedVariables false
set_option linter.unusedSimpArgs false
set_option maxRecDepth 100000
/-- The Shows of all terms. -/
def texts (l : List TT) : List (List UInt8) := (terms l).map sh
def num3 (t : Rg.T) : List Int := [t.1, t.2.1, t.2.2]
/-- All numbers of all triples. -/
def numsI (l : List TT) : List Int := (ids l).flatMap num3
def wid (l : List TT) : Nat := Bn.width (terms l).length
def packed (l : List TT) : List Nat := (List.range (Pm.size (3 * l.length) (wid l))).map (Pm.byte (numsI l) (wid l))
def body1 (l : List TT) : List Nat := Fr.byt (texts l) (texts l).length
def body2 (l : List TT) : List Nat := [l.length / 256 % 256, l.length % 256] ++ packed l
def secs (l : List TT) : List Bx.Sec := [(1, body1 l), (2, body2 l)]
/-- A store's file. -/
def file (l : List TT) : List Nat := Bx.file (secs l)
theorem numsI_len (l : List TT) : (numsI l).length = 3 * l.length := by
  have h : ∀ r : List Rg.T, (r.flatMap num3).length = 3 * r.length := by
    intro r
    induction r with
    | nil => rfl
    | cons t r ih => rw [List.flatMap_cons, List.length_append, ih, List.length_cons]; show 3 + _ = _; omega
  unfold numsI; rw [h, ids_len]
theorem texts_len (l : List TT) : (texts l).length ≤ 3 * l.length := by unfold texts; rw [List.length_map]; exact terms_len l
theorem show_pos {t : T3} (h : isT t) : 1 ≤ (sh t).length := by
  obtain ⟨k, a, b⟩ := t
  obtain ⟨n, e, h1, h2⟩ := Tm.is_kind (show Tm.is ((k : Nat) : Int) a b = true from h)
  have e2 : k = n := by omega
  subst e2
  show 1 ≤ (Tm.showT k a b).length
  unfold Tm.showT
  rcases (show k = 1 ∨ k = 2 ∨ k = 3 ∨ k = 4 ∨ k = 5 by omega) with rfl | rfl | rfl | rfl | rfl <;> simp
theorem show_le {t : T3} (h : isT t) : (sh t).length ≤ 250 := by
  obtain ⟨k, a, b⟩ := t
  exact (Tm.show_len (show Tm.is ((k : Nat) : Int) a b = true from h)).1
theorem texts_may {l : List TT} (h : ∀ p ∈ l, Tm.isTri p = true) (hn : l.length ≤ 100) : Fr.May (texts l) := by
  have hl := texts_len l
  refine ⟨by omega, fun i hi => ?_⟩
  have hi2 : i < (terms l).length := by unfold texts at hi; rwa [List.length_map] at hi
  have hat : ∀ j (hj : j < (terms l).length), Fr.at_ (texts l) j = sh (terms l)[j] := fun j hj => by
    unfold Fr.at_ texts; simp [List.getD, hj]
  refine ⟨?_, ?_, fun h0 => ?_⟩
  · rw [hat i hi2]; exact show_pos (terms_is h _ (List.getElem_mem _))
  · rw [hat i hi2]; exact show_le (terms_is h _ (List.getElem_mem _))
  · rw [hat i hi2, hat (i - 1) (by omega)]
    have hc : cT (terms l)[i - 1] (terms l)[i] < 0 := (List.pairwise_iff_getElem.1 (terms_srt h)) (i - 1) i (by omega) hi2 (by omega)
    have hb := Tm.cmp_bound (sh (terms l)[i - 1]) (sh (terms l)[i])
    exact Tm.cmp_less.1 (by unfold cT at hc; omega)
theorem numsI_mem {l : List TT} {x : Int} (h : x ∈ numsI l) : 0 ≤ x ∧ x.toNat ≤ (terms l).length := by
  unfold numsI at h
  obtain ⟨t, ht, hx⟩ := List.mem_flatMap.1 h
  unfold ids at ht
  obtain ⟨p, _, rfl⟩ := List.mem_map.1 ht
  have b1 := num_bound (E := terms l) p.1
  have b2 := num_bound (E := terms l) p.2.1
  have b3 := num_bound (E := terms l) p.2.2
  unfold num3 nums at hx
  simp only [List.mem_cons, List.not_mem_nil, or_false] at hx
  rcases hx with rfl | rfl | rfl <;> exact ⟨by omega, by omega⟩
theorem wid_le {l : List TT} (hn : l.length ≤ 100) : wid l ≤ 9 := (Bn.width_le _ _).2 (by have := terms_len l; show _ < 512; omega)
theorem pack_may {l : List TT} (hn : l.length ≤ 100) : Pm.May (numsI l) (wid l) := by
  have hw := wid_le hn
  have hlen := numsI_len l
  refine ⟨by omega, by omega, by omega, fun i hi => ?_⟩
  have hm : (numsI l).getD i 0 ∈ numsI l := by
    have : (numsI l).getD i 0 = (numsI l)[i] := by simp [List.getD, hi]
    rw [this]; exact List.getElem_mem _
  obtain ⟨h0, h1⟩ := numsI_mem hm
  refine ⟨h0, ?_⟩
  have hlt : (terms l).length < 2 ^ (wid l) := (Bn.width_le _ _).1 (Nat.le_refl _)
  rw [Int.toNat_natCast]
  omega
theorem size_le {l : List TT} (hn : l.length ≤ 100) : Pm.size (3 * l.length) (wid l) ≤ 338 := by
  have hw := wid_le hn
  have h : 3 * l.length * wid l ≤ 300 * 9 := Nat.mul_le_mul (by omega) hw
  unfold Pm.size; omega
theorem packed_len (l : List TT) : (packed l).length = Pm.size (3 * l.length) (wid l) := by unfold packed; simp
theorem body1_len {l : List TT} (h : ∀ p ∈ l, Tm.isTri p = true) (hn : l.length ≤ 100) : (body1 l).length ≤ 75602 := by
  have h1 := Fr.byt_len (texts_may h hn) (texts l).length (Nat.le_refl _)
  have h2 := texts_len l
  unfold body1; omega
theorem body2_len {l : List TT} (hn : l.length ≤ 100) : (body2 l).length ≤ 340 := by
  have h1 := size_le hn
  unfold body2; rw [List.length_append, packed_len]; show 2 + _ ≤ _; omega
theorem secs_may {l : List TT} (h : ∀ p ∈ l, Tm.isTri p = true) (hn : l.length ≤ 100) : Bx.May (secs l) := by
  have h1 := body1_len h hn
  have h2 := body2_len hn
  refine ⟨by show 2 ≤ 8; omega, ⟨by show (0 : Int) < 1; omega, by show (1 : Int) ≤ 255; omega, by show (1 : Int) < 2; omega, by show (2 : Int) ≤ 255; omega, trivial⟩, ?_⟩
  show 9 + 7 * 2 + ((body1 l).length + ((body2 l).length + 0)) ≤ 100000
  omega
theorem list_lt' {l : List Nat} (h : ∀ x ∈ l, x < 256) (i : Nat) : l.getD i 0 < 256 := by
  by_cases hi : i < l.length
  · have : l.getD i 0 = l[i] := by simp [List.getD, hi]
    rw [this]; exact h _ (List.getElem_mem _)
  · have : l.getD i 0 = 0 := by simp [List.getD, Nat.le_of_not_lt hi]
    rw [this]; omega
theorem packed_lt (l : List TT) : ∀ x ∈ packed l, x < 256 := fun x hx => by
  unfold packed at hx
  obtain ⟨t, _, rfl⟩ := List.mem_map.1 hx
  exact Pm.byte_lt _ _ _
theorem body2_lt (l : List TT) : ∀ x ∈ body2 l, x < 256 := fun x hx => by
  unfold body2 at hx
  rcases List.mem_append.1 hx with h | h
  · simp only [List.mem_cons, List.not_mem_nil, or_false] at h
    rcases h with rfl | rfl <;> exact Nat.mod_lt _ (by omega)
  · exact packed_lt l x h
theorem body1_lt {l : List TT} (h : ∀ p ∈ l, Tm.isTri p = true) (hn : l.length ≤ 100) : ∀ x ∈ body1 l, x < 256 := Fr.byt_lt (texts_may h hn) _ (Nat.le_refl _)
theorem secs_bytes {l : List TT} (h : ∀ p ∈ l, Tm.isTri p = true) (hn : l.length ≤ 100) : Bx.Bytes (secs l) := by
  intro s hs
  unfold secs at hs
  simp only [List.mem_cons, List.not_mem_nil, or_false] at hs
  rcases hs with rfl | rfl
  · exact list_lt' (body1_lt h hn)
  · exact list_lt' (body2_lt l)
end Go.Proofs.YtjaebndajhppgaaGreatDoor.So
