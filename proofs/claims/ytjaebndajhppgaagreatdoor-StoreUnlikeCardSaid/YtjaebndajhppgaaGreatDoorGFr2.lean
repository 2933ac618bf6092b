/- FrRead, FrBack. -/
import Derived.Test.YtjaebndajhppgaaGreatDoorGFr

namespace Go.Proofs.YtjaebndajhppgaaGreatDoor.Fr
set_option linter.unusedVariables false
set_option maxRecDepth 100000
set_option linter.unusedSimpArgs false
open Go Go.RowKit

def txt (l : List Nat) : T := l.map UInt8.ofNat
def ent (b : List Nat) (x : T) (p : Nat) : Option (T × Nat) :=
  if b.length < p + 2 ∨ x.length < b.getD p 0 ∨ b.length < p + 2 + b.getD (p + 1) 0 then none
  else some (x.take (b.getD p 0) ++ txt ((b.drop (p + 2)).take (b.getD (p + 1) 0)), p + 2 + b.getD (p + 1) 0)
def st (b : List Nat) : Nat → Option (List T × T × Nat)
  | 0 => some ([], [], 2)
  | k + 1 => match st b k with
    | none => none
    | some (L, x, p) => match ent b x p with
      | none => none
      | some (y, q) => some (L ++ [y], y, q)
def cnt (b : List Nat) : Nat := b.getD 0 0 * 256 + b.getD 1 0
def rd (b : List Nat) : Option (List T) := if b.length < 2 then none else (st b (cnt b)).map (·.1)
def res (b : List Nat) : Option (List T) := match rd b with
  | none => none
  | some L => if May L ∧ byt L L.length = b then some L else none
theorem st_succ {b : List Nat} {k : Nat} {L : List T} {x : T} {p : Nat} (h : st b k = some (L, x, p)) : st b (k + 1) = match ent b x p with | none => none | some (y, q) => some (L ++ [y], y, q) := by
  rw [st, h]
end Go.Proofs.YtjaebndajhppgaaGreatDoor.Fr
namespace Go.Proofs.YtjaebndajhppgaaGreatDoor.Fr
set_option linter.unusedVariables false
set_option maxRecDepth 100000
set_option linter.unusedSimpArgs false
open Go Go.RowKit
theorem split_at (L : List T) (i : Nat) : ∀ k, i < k → ∃ R, byt L k = byt L i ++ (enc L i ++ R) := by
  intro k
  induction k with
  | zero => intro h; omega
  | succ k ih =>
    intro h
    by_cases e : i = k
    · exact ⟨[], by rw [e]; show byt L k ++ enc L k = _; rw [List.append_nil]⟩
    · obtain ⟨R, hR⟩ := ih (by omega)
      exact ⟨R ++ enc L k, by show byt L k ++ enc L k = _; rw [hR]; simp⟩
theorem sh_take : ∀ a b : T, a.take (sh a b) = b.take (sh a b)
  | [], [] => rfl
  | [], _ :: _ => rfl
  | _ :: _, [] => rfl
  | a :: x, b :: y => by
    by_cases e : a = b
    · rw [sh, if_pos e, List.take_succ_cons, List.take_succ_cons, sh_take x y, e]
    · rw [sh, if_neg e]; rfl
theorem txt_nats (s : T) : txt (nats s) = s := by
  unfold txt nats
  rw [List.map_map]
  have : (UInt8.ofNat ∘ UInt8.toNat) = id := by funext c; simp
  rw [this, List.map_id]
def lastAt (L : List T) (k : Nat) : T := if k = 0 then [] else at_ L (k - 1)
theorem back_ent {L : List T} {n k : Nat} (hk : k < n) : ent (byt L n) (lastAt L k) (byt L k).length = some (at_ L k, (byt L (k + 1)).length) := by
  obtain ⟨R, hR⟩ := split_at L k n hk
  have hs := shAt_le L k
  have h1 : (byt L n).getD (byt L k).length 0 = shAt L k := by rw [hR, getD_right (Nat.le_refl _), Nat.sub_self]; rfl
  have h2 : (byt L n).getD ((byt L k).length + 1) 0 = (at_ L k).length - shAt L k := by rw [hR, getD_right (by omega), Nat.add_sub_cancel_left]; rfl
  have h3 : (byt L (k + 1)).length = (byt L k).length + 2 + ((at_ L k).length - shAt L k) := by
    show (byt L k ++ enc L k).length = _
    rw [List.length_append, enc_len]; omega
  have h4 : (byt L k).length + 2 + ((at_ L k).length - shAt L k) ≤ (byt L n).length := by
    rw [hR, List.length_append, List.length_append, enc_len]; omega
  have hx : shAt L k ≤ (lastAt L k).length ∧ (lastAt L k).take (shAt L k) = (at_ L k).take (shAt L k) := by
    unfold shAt lastAt
    by_cases hm : k % 4 = 0
    · rw [if_pos hm]; exact ⟨Nat.zero_le _, rfl⟩
    · rw [if_neg hm, if_neg (by omega)]
      exact ⟨(sh_le _ _).1, sh_take _ _⟩
  unfold ent
  rw [h1, h2, if_neg (by omega), h3]
  congr 2
  have hd : ((byt L n).drop ((byt L k).length + 2)).take ((at_ L k).length - shAt L k) = nats ((at_ L k).drop (shAt L k)) := by
    rw [hR, ← List.drop_drop, List.drop_left]
    show ((([shAt L k, (at_ L k).length - shAt L k] ++ nats ((at_ L k).drop (shAt L k))) ++ R).drop 2).take _ = _
    rw [List.append_assoc]
    show (nats ((at_ L k).drop (shAt L k)) ++ R).take _ = _
    rw [List.take_append_of_le_length (by unfold nats; rw [List.length_map, List.length_drop]; omega), List.take_of_length_le (by unfold nats; rw [List.length_map, List.length_drop]; omega)]
  rw [hd, txt_nats, hx.2, List.take_append_drop]
theorem back_st {L : List T} : ∀ k, k ≤ L.length → st (byt L L.length) k = some (L.take k, lastAt L k, (byt L k).length)
  | 0, _ => rfl
  | k + 1, hk => by
    rw [st_succ (back_st k (by omega)), back_ent (by omega)]
    have e : L.take k ++ [at_ L k] = L.take (k + 1) := by
      rw [List.take_succ_eq_append_getElem (by omega), at_get (by omega)]
    show some (L.take k ++ [at_ L k], at_ L k, (byt L (k + 1)).length) = _
    rw [e]; rfl
theorem byt_two {L : List T} : ∀ k, ∃ R, byt L k = [L.length / 256 % 256, L.length % 256] ++ R
  | 0 => ⟨[], rfl⟩
  | k + 1 => by
    obtain ⟨R, h⟩ := byt_two (L := L) k
    exact ⟨R ++ enc L k, by show byt L k ++ enc L k = _; rw [h, List.append_assoc]⟩
theorem cnt_two {a b : Nat} (R : List Nat) : cnt ([a, b] ++ R) = a * 256 + b := rfl
theorem cnt_byt {L : List T} (h : May L) : cnt (byt L L.length) = L.length ∧ 2 ≤ (byt L L.length).length := by
  obtain ⟨R, hR⟩ := byt_two (L := L) L.length
  have := h.1
  rw [hR]
  refine ⟨by rw [cnt_two]; omega, by simp⟩
theorem back_rd {L : List T} (h : May L) : rd (byt L L.length) = some L := by
  obtain ⟨h1, h2⟩ := cnt_byt h
  unfold rd
  rw [if_neg (by omega), h1, back_st L.length (Nat.le_refl _), Option.map_some, List.take_length]
theorem back_res {L : List T} (h : May L) : res (byt L L.length) = some L := by
  unfold res
  rw [back_rd h]
  exact if_pos ⟨h, rfl⟩
end Go.Proofs.YtjaebndajhppgaaGreatDoor.Fr
