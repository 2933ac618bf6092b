/- term's helpers: letters, digits. -/
import Derived.Test.YtmfnbmbedplgcaaGreatDoorStr
import Derived.Test.YtmfnbmbedplgcaaGreatDoorTmTerm
namespace Go.Proofs.YtmfnbmbedplgcaaGreatDoor
set_option linter.unusedVariables false
set_option maxRecDepth 100000
set_option linter.unusedSimpArgs false
open Go.ChangeShapes Go.WideShapes Go.ChangeAt Go.RowKit

theorem tsmall_any (c : UInt8) (w : World) :
    Calls Tryz.prog 56 #[.int .u8 (c.toNat : Nat)] w fun e w' => e = .returned (.bool (Tm.small c)) ∧ w' = w := by
  unfold Tm.small
  go_enter Tryz.func56, Tryz.ntmps56
  by_cases h1 : 97 ≤ c.toNat
  · by_cases h2 : c.toNat ≤ 122
    · go_wp2
      go_ret
      exact ⟨by simp [h1, h2] <;> omega, rfl⟩
    · have h3 : 122 < c.toNat := by omega
      go_wp2
      go_ret
      exact ⟨by simp [h1, h2] <;> omega, rfl⟩
  · have h3 : c.toNat < 97 := by omega
    go_wp2
    go_ret
    exact ⟨by simp [h1], rfl⟩
theorem tdigit_any (c : UInt8) (w : World) :
    Calls Tryz.prog 57 #[.int .u8 (c.toNat : Nat)] w fun e w' => e = .returned (.bool (Tm.digit c)) ∧ w' = w := by
  unfold Tm.digit
  go_enter Tryz.func57, Tryz.ntmps57
  by_cases h1 : 48 ≤ c.toNat
  · by_cases h2 : c.toNat ≤ 57
    · go_wp2
      go_ret
      exact ⟨by simp [h1, h2] <;> omega, rfl⟩
    · have h3 : 57 < c.toNat := by omega
      go_wp2
      go_ret
      exact ⟨by simp [h1, h2] <;> omega, rfl⟩
  · have h3 : c.toNat < 48 := by omega
    go_wp2
    go_ret
    exact ⟨by simp [h1], rfl⟩
/-- The first n bytes are as they may be. -/
theorem all_step {p : List UInt8} {f : UInt8 → Bool} {n : Nat} {c : UInt8} (h : (p.take n).all f = true) (hc : p[n]? = some c) (hf : f c = true) : (p.take (n + 1)).all f = true := by
  rw [List.take_add_one, hc, List.all_append, h]
  simp [hf]
theorem all_stop {p : List UInt8} {f : UInt8 → Bool} {n : Nat} {c : UInt8} (hc : p[n]? = some c) (hf : f c = false) : p.all f = false := by
  rw [List.all_eq_false]
  exact ⟨c, List.mem_of_getElem? hc, by simp [hf]⟩
theorem tpart_any (p : List UInt8) (d : Bool) (w : World) (hl : p.length ≤ 9223372036854775807) :
    Calls Tryz.prog 59 #[str p, .bool d] w fun e w' => e = .returned (.bool (Tm.partOk d p)) ∧ w' = w := by
  unfold Tm.partOk
  go_enter Tryz.func59, Tryz.ntmps59
  by_cases h0 : p = []
  · subst h0
    go_wp2
    go_ret
    exact ⟨rfl, rfl⟩
  have h1 : 1 ≤ p.length := by have := List.length_pos_iff.2 h0; omega
  have he : p.isEmpty = false := by simpa using h0
  by_cases h8 : 8 < p.length
  · go_wp2
    go_ret
    exact ⟨by simp; omega, rfl⟩
  go_wp2
  go_loop [15] (fun s => ∃ n : Nat, n ≤ p.length ∧ (p.take n).all (fun c => Tm.small c || (d && Tm.digit c)) = true ∧ s = .int .i64 n) (fun s => p.length - (intOf s).toNat)
  case atStart => exact ⟨0, by omega, by simp, rfl⟩
  case round =>
    obtain ⟨n, hn, ha, rfl⟩ := hrel
    by_cases hnl : n < p.length
    · obtain ⟨c, hc⟩ : ∃ c, p[n]? = some c := ⟨_, List.getElem?_eq_getElem hnl⟩
      have hcc := fun q => ba_get p n c hc q
      have HS := hid (fun hf => all_step (f := fun c => Tm.small c || (d && Tm.digit c)) ha hc hf)
      have HN := hid (fun hf => all_stop (f := fun c => Tm.small c || (d && Tm.digit c)) hc hf)
      clear hc ha
      cases hs : Tm.small c <;> cases d <;> cases hd : Tm.digit c
      all_goals
        go_wp2_with (first
          | (go_at_call 56; refine (tsmall_any _ _).mono ?_; rintro e w' ⟨rfl, hw⟩; rw [hw, hs])
          | (go_at_call 57; refine (tdigit_any _ _).mono ?_; rintro e w' ⟨rfl, hw⟩; rw [hw, hd]))
      all_goals first
        | (go_round
           case rel => exact ⟨n + 1, by omega, HS.out (by simp [hs, hd]), by go_num⟩
           case measure => simp [intOf]; omega)
        | (go_ret
           exact ⟨by rw [HN.out (by simp [hs, hd])]; simp, rfl⟩)
    · have hnn : n = p.length := by omega
      have HA := hid (show p.all (fun c => Tm.small c || (d && Tm.digit c)) = true by rw [hnn, List.take_length] at ha; exact ha)
      clear ha
      go_wp2
      go_ret
      exact ⟨by rw [HA.out]; simp; omega, rfl⟩
/-- Is a text a blank's label? -/
def Tm.label (p : List UInt8) : Bool := decide (1 ≤ p.length) && decide (p.length ≤ 8) && p.all Tm.alnum
theorem tlabel_any (p : List UInt8) (w : World) (hl : p.length ≤ 9223372036854775807) :
    Calls Tryz.prog 36 #[str p] w fun e w' => e = .returned (.bool (Tm.label p)) ∧ w' = w := by
  unfold Tm.label
  go_enter Tryz.func36, Tryz.ntmps36
  by_cases h0 : p = []
  · subst h0
    go_wp2
    go_ret
    exact ⟨rfl, rfl⟩
  have h1 : 1 ≤ p.length := by have := List.length_pos_iff.2 h0; omega
  have he : p.isEmpty = false := by simpa using h0
  by_cases h8 : 8 < p.length
  · go_wp2
    go_ret
    exact ⟨by simp; omega, rfl⟩
  go_wp2
  go_loop [14] (fun s => ∃ n : Nat, n ≤ p.length ∧ (p.take n).all Tm.alnum = true ∧ s = .int .i64 n) (fun s => p.length - (intOf s).toNat)
  case atStart => exact ⟨0, by omega, by simp, rfl⟩
  case round =>
    obtain ⟨n, hn, ha, rfl⟩ := hrel
    by_cases hnl : n < p.length
    · obtain ⟨c, hc⟩ : ∃ c, p[n]? = some c := ⟨_, List.getElem?_eq_getElem hnl⟩
      have hcc := fun q => ba_get p n c hc q
      have HS := hid (fun hf => all_step (f := Tm.alnum) ha hc hf)
      have HN := hid (fun hf => all_stop (f := Tm.alnum) hc hf)
      clear hc ha
      have hA : Tm.alnum c = (Tm.small c || (decide (65 ≤ c.toNat) && decide (c.toNat ≤ 90)) || Tm.digit c) := rfl
      have H := hid hA
      clear hA
      cases hs : Tm.small c <;> cases hd : Tm.digit c <;> rcases (show c.toNat < 65 ∨ (65 ≤ c.toNat ∧ c.toNat ≤ 90) ∨ 90 < c.toNat by omega) with hx | ⟨hx, hy⟩ | hx
      all_goals
        go_wp2_with (first
          | (go_at_call 56; refine (tsmall_any _ _).mono ?_; rintro e w' ⟨rfl, hw⟩; rw [hw, hs])
          | (go_at_call 57; refine (tdigit_any _ _).mono ?_; rintro e w' ⟨rfl, hw⟩; rw [hw, hd]))
      all_goals first
        | (go_round
           case rel => exact ⟨n + 1, by omega, HS.out (by rw [H.out, hs, hd]; simp <;> omega), by go_num⟩
           case measure => simp [intOf]; omega)
        | (go_ret
           exact ⟨by rw [HN.out (by rw [H.out, hs, hd]; simp <;> omega)]; simp, rfl⟩)
    · have hnn : n = p.length := by omega
      have HA := hid (show p.all Tm.alnum = true by rw [hnn, List.take_length] at ha; exact ha)
      clear ha
      go_wp2
      go_ret
      exact ⟨by rw [HA.out]; simp; omega, rfl⟩
end Go.Proofs.YtmfnbmbedplgcaaGreatDoor
