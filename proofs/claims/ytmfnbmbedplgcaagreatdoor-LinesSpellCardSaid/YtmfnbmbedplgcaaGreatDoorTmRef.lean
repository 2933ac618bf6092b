/- The document's own answers on terms: letters, labels. -/
import Derived.Test.YtmfnbmbedplgcaaGreatDoorTerm
namespace Go.Proofs.YtmfnbmbedplgcaaGreatDoor
set_option linter.unusedVariables false
set_option maxRecDepth 100000
set_option linter.unusedSimpArgs false
open Go.ChangeShapes Go.WideShapes Go.ChangeAt Go.RowKit

theorem ralnum_any (c : UInt8) (w : World) :
    Calls Tryz.prog 62 #[.int .u8 (c.toNat : Nat)] w fun e w' => e = .returned (.bool (Tm.alnum c)) ∧ w' = w := by
  unfold Tm.alnum Tm.small Tm.digit
  go_enter Tryz.func62, Tryz.ntmps62
  rcases (show c.toNat < 48 ∨ (48 ≤ c.toNat ∧ c.toNat ≤ 57) ∨ (57 < c.toNat ∧ c.toNat < 65) ∨ (65 ≤ c.toNat ∧ c.toNat ≤ 90) ∨ (90 < c.toNat ∧ c.toNat < 97) ∨ (97 ≤ c.toNat ∧ c.toNat ≤ 122) ∨ 122 < c.toNat by omega) with h | ⟨h, h'⟩ | ⟨h, h'⟩ | ⟨h, h'⟩ | ⟨h, h'⟩ | ⟨h, h'⟩ | h
  all_goals
    go_wp2
    go_ret
    refine ⟨ret_bool ?_, rfl⟩
    rw [Bool.eq_iff_iff]
    all_goals (simp <;> omega)
theorem rlabel_any (p : List UInt8) (w : World) (hl : p.length ≤ 9223372036854775807) :
    Calls Tryz.prog 41 #[str p] w fun e w' => e = .returned (.bool (Tm.label p)) ∧ w' = w := by
  unfold Tm.label
  go_enter Tryz.func41, Tryz.ntmps41
  go_wp2
  go_loop [3] (fun s => ∃ n : Nat, n ≤ p.length ∧ (p.take n).all Tm.alnum = true ∧ s = .int .i64 n) (fun s => p.length - (intOf s).toNat)
  case atStart => exact ⟨0, by omega, by simp, rfl⟩
  case round =>
    obtain ⟨n, hn, ha, rfl⟩ := hrel
    by_cases hnl : n < p.length
    · obtain ⟨c, hc⟩ : ∃ c, p[n]? = some c := ⟨_, List.getElem?_eq_getElem hnl⟩
      have hcc := fun q => ba_get p n c hc q
      have HS := hid (fun hf => all_step (f := Tm.alnum) ha hc hf)
      have HN := hid (fun hf => all_stop (f := Tm.alnum) hc hf)
      clear hc ha
      cases hs : Tm.alnum c
      all_goals
        go_wp2_with (go_at_call 62; refine (ralnum_any _ _).mono ?_; rintro e w' ⟨rfl, hw⟩; rw [hw, hs])
      all_goals first
        | (go_round
           case rel => exact ⟨n + 1, by omega, HS.out hs, by go_num⟩
           case measure => simp [intOf]; omega)
        | (go_ret
           exact ⟨by rw [HN.out hs]; simp, rfl⟩)
    · have hnn : n = p.length := by omega
      have HA := hid (show p.all Tm.alnum = true by rw [hnn, List.take_length] at ha; exact ha)
      clear ha
      by_cases h1 : 1 ≤ p.length
      all_goals
        go_wp2
        go_ret
        first
          | exact ⟨rfl, rfl⟩
          | exact ⟨by rw [HA.out]; refine ret_bool ?_; rw [Bool.eq_iff_iff]; simp <;> omega, rfl⟩
end Go.Proofs.YtmfnbmbedplgcaaGreatDoor
