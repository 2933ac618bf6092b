/- The document's reader: digits of sixteen. -/
import Derived.Test.YtemkbmhcohijnaaGreatDoorLnRd
import Derived.Test.YtemkbmhcohijnaaGreatDoorTmEnc
namespace Go.Proofs.YtemkbmhcohijnaaGreatDoor
set_option linter.unusedVariables false
set_option linter.unusedSimpArgs false
set_option maxRecDepth 100000
open Go.ChangeShapes Go.WideShapes Go.ChangeAt Go.RowKit

theorem pow16 (i : Nat) (h : i < 8) : 16 ^ i ≤ 268435456 := by
  rcases (show i = 0 ∨ i = 1 ∨ i = 2 ∨ i = 3 ∨ i = 4 ∨ i = 5 ∨ i = 6 ∨ i = 7 by omega) with rfl | rfl | rfl | rfl | rfl | rfl | rfl | rfl <;> decide
theorem hexL_step (k : Nat) (s : List UInt8) (i x : Nat) (c : UInt8) (h : s[i]? = some c) : Tm.hexL (k + 1) (s.drop i) x = match Tm.hexc c with
    | none => none
    | some d => Tm.hexL k (s.drop (i + 1)) (x * 16 + d) := by
  obtain ⟨hl, e⟩ := List.getElem?_eq_some_iff.1 h
  rw [List.drop_eq_getElem_cons hl, e]
  rfl
theorem hexL_short : ∀ (n : Nat) (s : List UInt8) (x : Nat), s.length < n → Tm.hexL n s x = none
  | 0, s, x, h => by omega
  | n + 1, [], x, h => rfl
  | n + 1, c :: t, x, h => by
    unfold Tm.hexL
    cases Tm.hexc c with
    | none => rfl
    | some d => exact hexL_short n t _ (by simpa using h)
def hexOk (r : Option Nat) : Option Nat := match r with
  | none => none
  | some x => if 1114111 < x ∨ (55296 ≤ x ∧ x ≤ 57343) then none else some x
/-- What hex answers. -/
def hexZ (r : Option Nat) : Int := match r with
  | none => -1
  | some x => x
theorem hexc_dig {c : UInt8} (h : 48 ≤ c.toNat ∧ c.toNat ≤ 57) : Tm.hexc c = some (c.toNat - 48) := by unfold Tm.hexc; rw [if_pos h]
theorem hexc_low {c : UInt8} (h : 97 ≤ c.toNat ∧ c.toNat ≤ 102) : Tm.hexc c = some (c.toNat - 87) := by unfold Tm.hexc; rw [if_neg (by omega), if_pos h]
theorem hexc_cap {c : UInt8} (h : 65 ≤ c.toNat ∧ c.toNat ≤ 70) : Tm.hexc c = some (c.toNat - 55) := by unfold Tm.hexc; rw [if_neg (by omega), if_neg (by omega), if_pos h]
theorem hexc_no {c : UInt8} (h : c.toNat < 48 ∨ (57 < c.toNat ∧ c.toNat < 65) ∨ (70 < c.toNat ∧ c.toNat < 97) ∨ 102 < c.toNat) : Tm.hexc c = none := by unfold Tm.hexc; rw [if_neg (by omega), if_neg (by omega), if_neg (by omega)]
set_option maxHeartbeats 2000000 in
theorem rhex_any (s : List UInt8) (n : Nat) (w : World) (hn : n ≤ 8) (hl : s.length ≤ 9223372036854775807) :
    Calls Tryz.prog 71 #[str s, .int .i64 (n : Nat)] w fun e w' => e = .returned (.int .i32 (hexZ (Tm.hexR n s))) ∧ w = w' := by
  by_cases hs : s.length < n
  · have HE := hid (show Tm.hexR n s = none by unfold Tm.hexR; rw [hexL_short n s 0 hs])
    have hz : (s.length : Int) < (n : Int) := by omega
    go_enter Tryz.func71, Tryz.ntmps71
    go_wp2
    go_ret
    exact ⟨by rw [HE.out]; rfl, rfl⟩
  · obtain ⟨ANS, hA⟩ : ∃ a, a = Tm.hexL n s 0 := ⟨_, rfl⟩
    have HR := hid (show Tm.hexR n s = hexOk ANS by rw [hA]; rfl)
    have HA := hid (show ANS = Tm.hexL (n - 0) (s.drop 0) 0 from hA)
    have hz : (n : Int) ≤ (s.length : Int) := by omega
    clear hA
    go_enter Tryz.func71, Tryz.ntmps71
    go_wp2
    go_loop [5, 6, 7] (fun s5 s6 _ => ∃ i x : Nat, i ≤ n ∧ s6 = .int .i64 i ∧ s5 = .int .i64 x ∧ Hid (x < 16 ^ i) ∧ Hid (ANS = Tm.hexL (n - i) (s.drop i) x)) (fun _ s6 _ => n - (intOf s6).toNat)
    case atStart => exact ⟨0, 0, by omega, rfl, rfl, (by decide : (0 : Nat) < 16 ^ 0), HA⟩
    case round =>
      obtain ⟨i, x, hi, rfl, rfl, HX, HL⟩ := hrel
      by_cases hlt : i < n
      · have hx : x < 268435456 := Nat.lt_of_lt_of_le HX.out (pow16 i (by omega))
        obtain ⟨c, hc⟩ : ∃ c, s[i]? = some c := ⟨_, List.getElem?_eq_getElem (by omega)⟩
        have hcc := fun q => ba_get s i c hc q
        have HS := hid (hexL_step (n - (i + 1)) s i x c hc)
        have HLx := hid (show ANS = Tm.hexL (n - (i + 1) + 1) (s.drop i) x by rw [HL.out]; congr 1; omega)
        have HP := hid (fun d (hd : d < 16) => show x * 16 + d < 16 ^ (i + 1) by have := HX.out; rw [Nat.pow_succ]; omega)
        have hc256 : c.toNat < 256 := c.toNat_lt
        clear hc HX HL
        rcases (show (c.toNat < 48 ∨ (57 < c.toNat ∧ c.toNat < 65) ∨ (70 < c.toNat ∧ c.toNat < 97) ∨ 102 < c.toNat) ∨ (48 ≤ c.toNat ∧ c.toNat ≤ 57) ∨ (97 ≤ c.toNat ∧ c.toNat ≤ 102) ∨ (65 ≤ c.toNat ∧ c.toNat ≤ 70) by omega) with h | ⟨h, h'⟩ | ⟨h, h'⟩ | ⟨h, h'⟩
        · have HF := hid (show Tm.hexR n s = none by rw [HR.out, HLx.out, HS.out, hexc_no h]; rfl)
          rcases h with h | ⟨h, h'⟩ | ⟨h, h'⟩ | h
          all_goals
            go_wp2
            go_ret
            exact ⟨by rw [HF.out]; rfl, rfl⟩
        · have HF := hid (show ANS = Tm.hexL (n - (i + 1)) (s.drop (i + 1)) (x * 16 + (c.toNat - 48)) by rw [HLx.out, HS.out, hexc_dig ⟨h, h'⟩])
          have HP1 := hid (HP.out (c.toNat - 48) (by omega))
          clear HS HLx HP
          go_wp2
          go_round
          case rel => exact ⟨i + 1, x * 16 + (c.toNat - 48), by omega, by go_num, by congr 1; omega, HP1, HF⟩
          case measure => simp [intOf]; omega
        · have HF := hid (show ANS = Tm.hexL (n - (i + 1)) (s.drop (i + 1)) (x * 16 + (c.toNat - 87)) by rw [HLx.out, HS.out, hexc_low ⟨h, h'⟩])
          have HP1 := hid (HP.out (c.toNat - 87) (by omega))
          clear HS HLx HP
          go_wp2
          go_round
          case rel => exact ⟨i + 1, x * 16 + (c.toNat - 87), by omega, by go_num, by congr 1; omega, HP1, HF⟩
          case measure => simp [intOf]; omega
        · have HF := hid (show ANS = Tm.hexL (n - (i + 1)) (s.drop (i + 1)) (x * 16 + (c.toNat - 55)) by rw [HLx.out, HS.out, hexc_cap ⟨h, h'⟩])
          have HP1 := hid (HP.out (c.toNat - 55) (by omega))
          clear HS HLx HP
          go_wp2
          go_round
          case rel => exact ⟨i + 1, x * 16 + (c.toNat - 55), by omega, by go_num, by congr 1; omega, HP1, HF⟩
          case measure => simp [intOf]; omega
      · obtain rfl : i = n := by omega
        have HF := hid (show ANS = some x by rw [HL.out, Nat.sub_self]; rfl)
        have hx : x < 4294967296 := Nat.lt_of_lt_of_le HX.out (Nat.le_trans (Nat.pow_le_pow_right (by omega) hn) (by decide))
        clear HX HL
        rcases (show 1114111 < x ∨ (x ≤ 1114111 ∧ 55296 ≤ x ∧ x ≤ 57343) ∨ x < 55296 ∨ (x ≤ 1114111 ∧ 57343 < x) by omega) with h | ⟨h, h2, h3⟩ | h | ⟨h, h2⟩
        · have HG := hid (show Tm.hexR i s = none by rw [HR.out, HF.out]; unfold hexOk; simp only; rw [if_pos (.inl h)])
          clear HR HF
          go_wp2
          go_ret
          exact ⟨by rw [HG.out]; rfl, rfl⟩
        · have HG := hid (show Tm.hexR i s = none by rw [HR.out, HF.out]; unfold hexOk; simp only; rw [if_pos (.inr ⟨h2, h3⟩)])
          clear HR HF
          go_wp2
          go_ret
          exact ⟨by rw [HG.out]; rfl, rfl⟩
        · have HG := hid (show Tm.hexR i s = some x by rw [HR.out, HF.out]; unfold hexOk; simp only; rw [if_neg (by omega)])
          clear HR HF
          go_wp2
          go_ret
          exact ⟨by rw [HG.out]; rfl, rfl⟩
        · have HG := hid (show Tm.hexR i s = some x by rw [HR.out, HF.out]; unfold hexOk; simp only; rw [if_neg (by omega)])
          clear HR HF
          go_wp2
          go_ret
          exact ⟨by rw [HG.out]; rfl, rfl⟩
end Go.Proofs.YtemkbmhcohijnaaGreatDoor
