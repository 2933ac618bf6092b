/- The program's reader of a line: digits of sixteen, read by the library. -/
import Derived.Test.YtjaebndajhppgaaGreatDoorGPr1
import Derived.Test.YtjaebndajhppgaaGreatDoorGLn1
import Derived.Test.YtjaebndajhppgaaGreatDoorShelf
import Derived.Lib.ConvBytes
namespace Go.Proofs.YtjaebndajhppgaaGreatDoor
set_option linter.unusedVariables false
set_option linter.unusedSimpArgs false
set_option maxRecDepth 100000
open Go.ChangeShapes Go.WideShapes Go.ChangeAt Go.RowKit
theorem low_bits : ∀ k : Fin 256, bits .or .u8 ((k.val : Nat) : Int) 32 = ((k.val ||| 32 : Nat) : Int) := by decide
theorem low_facts : ∀ k : Fin 256, (97 ≤ k.val ∧ k.val ≤ 102 → k.val ||| 32 = k.val) ∧ (65 ≤ k.val ∧ k.val ≤ 70 → k.val ||| 32 = k.val + 32) ∧ ((k.val < 65 ∨ (70 < k.val ∧ k.val < 97) ∨ 102 < k.val) → (k.val ||| 32 < 97 ∨ 102 < k.val ||| 32)) ∧ k.val ||| 32 < 256 := by decide
theorem ilow_any (c : UInt8) (w : World) : Calls Tryz.prog 278 #[.int .u8 (c.toNat : Nat)] w fun e w' => e = .returned (.int .u8 ((c.toNat ||| 32 : Nat) : Int)) ∧ w' = w := by
  have h := low_bits ⟨c.toNat, c.toNat_lt⟩
  simp only at h
  have H := hid h
  clear h
  go_enter Tryz.func278, Tryz.ntmps278
  go_wp2
  go_ret
  exact ⟨congrArg (fun z => Ending.returned (.int .u8 z)) H.out, rfl⟩
def hexTup (r : Option Nat) : Value := match r with
  | none => .tuple #[.int .u64 0, .iface 312 (.int .i64 2)]
  | some x => .tuple #[.int .u64 (x : Nat), .nilIface]
set_option maxHeartbeats 4000000 in
theorem ipu_any (s : List UInt8) (w : World) (h0 : 0 < s.length) (h8 : s.length ≤ 8) :
    Calls Tryz.prog 271 #[str s, .int .i64 16, .int .i64 32] w fun e w' => e = .returned (hexTup (Tm.hexL s.length s 0)) ∧ Below w.heap.size w w' := by
  have hsz : (⟨s.toArray⟩ : ByteArray).size = s.length := by simp [ByteArray.size]
  have hcv := Lib.run_convert_string_bytes (P := Tryz.prog) w 9 32 5 ⟨s.toArray⟩ (u := .string) Tryz.underlying9 Tryz.underlying32 Tryz.underlying5
  have hB : ∀ j, j < s.length → (Lib.bytesWorld w 5 ⟨s.toArray⟩).cell? ⟨w.heap.size, j, none⟩ = some (.int .u8 (s.getD j 0).toNat) := fun j hj => Lib.bytesWorld_cell w 5 ⟨s.toArray⟩ j (by rw [hsz]; exact hj)
  have HBl := hid (show Below w.heap.size w (Lib.bytesWorld w 5 ⟨s.toArray⟩) by
    exact ⟨rfl, rfl, rfl, by rw [Lib.bytesWorld_size]; omega, fun i hi => Lib.bytesWorld_at_old w 5 _ i hi⟩)
  rw [hsz] at hcv
  obtain ⟨W1, hW1⟩ : ∃ W1, W1 = Lib.bytesWorld w 5 ⟨s.toArray⟩ := ⟨_, rfl⟩
  rw [← hW1] at hcv hB HBl
  have hem : (s == []) = false := by cases s with
    | nil => simp at h0
    | cons _ _ => rfl
  obtain ⟨ANS, hA⟩ : ∃ a, a = Tm.hexL s.length s 0 := ⟨_, rfl⟩
  rw [← hA]
  have HA := hid (show ANS = Tm.hexL (s.length - 0) (s.drop 0) 0 by rw [hA]; rfl)
  have hLz : (s.length : Int) ≤ 8 := by omega
  clear hA hW1
  go_enter Tryz.func271, Tryz.ntmps271
  go_wp2
  go_loop [12, 13, 101] (fun vu vn vi => ∃ (k acc : Nat) (a : Int), vu = .bool false ∧ vn = .int .u64 a ∧ vi = .int .i64 k ∧ k ≤ s.length ∧ Hid (a = (acc : Int) ∧ acc < 16 ^ k ∧ ANS = Tm.hexL (s.length - k) (s.drop k) acc))
    (fun _ _ vi => s.length - (intOf vi).toNat)
  case atStart => exact ⟨0, 0, 0, rfl, rfl, rfl, by omega, rfl, by decide, HA.out⟩
  case round =>
    obtain ⟨k, acc, a, rfl, rfl, rfl, hk, hh⟩ := hrel
    obtain ⟨ha, hacc, hdec⟩ := hh.out
    clear hh
    have a0 : 0 ≤ a := by omega
    by_cases hkn : k < s.length
    · have hacc2 : acc < 268435456 := Nat.lt_of_lt_of_le hacc (pow16 k (by omega))
      have a1 : a < 268435456 := by omega
      have hc := hB k hkn
      obtain ⟨c, hget⟩ : ∃ c, s[k]? = some c := ⟨_, List.getElem?_eq_getElem hkn⟩
      have hgd : s.getD k 0 = c := by rw [List.getD, hget]; rfl
      rw [hgd] at hc
      have HST := hid (hdec.trans ((congrArg (fun n => Tm.hexL n (s.drop k) acc) (show s.length - k = s.length - (k + 1) + 1 by omega)).trans (hexL_step (s.length - (k + 1)) s k acc c hget)))
      have LOW := hid fun w => ilow_any c w
      have hc256 : c.toNat < 256 := c.toNat_lt
      obtain ⟨f1, f2, f3, f4⟩ := low_facts ⟨c.toNat, hc256⟩
      simp only at f1 f2 f3 f4
      have HP := hid (fun d (hd : d < 16) => show acc * 16 + d < 16 ^ (k + 1) by rw [Nat.pow_succ]; omega)
      obtain ⟨lw, hlw⟩ : ∃ lw, lw = c.toNat ||| 32 := ⟨_, rfl⟩
      rw [← hlw] at f1 f2 f3 f4 LOW
      clear hB hget hgd hdec hacc hlw
      rcases (show (c.toNat < 48 ∨ (57 < c.toNat ∧ c.toNat < 65) ∨ (70 < c.toNat ∧ c.toNat < 97) ∨ 102 < c.toNat) ∨ (48 ≤ c.toNat ∧ c.toNat ≤ 57) ∨ (97 ≤ c.toNat ∧ c.toNat ≤ 102) ∨ (65 ≤ c.toNat ∧ c.toNat ≤ 70) by omega) with h | ⟨h, h'⟩ | ⟨h, h'⟩ | ⟨h, h'⟩
      · have HF := hid (show ANS = none by rw [HST.out, hexc_no h])
        have hlow : lw < 97 ∨ 122 < lw ∨ (102 < lw ∧ lw ≤ 122) := by
          have := f3 (by omega); omega
        clear f1 f2 f3 HST HP ha
        rcases (show c.toNat < 48 ∨ (57 < c.toNat ∧ c.toNat < 65) ∨ (70 < c.toNat ∧ c.toNat < 95) ∨ (c.toNat = 95 ∧ 70 < c.toNat ∧ c.toNat < 97) ∨ (95 < c.toNat ∧ c.toNat < 97) ∨ 102 < c.toNat by omega) with h | ⟨h, h'⟩ | ⟨h, h'⟩ | ⟨h, h', h''⟩ | ⟨h, h'⟩ | h
        case inr.inr.inr.inl =>
          have b1 : ((c.toNat : Int) == 95) = true := beq_iff_eq.2 (by omega)
          clear h
          rcases hlow with g | g | ⟨g, g'⟩
          all_goals
            go_wp2_with (go_at_call 278; refine (LOW.out _).mono ?_; rintro e w' ⟨rfl, hww⟩; have hw2 := hww.symm; subst hw2)
            go_ret2
            exact ⟨by rw [HF.out]; rfl, HBl.out⟩
        all_goals
          rcases hlow with g | g | ⟨g, g'⟩
          all_goals
            go_wp2_with (go_at_call 278; refine (LOW.out _).mono ?_; rintro e w' ⟨rfl, hww⟩; have hw2 := hww.symm; subst hw2)
            go_ret2
            exact ⟨by rw [HF.out]; rfl, HBl.out⟩
      · have HF : Hid (a * 16 + ((c.toNat : Int) - 48) = ((acc * 16 + (c.toNat - 48) : Nat) : Int) ∧ acc * 16 + (c.toNat - 48) < 16 ^ (k + 1) ∧ ANS = Tm.hexL (s.length - (k + 1)) (s.drop (k + 1)) (acc * 16 + (c.toNat - 48))) := hid ⟨by omega, HP.out _ (by omega), by rw [HST.out, hexc_dig ⟨h, h'⟩]⟩
        clear f1 f2 f3 HST HP ha
        go_wp2
        refine ⟨⟨k + 1, acc * 16 + (c.toNat - 48), a * 16 + ((c.toNat : Int) - 48), rfl, (by first | rfl | (congr 1; omega)), (by first | rfl | (congr 1; omega)), by omega, HF⟩, by simp [intOf]; omega⟩
      · have HF : Hid (a * 16 + ((lw : Int) - 87) = ((acc * 16 + (c.toNat - 87) : Nat) : Int) ∧ acc * 16 + (c.toNat - 87) < 16 ^ (k + 1) ∧ ANS = Tm.hexL (s.length - (k + 1)) (s.drop (k + 1)) (acc * 16 + (c.toNat - 87))) := hid ⟨by have := f1 ⟨h, h'⟩; omega, HP.out _ (by omega), by rw [HST.out, hexc_low ⟨h, h'⟩]⟩
        have g : 97 ≤ lw ∧ lw ≤ 102 := by have := f1 ⟨h, h'⟩; omega
        obtain ⟨g, g'⟩ := g
        clear f1 f2 f3 HST HP ha
        go_wp2_with (go_at_call 278; refine (LOW.out _).mono ?_; rintro e w' ⟨rfl, hww⟩; have hw2 := hww.symm; subst hw2)
        refine ⟨⟨k + 1, acc * 16 + (c.toNat - 87), a * 16 + ((lw : Int) - 87), rfl, (by first | rfl | (congr 1; omega)), (by first | rfl | (congr 1; omega)), by omega, HF⟩, by simp [intOf]; omega⟩
      · have HF : Hid (a * 16 + ((lw : Int) - 87) = ((acc * 16 + (c.toNat - 55) : Nat) : Int) ∧ acc * 16 + (c.toNat - 55) < 16 ^ (k + 1) ∧ ANS = Tm.hexL (s.length - (k + 1)) (s.drop (k + 1)) (acc * 16 + (c.toNat - 55))) := hid ⟨by have := f2 ⟨h, h'⟩; omega, HP.out _ (by omega), by rw [HST.out, hexc_cap ⟨h, h'⟩]⟩
        have g : 97 ≤ lw ∧ lw ≤ 102 := by have := f2 ⟨h, h'⟩; omega
        obtain ⟨g, g'⟩ := g
        clear f1 f2 f3 HST HP ha
        go_wp2_with (go_at_call 278; refine (LOW.out _).mono ?_; rintro e w' ⟨rfl, hww⟩; have hw2 := hww.symm; subst hw2)
        refine ⟨⟨k + 1, acc * 16 + (c.toNat - 55), a * 16 + ((lw : Int) - 87), rfl, (by first | rfl | (congr 1; omega)), (by first | rfl | (congr 1; omega)), by omega, HF⟩, by simp [intOf]; omega⟩
    · obtain rfl : k = s.length := by omega
      have HF := hid (show ANS = some acc by rw [hdec, Nat.sub_self]; rfl)
      subst ha
      clear hB hdec hacc
      go_wp2
      go_ret2
      exact ⟨by rw [HF.out]; rfl, HBl.out⟩
end Go.Proofs.YtjaebndajhppgaaGreatDoor
