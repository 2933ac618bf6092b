/- The document's escaped, and its Show. -/
import Derived.Test.YtemkbmhcohijnaaGreatDoorTmEsc
import Derived.Test.YtemkbmhcohijnaaGreatDoorTmShow2
namespace Go.Proofs.YtemkbmhcohijnaaGreatDoor
set_option linter.unusedVariables false
set_option linter.unusedSimpArgs false
set_option maxRecDepth 100000
open Go.ChangeShapes Go.WideShapes Go.ChangeAt Go.RowKit

def esFr : List UInt8 := [34, 92, 10, 13, 9, 8, 12]
def esTo : List UInt8 := [34, 92, 110, 114, 116, 98, 102]
theorem es_at : ∀ k : Fin 7, Tm.esc (esFr.getD k.val 0) = [92, esTo.getD k.val 0] := by decide
theorem es_no {c : UInt8} (h : ∀ j, j < 7 → esFr.getD j 0 ≠ c) : NoFix c := by
  have e : ∀ j, j < 7 → c.toNat ≠ (esFr.getD j 0).toNat := fun j hj he => h j hj (UInt8.toNat_inj.1 he.symm)
  exact ⟨e 0 (by omega), e 1 (by omega), e 2 (by omega), e 3 (by omega), e 4 (by omega), e 5 (by omega), e 6 (by omega)⟩
theorem hex_cut (k : Nat) (h : k < 16) : (⟨#[48, 49, 50, 51, 52, 53, 54, 55, 56, 57, 65, 66, 67, 68, 69, 70]⟩ : ByteArray).extract k (k + 1) = ⟨#[Tm.hexd k]⟩ := by
  have : ∀ k : Fin 16, ((⟨#[48, 49, 50, 51, 52, 53, 54, 55, 56, 57, 65, 66, 67, 68, 69, 70]⟩ : ByteArray).extract k.val (k.val + 1)).data.toList = [Tm.hexd k.val] := by decide +kernel
  apply ByteArray.ext
  apply Array.ext'
  exact this ⟨k, h⟩
set_option maxHeartbeats 4000000 in
theorem rescaped_any (s : List UInt8) (w : World) (hl : s.length ≤ 1000000000) :
    Calls Tryz.prog 60 #[str s] w fun e w' => e = .returned (str (Tm.escs s)) ∧ ∃ q, w' = w.drewN q := by
  go_enter Tryz.func60, Tryz.ntmps60
  go_wp2
  go_loopw [6, 7, 8, 9] (fun s6 s7 _ _ wr => ∃ i : Nat, i ≤ s.length ∧ s7 = .int .i64 i ∧ s6 = str (Tm.escs (s.take i)) ∧ Hid (∃ q, wr = w.drewN q)) (fun _ s7 _ _ _ => s.length - (intOf s7).toNat)
  case atStart => exact ⟨0, by omega, rfl, rfl, 0, rfl⟩
  case round =>
    obtain ⟨i, hi, rfl, rfl, HQ⟩ := hrel
    obtain ⟨q0, hq0⟩ := HQ.out
    subst hq0
    clear HQ
    have hle := Tm.escs_len (s.take i)
    rw [List.length_take] at hle
    by_cases hlt : i < s.length
    · obtain ⟨c, hc⟩ : ∃ c, s[i]? = some c := ⟨_, List.getElem?_eq_getElem hlt⟩
      have hcc := fun q => ba_get s i c hc q
      have HS := hid (escs_take_succ s i c hc)
      have hex2 : (⟨s.toArray⟩ : ByteArray).extract i (i + 1) = ⟨[c].toArray⟩ := by
        rw [ba_extract, show i + 1 - i = 1 by omega]
        obtain ⟨hl2, e2⟩ := List.getElem?_eq_some_iff.1 hc
        rw [List.drop_eq_getElem_cons hl2, e2]; rfl
      obtain ⟨out, hout⟩ : ∃ o, o = Tm.escs (s.take i) := ⟨_, rfl⟩
      have HO := hid hout
      rw [← hout] at hle HS ⊢
      have hol : out.length ≤ 6000000000 := by omega
      have hc256 : c.toNat < 256 := c.toNat_lt
      clear hc hout hle
      obtain ⟨W, hW⟩ : ∃ W, W = w.drewN q0 := ⟨_, rfl⟩
      have HW := hid hW
      rw [← hW]
      clear hW
      go_wp2
      go_loop [9] (fun s9 => ∃ k : Nat, k ≤ 7 ∧ s9 = .int .i64 k ∧ Hid (∀ j, j < k → esFr.getD j 0 ≠ c)) (fun s9 => 7 - (intOf s9).toNat)
      case atStart => exact ⟨0, by omega, rfl, fun j hj => by omega⟩
      case round =>
        obtain ⟨k, hk, rfl, HN⟩ := hrel
        by_cases hk7 : k < 7
        · have g1 : esFr[k]? = some (esFr.getD k 0) := by have : k < esFr.length := hk7; simp [List.getD, this]
          have g2 : esTo[k]? = some (esTo.getD k 0) := by have : k < esTo.length := hk7; simp [List.getD, this]
          have hff := fun q => ba_get esFr k _ g1 q
          have ht2 : (⟨esTo.toArray⟩ : ByteArray).extract k (k + 1) = ⟨[esTo.getD k 0].toArray⟩ := by
            rw [ba_extract, show k + 1 - k = 1 by omega]
            obtain ⟨hl2, e2⟩ := List.getElem?_eq_some_iff.1 g2
            rw [List.drop_eq_getElem_cons hl2, e2]; rfl
          have HD := hid (es_at ⟨k, hk7⟩)
          have HNX := hid (show esFr.getD k 0 ≠ c → ∀ j, j < k + 1 → esFr.getD j 0 ≠ c from fun hne j hj => by
            by_cases he : j = k
            · rw [he]; exact hne
            · exact HN.out j (by omega))
          obtain ⟨d, hd⟩ : ∃ d, d = esFr.getD k 0 := ⟨_, rfl⟩
          obtain ⟨f, hf⟩ : ∃ f, f = esTo.getD k 0 := ⟨_, rfl⟩
          simp only at HD
          rw [← hd] at hff HNX HD
          rw [← hf] at ht2 HD
          unfold esFr at hff
          unfold esTo at ht2
          have hkz : (k : Int) < 7 := by omega
          have hk0 : (0 : Int) ≤ (k : Int) := by omega
          clear hd hf g1 g2 HN
          by_cases hcd : d = c
          · subst hcd
            have be : ((d.toNat : Int) != (d.toNat : Int)) = false := by simp
            have HF := hid (show Tm.escs (s.take (i + 1)) = out ++ [92, f] by rw [HS.out, HD.out])
            have ha1 : (⟨out.toArray⟩ ++ ⟨#[92]⟩ : ByteArray) = ⟨(out ++ [92]).toArray⟩ := ba_append out [92]
            have ha2 : (⟨(out ++ [92]).toArray⟩ ++ ⟨[f].toArray⟩ : ByteArray) = ⟨(out ++ [92] ++ [f]).toArray⟩ := ba_append _ _
            clear HS
            go_wp2
            go_roundw
            case rel => exact ⟨i + 1, by omega, by go_num, by rw [HF.out] <;> simp [ba_append], q0, HW.out⟩
            case measure => simp [intOf]; omega
          · have be : ((d.toNat : Int) != (c.toNat : Int)) = true := by
              rw [bne_iff_ne]; intro e; exact hcd (UInt8.toNat_inj.1 (by omega))
            have HNY := hid (HNX.out hcd)
            clear hcd
            go_wp2
            go_round
            case rel => exact ⟨k + 1, by omega, by go_num, HNY⟩
            case measure => simp [intOf]; omega
        · obtain rfl : k = 7 := by omega
          have hnf := es_no HN.out
          clear HN
          by_cases hlo : c.toNat < 32 ∨ c.toNat = 127
          · have HF := hid (show Tm.escs (s.take (i + 1)) = out ++ [92, 117, 48, 48, Tm.hexd (c.toNat / 16), Tm.hexd (c.toNat % 16)] by rw [HS.out, esc_six c hnf hlo])
            have hand : bits BinOp.and IntKind.u8 (c.toNat : Int) 15 = ((c.toNat % 16 : Nat) : Int) := by
              have := u8_and_nat c.toNat 15 (by omega) (by omega)
              rw [show (15 : Int) = ((15 : Nat) : Int) from rfl, this, show c.toNat &&& 15 = c.toNat % 16 from Nat.and_two_pow_sub_one_eq_mod c.toNat 4]
            have hsh : (c.toNat : Int) / 16 = ((c.toNat / 16 : Nat) : Int) := by omega
            have hq : c.toNat / 16 < 16 := by omega
            have hr : c.toNat % 16 < 16 := by omega
            obtain ⟨k1, hk1⟩ : ∃ k, k = c.toNat / 16 := ⟨_, rfl⟩
            obtain ⟨k2, hk2⟩ : ∃ k, k = c.toNat % 16 := ⟨_, rfl⟩
            rw [← hk1] at hsh hq HF
            rw [← hk2] at hand hr HF
            have hx1 := hex_cut k1 hq
            have hx2 := hex_cut k2 hr
            have hqz : (k1 : Int) < 16 := by omega
            have hrz : (k2 : Int) < 16 := by omega
            have hqz0 : (0 : Int) ≤ (k1 : Int) := by omega
            have hrz0 : (0 : Int) ≤ (k2 : Int) := by omega
            have hwq : IntKind.u8.wrap ((k1 : Int) + 1) = (k1 : Int) + 1 := by rw [IntKind.wrap_u8']; omega
            have hwr : IntKind.u8.wrap ((k2 : Int) + 1) = (k2 : Int) + 1 := by rw [IntKind.wrap_u8']; omega
            have ha1 : (⟨out.toArray⟩ ++ ⟨#[92, 117, 48, 48]⟩ : ByteArray) = ⟨(out ++ [92, 117, 48, 48]).toArray⟩ := ba_append out _
            have ha2 : (⟨(out ++ [92, 117, 48, 48]).toArray⟩ ++ ⟨#[Tm.hexd k1]⟩ : ByteArray) = ⟨(out ++ [92, 117, 48, 48] ++ [Tm.hexd k1]).toArray⟩ := ba_append _ _
            have ha3 : (⟨(out ++ [92, 117, 48, 48] ++ [Tm.hexd k1]).toArray⟩ ++ ⟨#[Tm.hexd k2]⟩ : ByteArray) = ⟨(out ++ [92, 117, 48, 48] ++ [Tm.hexd k1] ++ [Tm.hexd k2]).toArray⟩ := ba_append _ _
            clear hk1 hk2 HS hnf
            rcases hlo with hlo | hlo
            · have b1 : decide ((c.toNat : Int) < 32) = true := by simp; omega
              go_wp2
              go_quiet (fail)
              go_wp2
              go_roundw
              case rel => exact ⟨i + 1, by omega, by go_num, by rw [HF.out] <;> simp [ba_append], q0 + nq, by rw [HW.out, World.drewN_drewN]⟩
              case measure => simp [intOf]; omega
            · have b1 : ((c.toNat : Int) == 127) = true := beq_iff_eq.2 (by omega)
              have h32 : 32 ≤ c.toNat := by omega
              clear hlo
              go_wp2
              go_quiet (fail)
              go_wp2
              go_roundw
              case rel => exact ⟨i + 1, by omega, by go_num, by rw [HF.out] <;> simp [ba_append], q0 + nq, by rw [HW.out, World.drewN_drewN]⟩
              case measure => simp [intOf]; omega
          · have HF := hid (show Tm.escs (s.take (i + 1)) = out ++ [c] by rw [HS.out, esc_self c hnf (by omega)])
            have b1 : ((c.toNat : Int) == 127) = false := beq_eq_false_iff_ne.2 (by omega)
            have h32 : 32 ≤ c.toNat := by omega
            have ha1 : (⟨out.toArray⟩ ++ ⟨[c].toArray⟩ : ByteArray) = ⟨(out ++ [c]).toArray⟩ := ba_append out _
            clear HS hnf hlo
            go_wp2
            go_roundw
            case rel => exact ⟨i + 1, by omega, by go_num, by rw [HF.out], q0, HW.out⟩
            case measure => simp [intOf]; omega
    · obtain rfl : i = s.length := by omega
      have HF := hid (show Tm.escs (s.take s.length) = Tm.escs s by rw [List.take_length])
      go_wp2
      go_ret
      exact ⟨by rw [← HF.out]; rfl, q0, rfl⟩
set_option maxHeartbeats 2000000 in
theorem rshow_any (k : Nat) (t x : List UInt8) (W : World) (hk : 1 ≤ k ∧ k ≤ 5) (ht : t.length ≤ 1000000000) (hx : x.length ≤ 1000000000) :
    Calls Tryz.prog 40 #[tmV (k : Nat) t x] W fun e W' => e = .returned (str (Tm.showT k t x)) ∧ Below W.heap.size W W' := by
  have ES := hid (fun w => rescaped_any t w ht)
  have hle := Tm.escs_len t
  obtain ⟨z, hz⟩ : ∃ z, z = Tm.escs t := ⟨_, rfl⟩
  have HZ := hid hz
  rw [← hz] at ES hle
  have hzl : z.length ≤ 6000000000 := by omega
  clear hz hle
  rcases (show k = 1 ∨ k = 2 ∨ k = 3 ∨ k = 4 ∨ k = 5 by omega) with rfl | rfl | rfl | rfl | rfl
  · go_enter Tryz.func40, Tryz.ntmps40
    go_wp2
    go_ret
    exact ⟨by simp [Tm.showT, ba_append], (Below.refl _ _).alloc (Nat.le_refl _) _⟩
  · go_enter Tryz.func40, Tryz.ntmps40
    go_wp2
    go_ret
    exact ⟨by simp [Tm.showT, ba_append], (Below.refl _ _).alloc (Nat.le_refl _) _⟩
  · go_enter Tryz.func40, Tryz.ntmps40
    go_wp2_with (go_at_call 60; refine (ES.out _).mono ?_; rintro e w' ⟨rfl, q, rfl⟩)
    go_ret
    exact ⟨by rw [show Tm.showT 3 t x = 34 :: (Tm.escs t ++ [34]) from rfl, ← HZ.out]; simp [ba_append], below_drawn ((Below.refl _ _).alloc (Nat.le_refl _) _) q⟩
  · go_enter Tryz.func40, Tryz.ntmps40
    go_wp2_with (go_at_call 60; refine (ES.out _).mono ?_; rintro e w' ⟨rfl, q, rfl⟩)
    go_ret
    exact ⟨by rw [show Tm.showT 4 t x = 34 :: (Tm.escs t ++ 34 :: 64 :: x) from rfl, ← HZ.out]; simp [ba_append], below_drawn ((Below.refl _ _).alloc (Nat.le_refl _) _) q⟩
  · go_enter Tryz.func40, Tryz.ntmps40
    go_wp2_with (go_at_call 60; refine (ES.out _).mono ?_; rintro e w' ⟨rfl, q, rfl⟩)
    go_ret
    exact ⟨by rw [show Tm.showT 5 t x = 34 :: (Tm.escs t ++ 34 :: 94 :: 94 :: 60 :: (x ++ [62])) from rfl, ← HZ.out]; simp [ba_append], below_drawn ((Below.refl _ _).alloc (Nat.le_refl _) _) q⟩
end Go.Proofs.YtemkbmhcohijnaaGreatDoor
