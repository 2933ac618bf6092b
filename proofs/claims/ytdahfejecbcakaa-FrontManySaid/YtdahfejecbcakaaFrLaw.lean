/- What the laws of the dictionary share: known, texts. -/
import Derived.Test.YtdahfejecbcakaaFrRef2
namespace Go.Proofs.Ytdahfejecbcakaa
set_option linter.unusedVariables false
set_option linter.unusedSimpArgs false
set_option maxRecDepth 100000
open Go.ChangeShapes Go.WideShapes Go.ChangeAt Go.RowKit

theorem byt_at {w : World} {B : Nat} {v : Value} {L : List (List UInt8)} {k : Nat} (h : w.ownsRow B 5 1 v (Fr.byt L k).length ((Fr.byt L k).map u8v)) : BytesAt w v (Fr.byt L k) := SlAt.own h rfl
theorem conv_byt {w : World} {B : Nat} {v : Value} {L : List (List UInt8)} {k : Nat} (h : w.ownsRow B 5 1 v (Fr.byt L k).length ((Fr.byt L k).map u8v)) : (convert 35 9 v).run Try.prog w = .ok (.string (strOf (Fr.byt L k))) w := conv_row Try.underlying35 Try.underlying5 Try.underlying9 w v _ (byt_at h)
def kL : List (List UInt8) := [[97, 98], [97, 99]]
theorem kL_may : Fr.May kL := by decide
theorem known_any (W : World) : Calls Try.prog 15 #[] W fun e W' => e = .returned (.bool true) ∧ Below W.heap.size W W' := by
  have HT := hid (show TextsAt (W.alloc (.cells #[str [97, 98], str [97, 99]] 9)) (.slice (some ⟨W.heap.size, 0, none⟩) 2 2) kL from SlAt.built rfl rfl rfl (by unfold maxLen; omega))
  have HW := hid ((Below.refl W.heap.size W).alloc (Nat.le_refl _) (.cells #[str [97, 98], str [97, 99]] 9))
  have NW := hid (new_ok _ kL _ HT.out kL_may)
  have LC := hid (fun p w h => loc_any p kL [97, 99] w h kL_may)
  rw [show Fr.loc kL [97, 99] = 2 by decide] at LC
  have BY := hid (fun p w h => bytes_any p kL w h kL_may)
  have hs : strOf (Fr.byt kL 2) = ⟨#[0, 2, 0, 2, 97, 98, 1, 1, 99]⟩ := by decide
  have HS := hid hs
  clear hs
  go_enter Try.func15, Try.ntmps15
  go_wp2_with fail
  refine NW.out.mono ?_
  rintro e w1 ⟨p, rfl, hb1, hD, hp, _⟩
  have HB1 := hid (below_then HW.out hb1)
  have HD := hid hD
  clear hb1 hD hp NW
  go_wp2_with fail
  refine (BY.out p w1 HD.out).mono ?_
  rintro e w2 ⟨v, rfl, hb2, hown⟩
  have hcv := conv_byt hown
  rw [show kL.length = 2 from rfl, HS.out] at hcv
  have HB2 := hid (below_then HB1.out hb2)
  have HD2 := hid (HD.out.keep hb2)
  clear hown hb2
  go_wp2_with fail
  refine (LC.out p w2 HD2.out).mono ?_
  rintro e w3 ⟨rfl, rfl⟩
  go_wp2
  go_ret
  exact ⟨rfl, HB2.out⟩
theorem txts_any (p : Nat) (v : Value) (L : List (List UInt8)) (W : World) (h : IsDict W p L) (hT : TextsAt W v L) (hL : L.length ≤ 20000) :
    Calls Try.prog 18 #[.pointer (some ⟨p, 0, none⟩), v] W fun e W' => e = .returned (.bool true) ∧ W = W' := by
  have LN := hid (dlen_any p L W h)
  have EX := hid (fun id hid => ext_any p L id W h hid)
  have RX := hid (fun id hid => rext_any v L id W hT hid)
  obtain ⟨a, cap, rfl, _, _, _, _⟩ := hT.open
  obtain ⟨n, hn⟩ : ∃ n, n = L.length := ⟨_, rfl⟩
  rw [← hn] at LN RX hL ⊢
  clear h hT hn
  go_enter Try.func18, Try.ntmps18
  go_wp2_with fail
  refine LN.out.mono ?_
  rintro e w' ⟨rfl, rfl⟩
  go_wp2
  go_loop [5] (fun s5 => ∃ i : Int, -1 ≤ i ∧ i ≤ n + 2 ∧ s5 = .int .i64 i) (fun s5 => ((n : Int) + 2 - intOf s5).toNat)
  case atStart => exact ⟨-1, by omega, by omega, rfl⟩
  case round =>
    obtain ⟨i, hi1, hi2, rfl⟩ := hrel
    by_cases hlt : i ≤ n + 1
    · have E := EX.out i (by omega)
      have R := RX.out i (by omega)
      obtain ⟨x, hx⟩ : ∃ x, x = Fr.ext L i := ⟨_, rfl⟩
      rw [← hx] at E R
      have E := hid E
      have R := hid R
      have hxx : (x == x) = true := by simp
      clear hx
      go_wp2_with fail
      refine E.out.mono ?_
      rintro e w' ⟨rfl, rfl⟩
      go_wp2_with fail
      refine R.out.mono ?_
      rintro e w' ⟨rfl, rfl⟩
      go_wp2
      go_round
      case rel => exact ⟨i + 1, by omega, by omega, by go_num⟩
      case measure => simp [intOf]; omega
    · go_wp2
      go_ret
      exact ⟨rfl, rfl⟩
end Go.Proofs.Ytdahfejecbcakaa
