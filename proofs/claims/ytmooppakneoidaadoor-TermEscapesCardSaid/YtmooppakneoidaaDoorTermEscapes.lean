/- TermEscapes: what must be escaped is, and nothing else, for every input. -/
import Derived.Test.YtmooppakneoidaaDoorTmLaid
import Derived.Test.YtmooppakneoidaaDoorTmRIs
import Derived.Test.YtmooppakneoidaaDoorLnTermF
namespace Go.Proofs.YtmooppakneoidaaDoor
set_option linter.unusedVariables false
set_option linter.unusedSimpArgs false
set_option maxRecDepth 100000
open Go.ChangeShapes Go.WideShapes Go.ChangeAt Go.RowKit

theorem ascii_valid : ∀ {s : List UInt8}, (∀ c ∈ s, c.toNat < 128) → Lib.validD s = true
  | [], _ => rfl
  | c :: s, h => by rw [Lib.validD_cons _ _ (h c (by simp)), ascii_valid (fun d hd => h d (by simp [hd]))]
theorem high_bad (c : UInt8) (h : 128 ≤ c.toNat) : Lib.validD [c] = false := by
  rw [Lib.validD_step _ (by simp), Lib.decodeL_N]
  simp only [List.length_cons, List.length_nil, List.getD_cons_zero]
  rw [Lib.decodeN_alone _ _ _ _ _ h (.inl (by omega))]
  rfl
theorem hexd_low : ∀ k : Fin 16, (Tm.hexd k.val).toNat < 128 := by decide
theorem esc_low (c : UInt8) (h : c.toNat < 128) : ∀ d ∈ Tm.esc c, d.toNat < 128 := by
  unfold Tm.esc
  have h1 := hexd_low ⟨c.toNat / 16, by omega⟩
  have h2 := hexd_low ⟨c.toNat % 16, by omega⟩
  simp only at h1 h2
  intro d hd
  split at hd
  · simp at hd; rcases hd with rfl | rfl; decide; exact h
  repeat' (split at hd)
  all_goals (simp at hd)
  all_goals first
    | (rcases hd with rfl | rfl <;> decide)
    | (rcases hd with rfl | rfl | rfl | rfl | rfl <;> first | exact h1 | exact h2 | decide)
    | (subst hd; exact h)
theorem conv_byte1 (w : World) (b : Nat) (c : UInt8) (h : w.cell? ⟨b, 0, none⟩ = some (.int .u8 (c.toNat : Nat))) : (convert 39 9 (.slice (some ⟨b, 0, none⟩) 1 1)).run Tryd.prog w = .ok (str [c]) w := by
  have := conv_bytes (P := Tryd.prog) w 39 5 9 Tryd.underlying39 Tryd.underlying5 Tryd.underlying9 (some ⟨b, 0, none⟩) 1 1 [c.toNat] rfl (Or.inr ⟨_, _, rfl, fun j hj => by
    obtain rfl : j = 0 := by omega
    exact h⟩)
  rw [this, show strOf [c.toNat] = strOf ([c].map UInt8.toNat) from rfl, strOf_toNat]
set_option maxHeartbeats 2000000 in
theorem escapes_high (c : UInt8) (W : World) (hV : Vars W) (h : 128 ≤ c.toNat) :
    Calls Tryd.prog 5 #[.int .u8 (c.toNat : Nat)] W fun e W' => e = .returned (.bool true) ∧ Below W.heap.size W W' := by
  have HV := hid hV
  have IS := hid (fun w h => tis_any 3 [c] [] w (by simp) (by simp) h)
  rw [show Tm.is 3 [c] [] = false by unfold Tm.is Tm.text; rw [high_bad c h]; simp] at IS
  have KN := hid (fun w h => known_any w h)
  have cv := conv_byte1 (W.alloc (.cells #[.int .u8 (c.toNat : Nat)] 5)) W.heap.size c (by rw [cell_new]; rfl)
  clear hV
  go_enter Tryd.func5, Tryd.ntmps5
  go_wp2_with fail
  have HB0 := hid (((Below.refl W.heap.size W).alloc (Nat.le_refl _) (.cells #[.int .u8 (c.toNat : Nat)] 5)).alloc (by simp) (.cells #[.int .i64 3, str [c], str []] 23))
  refine (IS.out _ (HV.out.keep HB0.out)).mono ?_
  rintro e w2 ⟨rfl, hb⟩
  have HB1 := hid (below_then HB0.out hb)
  clear hb
  go_wp2_with fail
  refine (KN.out _ (HV.out.keep HB1.out)).mono ?_
  rintro e w3 ⟨rfl, hb⟩
  have HB2 := hid (below_then HB1.out hb)
  clear hb
  go_wp2
  go_ret
  exact ⟨rfl, HB2.out⟩
set_option maxHeartbeats 2000000 in
theorem escapes_plain (c : UInt8) (W : World) (hV : Vars W) (h : 32 ≤ c.toNat ∧ c.toNat < 127 ∧ c.toNat ≠ 34 ∧ c.toNat ≠ 92) :
    Calls Tryd.prog 5 #[.int .u8 (c.toNat : Nat)] W fun e W' => e = .returned (.bool true) ∧ Below W.heap.size W W' := by
  have HV := hid hV
  obtain ⟨h1, h2, h3, h4⟩ := h
  have IS := hid (fun w h => tis_any 3 [c] [] w (by simp) (by simp) h)
  rw [show Tm.is 3 [c] [] = true by unfold Tm.is Tm.text; rw [ascii_valid (by simp; omega)]; simp] at IS
  have SH := hid (fun w => tshow_any 3 [c] [] w (by simp) (by simp))
  rw [show Tm.show 3 [c] [] = [34, c, 34] by
    have e : Tm.esc c = [c] := esc_self c ⟨by omega, by omega, by omega, by omega, by omega, by omega, by omega⟩ ⟨h1, by omega⟩
    show 34 :: (Tm.escs [c] ++ [34]) = _
    rw [show Tm.escs [c] = Tm.esc c by simp [Tm.escs], e]; rfl] at SH
  have KN := hid (fun w h => known_any w h)
  have cv := conv_byte1 (W.alloc (.cells #[.int .u8 (c.toNat : Nat)] 5)) W.heap.size c (by rw [cell_new]; rfl)
  have hee : (([34, c, 34] : List UInt8) == ((⟨#[34]⟩ : ByteArray) ++ ⟨#[c]⟩ ++ ⟨#[34]⟩).toList) = true := by
    rw [show ((⟨#[34]⟩ : ByteArray) ++ ⟨#[c]⟩ ++ ⟨#[34]⟩) = ⟨[34, c, 34].toArray⟩ by rw [ba_append [34] [c], ba_append ([34] ++ [c]) [34]]; rfl, ByteArray.toList_eq]; simp
  have b1 : ((c.toNat : Int) != 34) = true := by rw [bne_iff_ne]; omega
  have b2 : ((c.toNat : Int) != 92) = true := by rw [bne_iff_ne]; omega
  clear hV h3 h4
  go_enter Tryd.func5, Tryd.ntmps5
  go_wp2_with fail
  have HB0 := hid (((Below.refl W.heap.size W).alloc (Nat.le_refl _) (.cells #[.int .u8 (c.toNat : Nat)] 5)).alloc (by simp) (.cells #[.int .i64 3, str [c], str []] 23))
  refine (SH.out _).mono ?_
  rintro e w2 ⟨rfl, hb⟩
  obtain ⟨k0, k1, k2, hB⟩ := tm_cells hb
  rw [show (W.alloc (.cells #[.int .u8 (c.toNat : Nat)] 5)).heap.size = W.heap.size + 1 by simp] at k0 k1 k2
  have HB1 := hid (below_then HB0.out hb)
  clear hb hB
  go_wp2_with fail
  refine (IS.out _ (HV.out.keep HB1.out)).mono ?_
  rintro e w3 ⟨rfl, hb⟩
  have HB2 := hid (below_then HB1.out hb)
  clear hb k0 k1 k2
  go_wp2_with fail
  refine (KN.out _ (HV.out.keep HB2.out)).mono ?_
  rintro e w4 ⟨rfl, hb⟩
  have HB3 := hid (below_then HB2.out hb)
  clear hb
  go_wp2
  go_ret
  exact ⟨rfl, HB3.out⟩
set_option maxHeartbeats 4000000 in
theorem escapes_esc (c : UInt8) (r : List UInt8) (W : World) (hV : Vars W) (h : c.toNat < 128) (he : Tm.esc c = 92 :: r) (hr : 1 ≤ r.length ∧ r.length ≤ 6) (hc : c.toNat < 32 ∨ c.toNat = 127 ∨ c.toNat = 34 ∨ c.toNat = 92) :
    Calls Tryd.prog 5 #[.int .u8 (c.toNat : Nat)] W fun e W' => e = .returned (.bool true) ∧ Below W.heap.size W W' := by
  have HV := hid hV
  have hi : Tm.is 3 [c] [] = true := by unfold Tm.is Tm.text; rw [ascii_valid (by simp; omega)]; simp
  have hsh : Tm.show 3 [c] [] = 34 :: 92 :: (r ++ [34]) := by
    show 34 :: (Tm.escs [c] ++ [34]) = _
    rw [show Tm.escs [c] = Tm.esc c by simp [Tm.escs], he]; rfl
  have hsT : Tm.showT 3 [c] [] = 34 :: 92 :: (r ++ [34]) := hsh
  have hval : Lib.validD (34 :: 92 :: (r ++ [34])) = true := ascii_valid (fun d hd => by
    have hl := esc_low c h
    rw [he] at hl
    simp only [List.mem_cons, List.mem_append] at hd
    rcases hd with rfl | rfl | hd | hd
    · decide
    · decide
    · exact hl d (by simp [hd])
    · simp at hd; subst hd; decide)
  have hrb : Tm.rtermB (34 :: 92 :: (r ++ [34])) = some (3, [c], [], []) := by
    unfold Tm.rtermB
    rw [← hsT, Tm.rterm_plain]
    simp only
    rw [if_pos (show Tm.is ((3 : Nat) : Int) [c] [] = true from hi)]
    rfl
  have IS := hid (fun w h => tis_any 3 [c] [] w (by simp) (by simp) h)
  rw [hi] at IS
  have SH := hid (fun w => tshow_any 3 [c] [] w (by simp) (by simp))
  rw [hsh] at SH
  have TF := hid (fun w h => rtermf_ok (34 :: 92 :: (r ++ [34])) [c] [] 3 w h (by simp; omega) hval hrb (by omega) hsT (by simp) (by simp))
  have KN := hid (fun w h => known_any w h)
  have cv := conv_byte1 (W.alloc (.cells #[.int .u8 (c.toNat : Nat)] 5)) W.heap.size c (by rw [cell_new]; rfl)
  have hx1 := fun q => ba_get (34 :: 92 :: (r ++ [34])) 1 92 rfl q
  have hxl : (34 :: 92 :: (r ++ [34])).length = r.length + 3 := by simp
  obtain ⟨X, hX⟩ : ∃ X, X = 34 :: 92 :: (r ++ [34]) := ⟨_, rfl⟩
  rw [← hX] at SH TF hx1 hxl
  have hx4 : 4 ≤ X.length := by omega
  have hx5 : X.length ≤ 100 := by omega
  clear hV hi hsh hsT hval hrb he hX hxl
  rcases hc with hc | hc | hc | hc
  · clear h
    go_enter Tryd.func5, Tryd.ntmps5
    go_wp2_with fail
    have HB0 := hid (((Below.refl W.heap.size W).alloc (Nat.le_refl _) (.cells #[.int .u8 (c.toNat : Nat)] 5)).alloc (by simp) (.cells #[.int .i64 3, str [c], str []] 23))
    refine (SH.out _).mono ?_
    rintro e w2 ⟨rfl, hb⟩
    obtain ⟨k0, k1, k2, hB⟩ := tm_cells hb
    rw [show (W.alloc (.cells #[.int .u8 (c.toNat : Nat)] 5)).heap.size = W.heap.size + 1 by simp] at k0 k1 k2
    have HB1 := hid (below_then HB0.out hb)
    clear hb hB
    go_wp2_with fail
    refine (TF.out _ (HV.out.keep HB1.out)).mono ?_
    rintro e w3 ⟨rfl, hb⟩
    have j0 := below_keep hb k0
    have j1 := below_keep hb k1
    have j2 := below_keep hb k2
    have HB2 := hid (below_then HB1.out hb)
    clear hb k0 k1 k2
    have l0 := fun o => (below_keep ((Below.refl w3.heap.size w3).alloc (Nat.le_refl _) o) j0)
    have l1 := fun o => (below_keep ((Below.refl w3.heap.size w3).alloc (Nat.le_refl _) o) j1)
    have l2 := fun o => (below_keep ((Below.refl w3.heap.size w3).alloc (Nat.le_refl _) o) j2)
    have HB3 := hid (HB2.out.alloc HB2.out.size (.cells #[.int .i64 3, str [c], str []] 23))
    have HL := hid (fun o => l0 o)
    have HM := hid (fun o => l1 o)
    have HN := hid (fun o => l2 o)
    clear j0 j1 j2
    go_wp2_with fail
    refine (IS.out _ (HV.out.keep HB3.out)).mono ?_
    rintro e w4 ⟨rfl, hb⟩
    obtain ⟨m0, m1, m2, _⟩ := tm_cells hb
    have n0 := below_keep hb (HL.out _)
    have n1 := below_keep hb (HM.out _)
    have n2 := below_keep hb (HN.out _)
    have HB4 := hid (below_then HB3.out hb)
    clear hb l0 l1 l2
    go_wp2_with fail
    refine (KN.out _ (HV.out.keep HB4.out)).mono ?_
    rintro e w5 ⟨rfl, hb⟩
    have HB5 := hid (below_then HB4.out hb)
    clear hb
    go_wp2
    go_ret
    exact ⟨rfl, HB5.out⟩
  · have h32 : 32 ≤ c.toNat := by omega
    have h127 : 127 ≤ c.toNat := by omega
    clear hc
    go_enter Tryd.func5, Tryd.ntmps5
    go_wp2_with fail
    have HB0 := hid (((Below.refl W.heap.size W).alloc (Nat.le_refl _) (.cells #[.int .u8 (c.toNat : Nat)] 5)).alloc (by simp) (.cells #[.int .i64 3, str [c], str []] 23))
    refine (SH.out _).mono ?_
    rintro e w2 ⟨rfl, hb⟩
    obtain ⟨k0, k1, k2, hB⟩ := tm_cells hb
    rw [show (W.alloc (.cells #[.int .u8 (c.toNat : Nat)] 5)).heap.size = W.heap.size + 1 by simp] at k0 k1 k2
    have HB1 := hid (below_then HB0.out hb)
    clear hb hB
    go_wp2_with fail
    refine (TF.out _ (HV.out.keep HB1.out)).mono ?_
    rintro e w3 ⟨rfl, hb⟩
    have j0 := below_keep hb k0
    have j1 := below_keep hb k1
    have j2 := below_keep hb k2
    have HB2 := hid (below_then HB1.out hb)
    clear hb k0 k1 k2
    have l0 := fun o => (below_keep ((Below.refl w3.heap.size w3).alloc (Nat.le_refl _) o) j0)
    have l1 := fun o => (below_keep ((Below.refl w3.heap.size w3).alloc (Nat.le_refl _) o) j1)
    have l2 := fun o => (below_keep ((Below.refl w3.heap.size w3).alloc (Nat.le_refl _) o) j2)
    have HB3 := hid (HB2.out.alloc HB2.out.size (.cells #[.int .i64 3, str [c], str []] 23))
    have HL := hid (fun o => l0 o)
    have HM := hid (fun o => l1 o)
    have HN := hid (fun o => l2 o)
    clear j0 j1 j2
    go_wp2_with fail
    refine (IS.out _ (HV.out.keep HB3.out)).mono ?_
    rintro e w4 ⟨rfl, hb⟩
    obtain ⟨m0, m1, m2, _⟩ := tm_cells hb
    have n0 := below_keep hb (HL.out _)
    have n1 := below_keep hb (HM.out _)
    have n2 := below_keep hb (HN.out _)
    have HB4 := hid (below_then HB3.out hb)
    clear hb l0 l1 l2
    go_wp2_with fail
    refine (KN.out _ (HV.out.keep HB4.out)).mono ?_
    rintro e w5 ⟨rfl, hb⟩
    have HB5 := hid (below_then HB4.out hb)
    clear hb
    go_wp2
    go_ret
    exact ⟨rfl, HB5.out⟩
  · have h32 : 32 ≤ c.toNat := by omega
    have h127 : c.toNat < 127 := by omega
    have b1 : ((c.toNat : Int) != 34) = false := by rw [bne_eq_false_iff_eq]; omega
    clear h hc
    go_enter Tryd.func5, Tryd.ntmps5
    go_wp2_with fail
    have HB0 := hid (((Below.refl W.heap.size W).alloc (Nat.le_refl _) (.cells #[.int .u8 (c.toNat : Nat)] 5)).alloc (by simp) (.cells #[.int .i64 3, str [c], str []] 23))
    refine (SH.out _).mono ?_
    rintro e w2 ⟨rfl, hb⟩
    obtain ⟨k0, k1, k2, hB⟩ := tm_cells hb
    rw [show (W.alloc (.cells #[.int .u8 (c.toNat : Nat)] 5)).heap.size = W.heap.size + 1 by simp] at k0 k1 k2
    have HB1 := hid (below_then HB0.out hb)
    clear hb hB
    go_wp2_with fail
    refine (TF.out _ (HV.out.keep HB1.out)).mono ?_
    rintro e w3 ⟨rfl, hb⟩
    have j0 := below_keep hb k0
    have j1 := below_keep hb k1
    have j2 := below_keep hb k2
    have HB2 := hid (below_then HB1.out hb)
    clear hb k0 k1 k2
    have l0 := fun o => (below_keep ((Below.refl w3.heap.size w3).alloc (Nat.le_refl _) o) j0)
    have l1 := fun o => (below_keep ((Below.refl w3.heap.size w3).alloc (Nat.le_refl _) o) j1)
    have l2 := fun o => (below_keep ((Below.refl w3.heap.size w3).alloc (Nat.le_refl _) o) j2)
    have HB3 := hid (HB2.out.alloc HB2.out.size (.cells #[.int .i64 3, str [c], str []] 23))
    have HL := hid (fun o => l0 o)
    have HM := hid (fun o => l1 o)
    have HN := hid (fun o => l2 o)
    clear j0 j1 j2
    go_wp2_with fail
    refine (IS.out _ (HV.out.keep HB3.out)).mono ?_
    rintro e w4 ⟨rfl, hb⟩
    obtain ⟨m0, m1, m2, _⟩ := tm_cells hb
    have n0 := below_keep hb (HL.out _)
    have n1 := below_keep hb (HM.out _)
    have n2 := below_keep hb (HN.out _)
    have HB4 := hid (below_then HB3.out hb)
    clear hb l0 l1 l2
    go_wp2_with fail
    refine (KN.out _ (HV.out.keep HB4.out)).mono ?_
    rintro e w5 ⟨rfl, hb⟩
    have HB5 := hid (below_then HB4.out hb)
    clear hb
    go_wp2
    go_ret
    exact ⟨rfl, HB5.out⟩
  · have h32 : 32 ≤ c.toNat := by omega
    have h127 : c.toNat < 127 := by omega
    have b1 : ((c.toNat : Int) != 34) = true := by rw [bne_iff_ne]; omega
    have b2 : ((c.toNat : Int) != 92) = false := by rw [bne_eq_false_iff_eq]; omega
    clear h hc
    go_enter Tryd.func5, Tryd.ntmps5
    go_wp2_with fail
    have HB0 := hid (((Below.refl W.heap.size W).alloc (Nat.le_refl _) (.cells #[.int .u8 (c.toNat : Nat)] 5)).alloc (by simp) (.cells #[.int .i64 3, str [c], str []] 23))
    refine (SH.out _).mono ?_
    rintro e w2 ⟨rfl, hb⟩
    obtain ⟨k0, k1, k2, hB⟩ := tm_cells hb
    rw [show (W.alloc (.cells #[.int .u8 (c.toNat : Nat)] 5)).heap.size = W.heap.size + 1 by simp] at k0 k1 k2
    have HB1 := hid (below_then HB0.out hb)
    clear hb hB
    go_wp2_with fail
    refine (TF.out _ (HV.out.keep HB1.out)).mono ?_
    rintro e w3 ⟨rfl, hb⟩
    have j0 := below_keep hb k0
    have j1 := below_keep hb k1
    have j2 := below_keep hb k2
    have HB2 := hid (below_then HB1.out hb)
    clear hb k0 k1 k2
    have l0 := fun o => (below_keep ((Below.refl w3.heap.size w3).alloc (Nat.le_refl _) o) j0)
    have l1 := fun o => (below_keep ((Below.refl w3.heap.size w3).alloc (Nat.le_refl _) o) j1)
    have l2 := fun o => (below_keep ((Below.refl w3.heap.size w3).alloc (Nat.le_refl _) o) j2)
    have HB3 := hid (HB2.out.alloc HB2.out.size (.cells #[.int .i64 3, str [c], str []] 23))
    have HL := hid (fun o => l0 o)
    have HM := hid (fun o => l1 o)
    have HN := hid (fun o => l2 o)
    clear j0 j1 j2
    go_wp2_with fail
    refine (IS.out _ (HV.out.keep HB3.out)).mono ?_
    rintro e w4 ⟨rfl, hb⟩
    obtain ⟨m0, m1, m2, _⟩ := tm_cells hb
    have n0 := below_keep hb (HL.out _)
    have n1 := below_keep hb (HM.out _)
    have n2 := below_keep hb (HN.out _)
    have HB4 := hid (below_then HB3.out hb)
    clear hb l0 l1 l2
    go_wp2_with fail
    refine (KN.out _ (HV.out.keep HB4.out)).mono ?_
    rintro e w5 ⟨rfl, hb⟩
    have HB5 := hid (below_then HB4.out hb)
    clear hb
    go_wp2
    go_ret
    exact ⟨rfl, HB5.out⟩
theorem termEscapes_any (c : UInt8) (W : World) (hV : Vars W) :
    Calls Tryd.prog 5 #[.int .u8 (c.toNat : Nat)] W fun e W' => e = .returned (.bool true) ∧ Below W.heap.size W W' := by
  by_cases h1 : 128 ≤ c.toNat
  · exact escapes_high c W hV h1
  · by_cases h2 : 32 ≤ c.toNat ∧ c.toNat < 127 ∧ c.toNat ≠ 34 ∧ c.toNat ≠ 92
    · exact escapes_plain c W hV h2
    · obtain ⟨r, hr, hl⟩ : ∃ r, Tm.esc c = 92 :: r ∧ 1 ≤ r.length ∧ r.length ≤ 6 := by
        have e : ∀ d : UInt8, c.toNat = d.toNat → c = d := fun d hd => UInt8.toNat_inj.1 hd
        unfold Tm.esc
        split
        · exact ⟨_, rfl, by simp⟩
        repeat' split
        all_goals first
          | exact ⟨_, rfl, by simp⟩
          | (exfalso
             rename_i g1 g2 g3 g4 g5 g6 g7
             have a1 : c.toNat ≠ 34 := fun h => g1 (.inl (e 34 h))
             have a2 : c.toNat ≠ 92 := fun h => g1 (.inr (e 92 h))
             have a3 : c.toNat ≠ 127 := fun h => g7 (.inr (e 127 h))
             have a4 : ¬ c.toNat < 32 := fun h => g7 (.inl h)
             omega)
      exact escapes_esc c r W hV (by omega) hr hl (by omega)

theorem termEscapes_walk (H : Type) (enc : TypeId × Value → H) (W : World) (base : Nat) (args : Array Value) (ds gs : List (DataW H)) (before : List MemPlace)
    (hval : ∀ (j : Nat) t v, Tryd.f5.params[j]? = some t → args[j]? = some v → Value.okWide Tryd.prog W .any base t v)
    (hW : DataW.Whole enc Tryd.prog Tryd.f5.params.toList Rows.termEscapesSpec.vars false W args.toList ds gs before)
    (hz : (DataW.weightsEach Tryd.prog (Tryd.f5.params.toList ++ Rows.termEscapesSpec.plain.varTypes Tryd.prog) (ds ++ gs)).all (· ≤ reachBytes) = true)
    (hL : laidMetH Tryd.prog Rows.termEscapesRow.laid W) (hsh : W.ShapedOpen Tryd.prog) :
    Calls Tryd.prog 5 args W fun e W' => e = .returned (.bool true) ∧ Below W.heap.size W W' := by
  obtain ⟨p, q, hA, _, _, _, _⟩ := hW
  rw [Tryd.params5] at hA hval
  rw [Tryd.params5] at hz
  obtain ⟨v0, vs0, d0, ds0, p0, q0, hargs, rfl, rfl, h0, r0⟩ := trodAll_cons hA
  obtain ⟨rfl, rfl, rfl⟩ := trodAll_nil r0
  obtain rfl : args = #[v0] := by cases args; simp_all
  obtain ⟨x0, rfl, rfl, rfl, w0⟩ := open_int Tryd.underlying5 (hval 0 5 v0 rfl rfl) h0
  have b0 := bounds_u8 w0
  obtain ⟨c, rfl⟩ : ∃ c : UInt8, x0 = (c.toNat : Nat) := ⟨x0.toNat.toUInt8, by simp; omega⟩
  exact termEscapes_any c W (vars_of hL hsh)

theorem termEscapes_lifted (os : Os) (started : os.Started) (H : Type) (enc : TypeId × Value → H) (F : Stop.Interp) :
    ReturnsInHanded {} Tryd.checked os 5 .any ((OpenSpec.ofChange Rows.termEscapesSpec).preRow enc Tryd.prog Tryd.f5 Rows.termEscapesRow.domain false Rows.termEscapesRow.laid) (((OpenSpec.ofChange Rows.termEscapesSpec).at F).post enc Tryd.prog Tryd.f5 false true false false) := by
  obtain ⟨places, hx⟩ : ∃ places, DataW.whole enc Tryd.prog ((laidWorld os).forCall (fun _ _ => 0) ⟨#[], #[.int .u8 0], []⟩).memory Tryd.f5.params.toList Rows.termEscapesSpec.vars false (#[.int .u8 0] : Array Value).toList 8 = some ([.lit (.int .u8 0)], [], places) := ⟨[], by kernel_rfl⟩
  refine returnsInHanded_of_row (C := Tryd.checked) (s := OpenSpec.ofChange Rows.termEscapesSpec) own started (by kernel_rfl) Tryd.func5
    (witness_row_at (enc := enc) (C := Tryd.checked) false (laidWorld os) #[.int .u8 0] rfl (by kernel_rfl) (by kernel_rfl) (by kernel_rfl)
      (OpenSpec.preRow_of_cond 8 hx (by kernel_rfl) (fun k hk => by cases hk) (by kernel_rfl) (laidMet_of_run' 8 (by kernel_rfl) (by kernel_rfl)))) ?_
  intro W base args ds gs before hval hW _ _ hz hL hsh _
  refine (termEscapes_walk H enc W base args ds gs before hval hW hz hL hsh).mono fun e W' ⟨he, hb⟩ => ⟨_, he, ?_⟩
  exact law_post (fn := Tryd.f5) (s := Rows.termEscapesSpec) (tb := 4) rfl (fun ds hd => by match ds, hd with | [d0], _ => rfl) rfl Tryd.underlying4 (by kernel_rfl) hW hb

theorem termEscapes_said : Rows.TermEscapesSaid :=
  OpenClaim.holds_of_cond 5 Tryd.f5 rfl rfl rfl rfl rfl rfl rfl ⟨rfl, rfl, rfl, rfl, rfl⟩ rfl rfl rfl rfl rfl (by kernel_rfl) Tryd.func5 (by kernel_rfl)
    (of_decide_eq_true (by kernel_rfl)) (by unfold Func.isWrapper; first | (rw [if_pos (by decide +kernel)]; kernel_rfl) | (rw [if_neg (by decide +kernel)]; exact ⟨rfl, rfl⟩))
    (fun os started H enc _ F => by rw [OpenClaim.pre_eq_preRow]; exact termEscapes_lifted os started H enc F)

theorem termEscapes_plain (f : FuncId) (fn : Func) (hf : Tryd.pinned.checked.prog.funcNamed Rows.termEscapesRow.func = some f) (hfn : Tryd.pinned.checked.prog.funcs[f]? = some fn) :
    false = Tryd.pinned.checked.prog.looks [] ∧ ∀ (j : Nat) t, fn.params[j]? = some t → Tryd.pinned.checked.prog.wantsStandIn t = false := by
  obtain rfl : f = 5 := Option.some.inj ((show Tryd.prog.funcNamed Rows.termEscapesRow.func = some 5 by kernel_rfl).symm.trans hf) |>.symm
  obtain rfl : fn = Tryd.f5 := (Option.some.inj (Tryd.func5.symm.trans hfn)).symm
  refine ⟨by kernel_rfl, fun j t ht => ?_⟩
  have h := Array.mem_of_getElem? ht
  have hall : Tryd.f5.params.all (fun t => !Tryd.prog.wantsStandIn t) = true := by kernel_rfl
  have := Array.all_eq_true_iff_forall_mem.1 hall t h
  show Tryd.prog.wantsStandIn t = false
  simpa using this

/-- THE STATEMENT. -/
theorem termEscapes_card : Rows.TermEscapesCardSaid :=
  Claim7.holds_tied_plain_at .later [] _ _ _ _ termEscapes_said (fun _ h => by cases h) (by kernel_rfl) (fun _ h => by cases h) termEscapes_row_tie rfl ⟨rfl, rfl⟩ (by kernel_rfl) rfl termEscapes_plain (by kernel_rfl)
end Go.Proofs.YtmooppakneoidaaDoor
