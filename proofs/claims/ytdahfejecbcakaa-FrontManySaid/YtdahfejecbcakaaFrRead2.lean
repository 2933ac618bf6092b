/- A dictionary of texts: what readTexts reads. -/
import Derived.Test.YtdahfejecbcakaaFrLaw
import Derived.Test.YtdahfejecbcakaaFrRead
import Derived.Test.YtdahfejecbcakaaBin
namespace Go.Proofs.Ytdahfejecbcakaa
set_option linter.unusedVariables false
set_option linter.unusedSimpArgs false
set_option maxRecDepth 100000
open Go.ChangeShapes Go.WideShapes Go.ChangeAt Go.RowKit

theorem or_256 (a b : Nat) (ha : a < 256) (hb : b < 256) : bits .or .i64 ((a : Int) * 256) (b : Int) = ((a * 256 + b : Nat) : Int) := by
  have h := Bn.i64_or_nat (a * 256) b (by omega) (by omega)
  rw [Int.natCast_mul] at h
  rw [show ((a : Int) * 256) = (a : Int) * ((256 : Nat) : Int) from rfl, h]
  congr 1
  have := Nat.two_pow_add_eq_or_of_lt (i := 8) (show b < 2 ^ 8 by omega) a
  rw [Nat.mul_comm a 256]
  exact this.symm
theorem row_shift {W : World} {ab ao m k : Nat} {V : Nat → Value} (h : RowAt W (some ⟨ab, ao, none⟩) m V) (hk : k ≤ m) : RowAt W (some ⟨ab, ao + k, none⟩) (m - k) (fun j => V (k + j)) := by
  have := row_back h hk
  simp only [Option.map_some] at this
  rwa [Addr.add_lit] at this
theorem row_less {W : World} {a : Option Addr} {m k : Nat} {V : Nat → Value} (h : RowAt W a m V) (hk : k ≤ m) : RowAt W a k V := by
  rcases h with h0 | ⟨b, off, e, hc⟩
  · exact Or.inl (by omega)
  · exact Or.inr ⟨b, off, e, fun i hi => hc i (by omega)⟩
theorem row_if {W : World} {ab ao m k p N c : Nat} {b : List Nat} (h : RowAt W (some ⟨ab, ao, none⟩) m fun j => u8v (b.getD (p + j) 0)) (hm : m = N - p) (hk : p + 2 + k ≤ N ∧ N - p ≤ c) : RowAt W (if c - 2 = k then some ⟨ab, ao + 2, none⟩ else some ⟨ab, ao + 2 + k, none⟩) (N - (p + 2 + k)) fun j => u8v (b.getD (p + 2 + k + j) 0) := by
  subst hm
  by_cases e : c - 2 = k
  · exact Or.inl (by omega)
  · rw [if_neg e]
    have h2 := row_shift (row_shift (k := 2) h (by omega)) (show k ≤ N - p - 2 by omega)
    rw [show N - p - 2 - k = N - (p + 2 + k) by omega] at h2
    simpa only [Nat.add_assoc] using h2
theorem ba_app (a b : List UInt8) : (⟨a.toArray⟩ : ByteArray) ++ ⟨b.toArray⟩ = ⟨(a ++ b).toArray⟩ := by
  apply ByteArray.ext
  simp
/-- Bytes in the middle of a row, as a text. -/
theorem conv_mid {w : World} {a : Option Addr} {p k c : Nat} {b : List Nat} (hR : RowAt w a k fun j => u8v (b.getD (p + j) 0)) (hk : p + k ≤ b.length) : (convert 35 9 (.slice a k c)).run Try.prog w = .ok (str (Fr.txt ((b.drop p).take k))) w := by
  have hl : ((b.drop p).take k).length = k := by rw [List.length_take, List.length_drop]; omega
  have := conv_bytes (P := Try.prog) w 35 5 9 Try.underlying35 Try.underlying5 Try.underlying9 a k c ((b.drop p).take k) hl.symm (by
    rcases hR with h0 | ⟨bb, off, e, hc⟩
    · exact Or.inl h0
    · refine Or.inr ⟨bb, off, e, fun i hi => ?_⟩
      rw [hc i hi]
      simp [u8v, List.getD, List.getElem?_take, hi])
  rw [this]; rfl
theorem zero_texts (n : Nat) : (madeCells #[.string ByteArray.empty] n).toList = List.replicate n (str []) := by
  refine List.ext_getElem (by simp [madeCells]) fun i h1 h2 => ?_
  simp [madeCells, Nat.mod_one]
  rfl
theorem texts_store {L : List (List UInt8)} {n : Nat} (y : List UInt8) (h : L.length < n) : (L.map str ++ List.replicate (n - L.length) (str [])).set L.length (str y) = (L ++ [y]).map str ++ List.replicate (n - (L ++ [y]).length) (str []) := by
  obtain ⟨r, hr⟩ : ∃ r, n - L.length = r + 1 := ⟨n - L.length - 1, by omega⟩
  rw [hr, List.replicate_succ, show n - (L ++ [y]).length = r by rw [List.length_append, List.length_singleton]; omega]
  rw [List.set_append_right _ _ (by simp)]
  simp
theorem readTexts_short (a : Option Addr) (N cap : Nat) (W : World) (hN : N < 2) : Calls Try.prog 36 #[.slice a N cap] W fun e W' => e = .returned (.tuple #[.slice none 0 0, .bool false]) ∧ W = W' := by
  go_enter Try.func36, Try.ntmps36
  go_wp2
  go_ret2
  exact ⟨rfl, rfl⟩
theorem readTexts_many (a : Option Addr) (N cap : Nat) (b : List Nat) (W : World) (hN : 2 ≤ N) (hR : RowAt W a N fun i => u8v (b.getD i 0)) (hb : ∀ i, b.getD i 0 < 256) (hc : 300 < Fr.cnt b) : Calls Try.prog 36 #[.slice a N cap] W fun e W' => e = .returned (.tuple #[.slice none 0 0, .bool false]) ∧ Below W.heap.size W W' := by
  obtain ⟨bb, off, rfl, hcc⟩ := hR.get (show 0 < N by omega)
  have c0 := hcc 0 (by omega)
  have c1 := hcc 1 (by omega)
  rw [Nat.add_zero] at c0
  have h0 := hb 0
  have h1 := hb 1
  unfold Fr.cnt at hc
  obtain ⟨g0, e0⟩ : ∃ g, g = b.getD 0 0 := ⟨_, rfl⟩
  obtain ⟨g1, e1⟩ : ∃ g, g = b.getD 1 0 := ⟨_, rfl⟩
  rw [← e0] at c0 h0 hc
  rw [← e1] at c1 h1 hc
  have hor := or_256 g0 g1 h0 h1
  obtain ⟨n, hn⟩ : ∃ n, n = g0 * 256 + g1 := ⟨_, rfl⟩
  rw [← hn] at hor hc
  unfold u8v at c0 c1
  clear hcc hR hb e0 e1 hn
  go_enter Try.func36, Try.ntmps36
  go_wp2
  go_region
  go_wp2
  go_ret2
  exact ⟨rfl, (Below.refl _ _).drew⟩
set_option maxHeartbeats 4000000 in
theorem readTexts_few (a : Option Addr) (N cap n : Nat) (b : List Nat) (W : World) (hN : 2 ≤ N) (hNb : N = b.length) (hNc : N ≤ cap) (hcm : cap ≤ maxLen) (hR : RowAt W a N fun i => u8v (b.getD i 0)) (hb : ∀ i, b.getD i 0 < 256) (hc : n = Fr.cnt b) (hn3 : n ≤ 300) :
    Calls Try.prog 36 #[.slice a N cap] W fun e W' => ∃ u ok, e = .returned (.tuple #[u, .bool ok]) ∧ Below W.heap.size W W' ∧ ((Fr.st b n = none ∧ ok = false) ∨ ∃ L x p, Fr.st b n = some (L, x, p) ∧ ok = true ∧ TextsAt W' u L) := by
  obtain ⟨i0, hi, hz0, hz1, hz2⟩ := info_parts Try.info9
  have mk1 : ∀ W : World, (Instr.makeSlice 22 (.int .i64 (n : Int)) (.int .i64 (n : Int))).run Try.prog W = _ := fun W => run_make W 22 9 i0 _ Try.underlying22 hi hz0 .i64 .i64 n n (by omega) (by omega) (by rw [hz2]; omega) (by omega)
  obtain ⟨bb, off, rfl, hcc⟩ := hR.get (show 0 < N by omega)
  have c0 := hcc 0 (by omega)
  have c1 := hcc 1 (by omega)
  rw [Nat.add_zero] at c0
  have h0 := hb 0
  have h1 := hb 1
  have HR := hid hR
  have HLT := hid hb
  have HNB := hid hNb
  have HB0 := hid (show Fr.st b 0 = some ([], [], 2) from rfl)
  unfold Fr.cnt at hc
  obtain ⟨g0, e0⟩ : ∃ g, g = b.getD 0 0 := ⟨_, rfl⟩
  obtain ⟨g1, e1⟩ : ∃ g, g = b.getD 1 0 := ⟨_, rfl⟩
  rw [← e0] at c0 h0 hc
  rw [← e1] at c1 h1 hc
  have hor := or_256 g0 g1 h0 h1
  rw [← hc] at hor
  unfold u8v at c0 c1
  unfold maxLen at hcm
  clear hcc hR hb e0 e1 hc hNb
  go_enter Try.func36, Try.ntmps36
  go_wp2
  go_region
  by_cases hcap : cap = 2
  · subst hcap
    obtain rfl : N = 2 := by omega
    go_wp2_with fail
    go_loopw [0, 6, 7, 8, 9, 31] (fun s0 s6 s7 s8 s9 s31 wr => ∃ (i : Nat) (L : List (List UInt8)) (x : List UInt8) (p : Nat) (a' : Option Addr) (c' : Nat), i ≤ n ∧ s31 = .int .i64 i ∧ s6 = str x ∧ s0 = .slice a' (2 - p) c' ∧ p ≤ 2 ∧ 2 ≤ p ∧ 2 - p ≤ c' ∧ c' ≤ 9223372036854775807 ∧ x.length ≤ 510 ∧ Hid (Fr.st b i = some (L, x, p)) ∧ Hid (RowAt W a' (2 - p) fun j => u8v (b.getD (p + j) 0)) ∧ Hid (Blk wr W.heap.size (L.map str ++ List.replicate (n - L.length) (str [])) 9) ∧ Hid (Below W.heap.size W wr) ∧ W.heap.size < wr.heap.size) (fun _ _ _ _ _ s31 _ => n - (intOf s31).toNat)
    case atStart =>
      refine ⟨0, [], [], 2, _, _, by omega, rfl, rfl, rfl, by omega, by omega, by omega, by omega, by simp, HB0.out, Or.inl (by omega), ?_, ?_, by simp⟩
      · exact (Blk.new' (A := List.replicate n (str [])) rfl (zero_texts n)).drew
      · exact ((Below.refl _ _).alloc (Nat.le_refl _) _).drew
    case round =>
      obtain ⟨i, L, x, p, a', c', hin, rfl, rfl, rfl, hpN, hp2, hc1, hc2, hxl, HS, HROW, HBK, HB, hz⟩ := hrel
      obtain ⟨hLi, _, _⟩ := Fr.st_len HS.out
      by_cases hlt : i < n
      · by_cases hA : 2 - p < 2
        · have HNO := hid (Fr.st_none (k := i + 1) (by rw [Fr.st_succ HS.out]; unfold Fr.ent; rw [if_pos (.inl (by rw [← HNB.out]; omega))]) (show i + 1 ≤ n by omega))
          go_wp2
          go_ret2
          exact ⟨_, _, rfl, HB.out, .inl ⟨HNO.out, rfl⟩⟩
        · exact absurd hA (by omega)
      · obtain rfl : i = n := by omega
        go_wp2
        go_ret2
        refine ⟨_, _, rfl, HB.out, .inr ⟨L, x, p, HS.out, rfl, ?_⟩⟩
        have hB := HBK.out
        rw [hLi, Nat.sub_self, List.replicate_zero, List.append_nil] at hB
        exact SlAt.blk hB hLi.symm (fun j hj => by simp [List.getD, show j < L.length by omega]) i (Nat.le_refl _) (by unfold maxLen; omega)
  · go_wp2_with fail
    go_loopw [0, 6, 7, 8, 9, 31] (fun s0 s6 s7 s8 s9 s31 wr => ∃ (i : Nat) (L : List (List UInt8)) (x : List UInt8) (p : Nat) (a' : Option Addr) (c' : Nat), i ≤ n ∧ s31 = .int .i64 i ∧ s6 = str x ∧ s0 = .slice a' (N - p) c' ∧ p ≤ N ∧ 2 ≤ p ∧ N - p ≤ c' ∧ c' ≤ 9223372036854775807 ∧ x.length ≤ 510 ∧ Hid (Fr.st b i = some (L, x, p)) ∧ Hid (RowAt W a' (N - p) fun j => u8v (b.getD (p + j) 0)) ∧ Hid (Blk wr W.heap.size (L.map str ++ List.replicate (n - L.length) (str [])) 9) ∧ Hid (Below W.heap.size W wr) ∧ W.heap.size < wr.heap.size) (fun _ _ _ _ _ s31 _ => n - (intOf s31).toNat)
    case atStart =>
      refine ⟨0, [], [], 2, _, _, by omega, rfl, rfl, rfl, by omega, by omega, by omega, by omega, by simp, HB0.out, row_shift HR.out (by omega), ?_, ?_, by simp⟩
      · exact (Blk.new' (A := List.replicate n (str [])) rfl (zero_texts n)).drew
      · exact ((Below.refl _ _).alloc (Nat.le_refl _) _).drew
    case round =>
      obtain ⟨i, L, x, p, a', c', hin, rfl, rfl, rfl, hpN, hp2, hc1, hc2, hxl, HS, HROW, HBK, HB, hz⟩ := hrel
      obtain ⟨hLi, _, _⟩ := Fr.st_len HS.out
      by_cases hlt : i < n
      · by_cases hA : N - p < 2
        · have HNO := hid (Fr.st_none (k := i + 1) (by rw [Fr.st_succ HS.out]; unfold Fr.ent; rw [if_pos (.inl (by rw [← HNB.out]; omega))]) (show i + 1 ≤ n by omega))
          go_wp2
          go_ret2
          exact ⟨_, _, rfl, HB.out, .inl ⟨HNO.out, rfl⟩⟩
        · obtain ⟨ab, ao, rfl, hcc⟩ := (HROW.out.keep HB.out).get (show 0 < N - p by omega)
          have d0 := hcc 0 (by omega)
          have d1 := hcc 1 (by omega)
          rw [Nat.add_zero, Nat.add_zero] at d0
          have l0 := HLT.out p
          have l1 := HLT.out (p + 1)
          obtain ⟨k0, e0⟩ : ∃ g, g = b.getD p 0 := ⟨_, rfl⟩
          obtain ⟨k1, e1⟩ : ∃ g, g = b.getD (p + 1) 0 := ⟨_, rfl⟩
          have HK0 := hid e0
          have HK1 := hid e1
          rw [← e0] at d0 l0
          rw [← e1] at d1 l1
          unfold u8v at d0 d1
          have hbl : N = b.length := HNB.out
          have HKL := hid (HBK.out.cell (i := i) (v := str []) (by rw [List.getElem?_append_right (by simp [hLi]), List.length_map, hLi, Nat.sub_self, List.getElem?_replicate, if_pos (by omega)]))
          have HKF := hid (HBK.out.free i)
          have HTS := hid (fun y => texts_store (L := L) (n := n) y (by omega))
          clear hcc e0 e1
          go_wp2
          go_region
          by_cases hcp : c' = 2
          · subst hcp
            have hN2 : N = p + 2 := by omega
            by_cases f1 : x.length < k0
            · have HNO := hid (Fr.st_none (k := i + 1) (by rw [Fr.st_succ HS.out]; unfold Fr.ent; rw [← HK0.out, ← HK1.out, if_pos (by omega)]) (show i + 1 ≤ n by omega))
              have HBW := hid (below_drawn HB.out 1)
              go_wp2
              go_ret2
              exact ⟨_, _, rfl, HBW.out, .inl ⟨HNO.out, rfl⟩⟩
            · by_cases f2 : N < p + 2 + k1
              · have HNO := hid (Fr.st_none (k := i + 1) (by rw [Fr.st_succ HS.out]; unfold Fr.ent; rw [← HK0.out, ← HK1.out, if_pos (by omega)]) (show i + 1 ≤ n by omega))
                have HBW := hid (below_drawn HB.out 1)
                go_wp2
                go_ret2
                exact ⟨_, _, rfl, HBW.out, .inl ⟨HNO.out, rfl⟩⟩
              · have HRW := hid (show RowAt W (some ⟨ab, ao, none⟩) k1 (fun j => u8v (b.getD (p + 2 + j) 0)) from Or.inl (by omega))
                have hcv : (convert 35 9 (.slice (some ⟨ab, ao, none⟩) k1 0)).run Try.prog wr.drew.drew = .ok (str (Fr.txt ((b.drop (p + 2)).take k1))) wr.drew.drew := conv_mid (HRW.out.keep HB.out.drew.drew) (by omega)
                have f3 : k0 ≤ x.length := by omega
                have e1 := ba_take x k0
                have hl1 : (x.take k0).length = k0 := by rw [List.length_take]; omega
                have hl2 : (Fr.txt ((b.drop (p + 2)).take k1)).length = k1 := by unfold Fr.txt; rw [List.length_map, List.length_take, List.length_drop]; omega
                have e2 := ba_app (x.take k0) (Fr.txt ((b.drop (p + 2)).take k1))
                have HS2 := hid (show Fr.st b (i + 1) = some (L ++ [x.take k0 ++ Fr.txt ((b.drop (p + 2)).take k1)], x.take k0 ++ Fr.txt ((b.drop (p + 2)).take k1), p + 2 + k1) by rw [Fr.st_succ HS.out]; unfold Fr.ent; rw [← HK0.out, ← HK1.out, if_neg (by omega)])
                have hyl : (x.take k0 ++ Fr.txt ((b.drop (p + 2)).take k1)).length ≤ 510 := by rw [List.length_append]; omega
                obtain ⟨y, hy⟩ : ∃ y, y = x.take k0 ++ Fr.txt ((b.drop (p + 2)).take k1) := ⟨_, rfl⟩
                rw [← hy] at e2 HS2 hyl
                obtain ⟨y1, hy1⟩ : ∃ y, y = x.take k0 := ⟨_, rfl⟩
                rw [← hy1] at e1 e2 hl1
                obtain ⟨y2, hy2⟩ : ∃ y, y = Fr.txt ((b.drop (p + 2)).take k1) := ⟨_, rfl⟩
                rw [← hy2] at e2 hcv hl2
                have kc := HKL.out
                have kf := HKF.out
                clear hy hy1 hy2
                go_wp2
                go_region
                go_wp2
                go_roundw
                case rel =>
                  have hB := HBK.out.set L.length (str y)
                  rw [HTS.out y, hLi] at hB
                  exact ⟨i + 1, L ++ [y], y, p + 2 + k1, some ⟨ab, ao, none⟩, 0, by omega, by go_num, rfl, by rw [show b.length - p - 2 - k1 = N - (p + 2 + k1) by omega], by omega, by omega, by omega, by omega, hyl, HS2.out, Or.inl (by omega), hB.drew.drew, (HB.out.setCell (p := ⟨W.heap.size, i, none⟩) (Nat.le_refl _) _).drew.drew, by simpa using hz⟩
                case measure => simp [intOf]; omega
          · by_cases f1 : x.length < k0
            · have HNO := hid (Fr.st_none (k := i + 1) (by rw [Fr.st_succ HS.out]; unfold Fr.ent; rw [← HK0.out, ← HK1.out, if_pos (by omega)]) (show i + 1 ≤ n by omega))
              have HBW := hid (below_drawn HB.out 1)
              go_wp2
              go_ret2
              exact ⟨_, _, rfl, HBW.out, .inl ⟨HNO.out, rfl⟩⟩
            · by_cases f2 : N < p + 2 + k1
              · have HNO := hid (Fr.st_none (k := i + 1) (by rw [Fr.st_succ HS.out]; unfold Fr.ent; rw [← HK0.out, ← HK1.out, if_pos (by omega)]) (show i + 1 ≤ n by omega))
                have HBW := hid (below_drawn HB.out 1)
                go_wp2
                go_ret2
                exact ⟨_, _, rfl, HBW.out, .inl ⟨HNO.out, rfl⟩⟩
              · have HRW := hid (show RowAt W (some ⟨ab, ao + 2, none⟩) k1 (fun j => u8v (b.getD (p + 2 + j) 0)) from by
                  have h5 := row_less (row_shift (k := 2) HROW.out (by omega)) (show k1 ≤ N - p - 2 by omega)
                  simpa only [Nat.add_assoc] using h5)
                have hcv : (convert 35 9 (.slice (some ⟨ab, ao + 2, none⟩) k1 (c' - 2))).run Try.prog wr.drew.drew = .ok (str (Fr.txt ((b.drop (p + 2)).take k1))) wr.drew.drew := conv_mid (HRW.out.keep HB.out.drew.drew) (by omega)
                have f3 : k0 ≤ x.length := by omega
                have e1 := ba_take x k0
                have hl1 : (x.take k0).length = k0 := by rw [List.length_take]; omega
                have hl2 : (Fr.txt ((b.drop (p + 2)).take k1)).length = k1 := by unfold Fr.txt; rw [List.length_map, List.length_take, List.length_drop]; omega
                have e2 := ba_app (x.take k0) (Fr.txt ((b.drop (p + 2)).take k1))
                have HS2 := hid (show Fr.st b (i + 1) = some (L ++ [x.take k0 ++ Fr.txt ((b.drop (p + 2)).take k1)], x.take k0 ++ Fr.txt ((b.drop (p + 2)).take k1), p + 2 + k1) by rw [Fr.st_succ HS.out]; unfold Fr.ent; rw [← HK0.out, ← HK1.out, if_neg (by omega)])
                have hyl : (x.take k0 ++ Fr.txt ((b.drop (p + 2)).take k1)).length ≤ 510 := by rw [List.length_append]; omega
                obtain ⟨y, hy⟩ : ∃ y, y = x.take k0 ++ Fr.txt ((b.drop (p + 2)).take k1) := ⟨_, rfl⟩
                rw [← hy] at e2 HS2 hyl
                obtain ⟨y1, hy1⟩ : ∃ y, y = x.take k0 := ⟨_, rfl⟩
                rw [← hy1] at e1 e2 hl1
                obtain ⟨y2, hy2⟩ : ∃ y, y = Fr.txt ((b.drop (p + 2)).take k1) := ⟨_, rfl⟩
                rw [← hy2] at e2 hcv hl2
                have kc := HKL.out
                have kf := HKF.out
                clear hy hy1 hy2
                go_wp2
                go_region
                go_wp2
                go_roundw
                case rel =>
                  have hB := HBK.out.set L.length (str y)
                  rw [HTS.out y, hLi] at hB
                  exact ⟨i + 1, L ++ [y], y, p + 2 + k1, (if c' - 2 = k1 then some ⟨ab, ao + 2, none⟩ else some ⟨ab, ao + 2 + k1, none⟩), c' - 2 - k1, by omega, by go_num, rfl, by rw [show b.length - p - 2 - k1 = N - (p + 2 + k1) by omega], by omega, by omega, by omega, by omega, hyl, HS2.out, row_if (k := k1) HROW.out rfl ⟨by omega, by omega⟩, hB.drew.drew, (HB.out.setCell (p := ⟨W.heap.size, i, none⟩) (Nat.le_refl _) _).drew.drew, by simpa using hz⟩
                case measure => simp [intOf]; omega
      · obtain rfl : i = n := by omega
        go_wp2
        go_ret2
        refine ⟨_, _, rfl, HB.out, .inr ⟨L, x, p, HS.out, rfl, ?_⟩⟩
        have hB := HBK.out
        rw [hLi, Nat.sub_self, List.replicate_zero, List.append_nil] at hB
        exact SlAt.blk hB hLi.symm (fun j hj => by simp [List.getD, show j < L.length by omega]) i (Nat.le_refl _) (by unfold maxLen; omega)
end Go.Proofs.Ytdahfejecbcakaa
