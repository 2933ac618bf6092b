/- A box: a file's sections, cut out as the entries tell them. -/
import Derived.Test.YtgbhnkiballeeaaBxCut
import Derived.BigRegion
import Derived.Deep.RegionWith
namespace Go.Proofs.Ytgbhnkiballeeaa
set_option linter.unusedVariables false
set_option linter.unusedSimpArgs false
set_option maxRecDepth 100000
open Go.ChangeShapes Go.WideShapes Go.ChangeAt Go.RowKit
def cutO (b : List Nat) (n : Nat) : Option (List Bx.Sec) := if n ≤ 8 ∧ 9 + 7 * n ≤ b.length ∧ b.length ≤ 100000 then Bx.cutL b n 6 (9 + 7 * n) else none
theorem bytes_sub {W : World} {bb off m cap : Nat} {l : List Nat} (h : BytesAt W (.slice (some ⟨bb, off, none⟩) m cap) l) (i k c off' : Nat) (ho : off' = off + i) (hik : i + k ≤ m) (hkc : k ≤ c) (hc : c ≤ maxLen) :
    BytesAt W (.slice (some ⟨bb, off', none⟩) k c) ((l.drop i).take k) := by
  obtain ⟨hn, hr⟩ := SlAt.row h
  have hlen : ((l.drop i).take k).length = k := by simp; omega
  refine ⟨some ⟨bb, off', none⟩, c, by rw [hlen], by omega, hc, (fun h => by cases h), ?_⟩
  rw [hlen]
  rcases Nat.eq_zero_or_pos k with h0 | h0
  · exact Or.inl h0
  · obtain ⟨b, o, e, hcl⟩ := hr.get (i := 0) (by omega)
    simp only [Option.some.injEq, Addr.mk.injEq, and_true] at e
    obtain ⟨rfl, rfl⟩ := e
    refine Or.inr ⟨_, _, rfl, fun t ht => ?_⟩
    have := hcl (i + t) (by omega)
    rw [ho, Nat.add_assoc, this]
    simp only [List.getD, List.getElem?_take_of_lt ht, List.getElem?_drop]
theorem bytes_sub' {W : World} {bb off m cap : Nat} {l : List Nat} (h : BytesAt W (.slice (some ⟨bb, off, none⟩) m cap) l) (i k c off' k' : Nat) (hk : k' = k) (ho : off' = off + i) (hik : i + k ≤ m) (hkc : k ≤ c) (hc : c ≤ maxLen) :
    BytesAt W (.slice (some ⟨bb, off', none⟩) k' c) ((l.drop i).take k) := by subst hk; exact bytes_sub h i _ c off' ho hik hkc hc
theorem drop_getD (l : List Nat) (i k t : Nat) (h : t < k) : ((l.drop i).take k).getD t 0 = l.getD (i + t) 0 := by
  simp only [List.getD, List.getElem?_take_of_lt h, List.getElem?_drop]
theorem take_lt {l : List Nat} (h : ∀ i, l.getD i 0 < 256) (i k : Nat) : ∀ t, ((l.drop i).take k).getD t 0 < 256 := fun t => by
  by_cases ht : t < k
  · rw [drop_getD _ _ _ _ ht]; exact h _
  · rw [List.getD, List.getElem?_eq_none (by simp; omega)]; decide
/-- The sections so far. -/
def Told (W : World) (bl : Nat) (D : List Bx.Sec) (A : List Value) : Prop :=
  ∀ j (h : j < D.length), A[j * 2]? = some (.int .i64 D[j].1) ∧ ∃ v, A[j * 2 + 1]? = some v ∧ Fresh (bl + 1) W (fun W => BytesAt W v D[j].2)
theorem Told.keep {W W' : World} {bl : Nat} {D : List Bx.Sec} {A : List Value} (h : Told W bl D A) (hb : Below W.heap.size W W') : Told W' bl D A := fun j hj => by
  obtain ⟨h1, v, h2, h3⟩ := h j hj
  exact ⟨h1, v, h2, h3.keep hb⟩
theorem Told.snoc {W : World} {bl : Nat} {D : List Bx.Sec} {A : List Value} (h : Told W bl D A) (s : Bx.Sec) (v : Value) (hA : D.length * 2 + 1 < A.length) (hv : Fresh (bl + 1) W (fun W => BytesAt W v s.2)) :
    Told ((W.setCell ⟨bl, D.length * 2, none⟩ (.int .i64 s.1)).setCell ⟨bl, D.length * 2 + 1, none⟩ v) bl (D ++ [s]) ((A.set (D.length * 2) (.int .i64 s.1)).set (D.length * 2 + 1) v) := fun j hj => by
  have hup : ∀ {P : World → Prop}, Fresh (bl + 1) W P → Fresh (bl + 1) ((W.setCell ⟨bl, D.length * 2, none⟩ (.int .i64 s.1)).setCell ⟨bl, D.length * 2 + 1, none⟩ v) P := fun hp => (hp.setOld bl _ _ (by omega)).setOld bl _ _ (by omega)
  by_cases hjd : j < D.length
  · obtain ⟨h1, w, h2, h3⟩ := h j hjd
    rw [List.getElem_append_left hjd]
    refine ⟨?_, w, ?_, hup h3⟩
    · rw [List.getElem?_set_ne (by omega), List.getElem?_set_ne (by omega)]; exact h1
    · rw [List.getElem?_set_ne (by omega), List.getElem?_set_ne (by omega)]; exact h2
  · obtain rfl : j = D.length := by simp at hj; omega
    rw [List.getElem_append_right (Nat.le_refl _)]
    simp only [Nat.sub_self, List.getElem_cons_zero]
    refine ⟨?_, v, ?_, hup hv⟩
    · rw [List.getElem?_set_ne (by omega), List.getElem?_set]; simp; omega
    · rw [List.getElem?_set]; simp; omega
theorem told_secs {W : World} {B bl : Nat} {D : List Bx.Sec} {A : List Value} (hblk : Blk W bl A 42) (hB : B ≤ bl) (h : Told W bl D A) (hm : D.length ≤ maxLen) : Fresh B W (fun W => SecsAt W (.slice (some ⟨bl, 0, none⟩) D.length D.length) D) := fun w'' hw => by
  have hb2 : Blk w'' bl A 42 := by
    have hlt := hblk.lt
    unfold Blk at *
    rw [hw bl hB hlt]; exact hblk
  refine ⟨_, _, rfl, Nat.le_refl _, hm, (fun h => by cases h), ?_⟩
  refine Or.inr ⟨bl, 0, rfl, fun j hj => ?_⟩
  obtain ⟨h1, v, h2, h3⟩ := h j hj
  exact ⟨by rw [Nat.zero_add]; exact hb2.cell h1, v, by rw [Nat.zero_add]; exact hb2.cell h2, h3 w'' fun k hk hl => hw k (by omega) hl⟩
theorem Try.info42 : (Try.prog.info? 42).map (fun i => (i.zero, i.size, i.bytes)) = some (some (.agg #[.int .i64 0, .slice none 0 0]), 2, 32) := by kernel_rfl
set_option maxHeartbeats 2000000 in
theorem bcut_any (a : Option Addr) (m cap n : Nat) (b : List Nat) (W : World) (hm : m = b.length) (h : BytesAt W (.slice a m cap) b) (hb : ∀ i, b.getD i 0 < 256) (hn : n ≤ 255) :
    Calls Try.prog 24 #[.slice a m cap, .int .i64 n] W fun e W' => Below W.heap.size W W' ∧ ((cutO b n = none ∧ e = .returned (.tuple #[.slice none 0 0, .bool false])) ∨
      ∃ v L, cutO b n = some L ∧ e = .returned (.tuple #[v, .bool true]) ∧ Fresh W.heap.size W' (fun W => SecsAt W v L)) := by
  obtain ⟨i0, hi, hz0, hz1, hz2⟩ := info_parts Try.info42
  obtain ⟨a', cap', e1, hcap, hcm, hnil, _⟩ := SlAt.open h
  simp only [Value.slice.injEq] at e1
  obtain ⟨rfl, hmb, rfl⟩ := e1
  rw [← hm] at hcap hnil
  have HM := hid hm
  have HA := hid h
  have HB := hid hb
  unfold maxLen at hcm
  clear hmb hm h hb
  by_cases hc : n ≤ 8 ∧ 9 + 7 * n ≤ m ∧ m ≤ 100000
  · have HO := hid (show cutO b n = Bx.cutL b n 6 (9 + 7 * n) by unfold cutO; rw [if_pos (by rw [← HM.out]; exact hc)])
    generalize cutO b n = o at *
    obtain ⟨hc1, hc2, hc3⟩ := hc
    obtain ⟨bb, off, rfl⟩ : ∃ bb off, a = some ⟨bb, off, none⟩ := by
      obtain ⟨b', off, e, _⟩ := (SlAt.row HA.out).2.get (i := 0) (by omega)
      exact ⟨b', off, e⟩
    have mk1 : ∀ W : World, (Instr.makeSlice 22 (.int .i64 (n : Int)) (.int .i64 (n : Int))).run Try.prog W = _ := fun W => run_make W 22 42 i0 _ Try.underlying22 hi hz0 .i64 .i64 n n (by omega) (by omega) (by rw [hz2]; omega) (by omega)
    rw [hz1] at mk1
    by_cases h9 : cap = 9 + 7 * n
    case' pos =>
      have h9a : cap - (9 + 7 * n) = 0 := by omega
      have h9b : cap ≤ 9 + 7 * n := by omega
      clear h9
    all_goals
      go_enter Try.func24, Try.ntmps24
      go_upto_region 4 with (go_at_call 26; refine (hsize_any n _ (by omega)).mono ?_; rintro e w' ⟨rfl, hww⟩; have hww' := hww.symm; subst hww')
      have hmx : 9 + 7 * n ≤ cap := by omega
      go_cut [7, 8] (fun s7 s8 wx => s7 = .slice (some ⟨bb, off + 6, none⟩) (3 + 7 * n) (cap - 6) ∧ (∃ o8 c8, s8 = .slice (some ⟨bb, o8, none⟩) (m - (9 + 7 * n)) c8 ∧ c8 ≤ cap ∧ Hid (BytesAt W (.slice (some ⟨bb, o8, none⟩) (m - (9 + 7 * n)) c8) (b.drop (9 + 7 * n)))) ∧ Hid (Below W.heap.size W wx))
      case first =>
        go_quiet (fail)
        go_wp2_with fail
        all_goals
          go_meet
          refine ⟨by congr 1; omega, ⟨_, _, rfl, by omega, ?_⟩, below_drawn (Below.refl _ _) _⟩
          have hdt : (b.drop (9 + 7 * n)).take (m - (9 + 7 * n)) = b.drop (9 + 7 * n) := List.take_of_length_le (by rw [List.length_drop, ← HM.out]; exact Nat.le_refl _)
          rw [← hdt]
          first
            | exact bytes_sub' HA.out (9 + 7 * n) _ _ _ _ rfl (by omega) (by omega) (by omega) (by unfold maxLen; omega)
            | (have hm9 : m = 9 + 7 * n := by omega
               have h0 : m - (9 + 7 * n) = 0 := by omega
               rw [h0, List.take_zero]
               exact ⟨_, _, rfl, Nat.zero_le _, by unfold maxLen; omega, (fun h => by cases h), Or.inl rfl⟩)
      case rest =>
        obtain ⟨rfl, ⟨o8, c8, rfl, hc8, HB8⟩, HBW⟩ := hcut
        go_wp2
        obtain ⟨w3, hw3⟩ : ∃ w3, w3 = wc.alloc (.cells (madeCells #[.int .i64 0, .slice none 0 0] (n * 2)) 42) := ⟨_, rfl⟩
        rw [← hw3]
        have HZ3 := hid (show w3.heap.size = wc.heap.size + 1 by rw [hw3]; simp)
        have hwz := HBW.out.size
        have HB3 := hid (show Below W.heap.size W w3 by rw [hw3]; exact HBW.out.alloc hwz _)
        have BK3 := hid (show Blk w3 wc.heap.size (madeCells #[.int .i64 0, .slice none 0 0] (n * 2)).toList 42 by rw [hw3]; exact Blk.new' rfl rfl)
        have HL3 := hid (show (madeCells #[.int .i64 0, .slice none 0 0] (n * 2)).toList.length = n * 2 by simp [madeCells])
        generalize (madeCells #[.int .i64 0, .slice none 0 0] (n * 2)).toList = A0 at *
        obtain ⟨bl, hbl⟩ : ∃ bl, bl = wc.heap.size := ⟨_, rfl⟩
        rw [← hbl] at BK3 HZ3 hwz ⊢
        clear hw3 HBW mk1 hbl hnil
        go_loopw [8, 38] (fun s8 s38 wr => ∃ (i q o8 c8 : Nat) (D : List Bx.Sec) (A : List Value), i ≤ n ∧ s38 = .int .i64 i ∧ q ≤ m ∧ s8 = .slice (some ⟨bb, o8, none⟩) (m - q) c8 ∧ c8 ≤ cap ∧ Hid (D.length = i ∧ A.length = n * 2) ∧
          Hid (BytesAt W (.slice (some ⟨bb, o8, none⟩) (m - q) c8) (b.drop q)) ∧ Hid (Blk wr bl A 42) ∧ Hid (Told wr bl D A) ∧ Hid (Bx.cutL b n 6 (9 + 7 * n) = (Bx.cutL b (n - i) (6 + 7 * i) q).map (D ++ ·)) ∧ Hid (Below W.heap.size W wr)) (fun _ s38 _ => n - (intOf s38).toNat)
        case atStart => exact ⟨0, 9 + 7 * n, o8, c8, [], A0, by omega, rfl, by omega, rfl, hc8, hid ⟨rfl, HL3.out⟩, HB8, BK3, hid (fun j hj => absurd hj (Nat.not_lt_zero _)), hid (by simp), HB3⟩
        case round =>
          obtain ⟨i, q, o8, c8, D, A, hin, rfl, hqm, rfl, hc8, HDA, HB8, BK, HT, HC, HBW⟩ := hrel
          by_cases hlt : i < n
          · have hmc : m - q ≤ c8 := by
              obtain ⟨a', c', e, h1, _⟩ := id HB8.out
              rw [List.length_drop, ← HM.out] at e h1
              simp only [Value.slice.injEq] at e
              omega
            have hcx : i * 7 < cap - 6 := by omega
            have hcy : 1 < cap - 6 - i * 7 := by omega
            have hln : ((b.drop (6 + 7 * i + 1)).take (2 + 7 * n - 7 * i)).length = 2 + 7 * n - 7 * i := by rw [List.length_take, List.length_drop, ← HM.out]; omega
            have E0 := hid (drop_getD b (6 + 7 * i + 1) (2 + 7 * n - 7 * i) 0 (by omega))
            have E1 := hid (drop_getD b (6 + 7 * i + 1) (2 + 7 * n - 7 * i) 1 (by omega))
            have E2 := hid (drop_getD b (6 + 7 * i + 1) (2 + 7 * n - 7 * i) 2 (by omega))
            have T3 := hid (fun v W (h : BytesAt W v ((b.drop (6 + 7 * i + 1)).take (2 + 7 * n - 7 * i))) => by
              have := three_any v _ W h (by rw [hln]; omega) (take_lt HB.out _ _)
              rw [E0.out, E1.out, E2.out] at this; exact this)
            obtain ⟨z, hz⟩ : ∃ z, z = Bx.val3 (b.getD (6 + 7 * i + 1 + 0) 0) (b.getD (6 + 7 * i + 1 + 1) 0) (b.getD (6 + 7 * i + 1 + 2) 0) := ⟨_, rfl⟩
            rw [← hz] at T3
            have hstep : Bx.cutL b (n - i) (6 + 7 * i) q = if z + q ≤ m then (Bx.cutL b (n - (i + 1)) (6 + 7 * (i + 1)) (q + z)).map fun L => (((b.getD (6 + 7 * i) 0 : Nat) : Int), (b.drop q).take z) :: L else none := by
              rw [show n - i = (n - (i + 1)) + 1 by omega, Bx.cutL, hz, HM.out]; rfl
            have HST := hid hstep
            have hzl : z < 16777216 := by
              have h0 := HB.out (6 + 7 * i + 1 + 0); have h1 := HB.out (6 + 7 * i + 1 + 1); have h2 := HB.out (6 + 7 * i + 1 + 2)
              rw [hz]; unfold Bx.val3; omega
            have hltI : (i : Int) < n := by omega
            have HAW := hid (HA.out.keep HBW.out)
            clear hstep hz hln E0 E1 E2
            go_upto_region 11 with (go_at_call 28; refine (T3.out _ _ (bytes_sub' HAW.out (6 + 7 * i + 1) (2 + 7 * n - 7 * i) _ _ _ (by omega) (by omega) (by omega) (by omega) (by unfold maxLen; omega))).mono ?_; rintro e w4 ⟨rfl, q4, rfl⟩)
            obtain ⟨w4, hw4⟩ : ∃ w4, w4 = wr.drewN q4 := ⟨_, rfl⟩
            rw [← hw4]
            have hb4 : Below wr.heap.size wr w4 := by rw [hw4]; exact below_drawn (Below.refl _ _) _
            have HBW4 := hid (below_then HBW.out hb4)
            have BK4 := hid (BK.out.keep hb4)
            have HT4 := hid (HT.out.keep hb4)
            have HA4 := hid (HAW.out.keep hb4)
            clear hw4 hb4 BK HT HAW HBW
            by_cases hzq : z ≤ m - q
            · have hst := HST.out
              rw [if_pos (by omega)] at hst
              have HC2 := hid (show Bx.cutL b n 6 (9 + 7 * n) = (Bx.cutL b (n - (i + 1)) (6 + 7 * (i + 1)) (q + z)).map ((D ++ [(((b.getD (6 + 7 * i) 0 : Nat) : Int), (b.drop q).take z)]) ++ ·) by
                rw [HC.out, hst, Option.map_map]; congr 1; funext L; simp)
              have HSUB := hid (show BytesAt W (.slice (some ⟨bb, o8, none⟩) z c8) ((b.drop q).take z) by
                have := bytes_sub HB8.out 0 z c8 o8 rfl (by omega) (by omega) (by unfold maxLen; omega)
                rwa [List.drop_zero] at this)
              obtain ⟨cr, co, ce, hce⟩ := (SlAt.row HA4.out).2.get (i := 6 + 7 * i) (by omega)
              simp only [Option.some.injEq, Addr.mk.injEq, and_true] at ce
              obtain ⟨rfl, rfl⟩ := ce
              have c0 := hce (6 + 7 * i) (by omega)
              have hx8 := HB.out (6 + 7 * i)
              obtain ⟨x, hx⟩ : ∃ x, x = b.getD (6 + 7 * i) 0 := ⟨_, rfl⟩
              rw [← hx] at c0 hx8 HC2
              simp only [u8v] at c0
              have c1 : w4.cell? ⟨bb, off + 6 + i * 7, none⟩ = some (.int .u8 (x : Nat)) := by rw [← c0]; congr 2; omega
              clear hst hce c0 hx HST HC
              go_upto_region 13 with fail
              have hal : i * 2 + 1 < A.length := by rw [HDA.out.2]; omega
              have cA0 := BK4.out.cell (i := i * 2) (v := A[i * 2]) (List.getElem?_eq_getElem (by omega))
              have cA1 := BK4.out.cell (i := i * 2 + 1) (v := A[i * 2 + 1]) (List.getElem?_eq_getElem (by omega))
              have fA0 := BK4.out.free (i * 2)
              have fA1 := BK4.out.free (i * 2 + 1)
              have hblt := BK4.out.lt
              have hlz : ((b.drop q).take z).length = z := by rw [List.length_take, List.length_drop, ← HM.out]; omega
              have CL := hid (fun W' (hW : Below W.heap.size W W') => (bclone_any _ _ W' (HSUB.out.keep hW) (by omega)).mono (R' := fun e W'' => ∃ a5 c5, e = .returned (.slice a5 z c5) ∧ Below W'.heap.size W' W'' ∧ Fresh W'.heap.size W'' (fun W => BytesAt W (.slice a5 z c5) ((b.drop q).take z))) (by
                rintro e W'' ⟨v, rfl, h1, h2⟩
                obtain ⟨a5, c5, rfl, _⟩ := SlAt.open h2.it
                rw [hlz] at h2 ⊢
                exact ⟨a5, c5, rfl, h1, h2⟩))
              generalize A[i * 2] = A1 at cA0
              generalize A[i * 2 + 1] = A2 at cA1
              go_region_with ((go_at_call 29; refine (CL.out _ HBW4.out.drew).mono ?_; rintro e w5 ⟨a5, c5, rfl, hB5', hF5⟩; have hB5 := below_then (Below.refl w4.heap.size w4).drew hB5'; have k1 := below_keep hB5 c1; have k2 := below_keep hB5 cA0; have k3 := below_keep hB5 cA1; have k4 := (BK4.out.keep hB5).free (i * 2); have k5 := (BK4.out.keep hB5).free (i * 2 + 1)))
              all_goals
                try rw [show IntKind.i64.wrap (x : Int) = x from IntWalk.i64_in _ (by omega)]
                obtain ⟨w6, hw6⟩ : ∃ w6, w6 = (w5.setCell ⟨bl, i * 2, none⟩ (.int .i64 (x : Nat))).setCell ⟨bl, i * 2 + 1, none⟩ (.slice a5 z c5) := ⟨_, rfl⟩
                rw [← hw6]
                have hdi := HDA.out.1
                have HT6 := hid (show Told w6 bl (D ++ [(((x : Nat) : Int), (b.drop q).take z)]) ((A.set (i * 2) (.int .i64 (x : Nat))).set (i * 2 + 1) (.slice a5 z c5)) by
                  rw [hw6]
                  have := (HT4.out.keep hB5).snoc (((x : Nat) : Int), (b.drop q).take z) (.slice a5 z c5) (by rw [hdi]; exact hal) (hF5.mono (by show bl + 1 ≤ w4.heap.size; omega))
                  rw [hdi] at this; exact this)
                have BK6 := hid (show Blk w6 bl ((A.set (i * 2) (.int .i64 (x : Nat))).set (i * 2 + 1) (.slice a5 z c5)) 42 by
                  rw [hw6]; exact ((BK4.out.keep hB5).set _ _).set _ _)
                have HBW6 := hid (show Below W.heap.size W w6 by rw [hw6]; exact ((below_then HBW4.out hB5).setCell hwz _).setCell hwz _)
                have HSL := hid (show (b.drop (q + z)) = (b.drop q).drop z by rw [List.drop_drop])
                have HLD := hid (show ((D ++ [(((x : Nat) : Int), (b.drop q).take z)]).length = i + 1 ∧ ((A.set (i * 2) (.int .i64 (x : Nat))).set (i * 2 + 1) (.slice a5 z c5)).length = n * 2) by
                  refine ⟨by rw [List.length_append, hdi]; rfl, by rw [List.length_set, List.length_set]; exact HDA.out.2⟩)
                clear hw6 hdi k1 k2 k3 k4 k5 cA0 cA1 fA0 fA1 c1 hB5 hB5' hF5 CL
                have hdt : ((b.drop q).drop z).take (m - q - z) = (b.drop q).drop z := List.take_of_length_le (by rw [List.length_drop, List.length_drop, ← HM.out]; exact Nat.le_refl _)
                by_cases hcz : z < c8
                · have HB8' := hid (show BytesAt W (.slice (some ⟨bb, o8 + z, none⟩) (m - (q + z)) (c8 - z)) (b.drop (q + z)) by
                    rw [HSL.out, ← hdt]
                    exact bytes_sub' HB8.out z (m - q - z) (c8 - z) (o8 + z) _ (by omega) rfl (by omega) (by omega) (by unfold maxLen; omega))
                  clear hdt
                  go_wp2
                  go_roundw
                  case rel => exact ⟨i + 1, q + z, o8 + z, c8 - z, D ++ [(((x : Nat) : Int), (b.drop q).take z)], _, by omega, by go_num, by omega, by rw [Nat.sub_sub], by omega, HLD, HB8', BK6, HT6, HC2, HBW6⟩
                  case measure => simp [intOf]; omega
                · have hcz1 : c8 - z = 0 := by omega
                  have hcz2 : c8 ≤ z := by omega
                  have HB8' := hid (show BytesAt W (.slice (some ⟨bb, o8, none⟩) (m - (q + z)) 0) (b.drop (q + z)) by
                    have e0 : m - (q + z) = 0 := by omega
                    have e1 : b.drop (q + z) = [] := List.drop_of_length_le (by rw [← HM.out]; omega)
                    rw [e0, e1]
                    exact ⟨_, _, rfl, Nat.zero_le _, by unfold maxLen; omega, (fun h => by cases h), Or.inl rfl⟩)
                  clear hdt hcz
                  go_wp2
                  go_roundw
                  case rel => exact ⟨i + 1, q + z, o8, 0, D ++ [(((x : Nat) : Int), (b.drop q).take z)], _, by omega, by go_num, by omega, by rw [Nat.sub_sub], by omega, HLD, HB8', BK6, HT6, HC2, HBW6⟩
                  case measure => simp [intOf]; omega
            · have hst := HST.out
              rw [if_neg (by omega)] at hst
              have HF := hid (show o = none by rw [HO.out, HC.out, hst]; rfl)
              have hzq' : m - q < z := by omega
              clear hst
              go_wp2
              go_ret2
              exact ⟨HBW4.out, Or.inl ⟨HF.out, rfl⟩⟩
          · obtain rfl : i = n := by omega
            have hfin := HC.out
            rw [Nat.sub_self, Bx.cutL, Option.map_some, List.append_nil] at hfin
            have HF := hid (show o = some D by rw [HO.out, hfin])
            have TS := hid (told_secs BK.out hwz HT.out (by have := HDA.out.1; unfold maxLen; omega))
            have HDI := hid HDA.out.1
            clear hfin
            go_wp2
            go_ret2
            refine ⟨HBW.out, Or.inr ⟨_, D, HF.out, rfl, ?_⟩⟩
            have := TS.out
            rw [HDI.out] at this
            exact this
  · have HO := hid (show cutO b n = none by unfold cutO; rw [if_neg (by rw [← HM.out]; exact hc)])
    have hmI : m ≤ 9223372036854775807 := by omega
    rcases (show 8 < n ∨ (n ≤ 8 ∧ m < 9 + 7 * n) ∨ (n ≤ 8 ∧ 9 + 7 * n ≤ m ∧ 100000 < m) by omega) with h1 | ⟨h1, h2⟩ | ⟨h1, h2, h3⟩
    all_goals
      clear hc
      go_enter Try.func24, Try.ntmps24
      go_wp2_with (go_at_call 26; refine (hsize_any n _ (by omega)).mono ?_; rintro e w' ⟨rfl, hww⟩; have hww' := hww.symm; subst hww')
      go_ret2
      exact ⟨Below.refl _ _, Or.inl ⟨HO.out, rfl⟩⟩
end Go.Proofs.Ytgbhnkiballeeaa
