/- The document's own dictionary: all bytes. -/
import Derived.Test.YtdahfejecbcakaaFrRef
namespace Go.Proofs.Ytdahfejecbcakaa
set_option linter.unusedVariables false
set_option linter.unusedSimpArgs false
set_option maxRecDepth 100000
open Go.ChangeShapes Go.WideShapes Go.ChangeAt Go.RowKit

/-- The world behind a text's conversion to bytes, and the room of what it makes. -/
def cvC (w : World) (l : List UInt8) : Nat := grownCap w (⟨l.toArray⟩ : ByteArray).size 0 5
def cvW (w : World) (l : List UInt8) : World := w.drew.alloc (.cells (bytesRow ⟨l.toArray⟩ (cvC w l)) 5 ((bytesRow ⟨l.toArray⟩ (cvC w l)).size, (bytesRow ⟨l.toArray⟩ (cvC w l)).size + 1))
theorem conv_text (w : World) (l : List UInt8) : (convert 9 35 (str l)).run Try.prog w = .ok (.slice (some ⟨w.heap.size, 0, none⟩) l.length (cvC w l)) (cvW w l) := by
  have := run_bytes_of_string (P := Try.prog) w 9 35 5 ⟨l.toArray⟩ Try.underlying9 Try.underlying35 Try.underlying5
  rw [this, size_of_text]
  unfold cvW cvC
  rw [size_of_text]
theorem cv_below (w : World) (l : List UInt8) : Below w.heap.size w (cvW w l) := ((Below.refl _ _).drew).alloc (Nat.le_refl _) _
theorem own_cv {w : World} {b n : Nat} {t : TypeId} {v : Value} {xs : List Value} (h : w.ownsRow b t 1 v n xs) (l : List UInt8) : (cvW w l).ownsRow b t 1 v n xs := World.ownsRow.alloc (show w.drew.ownsRow b t 1 v n xs from h) _
theorem cv_row (w : World) (l : List UInt8) : RowAt (cvW w l) (some ⟨w.heap.size, 0, none⟩) l.length fun j => u8v ((Fr.nats l).getD j 0) := by
  refine Or.inr ⟨_, _, rfl, fun j hj => ?_⟩
  rw [Nat.zero_add]
  show (w.drew.alloc _).cell? ⟨w.drew.heap.size, j, none⟩ = _
  rw [cell_new]
  unfold bytesRow Fr.nats
  rw [Array.getElem?_append_left (by simpa using hj)]
  simp [u8v, List.getD, hj]
theorem nats_range (l : List UInt8) : (List.range l.length).map (fun j => u8v ((Fr.nats l)[j]?.getD 0)) = (Fr.nats l).map u8v := by
  refine List.ext_getElem (by simp [Fr.nats]) fun i h1 h2 => ?_
  have h3 : i < (Fr.nats l).length := by simpa using h2
  simp [h3]
set_option maxHeartbeats 1000000 in
theorem rbytes_any (v0 : Value) (L : List (List UInt8)) (W : World) (h : TextsAt W v0 L) (hm : Fr.May L) :
    Calls Try.prog 22 #[v0] W fun e W' => ∃ v, e = .returned v ∧ Below W.heap.size W W' ∧ W'.ownsRow W.heap.size 5 1 v (Fr.byt L L.length).length ((Fr.byt L L.length).map u8v) := by
  obtain ⟨i0, hi, hz0, hz1, hz2⟩ := info_parts Try.info5
  obtain ⟨a, cap, rfl, hc1, hc2, hc3, hR⟩ := h.open
  obtain ⟨n, hn⟩ : ∃ n, n = L.length := ⟨_, rfl⟩
  have hn3 : n ≤ 300 := by rw [hn]; exact hm.1
  have HM := hid (fun i (hi : i < n) => (hm.2 i (by omega)).2.1)
  have HL := hid (fun k (hk : k ≤ n) => Fr.byt_len hm k (by omega))
  have H0 := hid (show Fr.byt L 0 = [n / 256 % 256, n % 256] by rw [hn]; rfl)
  rw [← hn] at hR ⊢
  have HR := hid hR
  have hw1 : IntKind.u8.wrap ((n : Int) / 256) = ((n / 256 % 256 : Nat) : Int) := by rw [IntKind.wrap_u8']; omega
  have hw2 : IntKind.u8.wrap (n : Int) = ((n % 256 : Nat) : Int) := by rw [IntKind.wrap_u8']; omega
  have SH := hid (fun a b W ha hb => rshared_any a b W ha hb)
  clear h hm hc1 hc3 hn
  go_enter Try.func22, Try.ntmps22
  go_wp2
  go_loopw [4, 3, 5] (fun s4 s3 s5 wr => ∃ i : Nat, i ≤ n ∧ s4 = .int .i64 i ∧ Hid (wr.ownsRow W.heap.size 5 1 s3 (Fr.byt L i).length ((Fr.byt L i).map u8v)) ∧ Hid (Below W.heap.size W wr)) (fun s4 _ _ _ => n - (intOf s4).toNat)
  case atStart =>
    refine ⟨0, by omega, rfl, ?_, ((Below.refl _ _).alloc (Nat.le_refl _) _)⟩
    rw [H0.out]
    exact own_built W 5 #[.int .u8 ((n : Int) / 256 % 256), .int .u8 ((n : Int) % 256)] 2 rfl (by unfold maxLen; omega) (by simp [u8v])
  case round =>
    obtain ⟨i, hin, rfl, OO, HB⟩ := hrel
    have hzr := HB.out.size
    by_cases hlt : i < n
    · obtain ⟨b, off, rfl, hc⟩ := HR.out.get hlt
      have c1W := hc i hlt
      have c1 := below_keep HB.out c1W
      have hxl := HM.out i hlt
      have hbl := HL.out i (by omega)
      have HX := hid (show Fr.at_ L i = L.getD i [] from rfl)
      have hks := Fr.shAt_le L i
      unfold Fr.at_ at hxl
      obtain ⟨x, hx⟩ : ∃ x, x = L.getD i [] := ⟨_, rfl⟩
      rw [← hx] at c1W c1 hxl HX
      rw [show Fr.at_ L i = x from HX.out] at hks
      rcases Nat.eq_zero_or_pos (i % 4) with h4 | h4
      · have hm4 : Int.tmod (i : Int) 4 = 0 := by rw [Int.tmod_eq_emod_of_nonneg (by omega)]; omega
        have HK := hid (show (0 : Nat) = Fr.shAt L i by unfold Fr.shAt; rw [if_pos h4])
        obtain ⟨wc, hwc⟩ : ∃ wc, wc = wr := ⟨_, rfl⟩
        subst hwc
        have OC := OO
        have HBC := HB
        have hzc := hzr
        clear hc hx hks h4
        obtain ⟨x2, hx2⟩ : ∃ y, y = x.drop 0 := ⟨_, rfl⟩
        have ed : (⟨x.toArray⟩ : ByteArray).extract 0 x.length = ⟨x2.toArray⟩ := by rw [hx2]; exact ba_drop x 0
        have hl2 : x2.length + 0 = x.length := by rw [hx2, List.length_drop]; omega
        have hwm : IntKind.u8.wrap (x.length : Int) = (x.length : Int) := by rw [IntKind.wrap_u8']; omega
        have CV := fun W => conv_text W x2
        have HE := hid (show Fr.enc L i = [0, x.length] ++ Fr.nats x2 by unfold Fr.enc; rw [← HK.out, show Fr.at_ L i = x from HX.out, ← hx2]; rfl)
        have hxi : (x.length : Int) - 0 = ((x.length : Nat) : Int) := by omega
        have HXI := hid hxi
        clear hx2 hxi
        go_wp2_with (at_builtin; refine wpList_append_row rfl (.tmp 33) (.tmp 44) 35 rfl W.heap.size 5 i0 _ 1 Try.underlying35 hi hz0 hz1 hz2 rfl _ _ _ rfl (OC.out.alloc _) (some ⟨wc.heap.size, 0, none⟩) 2 2 (fun j => u8v ([0, x.length].getD j 0)) rfl ?nil ?row ?one ?b1 ?b2 ?base ?_)
        case nil => exact fun h => by cases h
        case row =>
          refine Or.inr ⟨_, _, rfl, fun j hj => ?_⟩
          rw [Nat.zero_add, cell_new]
          rcases (show j = 0 ∨ j = 1 by omega) with rfl | rfl
          · rfl
          · exact congrArg (fun z => some (Value.int .u8 z)) (by simp)
        case one => intro j _; rfl
        case b1 => unfold maxLen; omega
        case b2 => omega
        case base => simp; omega
        intro v1 w1 hown hgr
        have hb1 : Below W.heap.size W w1 := (HBC.out.alloc hzc _).grown hgr (by simp; omega) (fun g hg => (OC.out.lt g hg).1)
        have hown' : w1.ownsRow W.heap.size 5 1 v1 ((Fr.byt L i).length + 2) ((Fr.byt L i ++ [0, x.length]).map u8v) := by
          rw [List.map_append]; exact hown
        have O1 := hid hown'
        have HB1 := hid hb1
        have hz1' := hb1.size
        have c3 := below_keep hb1 c1W
        clear hown hown' hgr hb1
        go_wp2_with (at_builtin; refine wpList_append_row rfl (.tmp 46) (.tmp 53) 35 rfl W.heap.size 5 i0 _ 1 Try.underlying35 hi hz0 hz1 hz2 rfl v1 _ _ rfl (own_cv O1.out x2) (some ⟨w1.heap.size, 0, none⟩) x2.length _ (fun j => u8v ((Fr.nats x2).getD j 0)) rfl ?nil ?row ?one ?b1 ?b2 ?base ?_)
        case nil => exact fun h => by cases h
        case row => exact cv_row w1 x2
        case one => intro j _; rfl
        case b1 => unfold maxLen; omega
        case b2 => omega
        case base => exact Nat.le_trans hz1' (cv_below w1 x2).size
        intro v2 w2 hown2 hgr2
        have hb2 : Below W.heap.size W w2 := (below_then HB1.out (cv_below w1 x2)).grown hgr2 (Nat.le_trans hz1' (cv_below w1 x2).size) (fun g hg => (O1.out.lt g hg).1)
        rw [nats_range x2] at hown2
        have hown3 : w2.ownsRow W.heap.size 5 1 v2 ((Fr.byt L i).length + 2 + x2.length) ((Fr.byt L i ++ Fr.enc L i).map u8v) := by
          rw [HE.out]; simpa using hown2
        have O2 := hid hown3
        have HB2 := hid hb2
        clear hown2 hown3 hgr2 hb2
        go_wp2
        go_roundw
        case rel => exact ⟨i + 1, by omega, by go_num, own_len (O2.out) (by show _ = (Fr.byt L i ++ Fr.enc L i).length; rw [List.length_append, HE.out, List.length_append]; unfold Fr.nats; rw [List.length_map]; simp only [List.length_cons, List.length_nil]; omega), HB2.out⟩
        case measure => simp [intOf]; omega
      · have hm4 : Int.tmod (i : Int) 4 = ((i % 4 : Nat) : Int) := by rw [Int.tmod_eq_emod_of_nonneg (by omega)]; omega
        have hm5 : (((i % 4 : Nat) : Int) == 0) = false := beq_eq_false_iff_ne.2 (by omega)
        have hi0 : 0 < i := by omega
        have c2 := below_keep HB.out (hc (i - 1) (by omega))
        have hyl := HM.out (i - 1) (by omega)
        unfold Fr.at_ at hyl
        have HY := hid (show Fr.at_ L (i - 1) = L.getD (i - 1) [] from rfl)
        obtain ⟨y, hy⟩ : ∃ y, y = L.getD (i - 1) [] := ⟨_, rfl⟩
        rw [← hy] at c2 hyl HY
        have SS := hid (fun W => SH.out y x W (by omega) (by omega))
        have hk0 : Fr.shAt L i = Fr.sh y x := by unfold Fr.shAt; rw [if_neg (by omega), show Fr.at_ L i = x from HX.out, show Fr.at_ L (i - 1) = y from HY.out]
        rw [hk0] at hks
        obtain ⟨k, hk⟩ : ∃ k, k = Fr.sh y x := ⟨_, rfl⟩
        have HK := hid (show k = Fr.shAt L i by rw [hk0, hk])
        rw [← hk] at SS hks
        clear hc hx hy hk hk0 h4
        go_wp2
        go_quiet (first | (go_at_call 35; exact drawn_some fun W hW => SS.out W))
        obtain ⟨wc, hq⟩ : ∃ wc, wc = wr.drewN nq := ⟨_, rfl⟩
        rw [← hq]
        have OC := hid (show wc.ownsRow W.heap.size 5 1 u3 (Fr.byt L i).length ((Fr.byt L i).map u8v) by rw [hq]; exact OO.out)
        have HBC := hid (show Below W.heap.size W wc by rw [hq]; exact below_drawn HB.out nq)
        have hzc := HBC.out.size
        have c1 : wc.cell? ⟨b, off + i, none⟩ = some (str x) := by rw [hq]; exact c1
        clear hq c2
        obtain ⟨x2, hx2⟩ : ∃ y, y = x.drop k := ⟨_, rfl⟩
        have ed : (⟨x.toArray⟩ : ByteArray).extract k x.length = ⟨x2.toArray⟩ := by rw [hx2]; exact ba_drop x k
        have hl2 : x2.length + k = x.length := by rw [hx2, List.length_drop]; omega
        have hwk : IntKind.u8.wrap (k : Int) = (k : Int) := by rw [IntKind.wrap_u8']; omega
        have hwm : IntKind.u8.wrap ((x.length : Int) - k) = (x.length : Int) - k := by rw [IntKind.wrap_u8']; omega
        have hwn : IntKind.i64.wrap ((x.length : Int) - k) = (x.length : Int) - k := by rw [IntKind.wrap_i64]; omega
        have CV := fun W => conv_text W x2
        have HE := hid (show Fr.enc L i = [k, x.length - k] ++ Fr.nats x2 by unfold Fr.enc; rw [← HK.out, show Fr.at_ L i = x from HX.out, ← hx2])
        have hxi : (x.length : Int) - k = ((x.length - k : Nat) : Int) := by omega
        have HXI := hid hxi
        clear hx2 hxi
        go_wp2_with (at_builtin; refine wpList_append_row rfl (.tmp 33) (.tmp 44) 35 rfl W.heap.size 5 i0 _ 1 Try.underlying35 hi hz0 hz1 hz2 rfl _ _ _ rfl (OC.out.alloc _) (some ⟨wc.heap.size, 0, none⟩) 2 2 (fun j => u8v ([k, x.length - k].getD j 0)) rfl ?nil ?row ?one ?b1 ?b2 ?base ?_)
        case nil => exact fun h => by cases h
        case row =>
          refine Or.inr ⟨_, _, rfl, fun j hj => ?_⟩
          rw [Nat.zero_add, cell_new]
          rcases (show j = 0 ∨ j = 1 by omega) with rfl | rfl
          · rfl
          · exact congrArg (fun z => some (Value.int .u8 z)) HXI.out
        case one => intro j _; rfl
        case b1 => unfold maxLen; omega
        case b2 => omega
        case base => simp; omega
        intro v1 w1 hown hgr
        have hb1 : Below W.heap.size W w1 := (HBC.out.alloc hzc _).grown hgr (by simp; omega) (fun g hg => (OC.out.lt g hg).1)
        have hown' : w1.ownsRow W.heap.size 5 1 v1 ((Fr.byt L i).length + 2) ((Fr.byt L i ++ [k, x.length - k]).map u8v) := by
          rw [List.map_append]; exact hown
        have O1 := hid hown'
        have HB1 := hid hb1
        have hz1' := hb1.size
        have c3 := below_keep hb1 c1W
        clear hown hown' hgr hb1
        go_wp2_with (at_builtin; refine wpList_append_row rfl (.tmp 46) (.tmp 53) 35 rfl W.heap.size 5 i0 _ 1 Try.underlying35 hi hz0 hz1 hz2 rfl v1 _ _ rfl (own_cv O1.out x2) (some ⟨w1.heap.size, 0, none⟩) x2.length _ (fun j => u8v ((Fr.nats x2).getD j 0)) rfl ?nil ?row ?one ?b1 ?b2 ?base ?_)
        case nil => exact fun h => by cases h
        case row => exact cv_row w1 x2
        case one => intro j _; rfl
        case b1 => unfold maxLen; omega
        case b2 => omega
        case base => exact Nat.le_trans hz1' (cv_below w1 x2).size
        intro v2 w2 hown2 hgr2
        have hb2 : Below W.heap.size W w2 := (below_then HB1.out (cv_below w1 x2)).grown hgr2 (Nat.le_trans hz1' (cv_below w1 x2).size) (fun g hg => (O1.out.lt g hg).1)
        rw [nats_range x2] at hown2
        have hown3 : w2.ownsRow W.heap.size 5 1 v2 ((Fr.byt L i).length + 2 + x2.length) ((Fr.byt L i ++ Fr.enc L i).map u8v) := by
          rw [HE.out]; simpa using hown2
        have O2 := hid hown3
        have HB2 := hid hb2
        clear hown2 hown3 hgr2 hb2
        go_wp2
        go_roundw
        case rel => exact ⟨i + 1, by omega, by go_num, own_len (O2.out) (by show _ = (Fr.byt L i ++ Fr.enc L i).length; rw [List.length_append, HE.out, List.length_append]; unfold Fr.nats; rw [List.length_map]; simp only [List.length_cons, List.length_nil]; omega), HB2.out⟩
        case measure => simp [intOf]; omega
    · obtain rfl : i = n := by omega
      go_wp2
      go_ret
      exact ⟨_, rfl, HB.out, OO.out⟩
end Go.Proofs.Ytdahfejecbcakaa
