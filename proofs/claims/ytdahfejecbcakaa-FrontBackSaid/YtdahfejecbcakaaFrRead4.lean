/- The document's own dictionary: Read. -/
import Derived.Test.YtdahfejecbcakaaFrRead3
import Derived.Deep.RegionWith
namespace Go.Proofs.Ytdahfejecbcakaa
set_option linter.unusedVariables false
set_option linter.unusedSimpArgs false
set_option maxRecDepth 100000
open Go.ChangeShapes Go.WideShapes Go.ChangeAt Go.RowKit

theorem row_if2 {W : World} {bb off m p k c : Nat} {b : List Nat} (h : RowAt W (some ⟨bb, off, none⟩) m fun j => u8v (b.getD j 0)) (hk : p + k ≤ m) (hc : m ≤ c) : RowAt W (if c = p then some ⟨bb, off, none⟩ else some ⟨bb, off + p, none⟩) k fun j => u8v (b.getD (p + j) 0) := by
  by_cases e : c = p
  · exact Or.inl (by omega)
  · rw [if_neg e]
    exact row_less (row_shift (k := p) h (by omega)) (by omega)
/-- What a row of bytes reads as, in whatever world behind it. -/
theorem rbytes_conv {f : FuncId} {args : Array Value} {w0 w : World} {L : List (List UInt8)} {k : Nat} {S : ByteArray} (hw : Below w0.heap.size w0 w) (hS : S = strOf (Fr.byt L k))
    (h : Calls Try.prog f args w fun e w' => ∃ v, e = .returned v ∧ Below w.heap.size w w' ∧ w'.ownsRow w.heap.size 5 1 v (Fr.byt L k).length ((Fr.byt L k).map u8v)) :
    Calls Try.prog f args w fun e w' => ∃ v, e = .returned v ∧ Below w0.heap.size w0 w' ∧ Below w.heap.size w w' ∧ Hid (∀ w'', Below w'.heap.size w' w'' → (convert 35 9 v).run Try.prog w'' = .ok (.string S) w'') ∧ (convert 35 9 v).run Try.prog w' = .ok (.string S) w' := by
  refine h.mono ?_
  rintro e w' ⟨v, rfl, hb, ho⟩
  have hk : ∀ w'', Below w'.heap.size w' w'' → (convert 35 9 v).run Try.prog w'' = .ok (.string S) w'' := fun w'' hb2 => by
    rw [hS]
    exact conv_row Try.underlying35 Try.underlying5 Try.underlying9 w'' v _ ((byt_at ho).keep hb2)
  exact ⟨v, rfl, below_then hw hb, hb, hk, hk w' (Below.refl _ _)⟩
theorem rread_short (a : Option Addr) (N cap : Nat) (W : World) (hN : N < 2) : Calls Try.prog 24 #[.slice a N cap] W fun e W' => e = .returned (.tuple #[.slice none 0 0, .int .i64 2]) ∧ W = W' := by
  go_enter Try.func24, Try.ntmps24
  go_wp2
  go_ret2
  exact ⟨rfl, rfl⟩
set_option maxHeartbeats 4000000 in
theorem rread_long (a : Option Addr) (N cap n : Nat) (b : List Nat) (W : World) (hN : 2 ≤ N) (hNb : N = b.length) (hNc : N ≤ cap) (hcm : cap ≤ maxLen) (hN3 : N ≤ 140737488351232) (hR : RowAt W a N fun i => u8v (b.getD i 0)) (hb : ∀ i, b.getD i 0 < 256) (hc : n = Fr.cnt b) :
    Calls Try.prog 24 #[.slice a N cap] W fun e W' => Below W.heap.size W W' ∧ ((Fr.res b = none ∧ e = .returned (.tuple #[.slice none 0 0, .int .i64 2])) ∨ ∃ L u, Fr.res b = some L ∧ e = .returned (.tuple #[u, .int .i64 0]) ∧ TextsAt W' u L) := by
  obtain ⟨i0, hi, hz0, hz1, hz2⟩ := info_parts Try.info9
  obtain ⟨bb, off, rfl, hcc⟩ := hR.get (show 0 < N by omega)
  have c0 := hcc 0 (by omega)
  have c1 := hcc 1 (by omega)
  rw [Nat.add_zero] at c0
  have h0 := hb 0
  have h1 := hb 1
  have HR := hid hR
  have HLT := hid hb
  have HNB := hid hNb
  have HB0 := hid (show Fr.st b 0 = some ([], [], 2) from rfl)
  have HNO := hid (fun i (h : Fr.st b (i + 1) = none) (hi : i < n) => show Fr.res b = none by
    unfold Fr.res Fr.rd
    rw [if_neg (by omega), ← hc, Fr.st_none h (by omega)]; rfl)
  have HYES := hid (fun L x p (h : Fr.st b n = some (L, x, p)) => show Fr.res b = if Fr.May L ∧ Fr.byt L L.length = b then some L else none by
    unfold Fr.res Fr.rd
    rw [if_neg (by omega), ← hc, h]; rfl)
  unfold Fr.cnt at hc
  obtain ⟨g0, e0⟩ : ∃ g, g = b.getD 0 0 := ⟨_, rfl⟩
  obtain ⟨g1, e1⟩ : ∃ g, g = b.getD 1 0 := ⟨_, rfl⟩
  rw [← e0] at c0 h0 hc
  rw [← e1] at c1 h1 hc
  have hor := or_256 g0 g1 h0 h1
  rw [← hc] at hor
  have hn6 : n ≤ 65535 := by omega
  unfold u8v at c0 c1
  unfold maxLen at hcm
  clear hcc hR hb e0 e1 hc hNb
  go_enter Try.func24, Try.ntmps24
  go_wp2
  go_region
  go_wp2_with fail
  go_loopw [8, 5, 6, 7] (fun s8 s5 s6 s7 wr => ∃ (i : Nat) (L : List (List UInt8)) (x : List UInt8) (p : Nat), i ≤ n ∧ s8 = .int .i64 i ∧ s6 = .int .i64 p ∧ s7 = str x ∧ p ≤ N ∧ 2 ≤ p ∧ x.length ≤ 510 ∧ Hid (Fr.st b i = some (L, x, p)) ∧ Hid (wr.ownsRow W.heap.size 9 1 s5 i (L.map str)) ∧ Hid (Below W.heap.size W wr)) (fun s8 _ _ _ _ => n - (intOf s8).toNat)
  case atStart => exact ⟨0, [], [], 2, by omega, rfl, rfl, rfl, by omega, by omega, by simp, HB0.out, World.ownsRow_nil _ _ _ _, (Below.refl _ _).drew⟩
  case round =>
    obtain ⟨i, L, x, p, hin, rfl, rfl, rfl, hpN, hp2, hxl, HS, HO, HB⟩ := hrel
    obtain ⟨hLi, _, _⟩ := Fr.st_len HS.out
    by_cases hlt : i < n
    · by_cases hA : N < p + 2
      · have HN1 := hid (HNO.out i (by rw [Fr.st_succ HS.out]; unfold Fr.ent; rw [if_pos (by have := HNB.out; omega)]) hlt)
        have hA2 : (N : Int) - p < 2 := by omega
        go_wp2
        go_ret2
        exact ⟨HB.out, .inl ⟨HN1.out, rfl⟩⟩
      · obtain ⟨b2, o2, e2, hcc⟩ := HR.out.get (show 0 < N by omega)
        simp only [Option.some.injEq, Addr.mk.injEq] at e2
        obtain ⟨rfl, rfl, _⟩ := e2
        have d0 := below_keep HB.out (hcc p (by omega))
        have d1W := hcc (p + 1) (by omega)
        have d1 := below_keep HB.out d1W
        have l0 := HLT.out p
        have l1 := HLT.out (p + 1)
        obtain ⟨k0, e0⟩ : ∃ g, g = b.getD p 0 := ⟨_, rfl⟩
        obtain ⟨k1, e1⟩ : ∃ g, g = b.getD (p + 1) 0 := ⟨_, rfl⟩
        have HK0 := hid e0
        have HK1 := hid e1
        rw [← e0] at d0 l0
        rw [← e1] at d1 d1W l1
        unfold u8v at d0 d1 d1W
        have hA2 : decide ((N : Int) - p < 2) = false := decide_eq_false (by omega)
        clear hcc e0 e1
        by_cases f1 : x.length < k0
        · have HN1 := hid (HNO.out i (by rw [Fr.st_succ HS.out]; unfold Fr.ent; rw [← HK0.out, ← HK1.out, if_pos (by have := HNB.out; omega)]) hlt)
          go_wp2
          go_ret2
          exact ⟨HB.out, .inl ⟨HN1.out, rfl⟩⟩
        · by_cases f2 : N < p + 2 + k1
          · have HN1 := hid (HNO.out i (by rw [Fr.st_succ HS.out]; unfold Fr.ent; rw [← HK0.out, ← HK1.out, if_pos (by have := HNB.out; omega)]) hlt)
            have f4 : (N : Int) - p - 2 < k1 := by omega
            go_wp2
            go_ret2
            exact ⟨HB.out, .inl ⟨HN1.out, rfl⟩⟩
          · have f3 : k0 ≤ x.length := by omega
            have f4 : decide ((N : Int) - p - 2 < k1) = false := decide_eq_false (by omega)
            have hcv : (convert 35 9 (.slice (if cap = p + 2 then some ⟨bb, off, none⟩ else some ⟨bb, off + (p + 2), none⟩) k1 (cap - (p + 2)))).run Try.prog wr.drew = .ok (str (Fr.txt ((b.drop (p + 2)).take k1))) wr.drew :=
              conv_mid ((row_if2 (k := k1) HR.out (by omega) hNc).keep HB.out.drew) (by have := HNB.out; omega)
            have e1 := ba_take x k0
            have hl1 : (x.take k0).length = k0 := by rw [List.length_take]; omega
            have hl2 : (Fr.txt ((b.drop (p + 2)).take k1)).length = k1 := by unfold Fr.txt; rw [List.length_map, List.length_take, List.length_drop]; have := HNB.out; omega
            have e2 := ba_app (x.take k0) (Fr.txt ((b.drop (p + 2)).take k1))
            have HS2 := hid (show Fr.st b (i + 1) = some (L ++ [x.take k0 ++ Fr.txt ((b.drop (p + 2)).take k1)], x.take k0 ++ Fr.txt ((b.drop (p + 2)).take k1), p + 2 + k1) by rw [Fr.st_succ HS.out]; unfold Fr.ent; rw [← HK0.out, ← HK1.out, if_neg (by have := HNB.out; omega)])
            have hyl : (x.take k0 ++ Fr.txt ((b.drop (p + 2)).take k1)).length ≤ 510 := by rw [List.length_append]; omega
            obtain ⟨y, hy⟩ : ∃ y, y = x.take k0 ++ Fr.txt ((b.drop (p + 2)).take k1) := ⟨_, rfl⟩
            rw [← hy] at e2 HS2 hyl
            obtain ⟨y1, hy1⟩ : ∃ y, y = x.take k0 := ⟨_, rfl⟩
            rw [← hy1] at e1 e2 hl1
            obtain ⟨y2, hy2⟩ : ∃ y, y = Fr.txt ((b.drop (p + 2)).take k1) := ⟨_, rfl⟩
            rw [← hy2] at e2 hcv hl2
            clear hy hy1 hy2
            go_wp2
            go_region
            obtain ⟨wc, hwc⟩ : ∃ wc, wc = wr.drew := ⟨_, rfl⟩
            rw [← hwc]
            have OC := hid (show wc.ownsRow W.heap.size 9 1 u5 i (L.map str) by rw [hwc]; exact HO.out)
            have HBC := hid (show Below W.heap.size W wc by rw [hwc]; exact HB.out.drew)
            have hzc := HBC.out.size
            clear hwc hcv d0 d1 e1 e2
            obtain ⟨a2, ha2⟩ : ∃ a2 : Option Addr, (if cap = p + 2 then some (⟨bb, off, none⟩ : Addr) else some ⟨bb, off + (p + 2), none⟩) = a2 := ⟨_, rfl⟩
            rw [ha2]
            clear ha2
            go_wp2_with (at_builtin; refine wpList_append_row rfl (.tmp 78) (.tmp 80) 22 rfl W.heap.size 9 i0 _ 16 Try.underlying22 hi hz0 hz1 hz2 rfl _ _ _ rfl (OC.out.alloc _) (some ⟨wc.heap.size, 0, none⟩) 1 1 (fun _ => str y) rfl ?nil ?row ?one ?b1 ?b2 ?base ?_)
            case nil => exact fun h => by cases h
            case row =>
              refine Or.inr ⟨_, _, rfl, fun j hj => ?_⟩
              rw [Nat.zero_add, cell_new, show j = 0 by omega]; rfl
            case one => intro j _; rfl
            case b1 => unfold maxLen; omega
            case b2 => omega
            case base => simp; omega
            intro v1 w1 hown hgr
            have hb1 : Below W.heap.size W w1 := (HBC.out.alloc hzc _).grown hgr (by simp; omega) (fun g hg => (OC.out.lt g hg).1)
            have hown' : w1.ownsRow W.heap.size 9 1 v1 (i + 1) ((L ++ [y]).map str) := by
              rw [List.map_append]; exact hown
            have O1 := hid hown'
            have HB1 := hid hb1
            have c3 := below_keep hb1 d1W
            clear hown hown' hgr hb1
            go_wp2
            go_roundw
            case rel => exact ⟨i + 1, L ++ [y], y, p + 2 + k1, by omega, by go_num, by go_num, rfl, by omega, by omega, hyl, HS2.out, O1.out, HB1.out⟩
            case measure => simp [intOf]; omega
    · obtain rfl : i = n := by omega
      have HYE := hid (HYES.out L x p HS.out)
      have hlen := getD_le (Fr.st_lens HLT.out HS.out)
      have RM := hid (fun w (hw : Below wr.heap.size wr w) => rmay_any u5 L w ((SlAt.own HO.out hLi.symm).keep hw) (fun j => Nat.le_trans (hlen j) (by omega)) (by omega))
      have HCB := hid (fun w (hw : Below wr.heap.size wr w) => conv_row (P := Try.prog) Try.underlying35 Try.underlying5 Try.underlying9 w (.slice (some ⟨bb, off, none⟩) N cap) b ((show BytesAt W (.slice (some ⟨bb, off, none⟩) N cap) b from ⟨some ⟨bb, off, none⟩, cap, by rw [HNB.out], by have := HNB.out; omega, by unfold maxLen; omega, (fun h => by cases h), by rw [← HNB.out]; exact HR.out⟩).keep (below_then HB.out hw)))
      by_cases hm : Fr.May L
      · have HM := hid hm
        rw [decide_eq_true hm] at RM
        have RB := hid (fun w (hw : Below wr.heap.size wr w) => rbytes_conv (w0 := wr) hw rfl (rbytes_any u5 L w ((SlAt.own HO.out hLi.symm).keep hw) hm))
        have h3 := strOf_eq (byt_getD hm) HLT.out
        obtain ⟨S1, hS1⟩ : ∃ S, S = strOf (Fr.byt L L.length) := ⟨_, rfl⟩
        obtain ⟨S2, hS2⟩ : ∃ S, S = strOf b := ⟨_, rfl⟩
        rw [← hS1] at h3 RB
        rw [← hS2] at h3 HCB
        by_cases he : Fr.byt L L.length = b
        · rw [decide_eq_true he] at h3
          have HE := hid he
          have HF := hid (show Fr.res b = some L by rw [HYE.out, if_pos ⟨HM.out, HE.out⟩])
          have HT := hid (fun w hw => (SlAt.own (f := str) (d := []) HO.out hLi.symm).keep (W' := w) hw)
          clear hm hS1 hS2 he HYE hlen
          go_wp2
          go_region_with (first
            | (go_at_call 14; refine (RM.out _ ?_).mono ?_
               · exact (Below.refl _ _).drew
               rintro e w' ⟨rfl, q, rfl⟩
               have hcb1 := HCB.out _ (below_drawn (Below.refl wr.heap.size wr) (1 + q)))
            | (go_at_call 22; refine (RB.out _ ?_).mono ?_
               · exact below_drawn (Below.refl wr.heap.size wr) _
               rintro e w5 ⟨v5, rfl, hb5, hc5, hk5, hcv5⟩
               have hcb5 := HCB.out _ hb5))
          all_goals go_wp2
          all_goals go_ret2
          all_goals exact ⟨below_then HB.out hb5, .inr ⟨L, _, HF.out, rfl, HT.out _ hb5⟩⟩
        · rw [decide_eq_false he] at h3
          have HE := hid he
          have HF := hid (show Fr.res b = none by rw [HYE.out, if_neg (fun h => HE.out h.2)])
          clear hm hS1 hS2 he HYE hlen
          go_wp2
          go_region_with (first
            | (go_at_call 14; refine (RM.out _ ?_).mono ?_
               · exact (Below.refl _ _).drew
               rintro e w' ⟨rfl, q, rfl⟩
               have hcb1 := HCB.out _ (below_drawn (Below.refl wr.heap.size wr) (1 + q)))
            | (go_at_call 22; refine (RB.out _ ?_).mono ?_
               · exact below_drawn (Below.refl wr.heap.size wr) _
               rintro e w5 ⟨v5, rfl, hb5, hc5, hk5, hcv5⟩
               have hcb5 := HCB.out _ hb5))
          all_goals go_wp2
          all_goals go_ret2
          all_goals exact ⟨below_then HB.out hb5, .inl ⟨HF.out, rfl⟩⟩
      · have HM := hid hm
        rw [decide_eq_false hm] at RM
        have HF := hid (show Fr.res b = none by rw [HYE.out, if_neg (fun h => HM.out h.1)])
        clear hm HYE hlen HCB
        go_wp2
        go_quiet (first | (go_at_call 14; exact drawn_some fun W hW => RM.out W (by rw [hW]; exact below_drawn (Below.refl _ _) _)))
        go_wp2
        go_ret2
        exact ⟨below_drawn HB.out _, .inl ⟨HF.out, rfl⟩⟩
theorem rread_any (v : Value) (b : List Nat) (W : World) (h : BytesAt W v b) (hb : ∀ i, b.getD i 0 < 256) (hN : b.length ≤ 140737488351232) :
    Calls Try.prog 24 #[v] W fun e W' => Below W.heap.size W W' ∧ ((Fr.res b = none ∧ e = .returned (.tuple #[.slice none 0 0, .int .i64 2])) ∨ ∃ L u, Fr.res b = some L ∧ e = .returned (.tuple #[u, .int .i64 0]) ∧ TextsAt W' u L) := by
  obtain ⟨a, cap, rfl, hc1, hc2, hc3, hR⟩ := h.open
  by_cases h1 : b.length < 2
  · refine (rread_short a _ cap W h1).mono ?_
    rintro e w' ⟨rfl, rfl⟩
    exact ⟨Below.refl _ _, .inl ⟨by unfold Fr.res Fr.rd; rw [if_pos h1], rfl⟩⟩
  · exact rread_long a _ cap _ b W (by omega) rfl hc1 hc2 hN hR hb rfl
end Go.Proofs.Ytdahfejecbcakaa
