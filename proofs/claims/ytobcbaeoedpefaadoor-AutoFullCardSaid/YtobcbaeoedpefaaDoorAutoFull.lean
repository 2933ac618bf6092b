/- AutoFull: both say of a path of n places whether it is too large, and answer nothing when it is, for every n. -/
import Derived.Test.YtobcbaeoedpefaaDoorAuLaid
import Derived.Test.YtobcbaeoedpefaaDoorRfNew
namespace Go.Proofs.YtobcbaeoedpefaaDoor
set_option linter.unusedVariables false
set_option linter.unusedSimpArgs false
set_option maxRecDepth 100000
open Go.ChangeShapes Go.WideShapes Go.ChangeAt Go.RowKit
open Au
/-- A path in block b, that is stored into from now on, and what it reaches. -/
def PvAt (b : Nat) (W : World) (x : Pt) : Prop := ∃ a n c a' n' c', Blk W b [.int .i64 x.kind, str x.text, .slice a n c, .slice a' n' c'] 25 ∧ Asd (fun k => k = b) W (fun W2 => PtAt W2 (.slice a n c) (.slice a' n' c') x)
theorem pvat_iri {W : World} {b : Nat} {t : List UInt8} (ht : t.length ≤ 140737488351232) (h : Blk W b [.int .i64 1, str t, .slice none 0 0, .slice none 0 0] 25) : PvAt b W (.mk 1 t [] []) :=
  ⟨_, _, _, _, _, _, h, fun W2 _ => pt_iri W2 _ ht⟩
theorem frm4 (w : World) (b : Nat) (o : Obj) (v0 v1 v2 : Value) {v3 : Value} : Frm (fun k => k = b) w (((((w.alloc o).setCell ⟨b, 0, none⟩ v0).setCell ⟨b, 1, none⟩ v1).setCell ⟨b, 2, none⟩ v2).setCell ⟨b, 3, none⟩ v3) := by
  have h : ∀ {W : World} (i : Nat) (v : Value), Frm (fun k => k = b) w W → Frm (fun k => k = b) w (W.setCell ⟨b, i, none⟩ v) := fun i v h => Frm.set (X := fun k => k = b) h (b := b) (Or.inl rfl) i v
  exact h 3 _ (h 2 _ (h 1 _ (h 0 _ ((Frm.refl _ w).alloc o))))
/-- One more alternative: the old path and another in a block of their own. -/
theorem pvat_two {W : World} {b : Nat} {x : Pt} {W' : World} {y : Pt} {a a' a2 a2' : Option Addr} {n n' n2 n2' c c' c2 c2' : Nat} {k : Int} (hk : -9223372036854775808 ≤ k ∧ k ≤ 9223372036854775807)
    (hx : Asd (fun k => k = b) W (fun W2 => PtAt W2 (.slice a n c) (.slice a' n' c') x)) (hy : Asd (fun k => k = b) W (fun W2 => PtAt W2 (.slice a2 n2 c2) (.slice a2' n2' c2') y))
    (hf : Frm (fun k => k = b) W W') (hb : Blk W' b [.int .i64 k, .string ⟨#[]⟩, .slice none 0 0, .slice (some ⟨W.heap.size, 0, none⟩) 2 2] 25) (hlt : b < W.heap.size)
    (hg : Blk W' W.heap.size [.int .i64 x.kind, str x.text, .slice a n c, .slice a' n' c', .int .i64 y.kind, str y.text, .slice a2 n2 c2, .slice a2' n2' c2'] 25) : PvAt b W' (.mk k [] [] [x, y]) := by
  refine ⟨_, _, _, _, _, _, hb, fun W2 hW => ?_⟩
  have h2 := fun (P : World → Prop) (hP : Asd (fun k => k = b) W P) => hP.frm hf (fun _ _ e => e) (fun _ _ e => e)
  exact pt_two k hk (show Blk W2 _ _ _ by unfold Blk; rw [hW _ hg.lt (by omega)]; exact hg) (h2 _ hx W2 hW) (h2 _ hy W2 hW)
theorem pvat_one {W : World} {b : Nat} {x : Pt} {W' : World} {a a' : Option Addr} {n n' c c' : Nat} {k : Int} (hk : -9223372036854775808 ≤ k ∧ k ≤ 9223372036854775807)
    (hx : Asd (fun k => k = b) W (fun W2 => PtAt W2 (.slice a n c) (.slice a' n' c') x))
    (hf : Frm (fun k => k = b) W W') (hb : Blk W' b [.int .i64 k, .string ⟨#[]⟩, .slice none 0 0, .slice (some ⟨W.heap.size, 0, none⟩) 1 1] 25) (hlt : b < W.heap.size)
    (hg : Blk W' W.heap.size [.int .i64 x.kind, str x.text, .slice a n c, .slice a' n' c'] 25) : PvAt b W' (.mk k [] [] [x]) := by
  refine ⟨_, _, _, _, _, _, hb, fun W2 hW => ?_⟩
  have h2 := fun (P : World → Prop) (hP : Asd (fun k => k = b) W P) => hP.frm hf (fun _ _ e => e) (fun _ _ e => e)
  exact pt_one k hk (show Blk W2 _ _ _ by unfold Blk; rw [hW _ hg.lt (by omega)]; exact hg) (h2 _ hx W2 hW)
set_option maxHeartbeats 16000000 in
theorem autoFull_any (n : Int) (hn : -9223372036854775808 ≤ n ∧ n ≤ 9223372036854775807) (w : World) (hT : T8 w) :
    Calls Tryd.prog 8 #[.int .i64 n] w fun e w' => e = .returned (.bool true) ∧ Below w.heap.size w w' := by
  have KN := hid fun W (hb : Below w.heap.size w W) => known_any W (hT.keep hb)
  have HT := hid hT
  clear hT
  by_cases h1 : n < 1
  · have h1' := decide_eq_true h1
    clear h1
    go_enter Tryd.func8, Tryd.ntmps8
    go_wp2
    go_ret
    exact ⟨rfl, Below.refl _ _⟩
  have h1' := decide_eq_false h1
  by_cases h2 : 15 < n
  · have h2' := decide_eq_true h2
    clear h1 h2
    go_enter Tryd.func8, Tryd.ntmps8
    go_wp2
    go_ret
    exact ⟨rfl, Below.refl _ _⟩
  have h2' := decide_eq_false h2
  obtain ⟨N, rfl⟩ : ∃ N : Nat, n = N := ⟨n.toNat, by omega⟩
  have HN := hid (show 1 ≤ N ∧ N ≤ 15 by omega)
  obtain ⟨w1, hw1⟩ : ∃ w1, w1 = w.alloc (.cells #[.int .i64 1, str [97], .slice none 0 0, .slice none 0 0] 25) := ⟨_, rfl⟩
  have HB1 := hid (show Below w.heap.size w w1 by rw [hw1]; exact (Below.refl _ _).alloc (Nat.le_refl _) _)
  have HP1 := hid (show PvAt w.heap.size w1 (.mk 1 [97] [] []) from pvat_iri (by simp) (by rw [hw1]; exact Blk.new w _ _))
  obtain ⟨b, hb⟩ : ∃ b, b = w.heap.size := ⟨_, rfl⟩
  have HBZ := hid hb
  clear h1 h2 hn
  go_enter Tryd.func8, Tryd.ntmps8
  go_wp2
  rw [← hw1]
  clear hw1
  rw [← hb] at HB1 HP1 KN ⊢
  have HBW := hid (show b < w1.heap.size from by obtain ⟨_, _, _, _, _, _, h, _⟩ := HP1.out; exact h.lt)
  clear hb
  go_loopw [4] (fun s4 wr => ∃ i : Nat, 1 ≤ i ∧ i ≤ 4 ∧ s4 = .int .i64 i ∧ Hid (Below b w wr) ∧ Hid (b < wr.heap.size) ∧ Hid (∃ x, PvAt b wr x)) (fun s4 _ => 4 - (intOf s4).toNat)
  case atStart => exact ⟨1, by omega, by omega, rfl, HB1, HBW, hid ⟨_, HP1.out⟩⟩
  case round =>
    obtain ⟨i, hi1, hi4, rfl, HBr, HLT, HPr⟩ := hrel
    clear HP1 HB1 HBW w1
    obtain ⟨x, a, n, c, a', n', c', hX, hA⟩ := HPr.out
    obtain ⟨c0, c1, c2, c3⟩ := blk4 hX
    have HX := hid hX
    have HA := hid hA
    clear hX hA HPr
    by_cases g1 : i < N
    · by_cases g4 : i < 4
      · skip
        have f0 := fun o => (HX.out.alloc o).free 0
        have f1 := fun o => (HX.out.alloc o).free 1
        have f2 := fun o => (HX.out.alloc o).free 2
        have f3 := fun o => (HX.out.alloc o).free 3
        have e0 := fun o => (HX.out.alloc o).cell (i := 0) rfl
        have e1 := fun o => (HX.out.alloc o).cell (i := 1) rfl
        have e2 := fun o => (HX.out.alloc o).cell (i := 2) rfl
        have e3 := fun o => (HX.out.alloc o).cell (i := 3) rfl
        go_upto_region 6 with fail
        obtain ⟨w5, hw5⟩ : ∃ z, z = (((((wr.alloc (.cells #[.int .i64 x.kind, str x.text, .slice a n c, .slice a' n' c', .int .i64 1, .string ⟨#[98]⟩, .slice none 0 0, .slice none 0 0] 25)).setCell ⟨b, 0, none⟩ (.int .i64 4)).setCell ⟨b, 1, none⟩ (.string ⟨#[]⟩)).setCell ⟨b, 2, none⟩ (.slice none 0 0)).setCell ⟨b, 3, none⟩ (.slice (some ⟨wr.heap.size, 0, none⟩) 2 2)) := ⟨_, rfl⟩
        have hF5 : Frm (fun k => k = b) wr w5 := by rw [hw5]; exact frm4 _ _ _ _ _ _
        have hX5 : Blk w5 b [.int .i64 4, .string ⟨#[]⟩, .slice none 0 0, .slice (some ⟨wr.heap.size, 0, none⟩) 2 2] 25 := by rw [hw5]; exact (HX.out.alloc _).set4 _ _ _ _
        have hG5 : Blk w5 wr.heap.size [.int .i64 x.kind, str x.text, .slice a n c, .slice a' n' c', .int .i64 1, .string ⟨#[98]⟩, .slice none 0 0, .slice none 0 0] 25 := by
          have hne : wr.heap.size ≠ b := Nat.ne_of_gt HX.out.lt
          rw [hw5]; exact ((((Blk.new wr _ _).other hne 0 _).other hne 1 _).other hne 2 _).other hne 3 _
        have HP5 := hid (pvat_two (k := 4) (by omega) HA.out (fun W2 _ => pt_iri W2 [98] (by simp)) hF5 hX5 HX.out.lt hG5)
        have HB5 := hid (HBr.out.trans (hF5.below (Nat.le_of_lt HX.out.lt) (fun k hk e => by omega)))
        have HL5 := hid hX5.lt
        rw [← hw5]
        clear hw5 hF5 hX5 hG5 c0 c1 c2 c3 f0 f1 f2 f3 e0 e1 e2 e3
        go_wp2
        go_roundw
        case rel => exact ⟨i + 1, by omega, by omega, by go_num, HB5, HL5, hid ⟨_, HP5.out⟩⟩
        case measure => simp [intOf]; omega
      · skip
        go_wp2
        go_loopw [5] (fun s5 wr => ∃ i : Nat, 4 ≤ i ∧ i ≤ 15 ∧ s5 = .int .i64 i ∧ Hid (Below b w wr) ∧ Hid (b < wr.heap.size) ∧ Hid (∃ x, PvAt b wr x)) (fun s5 _ => 15 - (intOf s5).toNat)
        case atStart => exact ⟨4, by omega, by omega, rfl, HBr, HLT, hid ⟨_, _, _, _, _, _, _, HX.out, HA.out⟩⟩
        case round =>
          clear c0 c1 c2 c3 HX HA HBr HLT
          clear g1 g4 hi1 hi4
          obtain ⟨i, hi1, hi4, rfl, HBr, HLT, HPr⟩ := hrel
          obtain ⟨x, a, n, c, a', n', c', hX, hA⟩ := HPr.out
          obtain ⟨c0, c1, c2, c3⟩ := blk4 hX
          have HX := hid hX
          have HA := hid hA
          clear hX hA HPr
          by_cases g1 : i < N
          · have hi15 : i < 15 := by have := HN.out; omega
            have f0 := fun o => (HX.out.alloc o).free 0
            have f1 := fun o => (HX.out.alloc o).free 1
            have f2 := fun o => (HX.out.alloc o).free 2
            have f3 := fun o => (HX.out.alloc o).free 3
            have e0 := fun o => (HX.out.alloc o).cell (i := 0) rfl
            have e1 := fun o => (HX.out.alloc o).cell (i := 1) rfl
            have e2 := fun o => (HX.out.alloc o).cell (i := 2) rfl
            have e3 := fun o => (HX.out.alloc o).cell (i := 3) rfl
            go_upto_region 10 with fail
            obtain ⟨w5, hw5⟩ : ∃ z, z = (((((wr.alloc (.cells #[.int .i64 x.kind, str x.text, .slice a n c, .slice a' n' c', .int .i64 x.kind, str x.text, .slice a n c, .slice a' n' c'] 25)).setCell ⟨b, 0, none⟩ (.int .i64 4)).setCell ⟨b, 1, none⟩ (.string ⟨#[]⟩)).setCell ⟨b, 2, none⟩ (.slice none 0 0)).setCell ⟨b, 3, none⟩ (.slice (some ⟨wr.heap.size, 0, none⟩) 2 2)) := ⟨_, rfl⟩
            have hF5 : Frm (fun k => k = b) wr w5 := by rw [hw5]; exact frm4 _ _ _ _ _ _
            have hX5 : Blk w5 b [.int .i64 4, .string ⟨#[]⟩, .slice none 0 0, .slice (some ⟨wr.heap.size, 0, none⟩) 2 2] 25 := by rw [hw5]; exact (HX.out.alloc _).set4 _ _ _ _
            have hG5 : Blk w5 wr.heap.size [.int .i64 x.kind, str x.text, .slice a n c, .slice a' n' c', .int .i64 x.kind, str x.text, .slice a n c, .slice a' n' c'] 25 := by
              have hne : wr.heap.size ≠ b := Nat.ne_of_gt HX.out.lt
              rw [hw5]; exact ((((Blk.new wr _ _).other hne 0 _).other hne 1 _).other hne 2 _).other hne 3 _
            have HP5 := hid (pvat_two (k := 4) (by omega) HA.out HA.out hF5 hX5 HX.out.lt hG5)
            have HB5 := hid (HBr.out.trans (hF5.below (Nat.le_of_lt HX.out.lt) (fun k hk e => by omega)))
            have HL5 := hid hX5.lt
            rw [← hw5]
            clear hw5 hF5 hX5 hG5 c0 c1 c2 c3 f0 f1 f2 f3 e0 e1 e2 e3
            go_wp2
            go_roundw
            case rel => exact ⟨i + 1, by omega, by omega, by go_num, HB5, HL5, hid ⟨_, HP5.out⟩⟩
            case measure => simp [intOf]; omega
          · skip
            have f0 := fun o => (HX.out.alloc o).free 0
            have f1 := fun o => (HX.out.alloc o).free 1
            have f2 := fun o => (HX.out.alloc o).free 2
            have f3 := fun o => (HX.out.alloc o).free 3
            have e0 := fun o => (HX.out.alloc o).cell (i := 0) rfl
            have e1 := fun o => (HX.out.alloc o).cell (i := 1) rfl
            have e2 := fun o => (HX.out.alloc o).cell (i := 2) rfl
            have e3 := fun o => (HX.out.alloc o).cell (i := 3) rfl
            go_upto_region 13 with fail
            obtain ⟨w6, hw5⟩ : ∃ z, z = (((((wr.alloc (.cells #[.int .i64 x.kind, str x.text, .slice a n c, .slice a' n' c'] 25)).setCell ⟨b, 0, none⟩ (.int .i64 5)).setCell ⟨b, 1, none⟩ (.string ⟨#[]⟩)).setCell ⟨b, 2, none⟩ (.slice none 0 0)).setCell ⟨b, 3, none⟩ (.slice (some ⟨wr.heap.size, 0, none⟩) 1 1)) := ⟨_, rfl⟩
            have hF5 : Frm (fun k => k = b) wr w6 := by rw [hw5]; exact frm4 _ _ _ _ _ _
            have hX5 : Blk w6 b [.int .i64 5, .string ⟨#[]⟩, .slice none 0 0, .slice (some ⟨wr.heap.size, 0, none⟩) 1 1] 25 := by rw [hw5]; exact (HX.out.alloc _).set4 _ _ _ _
            have hG5 : Blk w6 wr.heap.size [.int .i64 x.kind, str x.text, .slice a n c, .slice a' n' c'] 25 := by
              have hne : wr.heap.size ≠ b := Nat.ne_of_gt HX.out.lt
              rw [hw5]; exact ((((Blk.new wr _ _).other hne 0 _).other hne 1 _).other hne 2 _).other hne 3 _
            have HP5 := hid (pvat_one (k := 5) (by omega) HA.out hF5 hX5 HX.out.lt hG5)
            have HB5 := hid (HBr.out.trans (hF5.below (Nat.le_of_lt HX.out.lt) (fun k hk e => by omega)))
            have HL5 := hid hX5.lt
            rw [← hw5]
            have HQ6 := hid (show PtAt w6 (.slice none 0 0) (.slice (some ⟨wr.heap.size, 0, none⟩) 1 1) (.mk 5 [] [] [x]) from
              pt_one 5 (by omega) hG5 ((HA.out.frm hF5 (fun _ _ e => e) (fun _ _ e => e)).here))
            clear c0 c1 c2 c3 f0 f1 f2 f3 e0 e1 e2 e3
            obtain ⟨c0, c1, c2, c3⟩ := blk4 hX5
            have HX5 := hid hX5
            obtain ⟨g, hg⟩ : ∃ g, g = wr.heap.size := ⟨_, rfl⟩
            rw [← hg] at HQ6 c3 HX5 ⊢
            have HT6 := hid (show T8 w6 from HT.out.keep (by rw [← HBZ.out]; exact HB5.out))
            obtain ⟨q, hq⟩ : ∃ q, q = Pt.mk 5 [] [] [x] := ⟨_, rfl⟩
            have NA := new_any _ _ _ _ HQ6.out HT6.out
            have NR := fun W (hb : Below w6.heap.size w6 W) => rnew_any _ _ _ W (HQ6.out.keep hb) (HT6.out.keep hb)
            rw [← hq] at NA NR
            rw [show pv q (.slice none 0 0) (.slice (some ⟨g, 0, none⟩) 1 1) = .agg #[.int .i64 5, .string ⟨#[]⟩, .slice none 0 0, .slice (some ⟨g, 0, none⟩) 1 1] by rw [hq]; rfl] at NA
            simp only [show pv q (.slice none 0 0) (.slice (some ⟨g, 0, none⟩) 1 1) = .agg #[.int .i64 5, .string ⟨#[]⟩, .slice none 0 0, .slice (some ⟨g, 0, none⟩) 1 1] by rw [hq]; rfl] at NR
            have NA := hid NA
            have NR := hid NR
            clear hw5 hF5 hX5 hG5 hq hg
            clear HP5 HA HX HBr HL5 HQ6 HT6
            go_wp2_with fail
            refine NA.out.mono ?_
            rintro e w7 ⟨hb7, hres⟩
            have HB7 := hid hb7
            have c0 := below_keep hb7 c0
            have c1 := below_keep hb7 c1
            have c2 := below_keep hb7 c2
            have c3 := below_keep hb7 c3
            clear hb7
            have KN := hid fun W (hb : Below w7.heap.size w7 W) => KN.out W (HB5.out.trans ((HB7.out.trans (hb.mono HB7.out.size)).mono (Nat.le_of_lt HX5.out.lt)))
            have early : Hid (∀ e w9, e = Ending.returned (.bool true) → Below w7.heap.size w7 w9 → e = .returned (.bool true) ∧ Below w.heap.size w w9) := fun e w9 h hb => ⟨h, by rw [← HBZ.out]; exact HB5.out.trans ((HB7.out.trans (hb.mono HB7.out.size)).mono (Nat.le_of_lt HX5.out.lt))⟩
            rcases hres with ⟨hm, rfl⟩ | ⟨hm, hc, rfl⟩ | ⟨hm, hc, p, rfl, _⟩
            · have HM := hid hm
              clear hm
              go_wp2_with fail
              refine (NR.out _ HB7.out).mono ?_
              rintro e w8 ⟨hb8, hres⟩
              have HB8 := hid hb8
              clear hb8 c0 c1 c2 c3
              rcases hres with ⟨hm2, rfl⟩ | ⟨hm2, hc2, rfl⟩ | ⟨hm2, hc2, p2, rfl, _⟩
              · clear hm2
                go_wp2_with (go_at_call 16; refine (KN.out _ HB8.out).mono ?_; rintro e w9 ⟨rfl, hb9⟩)
                go_ret
                have EE := early.out _ _ rfl (below_then HB8.out hb9)
                first
                  | exact EE
                  | exact ⟨rfl, EE.2⟩
                  | (rw [HBZ.out]; exact ⟨rfl, EE.2⟩)
              · exact absurd (hm2.symm.trans HM.out) (by simp)
              · exact absurd (hm2.symm.trans HM.out) (by simp)
            · have HM := hid hm
              have HC := hid hc
              clear hm hc
              go_wp2_with fail
              refine (NR.out _ HB7.out).mono ?_
              rintro e w8 ⟨hb8, hres⟩
              have HB8 := hid hb8
              clear hb8 c0 c1 c2 c3
              rcases hres with ⟨hm2, rfl⟩ | ⟨hm2, hc2, rfl⟩ | ⟨hm2, hc2, p2, rfl, _⟩
              · exact absurd (hm2.symm.trans HM.out) (by simp)
              · clear hm2 hc2
                go_wp2_with (go_at_call 16; refine (KN.out _ HB8.out).mono ?_; rintro e w9 ⟨rfl, hb9⟩)
                go_ret
                have EE := early.out _ _ rfl (below_then HB8.out hb9)
                first
                  | exact EE
                  | exact ⟨rfl, EE.2⟩
                  | (rw [HBZ.out]; exact ⟨rfl, EE.2⟩)
              · exact absurd HC.out (by omega)
            · have HM := hid hm
              have HC := hid hc
              clear hm hc
              go_wp2_with fail
              refine (NR.out _ HB7.out).mono ?_
              rintro e w8 ⟨hb8, hres⟩
              have HB8 := hid hb8
              clear hb8 c0 c1 c2 c3
              rcases hres with ⟨hm2, rfl⟩ | ⟨hm2, hc2, rfl⟩ | ⟨hm2, hc2, p2, rfl, _⟩
              · exact absurd (hm2.symm.trans HM.out) (by simp)
              · exact absurd HC.out (by omega)
              · clear hm2 hc2
                go_wp2_with (go_at_call 16; refine (KN.out _ HB8.out).mono ?_; rintro e w9 ⟨rfl, hb9⟩)
                go_ret
                have EE := early.out _ _ rfl (below_then HB8.out hb9)
                first
                  | exact EE
                  | exact ⟨rfl, EE.2⟩
                  | (rw [HBZ.out]; exact ⟨rfl, EE.2⟩)
    · have g4 : True := trivial
      go_wp2
      go_loopw [5] (fun s5 wr => ∃ i : Nat, 4 ≤ i ∧ i ≤ 15 ∧ s5 = .int .i64 i ∧ Hid (Below b w wr) ∧ Hid (b < wr.heap.size) ∧ Hid (∃ x, PvAt b wr x)) (fun s5 _ => 15 - (intOf s5).toNat)
      case atStart => exact ⟨4, by omega, by omega, rfl, HBr, HLT, hid ⟨_, _, _, _, _, _, _, HX.out, HA.out⟩⟩
      case round =>
        clear c0 c1 c2 c3 HX HA HBr HLT
        clear g1 g4 hi1 hi4
        obtain ⟨i, hi1, hi4, rfl, HBr, HLT, HPr⟩ := hrel
        obtain ⟨x, a, n, c, a', n', c', hX, hA⟩ := HPr.out
        obtain ⟨c0, c1, c2, c3⟩ := blk4 hX
        have HX := hid hX
        have HA := hid hA
        clear hX hA HPr
        by_cases g1 : i < N
        · have hi15 : i < 15 := by have := HN.out; omega
          have f0 := fun o => (HX.out.alloc o).free 0
          have f1 := fun o => (HX.out.alloc o).free 1
          have f2 := fun o => (HX.out.alloc o).free 2
          have f3 := fun o => (HX.out.alloc o).free 3
          have e0 := fun o => (HX.out.alloc o).cell (i := 0) rfl
          have e1 := fun o => (HX.out.alloc o).cell (i := 1) rfl
          have e2 := fun o => (HX.out.alloc o).cell (i := 2) rfl
          have e3 := fun o => (HX.out.alloc o).cell (i := 3) rfl
          go_upto_region 10 with fail
          obtain ⟨w5, hw5⟩ : ∃ z, z = (((((wr.alloc (.cells #[.int .i64 x.kind, str x.text, .slice a n c, .slice a' n' c', .int .i64 x.kind, str x.text, .slice a n c, .slice a' n' c'] 25)).setCell ⟨b, 0, none⟩ (.int .i64 4)).setCell ⟨b, 1, none⟩ (.string ⟨#[]⟩)).setCell ⟨b, 2, none⟩ (.slice none 0 0)).setCell ⟨b, 3, none⟩ (.slice (some ⟨wr.heap.size, 0, none⟩) 2 2)) := ⟨_, rfl⟩
          have hF5 : Frm (fun k => k = b) wr w5 := by rw [hw5]; exact frm4 _ _ _ _ _ _
          have hX5 : Blk w5 b [.int .i64 4, .string ⟨#[]⟩, .slice none 0 0, .slice (some ⟨wr.heap.size, 0, none⟩) 2 2] 25 := by rw [hw5]; exact (HX.out.alloc _).set4 _ _ _ _
          have hG5 : Blk w5 wr.heap.size [.int .i64 x.kind, str x.text, .slice a n c, .slice a' n' c', .int .i64 x.kind, str x.text, .slice a n c, .slice a' n' c'] 25 := by
            have hne : wr.heap.size ≠ b := Nat.ne_of_gt HX.out.lt
            rw [hw5]; exact ((((Blk.new wr _ _).other hne 0 _).other hne 1 _).other hne 2 _).other hne 3 _
          have HP5 := hid (pvat_two (k := 4) (by omega) HA.out HA.out hF5 hX5 HX.out.lt hG5)
          have HB5 := hid (HBr.out.trans (hF5.below (Nat.le_of_lt HX.out.lt) (fun k hk e => by omega)))
          have HL5 := hid hX5.lt
          rw [← hw5]
          clear hw5 hF5 hX5 hG5 c0 c1 c2 c3 f0 f1 f2 f3 e0 e1 e2 e3
          go_wp2
          go_roundw
          case rel => exact ⟨i + 1, by omega, by omega, by go_num, HB5, HL5, hid ⟨_, HP5.out⟩⟩
          case measure => simp [intOf]; omega
        · skip
          have f0 := fun o => (HX.out.alloc o).free 0
          have f1 := fun o => (HX.out.alloc o).free 1
          have f2 := fun o => (HX.out.alloc o).free 2
          have f3 := fun o => (HX.out.alloc o).free 3
          have e0 := fun o => (HX.out.alloc o).cell (i := 0) rfl
          have e1 := fun o => (HX.out.alloc o).cell (i := 1) rfl
          have e2 := fun o => (HX.out.alloc o).cell (i := 2) rfl
          have e3 := fun o => (HX.out.alloc o).cell (i := 3) rfl
          go_upto_region 13 with fail
          obtain ⟨w6, hw5⟩ : ∃ z, z = (((((wr.alloc (.cells #[.int .i64 x.kind, str x.text, .slice a n c, .slice a' n' c'] 25)).setCell ⟨b, 0, none⟩ (.int .i64 5)).setCell ⟨b, 1, none⟩ (.string ⟨#[]⟩)).setCell ⟨b, 2, none⟩ (.slice none 0 0)).setCell ⟨b, 3, none⟩ (.slice (some ⟨wr.heap.size, 0, none⟩) 1 1)) := ⟨_, rfl⟩
          have hF5 : Frm (fun k => k = b) wr w6 := by rw [hw5]; exact frm4 _ _ _ _ _ _
          have hX5 : Blk w6 b [.int .i64 5, .string ⟨#[]⟩, .slice none 0 0, .slice (some ⟨wr.heap.size, 0, none⟩) 1 1] 25 := by rw [hw5]; exact (HX.out.alloc _).set4 _ _ _ _
          have hG5 : Blk w6 wr.heap.size [.int .i64 x.kind, str x.text, .slice a n c, .slice a' n' c'] 25 := by
            have hne : wr.heap.size ≠ b := Nat.ne_of_gt HX.out.lt
            rw [hw5]; exact ((((Blk.new wr _ _).other hne 0 _).other hne 1 _).other hne 2 _).other hne 3 _
          have HP5 := hid (pvat_one (k := 5) (by omega) HA.out hF5 hX5 HX.out.lt hG5)
          have HB5 := hid (HBr.out.trans (hF5.below (Nat.le_of_lt HX.out.lt) (fun k hk e => by omega)))
          have HL5 := hid hX5.lt
          rw [← hw5]
          have HQ6 := hid (show PtAt w6 (.slice none 0 0) (.slice (some ⟨wr.heap.size, 0, none⟩) 1 1) (.mk 5 [] [] [x]) from
            pt_one 5 (by omega) hG5 ((HA.out.frm hF5 (fun _ _ e => e) (fun _ _ e => e)).here))
          clear c0 c1 c2 c3 f0 f1 f2 f3 e0 e1 e2 e3
          obtain ⟨c0, c1, c2, c3⟩ := blk4 hX5
          have HX5 := hid hX5
          obtain ⟨g, hg⟩ : ∃ g, g = wr.heap.size := ⟨_, rfl⟩
          rw [← hg] at HQ6 c3 HX5 ⊢
          have HT6 := hid (show T8 w6 from HT.out.keep (by rw [← HBZ.out]; exact HB5.out))
          obtain ⟨q, hq⟩ : ∃ q, q = Pt.mk 5 [] [] [x] := ⟨_, rfl⟩
          have NA := new_any _ _ _ _ HQ6.out HT6.out
          have NR := fun W (hb : Below w6.heap.size w6 W) => rnew_any _ _ _ W (HQ6.out.keep hb) (HT6.out.keep hb)
          rw [← hq] at NA NR
          rw [show pv q (.slice none 0 0) (.slice (some ⟨g, 0, none⟩) 1 1) = .agg #[.int .i64 5, .string ⟨#[]⟩, .slice none 0 0, .slice (some ⟨g, 0, none⟩) 1 1] by rw [hq]; rfl] at NA
          simp only [show pv q (.slice none 0 0) (.slice (some ⟨g, 0, none⟩) 1 1) = .agg #[.int .i64 5, .string ⟨#[]⟩, .slice none 0 0, .slice (some ⟨g, 0, none⟩) 1 1] by rw [hq]; rfl] at NR
          have NA := hid NA
          have NR := hid NR
          clear hw5 hF5 hX5 hG5 hq hg
          clear HP5 HA HX HBr HL5 HQ6 HT6
          go_wp2_with fail
          refine NA.out.mono ?_
          rintro e w7 ⟨hb7, hres⟩
          have HB7 := hid hb7
          have c0 := below_keep hb7 c0
          have c1 := below_keep hb7 c1
          have c2 := below_keep hb7 c2
          have c3 := below_keep hb7 c3
          clear hb7
          have KN := hid fun W (hb : Below w7.heap.size w7 W) => KN.out W (HB5.out.trans ((HB7.out.trans (hb.mono HB7.out.size)).mono (Nat.le_of_lt HX5.out.lt)))
          have early : Hid (∀ e w9, e = Ending.returned (.bool true) → Below w7.heap.size w7 w9 → e = .returned (.bool true) ∧ Below w.heap.size w w9) := fun e w9 h hb => ⟨h, by rw [← HBZ.out]; exact HB5.out.trans ((HB7.out.trans (hb.mono HB7.out.size)).mono (Nat.le_of_lt HX5.out.lt))⟩
          rcases hres with ⟨hm, rfl⟩ | ⟨hm, hc, rfl⟩ | ⟨hm, hc, p, rfl, _⟩
          · have HM := hid hm
            clear hm
            go_wp2_with fail
            refine (NR.out _ HB7.out).mono ?_
            rintro e w8 ⟨hb8, hres⟩
            have HB8 := hid hb8
            clear hb8 c0 c1 c2 c3
            rcases hres with ⟨hm2, rfl⟩ | ⟨hm2, hc2, rfl⟩ | ⟨hm2, hc2, p2, rfl, _⟩
            · clear hm2
              go_wp2_with (go_at_call 16; refine (KN.out _ HB8.out).mono ?_; rintro e w9 ⟨rfl, hb9⟩)
              go_ret
              have EE := early.out _ _ rfl (below_then HB8.out hb9)
              first
                | exact EE
                | exact ⟨rfl, EE.2⟩
                | (rw [HBZ.out]; exact ⟨rfl, EE.2⟩)
            · exact absurd (hm2.symm.trans HM.out) (by simp)
            · exact absurd (hm2.symm.trans HM.out) (by simp)
          · have HM := hid hm
            have HC := hid hc
            clear hm hc
            go_wp2_with fail
            refine (NR.out _ HB7.out).mono ?_
            rintro e w8 ⟨hb8, hres⟩
            have HB8 := hid hb8
            clear hb8 c0 c1 c2 c3
            rcases hres with ⟨hm2, rfl⟩ | ⟨hm2, hc2, rfl⟩ | ⟨hm2, hc2, p2, rfl, _⟩
            · exact absurd (hm2.symm.trans HM.out) (by simp)
            · clear hm2 hc2
              go_wp2_with (go_at_call 16; refine (KN.out _ HB8.out).mono ?_; rintro e w9 ⟨rfl, hb9⟩)
              go_ret
              have EE := early.out _ _ rfl (below_then HB8.out hb9)
              first
                | exact EE
                | exact ⟨rfl, EE.2⟩
                | (rw [HBZ.out]; exact ⟨rfl, EE.2⟩)
            · exact absurd HC.out (by omega)
          · have HM := hid hm
            have HC := hid hc
            clear hm hc
            go_wp2_with fail
            refine (NR.out _ HB7.out).mono ?_
            rintro e w8 ⟨hb8, hres⟩
            have HB8 := hid hb8
            clear hb8 c0 c1 c2 c3
            rcases hres with ⟨hm2, rfl⟩ | ⟨hm2, hc2, rfl⟩ | ⟨hm2, hc2, p2, rfl, _⟩
            · exact absurd (hm2.symm.trans HM.out) (by simp)
            · exact absurd HC.out (by omega)
            · clear hm2 hc2
              go_wp2_with (go_at_call 16; refine (KN.out _ HB8.out).mono ?_; rintro e w9 ⟨rfl, hb9⟩)
              go_ret
              have EE := early.out _ _ rfl (below_then HB8.out hb9)
              first
                | exact EE
                | exact ⟨rfl, EE.2⟩
                | (rw [HBZ.out]; exact ⟨rfl, EE.2⟩)

theorem autoFull_walk (H : Type) (enc : TypeId × Value → H) (W : World) (base : Nat) (args : Array Value) (ds gs : List (DataW H)) (before : List MemPlace)
    (hval : ∀ (j : Nat) t v, Tryd.f8.params[j]? = some t → args[j]? = some v → Value.okWide Tryd.prog W .any base t v)
    (hW : DataW.Whole enc Tryd.prog Tryd.f8.params.toList Rows.autoFullSpec.vars false W args.toList ds gs before)
    (hz : (DataW.weightsEach Tryd.prog (Tryd.f8.params.toList ++ Rows.autoFullSpec.plain.varTypes Tryd.prog) (ds ++ gs)).all (· ≤ reachBytes) = true)
    (hL : laidMetH Tryd.prog Rows.autoFullRow.laid W) (hsh : W.ShapedOpen Tryd.prog) :
    Calls Tryd.prog 8 args W fun e W' => e = .returned (.bool true) ∧ Below W.heap.size W W' := by
  obtain ⟨p, q, hA, _, _, _, _⟩ := hW
  rw [Tryd.params8] at hA hval
  rw [Tryd.params8] at hz
  obtain ⟨v0, vs0, d0, ds0, p0, q0, hargs, rfl, rfl, h0, r0⟩ := trodAll_cons hA
  obtain ⟨rfl, rfl, rfl⟩ := trodAll_nil r0
  obtain rfl : args = #[v0] := by cases args; simp_all
  obtain ⟨x0, rfl, rfl, rfl, w0⟩ := open_int Tryd.underlying3 (hval 0 3 v0 rfl rfl) h0
  have b0 := bounds_i64 w0
  exact autoFull_any x0 b0 W (t8_of hL hsh)

theorem autoFull_lifted (os : Os) (started : os.Started) (H : Type) (enc : TypeId × Value → H) (F : Stop.Interp) :
    ReturnsInHanded {} Tryd.checked os 8 .any ((OpenSpec.ofChange Rows.autoFullSpec).preRow enc Tryd.prog Tryd.f8 Rows.autoFullRow.domain false Rows.autoFullRow.laid) (((OpenSpec.ofChange Rows.autoFullSpec).at F).post enc Tryd.prog Tryd.f8 false true false false) := by
  obtain ⟨places, hx⟩ : ∃ places, DataW.whole enc Tryd.prog ((laidWorld os).forCall (fun _ _ => 0) ⟨#[], #[.int .i64 0], []⟩).memory Tryd.f8.params.toList Rows.autoFullSpec.vars false (#[.int .i64 0] : Array Value).toList 8 = some ([.lit (.int .i64 0)], [], places) := ⟨[], by kernel_rfl⟩
  refine returnsInHanded_of_row (C := Tryd.checked) (s := OpenSpec.ofChange Rows.autoFullSpec) own started (by kernel_rfl) Tryd.func8
    (witness_row_at (enc := enc) (C := Tryd.checked) false (laidWorld os) #[.int .i64 0] rfl (by kernel_rfl) (by kernel_rfl) (by kernel_rfl)
      (OpenSpec.preRow_of_cond 8 hx (by kernel_rfl) (fun k hk => by cases hk) (by kernel_rfl) (laidMet_of_run' 8 (by kernel_rfl) (by kernel_rfl)))) ?_
  intro W base args ds gs before hval hW _ _ hz hL hsh _
  refine (autoFull_walk H enc W base args ds gs before hval hW hz hL hsh).mono fun e W' ⟨he, hb⟩ => ⟨_, he, ?_⟩
  exact law_post (fn := Tryd.f8) (s := Rows.autoFullSpec) (tb := 4) rfl (fun ds hd => by match ds, hd with | [d0], _ => rfl) rfl Tryd.underlying4 (by kernel_rfl) hW hb

theorem autoFull_said : Rows.AutoFullSaid :=
  OpenClaim.holds_of_cond 8 Tryd.f8 rfl rfl rfl rfl rfl rfl rfl ⟨rfl, rfl, rfl, rfl, rfl⟩ rfl rfl rfl rfl rfl (by kernel_rfl) Tryd.func8 (by kernel_rfl)
    (of_decide_eq_true (by kernel_rfl)) (by unfold Func.isWrapper; first | (rw [if_pos (by decide +kernel)]; kernel_rfl) | (rw [if_neg (by decide +kernel)]; exact ⟨rfl, rfl⟩))
    (fun os started H enc _ F => by rw [OpenClaim.pre_eq_preRow]; exact autoFull_lifted os started H enc F)

theorem autoFull_plain (f : FuncId) (fn : Func) (hf : Tryd.pinned.checked.prog.funcNamed Rows.autoFullRow.func = some f) (hfn : Tryd.pinned.checked.prog.funcs[f]? = some fn) :
    false = Tryd.pinned.checked.prog.looks [] ∧ ∀ (j : Nat) t, fn.params[j]? = some t → Tryd.pinned.checked.prog.wantsStandIn t = false := by
  obtain rfl : f = 8 := Option.some.inj ((show Tryd.prog.funcNamed Rows.autoFullRow.func = some 8 by kernel_rfl).symm.trans hf) |>.symm
  obtain rfl : fn = Tryd.f8 := (Option.some.inj (Tryd.func8.symm.trans hfn)).symm
  refine ⟨by kernel_rfl, fun j t ht => ?_⟩
  have h := Array.mem_of_getElem? ht
  have hall : Tryd.f8.params.all (fun t => !Tryd.prog.wantsStandIn t) = true := by kernel_rfl
  have := Array.all_eq_true_iff_forall_mem.1 hall t h
  show Tryd.prog.wantsStandIn t = false
  simpa using this

/-- THE STATEMENT. -/
theorem autoFull_card : Rows.AutoFullCardSaid :=
  Claim7.holds_tied_plain_at .later [] _ _ _ _ autoFull_said (fun _ h => by cases h) (by kernel_rfl) (fun _ h => by cases h) autoFull_row_tie rfl ⟨rfl, rfl⟩ (by kernel_rfl) rfl autoFull_plain (by kernel_rfl)
end Go.Proofs.YtobcbaeoedpefaaDoor
