/- query's reader of paths: what stands behind '!'. -/
import Derived.Test.YtagmgkplfhlifaaDoorQpNot
import Derived.Test.YtagmgkplfhlifaaDoorOwn
import Derived.WalkMore
import Derived.Deep.AppendLies
namespace Go.Proofs.YtagmgkplfhlifaaDoor
set_option linter.unusedVariables false
set_option linter.unusedSimpArgs false
set_option maxRecDepth 100000
open Go.ChangeShapes Go.WideShapes Go.ChangeAt Go.RowKit
open Au
theorem Tryd.infoStr1 : (Tryd.prog.info? 9).map (fun i => (i.zero, i.size, i.bytes)) = some (some (.string ByteArray.empty), 1, 16) := by kernel_rfl
theorem qhasp_any (s p : T) (W : World) (h1 : s.length ≤ 9223372036854775807) (h2 : p.length ≤ 9223372036854775807) : Calls Tryd.prog 113 #[str s, str p] W fun e W' => e = .returned (.bool (decide (s.take p.length = p))) ∧ W' = W := by
  have SH : Hid (∀ w, Calls Tryd.prog 118 #[str s, str p] w fun e W' => e = .returned (.bool (decide (s.take p.length = p))) ∧ W' = w) := by
    intro w
    by_cases h : p.length ≤ s.length
    · have hz : (p.length : Int) ≤ (s.length : Int) := by omega
      have ht := ba_take s p.length
      have hx : ((s.take p.length) == p) = decide (s.take p.length = p) := by
        rw [Bool.eq_iff_iff]; simp
      go_enter Tryd.func118, Tryd.ntmps118
      go_wp2
      go_ret
      exact ⟨by simp, rfl⟩
    · have hz : (s.length : Int) < (p.length : Int) := by omega
      have HN := hid (show decide (s.take p.length = p) = false by
        rw [decide_eq_false_iff_not]; intro he; have := congrArg List.length he; rw [List.length_take] at this; omega)
      go_enter Tryd.func118, Tryd.ntmps118
      go_wp2
      go_ret
      exact ⟨by rw [HN.out]; rfl, rfl⟩
  go_enter Tryd.func113, Tryd.ntmps113
  go_wp2_with (go_at_call 118; refine (SH.out _).mono ?_; rintro e w' ⟨rfl, rfl⟩)
  go_ret
  exact ⟨rfl, rfl⟩
theorem qtext_one {w : World} {b : Nat} {t : T} {ty : TypeId} (h : Blk w b [str t] ty) : TextsAt w (.slice (some ⟨b, 0, none⟩) 1 1) [t] := by
  refine SlAt.blk (f := str) (d := []) (l := [t]) h rfl (fun i hi => ?_) 1 (Nat.le_refl _) (by unfold maxLen; omega)
  obtain rfl : i = 0 := by simp at hi; omega
  rfl
theorem qpt_not {W : World} {v : Value} {L : List T} (hL : TextsAt W v L) (hl : ∀ i, (L.getD i []).length ≤ 140737488351232) : PtAt W v (.slice none 0 0) (.mk 8 [] L []) :=
  .mk 8 [] L [] v none 0 0 0 (fun _ => undef) (fun _ => undef) (by decide) (by simp) hL hl (Nat.le_refl _) (by unfold maxLen; omega) (fun _ => rfl) (fun h => absurd h (by simp)) (fun i hi => absurd hi (by simp)) (fun i hi => absurd hi (by simp))
theorem qown_asd {w : World} {B n : Nat} {v : Value} {L : List T} (h : w.ownsRow B 9 1 v n (L.map str)) (hn : n = L.length) : Asd (fun k => k < B) w (fun W => TextsAt W v L) := by
  intro w'' hw
  refine SlAt.own (base := B) (t := 9) (n := n) ?_ hn
  obtain ⟨h1, h2⟩ := h
  refine ⟨h1, ?_⟩
  rcases h2 with h2 | ⟨g, cap, cur, e, hg, hh, r⟩
  · exact .inl h2
  · exact .inr ⟨g, cap, cur, e, hg, by rw [hw g (lt_of_block hh) (by omega)]; exact hh, r⟩
theorem qown_frm {X : Nat → Prop} {w w' : World} {B e size n : Nat} {v : Value} {xs : List Value} (h : w.ownsRow B e size v n xs) (hf : Frm X w w') (hx : ∀ k, B ≤ k → ¬ X k) : w'.ownsRow B e size v n xs := by
  obtain ⟨h0, h1 | ⟨g, cap, cur, rfl, hB, hg, r⟩⟩ := h
  · exact ⟨h0, Or.inl h1⟩
  · exact ⟨h0, Or.inr ⟨g, cap, cur, rfl, hB, by rw [hf.block g (lt_of_block hg) (hx g hB)]; exact hg, r⟩⟩
theorem qfrm_grown {w w' : World} {row : Option Nat} (h : w.grownBy w' row) : Frm (fun k => row = some k) w w' := ⟨h.os, h.tape, h.output, h.size, fun k hk hx => h.block k hk (fun e => hx e.symm)⟩
set_option maxHeartbeats 8000000 in
theorem qnot_any (W0 : World) (q : Nat) (l : T) (hl : l.length ≤ 100000000) (hq : W0.heap.size ≤ q) (hV : QVars W0) :
    Reads W0 q l 103 #[.pointer (some ⟨q, 0, none⟩)] Qp.nots := by
  intro i w hr hi hB
  have hq1 := hr.lt
  obtain ⟨w1, hw1⟩ : ∃ w1, w1 = w.alloc (.cells #[.int .i64 0, .string ⟨#[]⟩, .slice none 0 0, .slice none 0 0] 25) := ⟨_, rfl⟩
  have hb1 : Below w.heap.size w w1 := by rw [hw1]; exact (Below.refl _ _).alloc (Nat.le_refl _) _
  have HRB := hid (show Blk w1 w.heap.size [.int .i64 0, .string ⟨#[]⟩, .slice none 0 0, .slice none 0 0] 25 by rw [hw1]; exact Blk.new w _ _)
  have HB1 := hid hb1
  have hsz1 : w1.heap.size = w.heap.size + 1 := by rw [hw1]; simp
  have HBW1 := hid (hB.trans (hb1.mono hB.size))
  have HR1 := hid (hr.keep hb1)
  have HW01 := HBW1.out.size
  have HVV := hid hV
  obtain ⟨rb, hrb⟩ : ∃ b, b = w.heap.size := ⟨_, rfl⟩
  obtain ⟨c0, c1, f0, f1⟩ := HR1.out.cells
  have HP := hid fun W => qhasp_any (l.drop i) [40] W (by rw [List.length_drop]; omega) (by simp)
  obtain ⟨z, hz⟩ : ∃ z, z = decide ((l.drop i).take 1 = [40]) := ⟨_, rfl⟩
  rw [show ([40] : T).length = 1 from rfl, ← hz] at HP
  have HZ1 := hid hz
  have hbd := ba_drop l i
  go_enter Tryd.func103, Tryd.ntmps103
  go_upto_region 1 with fail
  rw [← hw1, ← hrb]
  rw [← hrb] at HRB
  have hrw1 : rb < w1.heap.size := by omega
  have hqw1 : q < w1.heap.size := by omega
  have hrb2 : rb ≠ q := by omega
  have HRBE := hid hrb
  clear hw1 hb1 hr hB hrb hsz1 hz hV
  go_step3
  go_wp2
  cases z
  case false =>
    go_quiet (first | (go_at_call 113; exact drawn_same fun W hW => HP.out W) | fail)
    obtain ⟨w2, hw2⟩ : ∃ w2, w2 = w1.drewN nq := ⟨_, rfl⟩
    have hb2 : Below w1.heap.size w1 w2 := by rw [hw2]; exact below_drawn (Below.refl _ _) nq
    rw [← hw2]
    have HR2 := hid (HR1.out.keep hb2)
    have HRB2 := hid (HRB.out.keep hb2)
    have HF2 := hid (Frm.of_below (X := isQ q) hb2)
    have HS2 := hid hb2.size
    have HBW2 := hid (HBW1.out.trans (hb2.mono HBW1.out.size))
    clear hw2 hb2 c0 c1 f0 f1
    have IR := qiri_any W0 q l i w2 HR2.out hl hi HVV.out hq HBW2.out
    unfold IriPost at IR
    have IR := hid IR
    have HG := hid (show Qp.nots (l.drop i) = Qp.notOne (l.drop i) by
      have h := HZ1.out
      unfold Qp.nots
      cases hc : l.drop i with
      | nil => rfl
      | cons c r =>
        rw [hc] at h
        simp only
        rw [if_neg (fun e => by subst e; simp at h)])
    go_wp2_with fail
    refine IR.out.mono ?_
    rintro e w3 ⟨t, no, j3, rfl, hij3, hj3, hR3, hF3, htl, hres⟩
    have HR3 := hid hR3
    have HF3 := hid (HF2.out.trans hF3 (fun _ _ e => e))
    have HRB3 := hid (HRB2.out.frm hF3 (fun e => hrb2 e))
    have HTL := hid htl
    have HRES := hid (show (no = 0 ∧ Qp.nots (l.drop i) = .ok (.mk 8 [] [t] []) (l.drop j3)) ∨ (no ≠ 0 ∧ Qp.nots (l.drop i) = .err no (l.drop j3)) by
      rcases hres with ⟨h0, h⟩ | ⟨h0, _, h⟩
      · exact Or.inl ⟨h0, by rw [HG.out]; unfold Qp.notOne; rw [h]⟩
      · exact Or.inr ⟨by omega, by rw [HG.out]; unfold Qp.notOne; rw [h, h0]⟩)
    have hs13 := HF3.out.size
    have hrb3 : rb < w3.heap.size := by omega
    have hrb4 : rb ≠ w3.heap.size := by omega
    clear hR3 hF3 hres htl IR
    obtain ⟨r0, r1, r2, r3⟩ := blk4 HRB3.out
    have k0 := HRB3.out.free 0
    have k1 := HRB3.out.free 1
    have k2 := HRB3.out.free 2
    have k3 := HRB3.out.free 3
    have HZ := hid ((put4_blk HRB3.out (.int .i64 8) (.string ⟨#[]⟩) (.slice (some ⟨w3.heap.size, 0, none⟩) 1 1) (.slice none 0 0)).alloc (.cells #[str t] 9))
    have HQ := hid (show Qr ((put4 w3 rb (.int .i64 8) (.string ⟨#[]⟩) (.slice (some ⟨w3.heap.size, 0, none⟩) 1 1) (.slice none 0 0)).alloc (.cells #[str t] 9)) q l j3 from (put4_other HR3.out (Ne.symm hrb2) _ _ _ _).alloc _)
    have HFZ := hid ((put4_frm (Y := isQ q) (w := w) (b := rb) (X := w3) ((Frm.of_below (X := isQ q) HB1.out).trans HF3.out (fun _ _ e => e)) (Or.inr (by have := HRBE.out; omega)) (.int .i64 8) (.string ⟨#[]⟩) (.slice (some ⟨w3.heap.size, 0, none⟩) 1 1) (.slice none 0 0)).alloc (.cells #[str t] 9))
    have HBT := hid (show Blk ((put4 w3 rb (.int .i64 8) (.string ⟨#[]⟩) (.slice (some ⟨w3.heap.size, 0, none⟩) 1 1) (.slice none 0 0)).alloc (.cells #[str t] 9)) w3.heap.size [str t] 9 from Blk.new' (by simp) rfl)
    have HPZ := hid (show Asd (fun k => k < w.heap.size) ((put4 w3 rb (.int .i64 8) (.string ⟨#[]⟩) (.slice (some ⟨w3.heap.size, 0, none⟩) 1 1) (.slice none 0 0)).alloc (.cells #[str t] 9)) (fun W => PtB W (.slice (some ⟨w3.heap.size, 0, none⟩) 1 1) (.slice none 0 0) (.mk 8 [] [t] [])) from fun w'' hw =>
      qptb_not (qtext_one (Asd.blk (X := fun k => k < w.heap.size) HBT.out (fun e => by have := HRBE.out; have e : w3.heap.size < w.heap.size := e; omega) w'' hw)) (fun i => by
        have := HTL.out
        cases i with
        | zero => simp; omega
        | succ i => simp))
    go_wp2
    try rw [Exit.noGoto_ret]
    refine bodyPost_ret (v := .tuple #[.agg #[.int .i64 8, .string ⟨#[]⟩, .slice (some ⟨w3.heap.size, 0, none⟩) 1 1, .slice none 0 0], .int .i64 no]) (path_ret2 (s := 2) (t := 3) rfl rfl HZ.out Tryd.results103) rfl ?_
    exact ⟨.mk 8 [] [t] [], some ⟨w3.heap.size, 0, none⟩, none, 1, 1, 0, 0, no, j3, rfl, hij3, hj3, HQ.out, HFZ.out, HPZ.out, HRES.out⟩
  case true =>
    go_quiet (first | (go_at_call 113; exact drawn_same fun W hW => HP.out W) | fail)
    obtain ⟨w2, hw2⟩ : ∃ w2, w2 = w1.drewN nq := ⟨_, rfl⟩
    have hb2 : Below w1.heap.size w1 w2 := by rw [hw2]; exact below_drawn (Below.refl _ _) nq
    rw [← hw2]
    have HR2 := hid (HR1.out.keep hb2)
    have HRB2 := hid (HRB.out.keep hb2)
    have HF2 := hid (Frm.of_below (X := isQ q) hb2)
    clear hw2 hb2 c0 c1 f0 f1 hbd HR1 HRB HP
    have h40 : ∃ r, l.drop i = 40 :: r := by
      have h := HZ1.out
      have h : (l.drop i).take 1 = [40] := of_decide_eq_true h.symm
      cases hc : l.drop i with
      | nil => rw [hc] at h; cases h
      | cons c r => rw [hc] at h; simp at h; exact ⟨r, by rw [h]⟩
    obtain ⟨ANS, hANS⟩ : ∃ z, z = Qp.nots (l.drop i) := ⟨_, rfl⟩
    have HAN := hid hANS
    have HM0 := hid (show i < l.length ∧ ∃ m, (l.drop i).length < m ∧ Qp.notGo m [] (l.drop i) = ANS by
      obtain ⟨r, h⟩ := h40
      refine ⟨(qdrop_get l i _ r h).1, (l.drop i).length + 1, by omega, ?_⟩
      rw [hANS, h]
      rfl)
    have hi2 := HM0.out.1
    obtain ⟨i0, hI, hz0, hz1, hz2⟩ := info_parts Tryd.infoStr1
    clear hANS h40 HZ1
    go_wp2
    go_step3
    go_wp2
    go_loopg [6] l.length (fun gk s6 wr => ∃ (v : Value) (L : List T) (j : Nat), s6 = v ∧ i ≤ j ∧ j < l.length ∧ l.length - j ≤ gk ∧ L.length ≤ j ∧ Hid (Qr wr q l j) ∧ Hid (Frm (isQ q) w1 wr) ∧ Hid (Blk wr rb [.int .i64 0, .string ⟨#[]⟩, .slice none 0 0, .slice none 0 0] 25) ∧ Hid (wr.ownsRow w1.heap.size 9 1 v L.length (L.map str)) ∧ Hid (∀ t ∈ L, t.length ≤ l.length) ∧ Hid (∃ m, (l.drop j).length < m ∧ Qp.notGo m L (l.drop j) = ANS))
    case atStart => exact ⟨_, [], i, rfl, Nat.le_refl _, hi2, by omega, Nat.zero_le _, HR2.out, HF2.out, HRB2.out, World.ownsRow_nil _ _ _ _, (fun t h => by cases h), HM0.out.2⟩
    case round =>
      clear HR2 HF2 HRB2 HM0 hi2
      obtain ⟨v, L, j, hv, hij, hjl, hgk, hLj, HR, HF, HRB, HO, HTX, HM⟩ := hrel
      have hv := hv.symm
      subst hv
      obtain ⟨c0, c1, f0, f1⟩ := HR.out.cells
      go_upto_region 6 with fail
      obtain ⟨w4, hw4⟩ : ∃ w4, w4 = wr.setCell ⟨q, 1, none⟩ (.int .i64 ((j : Int) + 1)) := ⟨_, rfl⟩
      have hf4 : Frm (isQ q) wr w4 := by rw [hw4]; exact Frm.set (X := isQ q) (Frm.refl _ wr) (Or.inl rfl) 1 _
      have HR4 := hid (show Qr w4 q l (j + 1) by rw [hw4]; exact HR.out.to (j + 1))
      have HF4 := hid (HF.out.trans hf4 (fun _ _ e => e))
      have HRB4 := hid (HRB.out.frm hf4 (fun e => hrb2 e))
      have HO4 := hid (qown_frm HO.out hf4 (fun k hk e => by have e : k = q := e; omega))
      rw [← hw4]
      clear hw4 hf4 c0 c1 f0 f1 HR HF HRB HO
      have IR := qiri_any W0 q l (j + 1) w4 HR4.out hl hjl HVV.out hq (HBW1.out.trans (HF4.out.below HW01 (fun k hk e => by have e : k = q := e; omega)))
      unfold IriPost at IR
      have IR := hid IR
      go_wp2_with fail
      refine IR.out.mono ?_
      rintro e w5 ⟨t, no, j3, rfl, hij3, hj3, hR5, hF5, htl, hres⟩
      have HR5 := hid hR5
      have HF5 := hid (HF4.out.trans hF5 (fun _ _ e => e))
      have HRB5 := hid (HRB4.out.frm hF5 (fun e => hrb2 e))
      have HO5 := hid (qown_frm HO4.out hF5 (fun k hk e => by have e : k = q := e; omega))
      have HTL := hid htl
      have HRES := hid hres
      have hs15 := HF5.out.size
      clear hR5 hF5 hres htl IR HR4 HF4 HRB4 HO4
      by_cases hno : no = 0
      case neg =>
        have hn2 : no = 2 := by
          rcases HRES.out with ⟨h, _⟩ | ⟨h, _⟩
          · exact absurd h hno
          · exact h
        subst hn2
        have HE := hid (show ANS = .err 2 (l.drop j3) by
          obtain ⟨m, hm1, hm2⟩ := HM.out
          rcases HRES.out with ⟨h, _⟩ | ⟨_, _, h⟩
          · exact absurd h (by decide)
          · cases m with
            | zero => omega
            | succ m =>
              unfold Qp.notGo at hm2
              rw [List.drop_drop, h] at hm2
              exact hm2.symm)
        clear hno
        obtain ⟨r0, r1, r2, r3⟩ := blk4 HRB5.out
        have k0 := HRB5.out.free 0
        have k1 := HRB5.out.free 1
        have k2 := HRB5.out.free 2
        have k3 := HRB5.out.free 3
        have HZ := hid (put4_blk HRB5.out (.int .i64 0) (.string ⟨#[]⟩) (.slice none 0 0) (.slice none 0 0))
        have HQ := hid (show Qr (put4 w5 rb (.int .i64 0) (.string ⟨#[]⟩) (.slice none 0 0) (.slice none 0 0)) q l j3 from put4_other HR5.out (Ne.symm hrb2) _ _ _ _)
        have HFZ := hid (put4_frm (Y := isQ q) (w := w) (b := rb) (X := w5) ((Frm.of_below (X := isQ q) HB1.out).trans HF5.out (fun _ _ e => e)) (Or.inr (by have := HRBE.out; omega)) (.int .i64 0) (.string ⟨#[]⟩) (.slice none 0 0) (.slice none 0 0))
        have HPZ := hid (Asd.all (X := fun k => k < w.heap.size) (w := put4 w5 rb (.int .i64 0) (.string ⟨#[]⟩) (.slice none 0 0) (.slice none 0 0)) (P := fun W => PtB W (.slice none 0 0) (.slice none 0 0) (.mk 0 [] [] [])) fun W => ptb_none W 0 (by decide) [] (by simp))
        go_wp2
        try rw [Exit.noGoto_ret]
        refine bodyPost_ret (v := .tuple #[.agg #[.int .i64 0, .string ⟨#[]⟩, .slice none 0 0, .slice none 0 0], .int .i64 2]) (path_ret2 (s := 2) (t := 3) rfl rfl HZ.out Tryd.results103) rfl ?_
        exact ⟨.mk 0 [] [] [], none, none, 0, 0, 0, 0, 2, j3, rfl, by omega, hj3, HQ.out, HFZ.out, HPZ.out, Or.inr ⟨by decide, by rw [← HAN.out]; exact HE.out⟩⟩
      subst hno
      have HIR := hid (show Qp.iri (l.drop (j + 1)) = .ok t (l.drop j3) by
        rcases HRES.out with ⟨_, h⟩ | ⟨h, _⟩
        · exact h
        · exact absurd h (by decide))
      have HM2 := hid (show ∃ m, (l.drop j3).length < m ∧ (match Qp.skip (l.drop j3) with
          | [] => Res.err 2 []
          | c :: r2 => if c = 124 then Qp.notGo m (L ++ [t]) (c :: r2) else if c = 41 then .ok (.mk 8 [] (L ++ [t]) []) r2 else .err 2 (c :: r2)) = ANS by
        obtain ⟨m, hm1, hm2⟩ := HM.out
        cases m with
        | zero => omega
        | succ m =>
          unfold Qp.notGo at hm2
          rw [List.drop_drop, HIR.out] at hm2
          refine ⟨m, ?_, hm2⟩
          rw [List.length_drop] at hm1 ⊢
          omega)
      have one : ∀ u ∈ [str t], u.oneCell' = true := fun u hu => by
        simp only [List.mem_cons, List.not_mem_nil, or_false] at hu
        subst hu; rfl
      have ONE := hid one
      have C1 := hid (show L.length + 1 ≤ maxLen by unfold maxLen; omega)
      have C2 := hid (show (L.length + 1) * 16 ≤ 140737488355328 by omega)
      have C3 := hid (show w1.heap.size ≤ (w5.alloc (.cells #[str t] 9)).heap.size by simp; omega)
      clear HRES HM one HIR
      go_upto_region 10 with (at_builtin; refine wpList_append_blk rfl (.tmp 45) (.tmp 47) 22 (by rfl) w1.heap.size 9 i0 _ 1 16 Tryd.underlying22 hI hz0 hz1 hz2 rfl (by decide) v L.length (L.map str) (by rfl) (HO5.out.alloc _) (some ⟨w5.heap.size, 0, none⟩) 1 1 [str t] (by rfl) (fun h => by cases h) (by rfl) (fun ad h => by cases h; exact World.news_of_block (cs := #[str t]) (t := 9) (fr := (0, 0)) (heap_alloc_new w5 _)) ONE.out C1.out C2.out C3.out ?_; intro v6 w6 hown hgr hmv; have HO6 := hid hown; have HG6 := hid hgr; clear hown hgr hmv)
      have hvl := fun k (e : v.ownBlock = some k) => (HO5.out.lt k e).1
      have hal : Below w5.heap.size w5 (w5.alloc (.cells #[str t] 9)) := (Below.refl _ _).alloc (Nat.le_refl _) _
      have hg6 := qfrm_grown HG6.out
      have HR6 := hid (show Qr w6 q l j3 from Blk.frm (HR5.out.keep hal) hg6 (fun e => by have := hvl q e; omega))
      have HRB6 := hid (Blk.frm (HRB5.out.keep hal) hg6 (fun e => by have := hvl rb e; omega))
      have HF6 := hid ((HF5.out.trans (Frm.of_below (X := isQ q) hal) (fun _ _ e => e)).trans hg6 (fun k hk e => by have := hvl k e; omega))
      have HO6 := hid (show w6.ownsRow w1.heap.size 9 1 v6 (L ++ [t]).length ((L ++ [t]).map str) from by rw [List.length_append, List.map_append]; exact HO6.out)
      have HTX6 := hid (show ∀ u ∈ L ++ [t], u.length ≤ l.length from fun u hu => (List.mem_append.1 hu).elim (HTX.out u) (fun h => by rw [List.mem_singleton.1 h]; exact HTL.out))
      have PK := qpeek_any q l j3 w6 HR6.out hl hj3
      unfold PeekPost at PK
      have PK := hid PK
      clear hvl hal hg6 HR5 HF5 HRB5 HO5 HG6 HTX HTL ONE C1 C2 C3
      go_wp2_with fail
      refine PK.out.mono ?_
      rintro e w7 ⟨j4, rfl, hjj4, hj4, hdd, hR7, hF7⟩
      have HD7 := hid hdd
      have HR7 := hid hR7
      have HF7 := hid (HF6.out.trans hF7 (fun _ _ e => e))
      have HRB7 := hid (HRB6.out.frm hF7 (fun e => hrb2 e))
      have HO7 := hid (qown_frm HO6.out hF7 (fun k hk e => by have e : k = q := e; omega))
      obtain ⟨n9, hn9⟩ : ∃ n, n = Qp.hd (l.drop j4) := ⟨_, rfl⟩
      rw [← hn9]
      have HN9 := hid hn9
      clear hdd hR7 hF7 hn9 PK HR6 HF6 HRB6 HO6
      by_cases h9 : n9 = 124
      · have g1 : ((n9 : Int) == 124) = true := beq_iff_eq.2 (by omega)
        have HG := hid (show j4 < l.length ∧ ∃ m, (l.drop j4).length < m ∧ Qp.notGo m (L ++ [t]) (l.drop j4) = ANS by
          obtain ⟨c9, r9, hc9, hcn⟩ := Qp.hd_cons (HN9.out.symm.trans h9) (by decide)
          have hc : c9 = 124 := UInt8.toNat_inj.1 hcn
          subst hc
          obtain ⟨m, hm1, hm2⟩ := HM2.out
          refine ⟨(qdrop_get l j4 _ r9 hc9).1, m, ?_, ?_⟩
          · rw [List.length_drop] at hm1 ⊢; omega
          · rw [← HD7.out, hc9] at hm2
            rw [hc9]
            exact hm2)
        have hj4l := HG.out.1
        have hLj4 : (L ++ [t]).length ≤ j4 := by rw [List.length_append, List.length_singleton]; omega
        clear h9
        go_wp2
        go_roundg (l.length - j4)
        case measure => omega
        case rel => exact ⟨v6, L ++ [t], j4, rfl, by omega, hj4l, Nat.le_refl _, hLj4, HR7.out, HF7.out, HRB7.out, HO7.out, HTX6.out, HG.out.2⟩
      have g1 : ((n9 : Int) == 124) = false := beq_eq_false_iff_ne.2 (by omega)
      by_cases h9b : n9 = 41
      case neg =>
        have g2 : ((n9 : Int) == 41) = false := beq_eq_false_iff_ne.2 (by omega)
        have HE := hid (show ANS = .err 2 (l.drop j4) by
          obtain ⟨m, hm1, hm2⟩ := HM2.out
          rw [← hm2, ← HD7.out]
          have hne := HN9.out
          cases hc : l.drop j4 with
          | nil => rfl
          | cons c9 r9 =>
            rw [hc] at hne
            simp only
            rw [if_neg (fun e => by subst e; exact h9 hne), if_neg (fun e => by subst e; exact h9b hne)])
        clear h9 h9b
        obtain ⟨r0, r1, r2, r3⟩ := blk4 HRB7.out
        have k0 := HRB7.out.free 0
        have k1 := HRB7.out.free 1
        have k2 := HRB7.out.free 2
        have k3 := HRB7.out.free 3
        have HZ := hid (put4_blk HRB7.out (.int .i64 0) (.string ⟨#[]⟩) (.slice none 0 0) (.slice none 0 0))
        have HQ := hid (show Qr (put4 w7 rb (.int .i64 0) (.string ⟨#[]⟩) (.slice none 0 0) (.slice none 0 0)) q l j4 from put4_other HR7.out (Ne.symm hrb2) _ _ _ _)
        have HFZ := hid (put4_frm (Y := isQ q) (w := w) (b := rb) (X := w7) ((Frm.of_below (X := isQ q) HB1.out).trans HF7.out (fun _ _ e => e)) (Or.inr (by have := HRBE.out; omega)) (.int .i64 0) (.string ⟨#[]⟩) (.slice none 0 0) (.slice none 0 0))
        have HPZ := hid (Asd.all (X := fun k => k < w.heap.size) (w := put4 w7 rb (.int .i64 0) (.string ⟨#[]⟩) (.slice none 0 0) (.slice none 0 0)) (P := fun W => PtB W (.slice none 0 0) (.slice none 0 0) (.mk 0 [] [] [])) fun W => ptb_none W 0 (by decide) [] (by simp))
        go_wp2
        try rw [Exit.noGoto_ret]
        refine bodyPost_ret (v := .tuple #[.agg #[.int .i64 0, .string ⟨#[]⟩, .slice none 0 0, .slice none 0 0], .int .i64 2]) (path_ret2 (s := 2) (t := 3) rfl rfl HZ.out Tryd.results103) rfl ?_
        exact ⟨.mk 0 [] [] [], none, none, 0, 0, 0, 0, 2, j4, rfl, by omega, hj4, HQ.out, HFZ.out, HPZ.out, Or.inr ⟨by decide, by rw [← HAN.out]; exact HE.out⟩⟩
      have g2 : ((n9 : Int) == 41) = true := beq_iff_eq.2 (by omega)
      have HG := hid (show j4 + 1 ≤ l.length ∧ ANS = .ok (.mk 8 [] (L ++ [t]) []) (l.drop (j4 + 1)) by
        obtain ⟨c9, r9, hc9, hcn⟩ := Qp.hd_cons (HN9.out.symm.trans h9b) (by decide)
        have hc : c9 = 41 := UInt8.toNat_inj.1 hcn
        subst hc
        obtain ⟨m, hm1, hm2⟩ := HM2.out
        obtain ⟨h1, _, h2⟩ := qdrop_get l j4 _ r9 hc9
        refine ⟨h1, ?_⟩
        rw [← hm2, ← HD7.out, hc9, h2]
        rfl)
      have hj5 : j4 + 1 ≤ l.length := HG.out.1
      obtain ⟨c0, c1, f0, f1⟩ := HR7.out.cells
      obtain ⟨nL, hnL⟩ : ∃ n, n = (L ++ [t]).length := ⟨_, rfl⟩
      have HNL := hid hnL
      rw [← hnL] at HO7
      have hpos : 0 < nL := by rw [hnL, List.length_append, List.length_singleton]; omega
      obtain ⟨vg, vc, hv6, _, _⟩ := World.ownsRow.form HO7.out hpos
      subst hv6
      clear h9 h9b hnL
      go_upto_region 15 with fail
      obtain ⟨w8, hw8⟩ : ∃ w8, w8 = w7.setCell ⟨q, 1, none⟩ (.int .i64 ((j4 : Int) + 1)) := ⟨_, rfl⟩
      have hf8 : Frm (isQ q) w7 w8 := by rw [hw8]; exact Frm.set (X := isQ q) (Frm.refl _ w7) (Or.inl rfl) 1 _
      have HR8 := hid (show Qr w8 q l (j4 + 1) by rw [hw8]; exact HR7.out.to (j4 + 1))
      have HF8 := hid (HF7.out.trans hf8 (fun _ _ e => e))
      have HRB8 := hid (HRB7.out.frm hf8 (fun e => hrb2 e))
      have HO8 := hid (qown_frm HO7.out hf8 (fun k hk e => by have e : k = q := e; omega))
      rw [← hw8]
      clear hw8 hf8 c0 c1 f0 f1
      have HT8 := hid (Asd.and (qown_asd HO8.out HNL.out) (Asd.all (X := fun k => k < w1.heap.size) (w := w8) (P := fun _ => True) fun _ => trivial) (R := fun W => PtB W (.slice (some ⟨vg, 0, none⟩) nL vc) (.slice none 0 0) (.mk 8 [] (L ++ [t]) [])) (fun W h1 _ => qptb_not h1 (fun i => by
        by_cases hi9 : i < (L ++ [t]).length
        · have := HTX6.out _ (List.getElem_mem hi9)
          rw [show (L ++ [t]).getD i [] = (L ++ [t])[i] by rw [List.getD, List.getElem?_eq_getElem hi9]; rfl]
          omega
        · rw [List.getD, List.getElem?_eq_none (by omega)]; exact Nat.zero_le _)))
      obtain ⟨r0, r1, r2, r3⟩ := blk4 HRB8.out
      have k0 := HRB8.out.free 0
      have k1 := HRB8.out.free 1
      have k2 := HRB8.out.free 2
      have k3 := HRB8.out.free 3
      have HZ := hid (put4_blk HRB8.out (.int .i64 8) (.string ⟨#[]⟩) (.slice (some ⟨vg, 0, none⟩) nL vc) (.slice none 0 0))
      have HQ := hid (show Qr (put4 w8 rb (.int .i64 8) (.string ⟨#[]⟩) (.slice (some ⟨vg, 0, none⟩) nL vc) (.slice none 0 0)) q l (j4 + 1) from put4_other HR8.out (Ne.symm hrb2) _ _ _ _)
      have HFZ := hid (put4_frm (Y := isQ q) (w := w) (b := rb) (X := w8) ((Frm.of_below (X := isQ q) HB1.out).trans HF8.out (fun _ _ e => e)) (Or.inr (by have := HRBE.out; omega)) (.int .i64 8) (.string ⟨#[]⟩) (.slice (some ⟨vg, 0, none⟩) nL vc) (.slice none 0 0))
      have HPZ := hid (HT8.out.frm (Y := fun k => k = rb) (Z := fun k => k < w.heap.size) (put4_frm (Y := fun k => k = rb) (Frm.refl _ w8) (Or.inl rfl) (.int .i64 8) (.string ⟨#[]⟩) (.slice (some ⟨vg, 0, none⟩) nL vc) (.slice none 0 0)) (fun k _ e => (by have e : k = rb := e; show k < w1.heap.size; omega)) (fun k _ e => (by have := HRBE.out; have e : k < w.heap.size := e; show k < w1.heap.size; omega)))
      go_wp2
      try rw [Exit.noGoto_ret]
      refine bodyPost_ret (v := .tuple #[.agg #[.int .i64 8, .string ⟨#[]⟩, .slice (some ⟨vg, 0, none⟩) nL vc, .slice none 0 0], .int .i64 0]) (path_ret2 (s := 2) (t := 3) rfl rfl HZ.out Tryd.results103) rfl ?_
      exact ⟨.mk 8 [] (L ++ [t]) [], some ⟨vg, 0, none⟩, none, nL, vc, 0, 0, 0, j4 + 1, rfl, by omega, hj5, HQ.out, HFZ.out, HPZ.out, Or.inl ⟨rfl, by rw [← HAN.out]; exact HG.out.2⟩⟩
end Go.Proofs.YtagmgkplfhlifaaDoor
