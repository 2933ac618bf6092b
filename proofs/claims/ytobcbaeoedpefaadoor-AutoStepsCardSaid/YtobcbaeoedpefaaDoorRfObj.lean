/- The document's automaton while it is laid out: its memory; both, joined. -/
import Derived.Test.YtobcbaeoedpefaaDoorRfLaid
namespace Go.Proofs.YtobcbaeoedpefaaDoor
set_option linter.unusedVariables false
set_option linter.unusedSimpArgs false
set_option maxRecDepth 100000
open Go.ChangeShapes Go.WideShapes Go.ChangeAt Go.RowKit
open Au
def natv (n : Nat) : Value := .int .i64 (n : Nat)
/-- A row of numbers. -/
abbrev NsV (W : World) (v : Value) (L : List Nat) : Prop := SlAt natv 0 W v L
def fl2 (ps : List (Nat × Nat)) : List Value := ps.flatMap fun q => [natv q.1, natv q.2]
theorem fl2_len (ps : List (Nat × Nat)) : (fl2 ps).length = ps.length * 2 := by
  induction ps with
  | nil => rfl
  | cons q ps ih => simp only [fl2, List.flatMap_cons, List.length_append, List.length_cons, List.length_nil] at ih ⊢; omega
theorem fl2_append (a b : List (Nat × Nat)) : fl2 (a ++ b) = fl2 a ++ fl2 b := by simp [fl2]
theorem fl2_get (ps : List (Nat × Nat)) (i : Nat) (h : i < ps.length) : (fl2 ps)[i * 2]? = some (natv ps[i].1) ∧ (fl2 ps)[i * 2 + 1]? = some (natv ps[i].2) := by
  induction ps generalizing i with
  | nil => simp at h
  | cons q ps ih =>
    cases i with
    | zero => simp [fl2]
    | succ i =>
      have := ih i (by simpa using h)
      simp only [fl2, List.flatMap_cons] at this ⊢
      rw [show (i + 1) * 2 = i * 2 + 1 + 1 by omega]
      simpa using this
theorem Tryd.infoInt1 : (Tryd.prog.info? 3).map (fun i => (i.zero, i.size, i.bytes)) = some (some (.int .i64 0), 1, 8) := by kernel_rfl
theorem Tryd.infoPair2 : (Tryd.prog.info? 74).map (fun i => (i.zero, i.size, i.bytes)) = some (some (.agg #[.int .i64 0, .int .i64 0]), 2, 16) := by kernel_rfl
/-- A row of numbers that lies in blocks that no block of X is of. -/
abbrev NsX (X : Nat → Prop) (w : World) (v : Value) (L : List Nat) : Prop := Asd X w (fun W => NsV W v L)
/-- A row in one block. -/
theorem own_nsx {B : Nat} {w : World} {v : Value} {L : List Nat} {X : Nat → Prop} (h : w.ownsRow B 3 1 v L.length (L.map natv)) (hX : ∀ k, v.ownBlock = some k → ¬ X k) : NsX X w v L := fun W hW => by
  obtain ⟨h0, ⟨rfl, hl⟩ | ⟨g, cap, cur, rfl, hB, hg, r⟩⟩ := h
  · have : L = [] := List.eq_nil_of_length_eq_zero hl
    subst this; exact SlAt.nil W
  · have hn : ¬ X g := hX g rfl
    exact SlAt.own (W := W) (base := B) (t := 3) ⟨h0, Or.inr ⟨g, cap, cur, rfl, hB, by rw [hW g (lt_of_block hg) hn]; exact hg, r⟩⟩ rfl
set_option maxHeartbeats 2000000 in
theorem both_any (va vb : Value) (A B : List Nat) (w : World) (hA : NsV w va A) (hB : NsV w vb B) (hl : A.length + B.length ≤ 1000000) :
    Calls Tryd.prog 46 #[va, vb] w fun e w' => (∃ v, e = .returned v ∧ w'.ownsRow w.heap.size 3 1 v (A ++ B).length ((A ++ B).map natv)) ∧ Below w.heap.size w w' := by
  obtain ⟨a, ca, rfl, a1, a2, a3, ra⟩ := hA.open
  obtain ⟨b, cb, rfl, b1, b2, b3, rb⟩ := hB.open
  obtain ⟨iI, hiI, hzI, hsI, hbI⟩ := info_two Tryd.infoInt1
  have HRA := hid fun W (hb : Below w.heap.size w W) => ra.keep hb
  have HRB := hid fun W (hb : Below w.heap.size w W) => rb.keep hb
  have HA3 := hid a3
  have HB3 := hid b3
  obtain ⟨m, hm⟩ : ∃ m, m = A.length := ⟨_, rfl⟩
  obtain ⟨n, hn⟩ : ∃ n, n = B.length := ⟨_, rfl⟩
  have HM := hid hm
  have HN := hid hn
  rw [← hm] at a1 hl ⊢
  rw [← hn] at b1 hl ⊢
  have news : ∀ (L : List Nat) (k : Nat) (sa : Option Addr) (W : World), k = L.length → RowAt W sa L.length (fun i => natv (L.getD i 0)) → ∀ ad, sa = some ad → ∀ j u, (L.map natv)[j]? = some u → W.cell? (ad.add j) = some u := fun L k sa W hk hr ad had j u hu => by
    have hjl : j < L.length := by
      have := (List.getElem?_eq_some_iff.1 hu).1
      simpa using this
    obtain ⟨b, off, hab, hc⟩ := hr.get hjl
    rw [hab] at had
    cases had
    rw [add_cell rfl, hc j hjl]
    rw [List.getElem?_map, List.getElem?_eq_getElem hjl] at hu
    simpa [List.getD, hjl] using hu
  have ones : ∀ (L : List Nat), ∀ u ∈ L.map natv, u.oneCell' = true := fun L u hu => by
    obtain ⟨x, _, rfl⟩ := List.mem_map.1 hu; rfl
  have NEWS := hid news
  have ONES := hid ones
  clear hA hB ra rb a3 b3 hm hn news ones
  go_enter Tryd.func46, Tryd.ntmps46
  go_wp2_with (at_builtin; first
    | (refine wpList_append_blk rfl (.tmp 5) (.tmp 6) 66 (by rfl) w.heap.size 3 iI _ 1 8 Tryd.underlying66 hiI hzI hsI hbI rfl (by decide) (.slice (some ⟨w.heap.size, 0, none⟩) 0 0) 0 [] (by rfl) ⟨rfl, Or.inr ⟨w.heap.size, 0, #[], rfl, Nat.le_refl _, heap_alloc_new w _, by omega, by unfold maxLen; omega, rfl, rfl⟩⟩ a m ca (A.map natv) (by rfl) (fun h => ⟨by rw [HM.out]; exact (HA3.out h).1, (HA3.out h).2⟩) (by rw [List.length_map, HM.out]; omega) (NEWS.out A m a _ HM.out (HRA.out _ ((Below.refl _ _).alloc (Nat.le_refl _) _))) (ONES.out A) (by unfold maxLen; omega) (by omega) (by simp) ?_; intro v2 w2 hown hgr hmv; have HB2 := hid (((Below.refl w.heap.size w).alloc (Nat.le_refl _) (.cells #[] 3)).grown hgr (by simp) (fun q hq => by simp only [Value.ownBlock, Option.some.injEq] at hq; omega)); have HO2 := hid hown; clear hown hgr hmv)
    | (refine wpList_append_blk rfl (.tmp 7) (.tmp 8) 66 (by rfl) w.heap.size 3 iI _ 1 8 Tryd.underlying66 hiI hzI hsI hbI rfl (by decide) v2 (0 + m) ([] ++ A.map natv) (by rfl) HO2.out b n cb (B.map natv) (by rfl) (fun h => ⟨by rw [HN.out]; exact (HB3.out h).1, (HB3.out h).2⟩) (by rw [List.length_map, HN.out]; omega) (NEWS.out B n b _ HN.out (HRB.out _ HB2.out)) (ONES.out B) (by unfold maxLen; omega) (by omega) HB2.out.size ?_; intro v3 w3 hown hgr hmv; have HB3' := hid (HB2.out.grown hgr HB2.out.size (fun q hq => (HO2.out.lt q hq).1)); have HO3 := hid hown; clear hown hgr hmv))
  go_ret
  exact ⟨⟨_, rfl, by rw [List.length_append, ← HM.out, ← HN.out, List.map_append]; simpa using HO3.out⟩, HB3'.out⟩
/-- Where pairs were put in. -/
def PrM (w : World) (lv lv' : Value) (w' : World) : Prop := Frm (fun k => lv.ownBlock = some k) w w' ∧ Moved w lv lv'
theorem PrM.refl (w : World) (lv : Value) : PrM w lv lv w := ⟨Frm.refl _ _, Or.inl rfl⟩
theorem PrM.trans {w w1 w2 : World} {a b c : Value} (h : PrM w a b w1) (k : PrM w1 b c w2) : PrM w a c w2 := by
  have hs := h.1.size
  refine ⟨h.1.trans k.1 (fun i hi e => ?_), ?_⟩
  · rcases h.2 with h2 | ⟨j, h2, h3⟩
    · rw [← h2]; exact e
    · rw [h2] at e; have := Option.some.inj e; omega
  · rcases k.2 with k2 | ⟨j, k2, k3⟩
    · rcases h.2 with h2 | ⟨i, h2, h3⟩
      · exact Or.inl (by rw [k2, h2])
      · exact Or.inr ⟨i, by rw [k2, h2], h3⟩
    · exact Or.inr ⟨j, k2, by omega⟩
theorem PrM.asd {w w1 : World} {a b : Value} {P : World → Prop} (h : PrM w a b w1) (hP : Asd (fun k => a.ownBlock = some k) w P) : Asd (fun k => b.ownBlock = some k) w1 P :=
  hP.frm h.1 (fun k _ e => e) (fun k hk e => by
    rcases h.2 with h2 | ⟨j, h2, h3⟩
    · rw [← h2]; exact e
    · rw [h2] at e; have := Option.some.inj e; omega)
theorem NsX.lenx {X : Nat → Prop} {w : World} {v : Value} {L : List Nat} (h : NsX X w v L) : ∃ a c, v = .slice a L.length c ∧ L.length ≤ c ∧ c ≤ maxLen := by
  obtain ⟨a, c, h1, h2, h3, _⟩ := (Asd.here h).open
  exact ⟨a, c, h1, h2, h3⟩
set_option maxHeartbeats 4000000 in
theorem joined_any {Bs : Nat} (lv vf vt : Value) (ps : List (Nat × Nat)) (F T : List Nat) (w : World) (h : w.ownsRow Bs 74 2 lv ps.length (fl2 ps)) (hBs : Bs ≤ w.heap.size) (hF : NsX (fun k => lv.ownBlock = some k) w vf F) (hT : NsX (fun k => lv.ownBlock = some k) w vt T) (hl : ps.length + F.length * T.length ≤ 1000000) :
    Calls Tryd.prog 45 #[lv, vf, vt] w fun e w' => ∃ lv', e = .returned lv' ∧ w'.ownsRow Bs 74 2 lv' (ps ++ Rx.prod F T).length (fl2 (ps ++ Rx.prod F T)) ∧ PrM w lv lv' w' ∧ Bs ≤ w'.heap.size := by
  obtain ⟨fa, fc, rfl, hf1, hf2⟩ := NsX.lenx hF
  obtain ⟨ta, tc, rfl, ht1, ht2⟩ := NsX.lenx hT
  obtain ⟨iP, hiP, hzP, hsP, hbP⟩ := info_two Tryd.infoPair2
  obtain ⟨n, hn⟩ : ∃ n, n = F.length := ⟨_, rfl⟩
  obtain ⟨m, hm⟩ : ∃ m, m = T.length := ⟨_, rfl⟩
  have HN := hid hn
  have HM := hid hm
  have HF := hid hF
  have HT := hid hT
  have HO := hid h
  rw [← hn] at hf1 hl HF ⊢
  rw [← hm] at ht1 hl HT ⊢
  have HPS := hid fun i (hi : i < n) => (show Rx.prod (F.take (i + 1)) T = Rx.prod (F.take i) T ++ T.map (fun j => (F.getD i 0, j)) from by
    have hiF : i < F.length := by rw [← HN.out]; exact hi
    rw [List.take_add_one, List.getElem?_eq_getElem hiF]
    simp only [Option.toList_some]
    rw [Rx.prod_snoc]
    simp [List.getD, hiF])
  have HTS := hid fun (x : Nat) j (hj : j < m) => (show (T.take (j + 1)).map (fun y => (x, y)) = (T.take j).map (fun y => (x, y)) ++ [(x, T.getD j 0)] from by
    have hjT : j < T.length := by rw [← HM.out]; exact hj
    rw [List.take_add_one, List.getElem?_eq_getElem hjT, List.map_append]
    simp only [Option.toList_some, List.map_cons, List.map_nil, List.getD, List.getElem?_eq_getElem hjT, Option.getD_some])
  have HLN := hid fun i j (hi : i < n) (hj : j ≤ m) => (show (ps ++ Rx.prod (F.take i) T ++ (T.take j).map (fun y => (F.getD i 0, y))).length ≤ 1000000 from by
    simp only [List.length_append, Rx.prod_len, List.length_take, List.length_map, ← HN.out, ← HM.out]
    have h1 : min i n = i := by omega
    have h2 : min j m = j := by omega
    rw [h1, h2]
    have h3 : i * m + m ≤ n * m := by have := Nat.mul_le_mul_right m (show i + 1 ≤ n by omega); rwa [Nat.add_mul, Nat.one_mul] at this
    omega)
  have HFT := hid (show Rx.prod (F.take n) T = Rx.prod F T from by rw [List.take_of_length_le (by rw [HN.out]; exact Nat.le_refl _)])
  have HTT := hid (show T.take m = T from List.take_of_length_le (by rw [HM.out]; exact Nat.le_refl _))
  obtain ⟨RES, hRES⟩ : ∃ RES, RES = ps ++ Rx.prod F T := ⟨_, rfl⟩
  rw [← hRES]
  have HRES := hid hRES
  have hnn : n ≤ 9223372036854775807 := by unfold maxLen at hf2; omega
  have hmm : m ≤ 9223372036854775807 := by unfold maxLen at ht2; omega
  clear h hF hT hn hm hRES
  go_enter Tryd.func45, Tryd.ntmps45
  go_wp2
  go_loopw [0, 7] (fun s0 s7 wr => ∃ (i : Nat) (v : Value), i ≤ n ∧ s0 = v ∧ s7 = .int .i64 i ∧ Hid (PrM w lv v wr) ∧ Hid (wr.ownsRow Bs 74 2 v (ps ++ Rx.prod (F.take i) T).length (fl2 (ps ++ Rx.prod (F.take i) T)))) (fun _ s7 _ => n - (intOf s7).toNat)
  case atStart => exact ⟨0, _, by omega, rfl, rfl, PrM.refl _ _, hid (by simpa [Rx.prod] using HO.out)⟩
  case round =>
    obtain ⟨i, v, hi, hv, rfl, HPM, HOW⟩ := hrel
    have hv := hv.symm
    subst hv
    by_cases hlt : i < n
    case neg =>
      obtain rfl : i = n := by omega
      have HOF := hid (show wr.ownsRow Bs 74 2 v RES.length (fl2 RES) from by rw [HRES.out, ← HFT.out]; exact HOW.out)
      have HSZ := hid (show Bs ≤ wr.heap.size from Nat.le_trans hBs HPM.out.1.size)
      go_wp2
      go_ret
      exact ⟨v, rfl, HOF.out, HPM.out, HSZ.out⟩
    have HOW0 := hid (show wr.ownsRow Bs 74 2 v (ps ++ Rx.prod (F.take i) T ++ (T.take 0).map (fun y => (F.getD i 0, y))).length (fl2 (ps ++ Rx.prod (F.take i) T ++ (T.take 0).map (fun y => (F.getD i 0, y)))) from by simpa using HOW.out)
    go_wp2
    go_loopw [0, 8] (fun s0 s8 wr => ∃ (j : Nat) (v : Value), j ≤ m ∧ s0 = v ∧ s8 = .int .i64 j ∧ Hid (PrM w lv v wr) ∧ Hid (wr.ownsRow Bs 74 2 v (ps ++ Rx.prod (F.take i) T ++ (T.take j).map (fun y => (F.getD i 0, y))).length (fl2 (ps ++ Rx.prod (F.take i) T ++ (T.take j).map (fun y => (F.getD i 0, y)))))) (fun _ s8 _ => m - (intOf s8).toNat)
    case atStart => exact ⟨0, v, by omega, rfl, rfl, HPM.out, HOW0.out⟩
    case round =>
      clear HPM HOW HOW0
      obtain ⟨j, v, hj, hv, rfl, HPM, HOW⟩ := hrel
      have hv := hv.symm
      subst hv
      by_cases hjl : j < m
      case neg =>
        obtain rfl : j = m := by omega
        have HOF := hid (show wr.ownsRow Bs 74 2 v (ps ++ Rx.prod (F.take (i + 1)) T).length (fl2 (ps ++ Rx.prod (F.take (i + 1)) T)) from by
          have h := HOW.out
          rw [HTT.out, List.append_assoc, ← HPS.out i hlt] at h
          exact h)
        go_wp2
        go_roundw
        case rel => exact ⟨i + 1, v, by omega, rfl, by go_num, HPM.out, HOF.out⟩
        case measure => simp [intOf]; omega
      have hFr := (Asd.here (HPM.out.asd HF.out)).row
      have hTr := (Asd.here (HPM.out.asd HT.out)).row
      obtain ⟨fb, fo, rfl, hfc⟩ := hFr.2.get (show i < n from hlt)
      obtain ⟨tb, tof, rfl, htc⟩ := hTr.2.get (show j < m from hjl)
      have d0 := hfc i hlt
      have d1 := htc j hjl
      obtain ⟨x, hx⟩ : ∃ x, x = F.getD i 0 := ⟨_, rfl⟩
      obtain ⟨y, hy⟩ : ∃ y, y = T.getD j 0 := ⟨_, rfl⟩
      have HX := hid hx
      have HY := hid hy
      rw [← hx] at d0
      rw [← hy] at d1
      unfold natv at d0 d1
      have HLEN := hid (HLN.out i j hlt hj)
      obtain ⟨LL, hLL⟩ : ∃ LL, LL = ps ++ Rx.prod (F.take i) T ++ (T.take j).map (fun y => (F.getD i 0, y)) := ⟨_, rfl⟩
      have HLL := hid hLL
      rw [← hLL] at HOW HLEN
      have hBs' := hBs
      have HSZ := hid (show ∀ o, Bs ≤ (wr.alloc o).heap.size from fun o => by have := HPM.out.1.size; simp; omega)
      have hne : v.ownBlock ≠ some wr.heap.size := fun e => by have := (HOW.out.lt _ e).2; omega
      have HFA := hid (show fb < wr.heap.size ∧ tb < wr.heap.size from ⟨lt_of_cell d0, lt_of_cell d1⟩)
      have HFX := hid (show ∀ (o : Obj) (w5 : World), (wr.drew.alloc o).grownBy w5 v.ownBlock → w5.cell? ⟨fb, fo + i, none⟩ = some (.int .i64 (x : Nat)) ∧ w5.cell? ⟨tb, tof + j, none⟩ = some (.int .i64 (y : Nat)) from fun o w5 hgr => by
        have hP1 : PrM wr v v (wr.drew.alloc o) := ⟨((Frm.refl _ _).drewN 1).alloc o, Or.inl rfl⟩
        have hP2 : PrM (wr.drew.alloc o) v v w5 := ⟨frm_grown hgr, Or.inl rfl⟩
        have h1 := (Asd.here (hP2.asd (hP1.asd (HPM.out.asd HF.out)))).row
        have h2 := (Asd.here (hP2.asd (hP1.asd (HPM.out.asd HT.out)))).row
        obtain ⟨fb', fo', e1, hfc'⟩ := h1.2.get (show i < n from hlt)
        obtain ⟨tb', to', e2, htc'⟩ := h2.2.get (show j < m from hjl)
        cases e1
        cases e2
        have q1 := hfc' i hlt
        have q2 := htc' j hjl
        unfold natv at q1 q2
        rw [HX.out, HY.out]
        exact ⟨q1, q2⟩)
      have B1 := hid (show LL.length + 1 ≤ maxLen by have := HLEN.out; unfold maxLen; omega)
      have B2 := hid (show (LL.length + 1) * 16 ≤ 140737488355328 by have := HLEN.out; omega)
      clear hx hy hfc htc hFr hTr hLL
      go_upto_region 7 with fail
      go_region_held3 (fun w' => w'.cell? ⟨fb, fo + i, none⟩ = some (.int .i64 (x : Nat)) ∧ w'.cell? ⟨tb, tof + j, none⟩ = some (.int .i64 (y : Nat)))
        (first
          | (refine ⟨?_, ?_⟩ <;> with_reducible assumption)
          | (refine ⟨?_, ?_⟩ <;> assumption)
          | go_keep)
        (first
          | (refine step_append_lies _ (by rfl) (.tmp 21) (.tmp 31) 69 (by rfl) Bs 74 iP _ 2 16 Tryd.underlying69 hiP hzP hsP hbP rfl (by decide) v _ (fl2 LL) (by rfl) (HOW.out.alloc _) ⟨wr.heap.size, 0, none⟩ 1 1 [.int .i64 (x : Nat), .int .i64 (y : Nat)] (by rfl) (by rfl) (World.news_of_block (cs := #[.int .i64 (x : Nat), .int .i64 (y : Nat)]) (t := 74) (fr := (0, 0)) (heap_alloc_new wr.drew _)) (by simp [Value.oneCell']) (Nat.one_pos) B1.out B2.out (HSZ.out _) (wr.heap.size + 1) (by simp) ?_; intro g cap w5 hown hgr hg hgl; obtain ⟨q0, q1⟩ := HFX.out _ w5 hgr; have HOWN := hid hown; have HGR := hid (show PrM wr v (.slice (some ⟨g, 0, none⟩) (LL.length + 1) cap) w5 from PrM.trans (b := v) ⟨((Frm.refl _ _).drewN 1).alloc _, Or.inl rfl⟩ ⟨frm_grown hgr, hg.elim (fun e => Or.inl (by rw [e]; rfl)) (fun e => Or.inr ⟨g, rfl, by rw [e]; simp⟩)⟩); clear hown hgr hg hgl)
          | fail)
      clear q0 q1
      have HOF := hid (show w5.ownsRow Bs 74 2 (.slice (some ⟨g, 0, none⟩) (LL.length + 1) cap) (ps ++ Rx.prod (F.take i) T ++ (T.take (j + 1)).map (fun y => (F.getD i 0, y))).length (fl2 (ps ++ Rx.prod (F.take i) T ++ (T.take (j + 1)).map (fun y => (F.getD i 0, y)))) from by
        rw [HTS.out _ j hjl, ← List.append_assoc, ← HLL.out, fl2_append, List.length_append]
        have h := HOWN.out
        rw [HX.out, HY.out] at h
        exact h)
      have HPM2 := hid (HPM.out.trans HGR.out)
      go_wp2
      go_roundw
      case rel => exact ⟨j + 1, _, by omega, rfl, by go_num, HPM2.out, HOF.out⟩
      case measure => simp [intOf]; omega
end Go.Proofs.YtobcbaeoedpefaaDoor
