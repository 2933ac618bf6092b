/- auto's Steps. -/
import Derived.Test.YtobcbaeoedpefaaDoorAuWord
import Derived.Test.YtobcbaeoedpefaaDoorClone
import Derived.Deep.RegionHeld3
namespace Go.Proofs.YtobcbaeoedpefaaDoor
set_option linter.unusedVariables false
set_option linter.unusedSimpArgs false
set_option maxRecDepth 100000
open Go.ChangeShapes Go.WideShapes Go.ChangeAt Go.RowKit
open Au
theorem Tryd.infoStep : (Tryd.prog.info? 48).map (fun i => (i.zero, i.size, i.bytes)) = some (some (.agg #[.int .i64 0, .int .i64 0, .bool false, .bool false, .slice none 0 0]), 5, 48) := by kernel_rfl
/-- What a place is along; 0: nothing. -/
def labOf (r : Rx) (j : Nat) : Lb := (⟨false, false, []⟩ :: r.labs : List Lb).getD j default
def stpOf (r : Rx) (i j : Nat) : Stp := ⟨(i : Nat), (j : Nat), (labOf r j).back, (labOf r j).not, (labOf r j).texts⟩
def rowTo (r : Rx) (i j : Nat) : List Stp := ((List.range j).filter fun k => r.nxt i k).map (stpOf r i)
def stepsTo (r : Rx) (i : Nat) : List Stp := (List.range i).flatMap fun a => rowTo r a (1 + r.n)
/-- All steps. -/
def stepsOf (r : Rx) : List Stp := stepsTo r (1 + r.n)
theorem rowTo_succ (r : Rx) (i j : Nat) : rowTo r i (j + 1) = rowTo r i j ++ if r.nxt i j then [stpOf r i j] else [] := by
  unfold rowTo
  rw [List.range_succ, List.filter_append, List.map_append]
  congr 1
  by_cases h : r.nxt i j = true <;> simp [h]
theorem stepsTo_succ (r : Rx) (i : Nat) : stepsTo r (i + 1) = stepsTo r i ++ rowTo r i (1 + r.n) := by
  unfold stepsTo
  rw [List.range_succ, List.flatMap_append]
  simp
theorem rowTo_len (r : Rx) (i j : Nat) : (rowTo r i j).length ≤ j := by
  unfold rowTo
  rw [List.length_map]
  have := List.length_filter_le (fun k => r.nxt i k) (List.range j)
  simpa using this
theorem stepsTo_len (r : Rx) (i : Nat) : (stepsTo r i).length ≤ i * (1 + r.n) := by
  induction i with
  | zero => simp [stepsTo]
  | succ i ih =>
    have := rowTo_len r i (1 + r.n)
    rw [stepsTo_succ, List.length_append, Nat.succ_mul]; omega
theorem stepsOf_len (r : Rx) : (stepsOf r).length = ((List.range (1 + r.n)).map fun a => ((List.range (1 + r.n)).filter fun j => r.nxt a j).length).sum := by
  unfold stepsOf stepsTo rowTo
  rw [List.length_flatMap]
  congr 1
  refine List.map_congr_left fun a _ => ?_
  rw [List.length_map]
/-- A row of steps that is built by appending: its texts lie in blocks from B on, beside it. -/
structure SrAt (B : Nat) (w : World) (v : Value) (xs : List Value) (L : List Stp) : Prop where
  own : w.ownsRow B 48 5 v L.length xs
  cells : ∀ j (h : j < L.length), ∃ a n c, xs[j * 5]? = some (.int .i64 L[j].from_) ∧ xs[j * 5 + 1]? = some (.int .i64 L[j].to) ∧ xs[j * 5 + 2]? = some (.bool L[j].back) ∧ xs[j * 5 + 3]? = some (.bool L[j].not) ∧ xs[j * 5 + 4]? = some (.slice a n c) ∧ Asd (fun k => v.ownBlock = some k ∨ k < B) w (fun W => TextsAt W (.slice a n c) L[j].texts)
theorem SrAt.nil (B : Nat) (w : World) : SrAt B w (.slice none 0 0) [] [] := ⟨World.ownsRow_nil _ _ _ _, fun j h => absurd h (by simp)⟩
theorem SrAt.keep {B : Nat} {w w' : World} {v : Value} {xs : List Value} {L : List Stp} (h : SrAt B w v xs L) (hb : Below w.heap.size w w') : SrAt B w' v xs L := by
  refine ⟨?_, fun j hj => ?_⟩
  · obtain ⟨h0, h1 | ⟨g, cap, cur, e, hB, hg, r⟩⟩ := h.own
    · exact ⟨h0, Or.inl h1⟩
    · exact ⟨h0, Or.inr ⟨g, cap, cur, e, hB, by rw [hb.block g (lt_of_block hg)]; exact hg, r⟩⟩
  · obtain ⟨a, n, c, h1, h2, h3, h4, h5, h6⟩ := h.cells j hj
    exact ⟨a, n, c, h1, h2, h3, h4, h5, h6.frm (Y := fun _ => False) (Frm.of_below hb) (fun _ _ h => h.elim) (fun _ _ h => h)⟩
theorem SrAt.snoc {B : Nat} {w w' : World} {v : Value} {xs : List Value} {L : List Stp} (h : SrAt B w v xs L) {g cap : Nat} {s : Stp} {a : Option Addr} {n c : Nat} (hown : w'.ownsRow B 48 5 (.slice (some ⟨g, 0, none⟩) (L.length + 1) cap) (L.length + 1) (xs ++ [.int .i64 s.from_, .int .i64 s.to, .bool s.back, .bool s.not, .slice a n c]))
    (hgr : w.grownBy w' v.ownBlock) {H : Nat} (hg : v.ownBlock = some g ∨ g = H) (hH : w.heap.size = H) (hT : Asd (fun k => v.ownBlock = some k ∨ k < B) w (fun W => TextsAt W (.slice a n c) s.texts)) :
    SrAt B w' (.slice (some ⟨g, 0, none⟩) (L.length + 1) cap) (xs ++ [.int .i64 s.from_, .int .i64 s.to, .bool s.back, .bool s.not, .slice a n c]) (L ++ [s]) := by
  subst hH
  have hxl : xs.length = L.length * 5 := h.own.1
  have key : ∀ P, Asd (fun k => v.ownBlock = some k ∨ k < B) w P → Asd (fun k => (Value.slice (some ⟨g, 0, none⟩) (L.length + 1) cap).ownBlock = some k ∨ k < B) w' P := fun P hP =>
    hP.frm (frm_grown hgr) (fun k _ e => Or.inl e) (fun k hk e => by
      rcases e with e | e
      · have e' : g = k := by simpa [Value.ownBlock] using e
        rcases hg with hg | hg
        · exact Or.inl (by rw [hg, e'])
        · omega
      · exact Or.inr e)
  refine ⟨by simpa using hown, fun j hj => ?_⟩
  by_cases hjl : j < L.length
  · obtain ⟨a', n', c', h1, h2, h3, h4, h5, h6⟩ := h.cells j hjl
    rw [List.getElem_append_left hjl]
    exact ⟨a', n', c', by rw [List.getElem?_append_left (by omega)]; exact h1, by rw [List.getElem?_append_left (by omega)]; exact h2, by rw [List.getElem?_append_left (by omega)]; exact h3, by rw [List.getElem?_append_left (by omega)]; exact h4, by rw [List.getElem?_append_left (by omega)]; exact h5, key _ h6⟩
  · have hje : j = L.length := by simp at hj; omega
    subst hje
    rw [List.getElem_append_right (Nat.le_refl _)]
    simp only [Nat.sub_self, List.getElem_cons_zero]
    exact ⟨a, n, c, by rw [List.getElem?_append_right (by omega), hxl]; simp, by rw [List.getElem?_append_right (by omega), hxl]; simp, by rw [List.getElem?_append_right (by omega), hxl]; simp, by rw [List.getElem?_append_right (by omega), hxl]; simp, by rw [List.getElem?_append_right (by omega), hxl]; simp, key _ hT⟩
theorem SrAt.steps {B : Nat} {w : World} {v : Value} {xs : List Value} {L : List Stp} (h : SrAt B w v xs L) : StepsAt w v L := by
  obtain ⟨h0, h1 | ⟨g, cap, cur, rfl, hB, hg, hn, hm, hs, ht⟩⟩ := h.own
  · obtain ⟨rfl, hl⟩ := h1
    have : L = [] := List.eq_nil_of_length_eq_zero hl
    subst this
    exact StepsAt.nil w
  · obtain ⟨f, hf⟩ : ∃ f : Nat → Value, ∀ j, j < L.length → xs[j * 5 + 4]? = some (f j) := by
      refine ⟨fun j => xs.getD (j * 5 + 4) undef, fun j hj => ?_⟩
      obtain ⟨a, n, c, _, _, _, _, h5, _⟩ := h.cells j hj
      rw [h5]; simp [List.getD, h5]
    refine ⟨some ⟨g, 0, none⟩, cap, g, 0, f, rfl, hn, hm, (fun h => by cases h), fun _ => rfl, fun j hj => ?_, fun j hj => ?_⟩
    · obtain ⟨a, n, c, h1, h2, h3, h4, h5, h6⟩ := h.cells j hj
      rw [Nat.zero_add]
      exact ⟨(own_cell h.own h1).1, (own_cell h.own h2).1, (own_cell h.own h3).1, (own_cell h.own h4).1, (own_cell h.own (hf j hj)).1⟩
    · obtain ⟨a, n, c, h1, h2, h3, h4, h5, h6⟩ := h.cells j hj
      have := hf j hj
      rw [h5] at this
      rw [← Option.some.inj this]
      exact h6.here

theorem asd_fromS {X : Nat → Prop} {B : Nat} {w : World} {v : Value} {L : List T} (h : From B w v L) (hX : ∀ k, X k → k < B) : Asd X w (fun W => TextsAt W v L) := fun w'' hw => h w'' fun k hk hl => hw k hl fun hx => by have := hX k hx; omega
set_option maxHeartbeats 8000000 in
theorem steps_au {B : Nat} {w : World} {p : Nat} {r : Rx} (h : IsAuto B w p r) :
    Calls Tryd.prog 19 #[.pointer (some ⟨p, 0, none⟩)] w fun e w' => (∃ v, e = .returned v ∧ StepsAt w' v (stepsOf r)) ∧ Below w.heap.size w w' := by
  obtain ⟨lb, cl, nb, cn, lxs, nx, last, h1, hnl, hnx, hlt, hla, h32, htx⟩ := h
  obtain ⟨LS, hLS⟩ : ∃ LS : List Lb, LS = ⟨false, false, []⟩ :: r.labs := ⟨_, rfl⟩
  rw [← hLS] at h1
  have hLl : LS.length = 1 + r.n := by rw [hLS]; simp [Rx.n]; omega
  have p0 := h1.blk.cell (i := 0) rfl
  have p1 := h1.blk.cell (i := 1) rfl
  rw [hLl] at p0
  rw [hnl] at p1
  have HNC := hid fun i (hi : i < 1 + r.n) => (h1.nextCell (i := i) (by omega)).1
  have HLC := hid fun i (hi : i < 1 + r.n) => (show ∃ a n c, w.cell? ⟨lb, i * 3, none⟩ = some (.bool (labOf r i).back) ∧ w.cell? ⟨lb, i * 3 + 1, none⟩ = some (.bool (labOf r i).not) ∧ w.cell? ⟨lb, i * 3 + 2, none⟩ = some (.slice a n c) ∧ TextsAt w (.slice a n c) (labOf r i).texts by
    obtain ⟨a, n, c, e1, e2, e3, e4⟩ := h1.labs i (by omega)
    have hg : labOf r i = LS[i]'(by omega) := by unfold labOf; rw [← hLS]; simp [List.getD, show i < LS.length by omega]
    rw [hg]
    exact ⟨a, n, c, (own_cell h1.lown e1).1, (own_cell h1.lown e2).1, (own_cell h1.lown e3).1, e4.here⟩)
  have HNX := hid hnx
  have HLT := hid hlt
  have HTX := hid fun i => (show (labOf r i).texts.length ≤ 300 from by
    unfold labOf
    cases i with
    | zero => simp
    | succ i =>
      rw [List.getD_cons_succ]
      by_cases hi : i < r.labs.length
      · rw [show r.labs.getD i default = r.labs[i] by simp [List.getD, hi]]; exact htx _ (List.getElem_mem _)
      · rw [show r.labs.getD i default = default by simp [List.getD, List.getElem?_eq_none (Nat.le_of_not_lt hi)]]; decide)
  have hq1 := (own_blk h1.nown).2.2.1
  have hq2 := (own_blk h1.nown).2.2.2.1
  have hq3 := (own_blk h1.lown).2.2.1
  have hq4 := (own_blk h1.lown).2.2.2.1
  rw [hnl] at hq1
  rw [hLl] at hq3
  have HSS := hid fun i => stepsTo_succ r i
  have HRS := hid fun i j => rowTo_succ r i j
  have HSL := hid fun i => stepsTo_len r i
  have HRL := hid fun i j => rowTo_len r i j
  obtain ⟨N, hN⟩ : ∃ N, N = 1 + r.n := ⟨_, rfl⟩
  have HNN := hid hN
  have HOF := hid (show stepsOf r = stepsTo r N by rw [hN]; rfl)
  rw [← hN] at p0 p1 HNC HLC hq1 hq3 h32 HSS HSL
  rw [HOF.out]
  clear hN
  obtain ⟨iS, hiS, hzS, hsS, hbS⟩ := info_two Tryd.infoStep
  unfold u32v at HNC
  have hR0 : (rowTo r 0 0) = [] := by simp [rowTo]
  clear h1 hnl hnx hlt hla htx hLS hLl hR0
  go_enter Tryd.func19, Tryd.ntmps19
  go_wp2
  go_loopw [3, 15] (fun s3 s15 wr => ∃ (i : Nat) (v : Value) (xs : List Value), i ≤ N ∧ s3 = v ∧ s15 = .int .i64 i ∧ Hid (Below w.heap.size w wr) ∧ Hid (SrAt w.heap.size wr v xs (stepsTo r i))) (fun _ s15 _ => N - (intOf s15).toNat)
  case atStart => exact ⟨0, _, [], by omega, rfl, rfl, Below.refl _ _, SrAt.nil _ _⟩
  case round =>
    obtain ⟨i, v, xs, hi, hv, rfl, HBr, HV⟩ := hrel
    have hv := hv.symm
    subst hv
    by_cases hlt : i < N
    · have e0 := below_keep HBr.out (HNC.out i hlt)
      have q0 := below_keep HBr.out p0
      have q1 := below_keep HBr.out p1
      have hxi := HLT.out i
      have HNi := hid (HNX.out i)
      obtain ⟨z, hz⟩ : ∃ z, z = nx.getD i 0 := ⟨_, rfl⟩
      rw [← hz] at e0 hxi HNi
      have HHAS := hid fun j (hj : j < 64) w => has_any z j hxi hj w
      unfold u32v at HHAS
      have HV0 := hid (show SrAt w.heap.size wr v xs (stepsTo r i ++ rowTo r i 0) by rw [show rowTo r i 0 = [] by simp [rowTo], List.append_nil]; exact HV.out)
      clear hz
      go_wp2
      go_loopw [3, 25] (fun s3 s25 wr => ∃ (j : Nat) (v : Value) (xs : List Value), j ≤ N ∧ s3 = v ∧ s25 = .int .i64 j ∧ Hid (Below w.heap.size w wr) ∧ Hid (SrAt w.heap.size wr v xs (stepsTo r i ++ rowTo r i j))) (fun _ s25 _ => N - (intOf s25).toNat)
      case atStart => exact ⟨0, v, xs, by omega, rfl, rfl, HBr.out, HV0.out⟩
      case round =>
        clear e0 q0 q1 HBr HV HV0
        obtain ⟨j, v, xs, hj, hv, rfl, HBr, HV⟩ := hrel
        have hv := hv.symm
        subst hv
        by_cases hjl : j < N
        · obtain ⟨a, n, c, e0, e1, e2, hta⟩ := HLC.out j hjl
          have d0 := below_keep HBr.out e0
          have d1 := below_keep HBr.out e1
          have d2 := below_keep HBr.out e2
          have q0 := below_keep HBr.out p0
          have q1 := below_keep HBr.out p1
          obtain ⟨l, hl⟩ : ∃ l, l = labOf r j := ⟨_, rfl⟩
          rw [← hl] at e0 e1 d0 d1 hta
          obtain ⟨wk, hwk⟩ : ∃ wk, wk = wr.alloc (.cells #[.bool l.back, .bool l.not, .slice a n c] 76) := ⟨_, rfl⟩
          have hbk : Below wr.heap.size wr wk := by rw [hwk]; exact (Below.refl _ _).alloc (Nat.le_refl _) _
          have hXk : Blk wk wr.heap.size [.bool l.back, .bool l.not, .slice a n c] 76 := by rw [hwk]; exact Blk.new wr _ _
          have HHj := hid (HHAS.out j (by omega))
          have HNj := hid (HNi.out j)
          have HBk := hid (below_then HBr.out hbk)
          have HVk := hid (HV.out.keep hbk)
          have HTA := hid (hta.keep HBk.out)
          have HRj := hid (HRS.out i j)
          have HST := hid (show stpOf r i j = ⟨(i : Nat), (j : Nat), l.back, l.not, l.texts⟩ by unfold stpOf; rw [hl])
          have m0 := hXk.cell (i := 0) rfl
          have m1 := hXk.cell (i := 1) rfl
          have m2 := hXk.cell (i := 2) rfl
          have HXk := hid hXk
          have hsl := HSL.out i
          have hrl := HRL.out i j
          have hmul : i * N ≤ 32 * 32 := Nat.mul_le_mul (by omega) h32
          have HLEN := hid (show (stepsTo r i ++ rowTo r i j).length ≤ 2000 by rw [List.length_append]; omega)
          have HLT5 := hid (show l.texts.length ≤ 300 by rw [hl]; exact HTX.out j)
          have hne : v.ownBlock ≠ some wr.heap.size := fun e => by have := (HV.out.own.lt _ e).2; omega
          have HNE := hid hne
          have HOL := hid fun k (e : v.ownBlock = some k) => (HVk.out.own.lt k e).2
          clear hne hl hbk hXk hsl hrl hmul hta e0 e1 e2
          go_upto_region 10 with fail
          rw [← hwk]
          clear hwk
          cases hb : z.testBit j
          · rw [hb] at HHj HNj
            clear hb
            go_wp2_with (go_at_call 34; refine (HHj.out _).mono ?_; rintro e wq ⟨rfl, hw⟩; rw [hw]; clear hw wq)
            go_roundw
            case rel => exact ⟨j + 1, v, xs, by omega, rfl, by go_num, HBk.out, hid (by rw [HRj.out, ← HNj.out, if_neg (by simp), List.append_nil]; exact HVk.out)⟩
            case measure => simp [intOf]; omega
          · rw [hb] at HHj HNj
            clear hb
            go_wp2_with (go_at_call 34; refine (HHj.out _).mono ?_; rintro e wq ⟨rfl, hw⟩; rw [hw]; clear hw wq)
            have CL := hid fun W (hb : Below wk.heap.size wk W) => clone_any (.slice a n c) l.texts W (HTA.out.keep hb) HLT5.out
            have B1 := hid (show (stepsTo r i ++ rowTo r i j).length + 1 ≤ maxLen by have := HLEN.out; unfold maxLen; omega)
            have B2 := hid (show ((stepsTo r i ++ rowTo r i j).length + 1) * 48 ≤ 140737488355328 by have := HLEN.out; omega)
            have B3 := hid (show ∀ (a2 : Option Addr) (cap2 : Nat), ∀ u ∈ [Value.int .i64 (i : Nat), .int .i64 (j : Nat), .bool l.back, .bool l.not, .slice a2 l.texts.length cap2], u.oneCell' = true from fun a2 cap2 u hu => by
              simp only [List.mem_cons, List.not_mem_nil, or_false] at hu
              rcases hu with rfl | rfl | rfl | rfl | rfl <;> rfl)
            have B4 := hid (show ∀ (w2 : World) (o : Obj), Below wk.heap.size wk w2 → w.heap.size ≤ (w2.alloc o).heap.size from fun w2 o h => by have := HBk.out.size; have := h.size; simp; omega)
            have B5 := hid (show Below wk.heap.size wk wk.drew from below_drawn (Below.refl _ _) 1)
            go_region_held3 (fun w' => w'.cell? ⟨wr.heap.size, 0, none⟩ = some (.bool l.back) ∧ w'.cell? ⟨wr.heap.size, 1, none⟩ = some (.bool l.not) ∧ w'.cell? ⟨wr.heap.size, 2, none⟩ = some (.slice a n c))
              (first
                | (refine ⟨?_, ?_, ?_⟩ <;> assumption)
                | go_keep)
              (first
                | (go_at_call 35; refine (CL.out _ B5.out).mono ?_; rintro e w2 ⟨v2, rfl, hb2, ht2, hf2⟩; obtain ⟨a2, cap2, rfl, _⟩ := ht2.open; have hb2' : Below wk.heap.size wk w2 := B5.out.trans hb2; have x0 := below_keep hb2' m0; have x1 := below_keep hb2' m1; have x2 := below_keep hb2' m2; have HB2 := hid hb2'; have HF2 := hid (show From wk.heap.size w2 (.slice a2 l.texts.length cap2) l.texts from hf2); have HV2 := hid (HVk.out.keep hb2'); have HX2 := hid (HXk.out.keep hb2'); clear hb2 hb2' ht2 hf2)
                | (refine step_append_lies _ (by rfl) (.tmp 33) (.tmp 44) 36 (by rfl) w.heap.size 48 iS _ 5 48 Tryd.underlying36 hiS hzS hsS hbS rfl (by decide) v _ xs (by rfl) (HV2.out.own.alloc _) ⟨w2.heap.size, 0, none⟩ 1 1 [.int .i64 (i : Nat), .int .i64 (j : Nat), .bool l.back, .bool l.not, .slice a2 l.texts.length cap2] (by rfl) (by rfl) (World.news_of_block (cs := #[.int .i64 (i : Nat), .int .i64 (j : Nat), .bool l.back, .bool l.not, .slice a2 l.texts.length cap2]) (t := 48) (fr := (0, 0)) (heap_alloc_new w2 _)) (B3.out _ _) (Nat.one_pos) B1.out B2.out (B4.out _ _ HB2.out) (w2.heap.size + 1) (by simp) ?_; intro g cap w5 hown hgr hg hlt; have hX5 := (HX2.out.alloc (.cells #[.int .i64 (i : Nat), .int .i64 (j : Nat), .bool l.back, .bool l.not, .slice a2 l.texts.length cap2] 48)).frm (frm_grown hgr) HNE.out; have y0 := hX5.cell (i := 0) rfl; have y1 := hX5.cell (i := 1) rfl; have y2 := hX5.cell (i := 2) rfl))
            have hB2w := HB2.out
            have HSN := hid (SrAt.snoc (s := ⟨(i : Nat), (j : Nat), l.back, l.not, l.texts⟩) (HV2.out.keep ((Below.refl _ _).alloc (Nat.le_refl _) _)) hown hgr hg (by simp) ((asd_fromS HF2.out (fun k e => e.elim (fun e => HOL.out k e) (fun e => Nat.lt_of_lt_of_le e HBk.out.size))).frm (Y := fun _ => False) (Frm.of_below ((Below.refl _ _).alloc (Nat.le_refl _) _)) (fun _ _ h => h.elim) (fun _ _ h => h)))
            have hB5 : Below w.heap.size w w5 := ((HBk.out.trans (hB2w.mono HBk.out.size)).alloc (by have := HBk.out.size; have := hB2w.size; omega) _).grown hgr (by have := HBk.out.size; have := hB2w.size; simp; omega) (fun q hq => (HV2.out.own.lt q hq).1)
            have HB5 := hid hB5
            clear hown hgr hg hlt hB2w hB5 hX5
            clear y0 y1 y2 x0 x1 x2
            go_wp2
            go_roundw
            case rel => exact ⟨j + 1, _, _, by omega, rfl, by go_num, HB5.out, hid (by rw [HRj.out, ← HNj.out, if_pos rfl, HST.out, ← List.append_assoc]; simpa using HSN.out)⟩
            case measure => simp [intOf]; omega
        · obtain rfl : j = N := by omega
          have HF := hid (show SrAt w.heap.size wr v xs (stepsTo r (i + 1)) by rw [HSS.out]; exact HV.out)
          go_wp2
          go_roundw
          case rel => exact ⟨i + 1, v, xs, by omega, rfl, by go_num, HBr.out, HF.out⟩
          case measure => simp [intOf]; omega
    · obtain rfl : i = N := by omega
      have HF := hid HV.out.steps
      go_wp2
      go_ret
      exact ⟨⟨v, rfl, HF.out⟩, HBr.out⟩
end Go.Proofs.YtobcbaeoedpefaaDoor
