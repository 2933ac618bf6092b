/- auto's New. -/
import Derived.Test.YtobcbaeoedpefaaDoorAuWord
import Derived.Test.YtobcbaeoedpefaaDoorAuSeq
namespace Go.Proofs.YtobcbaeoedpefaaDoor
set_option linter.unusedVariables false
set_option linter.unusedSimpArgs false
set_option maxRecDepth 100000
open Go.ChangeShapes Go.WideShapes Go.ChangeAt Go.RowKit
open Au
/-- All pairs of places that may stand one behind the other. -/
def Rx.cnt (r : Rx) : Nat := ((List.range (1 + r.n)).map fun a => ((List.range (1 + r.n)).filter fun j => r.nxt a j).length).sum
theorem tot_cnt {r : Rx} {nx : List Nat} (hn : nx.length = 1 + r.n) (h : ∀ i j, (nx.getD i 0).testBit j = r.nxt i j) : tot nx nx.length nx.length = Rx.cnt r := by
  unfold tot Rx.cnt rowc
  rw [hn]
  simp only [h]
theorem Tryd.newLabel : Tryd.prog.underlying 56 = some (.slice 76) := Tryd.underlying56
/-- The first automaton: no places but the beginning. -/
theorem au_start {W : World} {B p lb nb : Nat} (h1 : Blk W p [.slice (some ⟨lb, 0, none⟩) 1 1, .slice (some ⟨nb, 0, none⟩) 1 1, .int .u32 0] 61) (h2 : Blk W lb [.bool false, .bool false, .slice none 0 0] 76) (h3 : Blk W nb [.int .u32 0] 59)
    (hp : B ≤ p) (hl : B ≤ lb) (hn : B ≤ nb) (e1 : lb ≠ p) (e2 : nb ≠ p) (e3 : lb ≠ nb) : AuAt B (fun _ => False) W p lb 1 nb 1 [.bool false, .bool false, .slice none 0 0] [⟨false, false, []⟩] [0] 0 where
  blk := h1
  lown := ⟨rfl, Or.inr ⟨lb, 1, _, rfl, hl, h2, by simp, by unfold maxLen; omega, rfl, rfl⟩⟩
  nown := ⟨rfl, Or.inr ⟨nb, 1, _, rfl, hn, h3, by simp, by unfold maxLen; omega, rfl, rfl⟩⟩
  pB := hp
  lp := e1
  np := e2
  ln := e3
  yp := fun h => h
  yl := fun h => h
  yn := fun h => h
  labs := fun j hj => by
    obtain rfl : j = 0 := by simp at hj; omega
    exact ⟨none, 0, 0, rfl, rfl, rfl, fun w'' _ => SlAt.nil _⟩
theorem made3 (a b c : Value) : madeCells #[a, b, c] (1 * 3) = #[a, b, c] := by unfold madeCells; apply Array.ext'; simp [List.range_succ, Array.toList_range]
theorem made1 (a : Value) : madeCells #[a] (1 * 1) = #[a] := by unfold madeCells; apply Array.ext'; simp [List.range_succ, Array.toList_range]
theorem labs_short : ∀ (x : Pt) (b : Bool), (∃ d, x.wf d = true) → ∀ l ∈ (x.rx b).labs, l.texts.length ≤ 300 := by
  intro x
  induction x using Pt.ind with
  | h k t L K ih =>
    rintro b ⟨d, hw⟩
    rw [wf_mk] at hw
    simp only [Bool.and_eq_true, decide_eq_true_eq] at hw
    obtain ⟨⟨⟨_, _⟩, ht⟩, hk⟩ := hw
    have hk := (Pt.wfs_all _ _).1 hk
    match K, ih, hk with
    | [], ih, hk =>
      rw [Pt.rx]
      split
      · intro l hl; simp [Rx.labs] at hl; subst hl; simp
      · intro l hl
        simp [Rx.labs] at hl
        subst hl
        simp only
        unfold Pt.txt at ht
        split at ht
        · simp at ht; simp [ht.1]
        · split at ht
          · simp at ht; omega
          · simp at ht; simp [ht.2]
    | [x], ih, hk =>
      have i1 := fun b => ih x (by simp) b ⟨_, hk x (by simp)⟩
      rw [Pt.rx]
      split
      · exact i1 _
      · split
        · exact i1 _
        · split
          · exact i1 _
          · exact i1 _
    | x :: y :: _, ih, hk =>
      have i1 := fun b => ih x (by simp) b ⟨_, hk x (by simp)⟩
      have i2 := fun b => ih y (by simp) b ⟨_, hk y (by simp)⟩
      rw [Pt.rx]
      split
      · split
        · intro l hl; simp only [Rx.labs, List.mem_append] at hl; exact hl.elim (i2 _ l) (i1 _ l)
        · intro l hl; simp only [Rx.labs, List.mem_append] at hl; exact hl.elim (i1 _ l) (i2 _ l)
      · intro l hl; simp only [Rx.labs, List.mem_append] at hl; exact hl.elim (i1 _ l) (i2 _ l)
theorem new_rows {r : Rx} {nx0 nx' : List Nat} {F : Nat} (h : Rows r 1 nx0 nx') (hF : Set F (r.fst 1)) (i j : Nat) : ((nx'.set 0 F).getD i 0).testBit j = r.nxt i j := by
  unfold Rx.nxt
  by_cases hi : i = 0
  · subst hi
    rw [if_pos rfl, ← hF.2]
    have : 0 < nx'.length := by rw [h.len]; omega
    simp [List.getD, this]
  · rw [if_neg hi]
    have e : (nx'.set 0 F).getD i 0 = nx'.getD i 0 := by simp [List.getD, List.getElem?_set, Ne.symm hi]
    rw [e]
    by_cases hl : i < 1 + r.n
    · exact h.new i j (by omega) hl
    · have : nx'[i]? = none := by rw [List.getElem?_eq_none]; rw [h.len]; omega
      rw [fol_no (Or.inr (by omega))]
      simp [List.getD, this]
theorem new_lt {nx' : List Nat} {F : Nat} (h : ∀ i, nx'.getD i 0 < 2 ^ 32) (hF : F < 2 ^ 32) (i : Nat) : (nx'.set 0 F).getD i 0 < 2 ^ 32 := by
  by_cases hi : i = 0
  · subst hi
    cases nx' with
    | nil => exact h 0
    | cons a l => exact hF
  · have e : (nx'.set 0 F).getD i 0 = nx'.getD i 0 := by simp [List.getD, List.getElem?_set, Ne.symm hi]
    rw [e]; exact h i
theorem AuAt.base {B B' : Nat} {Y : Nat → Prop} {w : World} {p lb cl nb cn : Nat} {lxs : List Value} {ls : List Lb} {nx : List Nat} {last : Nat} (h : AuAt B Y w p lb cl nb cn lxs ls nx last) (hB : B' ≤ B) : AuAt B' Y w p lb cl nb cn lxs ls nx last where
  blk := h.blk
  lown := by
    obtain ⟨h1, h2, h3, h4, h5, cur, h6, h7, h8⟩ := own_blk h.lown
    exact ⟨h5, Or.inr ⟨lb, cl, cur, rfl, by omega, h6, h3, h4, h7, h8⟩⟩
  nown := by
    obtain ⟨h1, h2, h3, h4, h5, cur, h6, h7, h8⟩ := own_blk h.nown
    exact ⟨h5, Or.inr ⟨nb, cn, cur, rfl, by omega, h6, h3, h4, h7, h8⟩⟩
  pB := by have := h.pB; omega
  lp := h.lp
  np := h.np
  ln := h.ln
  yp := h.yp
  yl := h.yl
  yn := h.yn
  labs := h.labs
def NewPost (x : Pt) (w : World) (e : Ending) (w' : World) : Prop :=
  Below w.heap.size w w' ∧ ((x.may = false ∧ e = .returned (.tuple #[.pointer none, .int .i64 1])) ∨
    (x.may = true ∧ 200 < Rx.cnt (x.rx false) ∧ e = .returned (.tuple #[.pointer none, .int .i64 3])) ∨
    (x.may = true ∧ Rx.cnt (x.rx false) ≤ 200 ∧ ∃ p, e = .returned (.tuple #[.pointer (some ⟨p, 0, none⟩), .int .i64 0]) ∧ IsAuto w.heap.size w' p (x.rx false)))
set_option maxHeartbeats 8000000 in
theorem new_au (x : Pt) (v u : Value) (w : World) (hP : PtAt w v u x) (hT : T8 w) (hA : x.may = true → AddOk x) : Calls Tryd.prog 14 #[pv x v u] w (NewPost x w) := by
  obtain ⟨a, n, c, a', n', c', rfl, rfl⟩ := pv_open hP
  obtain ⟨w1, hw1, hz1, HXb, HP1, HB1⟩ := pt_box w x _ _ hP
  have HT1 := hT.keep HB1.out
  have IP := ispath_any x _ _ w1 HP1.out HT1
  unfold pv at IP ⊢
  obtain ⟨c0, c1, c2, c3⟩ := blk4 HXb.out
  cases hm : x.may
  · rw [hm] at IP
    have IP := hid IP
    have HM := hid hm
    clear hm hz1 hA hP hT HT1
    go_enter Tryd.func14, Tryd.ntmps14
    go_upto_region 1 with fail
    rw [← hw1]
    clear hw1
    go_wp2_with (go_at_call 28; refine IP.out.mono ?_; rintro e w2 ⟨rfl, hb2⟩)
    go_ret2
    exact ⟨below_then HB1.out hb2, Or.inl ⟨HM.out, rfl⟩⟩
  · rw [hm] at IP
    have IP := hid IP
    have HM := hid hm
    have HADD := hid (hA hm)
    clear hm hz1 hA hP hT HT1
    go_enter Tryd.func14, Tryd.ntmps14
    go_upto_region 1 with fail
    rw [← hw1]
    clear hw1
    go_wp2_with (go_at_call 28; refine IP.out.mono ?_; rintro e w2 ⟨rfl, hb2⟩; have HB2 := hid hb2; clear hb2)
    --CUT--
    obtain ⟨iL, hiL, hzL, hsL, hbL⟩ := info_two Tryd.infoLabel
    obtain ⟨iP, hiP, hzP, hsP, hbP⟩ := info_two Tryd.infoPlaces
    have mkL : ∀ W : World, (Instr.makeSlice 56 (.int .i64 1) (.int .i64 1)).run Tryd.prog W = .ok (.slice (some ⟨W.heap.size, 0, none⟩) 1 1) (W.alloc (.cells #[.bool false, .bool false, .slice none 0 0] 76)) := fun W => by
      have h := run_make W 56 76 iL _ Tryd.underlying56 hiL hzL .i64 .i64 1 1 (by omega) (by omega) (by rw [hbL]; decide) (by decide)
      rw [hsL, show (Value.agg #[.bool false, .bool false, .slice none 0 0]).cells = #[.bool false, .bool false, .slice none 0 0] from rfl, show (1 : Int).toNat = 1 from rfl, made3] at h; exact h
    have mkP : ∀ W : World, (Instr.makeSlice 57 (.int .i64 1) (.int .i64 1)).run Tryd.prog W = .ok (.slice (some ⟨W.heap.size, 0, none⟩) 1 1) (W.alloc (.cells #[.int .u32 0] 59)) := fun W => by
      have h := run_make W 57 59 iP _ Tryd.underlying57 hiP hzP .i64 .i64 1 1 (by omega) (by omega) (by rw [hbP]; decide) (by decide)
      rw [hsP, show (Value.int .u32 0).cells = #[.int .u32 0] from rfl, show (1 : Int).toNat = 1 from rfl, made1] at h; exact h
    have H32 := hid (show 1 + (x.rx false).n ≤ 32 by
      have h := HM.out
      unfold Pt.may at h
      simp only [Bool.and_eq_true, decide_eq_true_eq] at h
      have := (Pt.rx_n x false).2
      omega)
    have HTX := hid (show ∀ l ∈ (x.rx false).labs, l.texts.length ≤ 300 from labs_short x false (by
      have h := HM.out
      unfold Pt.may at h
      simp only [Bool.and_eq_true] at h
      exact ⟨0, h.1⟩))
    have hX2 := HXb.out.keep HB2.out
    have HP2 := hid (HP1.out.keep HB2.out)
    have HX2 := hid hX2
    clear c0 c1 c2 c3 hX2
    go_region
    · obtain ⟨w3, hw3⟩ : ∃ w3, w3 = (((w2.alloc (.cells #[.bool false, .bool false, .slice none 0 0] 76)).alloc (.cells #[.int .u32 0] 59)).alloc (.cells #[.slice (some ⟨w2.heap.size, 0, none⟩) 1 1, .slice (some ⟨w2.heap.size + 1, 0, none⟩) 1 1, .int .u32 0] 61)).drew := ⟨_, rfl⟩
      have hb3 : Below w2.heap.size w2 w3 := by rw [hw3]; exact ((((Below.refl _ _).alloc (Nat.le_refl _) _).alloc (by simp) _).alloc (by simp; omega) _).drew
      have hbA : Blk w3 (w2.heap.size + 1 + 1) [.slice (some ⟨w2.heap.size, 0, none⟩) 1 1, .slice (some ⟨w2.heap.size + 1, 0, none⟩) 1 1, .int .u32 0] 61 := by rw [hw3]; exact (Blk.new' (by simp) rfl).drew
      have hbL : Blk w3 (w2.heap.size) [.bool false, .bool false, .slice none 0 0] 76 := by rw [hw3]; exact (((Blk.new w2 _ _).alloc _).alloc _).drew
      have hbN : Blk w3 (w2.heap.size + 1) [.int .u32 0] 59 := by rw [hw3]; exact ((Blk.new' (by simp) rfl).alloc _).drew
      have A3 := au_start (B := w2.heap.size) hbA hbL hbN (by omega) (by omega) (by omega) (by omega) (by omega) (by omega)
      have hX3 := HX2.out.keep hb3
      have C := HADD.out w2 w3 _ _ false (fun _ => False) _ _ _ _ _ _ _ _ _ HP2.out hb3 A3 (fun _ h => h.elim) rfl H32.out (fun j => by rcases j with _ | j <;> (show _ < 2 ^ 32; simp))
      unfold pv AddPost u32v at C
      obtain ⟨em, hem⟩ : ∃ em, em = (x.rx false).emp := ⟨_, rfl⟩
      rw [← hem] at C
      have C := hid C
      have HEM := hid hem
      have HB3 := hid hb3
      obtain ⟨d0, d1, d2, d3⟩ := blk4 hX3
      clear hb3 hbA hbL hbN A3 hX3 hem
      rw [← hw3]
      clear hw3
      cases em
      · go_wp2_with fail
        refine C.out.mono ?_
        rintro e w4 ⟨F, L, nx', rfl, hF, hL, hRo, hp⟩
        have hp5 := AuPost.alloc hp (.cells #[.int .u32 F, .int .u32 L, .bool false] 63)
        obtain ⟨w5, hw5⟩ : ∃ w5, w5 = w4.alloc (.cells #[.int .u32 F, .int .u32 L, .bool false] 63) := ⟨_, rfl⟩
        have hR5 : Blk (w4.alloc (.cells #[.int .u32 F, .int .u32 L, .bool false] 63)) w4.heap.size [.int .u32 F, .int .u32 L, .bool false] 63 := Blk.new w4 _ _
        rw [← hw5] at hp5 hR5
        have HS4 := hid (AuPost.size hp)
        obtain ⟨lb5, cl5, nb5, cn5, lxs5, A5, F5, g5, h5⟩ := hp5
        have hlen : 0 < nx'.length := by rw [hRo.len]; have := (Pt.rx_n x false).1; omega
        have p0 := A5.blk.cell (i := 0) rfl
        have p1 := A5.blk.cell (i := 1) rfl
        have p2 := A5.blk.cell (i := 2) rfl
        have f2 := A5.blk.free 2
        have n0 := A5.nextCell hlen
        obtain ⟨n0, nf⟩ := n0
        have r0 := hR5.cell (i := 0) rfl
        have r1 := hR5.cell (i := 1) rfl
        have r2 := hR5.cell (i := 2) rfl
        have hcap := (own_blk A5.nown).2.2.1
        have e1 : w4.heap.size ≠ nb5 := fun e => A5.yn (Or.inr e.symm)
        have e2 : nb5 ≠ w4.heap.size := fun e => e1 e.symm
        have e3 : w4.heap.size ≠ w2.heap.size + 1 + 1 := fun e => A5.yp (Or.inr e.symm)
        have e4 : w2.heap.size + 1 + 1 ≠ w4.heap.size := fun e => e3 e.symm
        have e5 : nb5 ≠ w2.heap.size + 1 + 1 := A5.np
        have e6 : w2.heap.size + 1 + 1 ≠ nb5 := fun e => e5 e.symm
        have HA5 := hid A5
        have HF5 := hid F5
        have HF := hid hF
        have HL := hid hL
        have HRo := hid hRo
        have HR5 := hid hR5
        have HLEN := hid hlen
        unfold u32v at n0
        clear A5 F5 g5 h5 hF hL hRo hp hR5
        go_upto_region 5 with fail
        rw [← hw5]
        clear hw5
        refine wp_region_drawn_tail 7 (by kernel_rfl) (by kernel_rfl) ?_
        simp only [List.take_succ_cons, List.take_zero, List.drop_succ_cons, List.drop_zero]
        repeat (go_big_quiet_step (fail))
        refine wpQuiet_nil ?_
        rintro _ ⟨nq, rfl⟩
        obtain ⟨W5, hW5⟩ : ∃ W5, W5 = w5.drewN nq := ⟨_, rfl⟩
        have hbq : Below w5.heap.size w5 W5 := by rw [hW5]; exact below_drawn (Below.refl _ _) nq
        rw [← hW5]
        clear hW5
        have p0 := below_keep hbq p0
        have p1 := below_keep hbq p1
        have p2 := below_keep hbq p2
        have r0 := below_keep hbq r0
        have r1 := below_keep hbq r1
        have r2 := below_keep hbq r2
        have n0 := below_keep hbq n0
        have nf := ((HA5.out.keep hbq).nextCell HLEN.out).2
        have f2 := (HA5.out.keep hbq).blk.free 2
        have hA6 := (((HA5.out.keep hbq).setNext 0 F HLEN.out).setLast L)
        have HBq := hid hbq
        clear hbq
        obtain ⟨W6, hW6⟩ : ∃ W6, W6 = (W5.setCell ⟨nb5, 0, none⟩ (.int .u32 F)).setCell ⟨w2.heap.size + 1 + 1, 2, none⟩ (.int .u32 L) := ⟨_, rfl⟩
        rw [show (W5.setCell ⟨nb5, 0, none⟩ (u32v F)).setCell ⟨w2.heap.size + 1 + 1, 2, none⟩ (u32v L) = W6 from hW6.symm] at hA6
        have hF6 : Frm (fun k => k = w2.heap.size + 1 + 1 ∨ k = nb5) W5 W6 := by rw [hW6]; exact Frm.set (X := fun k => k = w2.heap.size + 1 + 1 ∨ k = nb5) (Frm.set (X := fun k => k = w2.heap.size + 1 + 1 ∨ k = nb5) (Frm.refl _ _) (Or.inl (Or.inr rfl)) _ _) (Or.inl (Or.inl rfl)) _ _
        have hR6 := (HR5.out.keep HBq.out).frm hF6 (fun e => e.elim e3 e1)
        have u0 := hR6.cell (i := 2) rfl
        have HA6 := hid hA6
        have HF6 := hid hF6
        have hl6 := HRo.out.len
        have hnB := (own_blk hA6.nown).1
        have HNB := hid hnB
        have HB6 := hid (show Below w.heap.size w W6 from ((below_then (below_then HB1.out HB2.out) HB3.out).trans ((HF5.out.below (B := w2.heap.size) HB3.out.size (fun k hk e => by
            rcases e with e | e | e | e
            · omega
            · omega
            · omega
            · exact e)).mono (by have := HB1.out.size; have := HB2.out.size; omega)) |>.trans ((HBq.out.mono (by have := HB1.out.size; have := HB2.out.size; have := HB3.out.size; have := HF5.out.size; omega)) |> fun h => h.trans (hF6.below (B := w.heap.size) (by have := HB1.out.size; have := HB2.out.size; have := HB3.out.size; have := HF5.out.size; have := HBq.out.size; omega) (fun k hk e => by have := HB1.out.size; have := HB2.out.size; rcases e with e | e <;> omega)))))
        clear hF6 hR6 hnB
        go_upto_region 7 with fail
        rw [← hW6]
        clear hW6
        obtain ⟨W8, hW8⟩ : ∃ W8, W8 = W6 := ⟨_, rfl⟩
        have hA8 := hA6
        have HB8 := HB6
        have HLAST := hid (show Set L (x.rx false).endd from HL.out.congr fun j => by
          unfold Rx.endd
          by_cases hj : j = 0
          · subst hj; rw [if_pos rfl, ← HEM.out]; exact lst_no (Or.inl (by decide))
          · rw [if_neg hj]; rfl)
        rw [← hW8] at hA8 HB8
        clear hA6
        go_upto_region 9 with fail
        rw [← hW8]
        clear hW8
        have hset : ∀ i j, ((nx'.set 0 F).getD i 0).testBit j = (x.rx false).nxt i j := new_rows HRo.out HF.out
        have hslt : ∀ i, (nx'.set 0 F).getD i 0 < 2 ^ 32 := new_lt HRo.out.lt HF.out.1
        have hsl : (nx'.set 0 F).length = 1 + (x.rx false).n := by rw [List.length_set, HRo.out.len]; rfl
        have CN := count_au hA8 (by rw [hsl]; exact H32.out) hslt
        rw [tot_cnt hsl hset] at CN
        have HAUTO := hid (show IsAuto w.heap.size W8 (w2.heap.size + 1 + 1) (x.rx false) from ⟨lb5, cl5, nb5, cn5, lxs5, _, _, ((hA8.more (Z := fun _ => False) (fun k e => e.elim)).base (by have := HB1.out.size; have := HB2.out.size; omega)), hsl, hset, hslt, HLAST.out, H32.out, HTX.out⟩)
        obtain ⟨ct, hct⟩ : ∃ ct, ct = Rx.cnt (x.rx false) := ⟨_, rfl⟩
        rw [← hct] at CN
        have CN := hid CN
        have HCT := hid hct
        clear hset hslt hsl hA8 hct
        by_cases hc : 200 < ct
        · go_wp2_with (go_at_call 31; refine CN.out.mono ?_; rintro e wq ⟨rfl, hw⟩; rw [hw]; clear hw wq)
          go_ret2
          exact ⟨HB8.out, Or.inr (Or.inl ⟨HM.out, by rw [← HCT.out]; exact hc, rfl⟩)⟩
        · go_wp2_with (go_at_call 31; refine CN.out.mono ?_; rintro e wq ⟨rfl, hw⟩; rw [hw]; clear hw wq)
          go_ret2
          exact ⟨HB8.out, Or.inr (Or.inr ⟨HM.out, by rw [← HCT.out]; omega, _, rfl, HAUTO.out⟩)⟩
      · go_wp2_with fail
        refine C.out.mono ?_
        rintro e w4 ⟨F, L, nx', rfl, hF, hL, hRo, hp⟩
        have hp5 := AuPost.alloc hp (.cells #[.int .u32 F, .int .u32 L, .bool true] 63)
        obtain ⟨w5, hw5⟩ : ∃ w5, w5 = w4.alloc (.cells #[.int .u32 F, .int .u32 L, .bool true] 63) := ⟨_, rfl⟩
        have hR5 : Blk (w4.alloc (.cells #[.int .u32 F, .int .u32 L, .bool true] 63)) w4.heap.size [.int .u32 F, .int .u32 L, .bool true] 63 := Blk.new w4 _ _
        rw [← hw5] at hp5 hR5
        have HS4 := hid (AuPost.size hp)
        obtain ⟨lb5, cl5, nb5, cn5, lxs5, A5, F5, g5, h5⟩ := hp5
        have hlen : 0 < nx'.length := by rw [hRo.len]; have := (Pt.rx_n x false).1; omega
        have p0 := A5.blk.cell (i := 0) rfl
        have p1 := A5.blk.cell (i := 1) rfl
        have p2 := A5.blk.cell (i := 2) rfl
        have f2 := A5.blk.free 2
        have n0 := A5.nextCell hlen
        obtain ⟨n0, nf⟩ := n0
        have r0 := hR5.cell (i := 0) rfl
        have r1 := hR5.cell (i := 1) rfl
        have r2 := hR5.cell (i := 2) rfl
        have hcap := (own_blk A5.nown).2.2.1
        have e1 : w4.heap.size ≠ nb5 := fun e => A5.yn (Or.inr e.symm)
        have e2 : nb5 ≠ w4.heap.size := fun e => e1 e.symm
        have e3 : w4.heap.size ≠ w2.heap.size + 1 + 1 := fun e => A5.yp (Or.inr e.symm)
        have e4 : w2.heap.size + 1 + 1 ≠ w4.heap.size := fun e => e3 e.symm
        have e5 : nb5 ≠ w2.heap.size + 1 + 1 := A5.np
        have e6 : w2.heap.size + 1 + 1 ≠ nb5 := fun e => e5 e.symm
        have HA5 := hid A5
        have HF5 := hid F5
        have HF := hid hF
        have HL := hid hL
        have HRo := hid hRo
        have HR5 := hid hR5
        have HLEN := hid hlen
        unfold u32v at n0
        clear A5 F5 g5 h5 hF hL hRo hp hR5
        go_upto_region 5 with fail
        rw [← hw5]
        clear hw5
        refine wp_region_drawn_tail 7 (by kernel_rfl) (by kernel_rfl) ?_
        simp only [List.take_succ_cons, List.take_zero, List.drop_succ_cons, List.drop_zero]
        repeat (go_big_quiet_step (fail))
        refine wpQuiet_nil ?_
        rintro _ ⟨nq, rfl⟩
        obtain ⟨W5, hW5⟩ : ∃ W5, W5 = w5.drewN nq := ⟨_, rfl⟩
        have hbq : Below w5.heap.size w5 W5 := by rw [hW5]; exact below_drawn (Below.refl _ _) nq
        rw [← hW5]
        clear hW5
        have p0 := below_keep hbq p0
        have p1 := below_keep hbq p1
        have p2 := below_keep hbq p2
        have r0 := below_keep hbq r0
        have r1 := below_keep hbq r1
        have r2 := below_keep hbq r2
        have n0 := below_keep hbq n0
        have nf := ((HA5.out.keep hbq).nextCell HLEN.out).2
        have f2 := (HA5.out.keep hbq).blk.free 2
        have hA6 := (((HA5.out.keep hbq).setNext 0 F HLEN.out).setLast L)
        have HBq := hid hbq
        clear hbq
        obtain ⟨W6, hW6⟩ : ∃ W6, W6 = (W5.setCell ⟨nb5, 0, none⟩ (.int .u32 F)).setCell ⟨w2.heap.size + 1 + 1, 2, none⟩ (.int .u32 L) := ⟨_, rfl⟩
        rw [show (W5.setCell ⟨nb5, 0, none⟩ (u32v F)).setCell ⟨w2.heap.size + 1 + 1, 2, none⟩ (u32v L) = W6 from hW6.symm] at hA6
        have hF6 : Frm (fun k => k = w2.heap.size + 1 + 1 ∨ k = nb5) W5 W6 := by rw [hW6]; exact Frm.set (X := fun k => k = w2.heap.size + 1 + 1 ∨ k = nb5) (Frm.set (X := fun k => k = w2.heap.size + 1 + 1 ∨ k = nb5) (Frm.refl _ _) (Or.inl (Or.inr rfl)) _ _) (Or.inl (Or.inl rfl)) _ _
        have hR6 := (HR5.out.keep HBq.out).frm hF6 (fun e => e.elim e3 e1)
        have u0 := hR6.cell (i := 2) rfl
        have HA6 := hid hA6
        have HF6 := hid hF6
        have hl6 := HRo.out.len
        have hnB := (own_blk hA6.nown).1
        have HNB := hid hnB
        have HB6 := hid (show Below w.heap.size w W6 from ((below_then (below_then HB1.out HB2.out) HB3.out).trans ((HF5.out.below (B := w2.heap.size) HB3.out.size (fun k hk e => by
            rcases e with e | e | e | e
            · omega
            · omega
            · omega
            · exact e)).mono (by have := HB1.out.size; have := HB2.out.size; omega)) |>.trans ((HBq.out.mono (by have := HB1.out.size; have := HB2.out.size; have := HB3.out.size; have := HF5.out.size; omega)) |> fun h => h.trans (hF6.below (B := w.heap.size) (by have := HB1.out.size; have := HB2.out.size; have := HB3.out.size; have := HF5.out.size; have := HBq.out.size; omega) (fun k hk e => by have := HB1.out.size; have := HB2.out.size; rcases e with e | e <;> omega)))))
        clear hF6 hR6 hnB
        go_upto_region 7 with fail
        rw [← hW6]
        clear hW6
        have l2 := hA6.blk.cell (i := 2) rfl
        have lf := hA6.blk.free 2
        have HOR := hid (or_u32 L 1 HL.out.1 (by decide))
        have ON := hid fun W => only_any 0 (by decide) W
        unfold u32v at l2 ON
        have hA7 := hA6.setLast (L ||| 1)
        clear hA6
        go_upto_region 8 with fail
        refine wp_region_drawn_tail 8 (by kernel_rfl) (by kernel_rfl) ?_
        simp only [List.take_succ_cons, List.take_zero, List.drop_succ_cons, List.drop_zero]
        repeat (go_big_quiet_step (first | (go_at_call 30; exact drawn_same fun W hW => ON.out W) | fail))
        refine wpQuiet_nil ?_
        rintro _ ⟨nr, rfl⟩
        obtain ⟨W7, hW7⟩ : ∃ W7, W7 = W6.drewN nr := ⟨_, rfl⟩
        have hbr : Below W6.heap.size W6 W7 := by rw [hW7]; exact below_drawn (Below.refl _ _) nr
        rw [← hW7]
        clear hW7
        have l2 := below_keep hbr l2
        have lf := (HA6.out.keep hbr).blk.free 2
        have hA8 := (HA6.out.keep hbr).setLast (L ||| 1)
        obtain ⟨W8, hW8⟩ : ∃ W8, W8 = W7.setCell ⟨w2.heap.size + 1 + 1, 2, none⟩ (.int .u32 ((L ||| 1 : Nat))) := ⟨_, rfl⟩
        rw [show W7.setCell ⟨w2.heap.size + 1 + 1, 2, none⟩ (u32v (L ||| 1)) = W8 from hW8.symm] at hA8
        have HB8 := hid (show Below w.heap.size w W8 by rw [hW8]; exact (HB6.out.trans (hbr.mono HB6.out.size)).setCell (by show w.heap.size ≤ w2.heap.size + 1 + 1; have := HB1.out.size; have := HB2.out.size; omega) _)
        have HLAST := hid (show Set (L ||| 1) (x.rx false).endd from (HL.out.or (Set.one (m := 0) (by decide))).congr fun j => by
          unfold Rx.endd
          by_cases hj : j = 0
          · subst hj; rw [if_pos rfl, ← HEM.out]; simp
          · rw [if_neg hj]; simp [hj])
        clear hbr hA7
        go_upto_region 9 with fail
        rw [show bits BinOp.or IntKind.u32 (L : Int) 1 = ((L ||| 1 : Nat) : Int) from HOR.out, ← hW8]
        clear hW8
        have hset : ∀ i j, ((nx'.set 0 F).getD i 0).testBit j = (x.rx false).nxt i j := new_rows HRo.out HF.out
        have hslt : ∀ i, (nx'.set 0 F).getD i 0 < 2 ^ 32 := new_lt HRo.out.lt HF.out.1
        have hsl : (nx'.set 0 F).length = 1 + (x.rx false).n := by rw [List.length_set, HRo.out.len]; rfl
        have CN := count_au hA8 (by rw [hsl]; exact H32.out) hslt
        rw [tot_cnt hsl hset] at CN
        have HAUTO := hid (show IsAuto w.heap.size W8 (w2.heap.size + 1 + 1) (x.rx false) from ⟨lb5, cl5, nb5, cn5, lxs5, _, _, ((hA8.more (Z := fun _ => False) (fun k e => e.elim)).base (by have := HB1.out.size; have := HB2.out.size; omega)), hsl, hset, hslt, HLAST.out, H32.out, HTX.out⟩)
        obtain ⟨ct, hct⟩ : ∃ ct, ct = Rx.cnt (x.rx false) := ⟨_, rfl⟩
        rw [← hct] at CN
        have CN := hid CN
        have HCT := hid hct
        clear hset hslt hsl hA8 hct
        by_cases hc : 200 < ct
        · go_wp2_with (go_at_call 31; refine CN.out.mono ?_; rintro e wq ⟨rfl, hw⟩; rw [hw]; clear hw wq)
          go_ret2
          exact ⟨HB8.out, Or.inr (Or.inl ⟨HM.out, by rw [← HCT.out]; exact hc, rfl⟩)⟩
        · go_wp2_with (go_at_call 31; refine CN.out.mono ?_; rintro e wq ⟨rfl, hw⟩; rw [hw]; clear hw wq)
          go_ret2
          exact ⟨HB8.out, Or.inr (Or.inr ⟨HM.out, by rw [← HCT.out]; omega, _, rfl, HAUTO.out⟩)⟩
    · obtain ⟨w3, hw3⟩ : ∃ w3, w3 = (((w2.alloc (.cells #[.int .u32 0] 59)).alloc (.cells #[.bool false, .bool false, .slice none 0 0] 76)).alloc (.cells #[.slice (some ⟨w2.heap.size + 1, 0, none⟩) 1 1, .slice (some ⟨w2.heap.size, 0, none⟩) 1 1, .int .u32 0] 61)).drew := ⟨_, rfl⟩
      have hb3 : Below w2.heap.size w2 w3 := by rw [hw3]; exact ((((Below.refl _ _).alloc (Nat.le_refl _) _).alloc (by simp) _).alloc (by simp; omega) _).drew
      have hbA : Blk w3 (w2.heap.size + 1 + 1) [.slice (some ⟨w2.heap.size + 1, 0, none⟩) 1 1, .slice (some ⟨w2.heap.size, 0, none⟩) 1 1, .int .u32 0] 61 := by rw [hw3]; exact (Blk.new' (by simp) rfl).drew
      have hbL : Blk w3 (w2.heap.size + 1) [.bool false, .bool false, .slice none 0 0] 76 := by rw [hw3]; exact ((Blk.new' (by simp) rfl).alloc _).drew
      have hbN : Blk w3 (w2.heap.size) [.int .u32 0] 59 := by rw [hw3]; exact (((Blk.new w2 _ _).alloc _).alloc _).drew
      have A3 := au_start (B := w2.heap.size) hbA hbL hbN (by omega) (by omega) (by omega) (by omega) (by omega) (by omega)
      have hX3 := HX2.out.keep hb3
      have C := HADD.out w2 w3 _ _ false (fun _ => False) _ _ _ _ _ _ _ _ _ HP2.out hb3 A3 (fun _ h => h.elim) rfl H32.out (fun j => by rcases j with _ | j <;> (show _ < 2 ^ 32; simp))
      unfold pv AddPost u32v at C
      obtain ⟨em, hem⟩ : ∃ em, em = (x.rx false).emp := ⟨_, rfl⟩
      rw [← hem] at C
      have C := hid C
      have HEM := hid hem
      have HB3 := hid hb3
      obtain ⟨d0, d1, d2, d3⟩ := blk4 hX3
      clear hb3 hbA hbL hbN A3 hX3 hem
      rw [← hw3]
      clear hw3
      cases em
      · go_wp2_with fail
        refine C.out.mono ?_
        rintro e w4 ⟨F, L, nx', rfl, hF, hL, hRo, hp⟩
        have hp5 := AuPost.alloc hp (.cells #[.int .u32 F, .int .u32 L, .bool false] 63)
        obtain ⟨w5, hw5⟩ : ∃ w5, w5 = w4.alloc (.cells #[.int .u32 F, .int .u32 L, .bool false] 63) := ⟨_, rfl⟩
        have hR5 : Blk (w4.alloc (.cells #[.int .u32 F, .int .u32 L, .bool false] 63)) w4.heap.size [.int .u32 F, .int .u32 L, .bool false] 63 := Blk.new w4 _ _
        rw [← hw5] at hp5 hR5
        have HS4 := hid (AuPost.size hp)
        obtain ⟨lb5, cl5, nb5, cn5, lxs5, A5, F5, g5, h5⟩ := hp5
        have hlen : 0 < nx'.length := by rw [hRo.len]; have := (Pt.rx_n x false).1; omega
        have p0 := A5.blk.cell (i := 0) rfl
        have p1 := A5.blk.cell (i := 1) rfl
        have p2 := A5.blk.cell (i := 2) rfl
        have f2 := A5.blk.free 2
        have n0 := A5.nextCell hlen
        obtain ⟨n0, nf⟩ := n0
        have r0 := hR5.cell (i := 0) rfl
        have r1 := hR5.cell (i := 1) rfl
        have r2 := hR5.cell (i := 2) rfl
        have hcap := (own_blk A5.nown).2.2.1
        have e1 : w4.heap.size ≠ nb5 := fun e => A5.yn (Or.inr e.symm)
        have e2 : nb5 ≠ w4.heap.size := fun e => e1 e.symm
        have e3 : w4.heap.size ≠ w2.heap.size + 1 + 1 := fun e => A5.yp (Or.inr e.symm)
        have e4 : w2.heap.size + 1 + 1 ≠ w4.heap.size := fun e => e3 e.symm
        have e5 : nb5 ≠ w2.heap.size + 1 + 1 := A5.np
        have e6 : w2.heap.size + 1 + 1 ≠ nb5 := fun e => e5 e.symm
        have HA5 := hid A5
        have HF5 := hid F5
        have HF := hid hF
        have HL := hid hL
        have HRo := hid hRo
        have HR5 := hid hR5
        have HLEN := hid hlen
        unfold u32v at n0
        clear A5 F5 g5 h5 hF hL hRo hp hR5
        go_upto_region 5 with fail
        rw [← hw5]
        clear hw5
        refine wp_region_drawn_tail 7 (by kernel_rfl) (by kernel_rfl) ?_
        simp only [List.take_succ_cons, List.take_zero, List.drop_succ_cons, List.drop_zero]
        repeat (go_big_quiet_step (fail))
        refine wpQuiet_nil ?_
        rintro _ ⟨nq, rfl⟩
        obtain ⟨W5, hW5⟩ : ∃ W5, W5 = w5.drewN nq := ⟨_, rfl⟩
        have hbq : Below w5.heap.size w5 W5 := by rw [hW5]; exact below_drawn (Below.refl _ _) nq
        rw [← hW5]
        clear hW5
        have p0 := below_keep hbq p0
        have p1 := below_keep hbq p1
        have p2 := below_keep hbq p2
        have r0 := below_keep hbq r0
        have r1 := below_keep hbq r1
        have r2 := below_keep hbq r2
        have n0 := below_keep hbq n0
        have nf := ((HA5.out.keep hbq).nextCell HLEN.out).2
        have f2 := (HA5.out.keep hbq).blk.free 2
        have hA6 := (((HA5.out.keep hbq).setNext 0 F HLEN.out).setLast L)
        have HBq := hid hbq
        clear hbq
        obtain ⟨W6, hW6⟩ : ∃ W6, W6 = (W5.setCell ⟨nb5, 0, none⟩ (.int .u32 F)).setCell ⟨w2.heap.size + 1 + 1, 2, none⟩ (.int .u32 L) := ⟨_, rfl⟩
        rw [show (W5.setCell ⟨nb5, 0, none⟩ (u32v F)).setCell ⟨w2.heap.size + 1 + 1, 2, none⟩ (u32v L) = W6 from hW6.symm] at hA6
        have hF6 : Frm (fun k => k = w2.heap.size + 1 + 1 ∨ k = nb5) W5 W6 := by rw [hW6]; exact Frm.set (X := fun k => k = w2.heap.size + 1 + 1 ∨ k = nb5) (Frm.set (X := fun k => k = w2.heap.size + 1 + 1 ∨ k = nb5) (Frm.refl _ _) (Or.inl (Or.inr rfl)) _ _) (Or.inl (Or.inl rfl)) _ _
        have hR6 := (HR5.out.keep HBq.out).frm hF6 (fun e => e.elim e3 e1)
        have u0 := hR6.cell (i := 2) rfl
        have HA6 := hid hA6
        have HF6 := hid hF6
        have hl6 := HRo.out.len
        have hnB := (own_blk hA6.nown).1
        have HNB := hid hnB
        have HB6 := hid (show Below w.heap.size w W6 from ((below_then (below_then HB1.out HB2.out) HB3.out).trans ((HF5.out.below (B := w2.heap.size) HB3.out.size (fun k hk e => by
            rcases e with e | e | e | e
            · omega
            · omega
            · omega
            · exact e)).mono (by have := HB1.out.size; have := HB2.out.size; omega)) |>.trans ((HBq.out.mono (by have := HB1.out.size; have := HB2.out.size; have := HB3.out.size; have := HF5.out.size; omega)) |> fun h => h.trans (hF6.below (B := w.heap.size) (by have := HB1.out.size; have := HB2.out.size; have := HB3.out.size; have := HF5.out.size; have := HBq.out.size; omega) (fun k hk e => by have := HB1.out.size; have := HB2.out.size; rcases e with e | e <;> omega)))))
        clear hF6 hR6 hnB
        go_upto_region 7 with fail
        rw [← hW6]
        clear hW6
        obtain ⟨W8, hW8⟩ : ∃ W8, W8 = W6 := ⟨_, rfl⟩
        have hA8 := hA6
        have HB8 := HB6
        have HLAST := hid (show Set L (x.rx false).endd from HL.out.congr fun j => by
          unfold Rx.endd
          by_cases hj : j = 0
          · subst hj; rw [if_pos rfl, ← HEM.out]; exact lst_no (Or.inl (by decide))
          · rw [if_neg hj]; rfl)
        rw [← hW8] at hA8 HB8
        clear hA6
        go_upto_region 9 with fail
        rw [← hW8]
        clear hW8
        have hset : ∀ i j, ((nx'.set 0 F).getD i 0).testBit j = (x.rx false).nxt i j := new_rows HRo.out HF.out
        have hslt : ∀ i, (nx'.set 0 F).getD i 0 < 2 ^ 32 := new_lt HRo.out.lt HF.out.1
        have hsl : (nx'.set 0 F).length = 1 + (x.rx false).n := by rw [List.length_set, HRo.out.len]; rfl
        have CN := count_au hA8 (by rw [hsl]; exact H32.out) hslt
        rw [tot_cnt hsl hset] at CN
        have HAUTO := hid (show IsAuto w.heap.size W8 (w2.heap.size + 1 + 1) (x.rx false) from ⟨lb5, cl5, nb5, cn5, lxs5, _, _, ((hA8.more (Z := fun _ => False) (fun k e => e.elim)).base (by have := HB1.out.size; have := HB2.out.size; omega)), hsl, hset, hslt, HLAST.out, H32.out, HTX.out⟩)
        obtain ⟨ct, hct⟩ : ∃ ct, ct = Rx.cnt (x.rx false) := ⟨_, rfl⟩
        rw [← hct] at CN
        have CN := hid CN
        have HCT := hid hct
        clear hset hslt hsl hA8 hct
        by_cases hc : 200 < ct
        · go_wp2_with (go_at_call 31; refine CN.out.mono ?_; rintro e wq ⟨rfl, hw⟩; rw [hw]; clear hw wq)
          go_ret2
          exact ⟨HB8.out, Or.inr (Or.inl ⟨HM.out, by rw [← HCT.out]; exact hc, rfl⟩)⟩
        · go_wp2_with (go_at_call 31; refine CN.out.mono ?_; rintro e wq ⟨rfl, hw⟩; rw [hw]; clear hw wq)
          go_ret2
          exact ⟨HB8.out, Or.inr (Or.inr ⟨HM.out, by rw [← HCT.out]; omega, _, rfl, HAUTO.out⟩)⟩
      · go_wp2_with fail
        refine C.out.mono ?_
        rintro e w4 ⟨F, L, nx', rfl, hF, hL, hRo, hp⟩
        have hp5 := AuPost.alloc hp (.cells #[.int .u32 F, .int .u32 L, .bool true] 63)
        obtain ⟨w5, hw5⟩ : ∃ w5, w5 = w4.alloc (.cells #[.int .u32 F, .int .u32 L, .bool true] 63) := ⟨_, rfl⟩
        have hR5 : Blk (w4.alloc (.cells #[.int .u32 F, .int .u32 L, .bool true] 63)) w4.heap.size [.int .u32 F, .int .u32 L, .bool true] 63 := Blk.new w4 _ _
        rw [← hw5] at hp5 hR5
        have HS4 := hid (AuPost.size hp)
        obtain ⟨lb5, cl5, nb5, cn5, lxs5, A5, F5, g5, h5⟩ := hp5
        have hlen : 0 < nx'.length := by rw [hRo.len]; have := (Pt.rx_n x false).1; omega
        have p0 := A5.blk.cell (i := 0) rfl
        have p1 := A5.blk.cell (i := 1) rfl
        have p2 := A5.blk.cell (i := 2) rfl
        have f2 := A5.blk.free 2
        have n0 := A5.nextCell hlen
        obtain ⟨n0, nf⟩ := n0
        have r0 := hR5.cell (i := 0) rfl
        have r1 := hR5.cell (i := 1) rfl
        have r2 := hR5.cell (i := 2) rfl
        have hcap := (own_blk A5.nown).2.2.1
        have e1 : w4.heap.size ≠ nb5 := fun e => A5.yn (Or.inr e.symm)
        have e2 : nb5 ≠ w4.heap.size := fun e => e1 e.symm
        have e3 : w4.heap.size ≠ w2.heap.size + 1 + 1 := fun e => A5.yp (Or.inr e.symm)
        have e4 : w2.heap.size + 1 + 1 ≠ w4.heap.size := fun e => e3 e.symm
        have e5 : nb5 ≠ w2.heap.size + 1 + 1 := A5.np
        have e6 : w2.heap.size + 1 + 1 ≠ nb5 := fun e => e5 e.symm
        have HA5 := hid A5
        have HF5 := hid F5
        have HF := hid hF
        have HL := hid hL
        have HRo := hid hRo
        have HR5 := hid hR5
        have HLEN := hid hlen
        unfold u32v at n0
        clear A5 F5 g5 h5 hF hL hRo hp hR5
        go_upto_region 5 with fail
        rw [← hw5]
        clear hw5
        refine wp_region_drawn_tail 7 (by kernel_rfl) (by kernel_rfl) ?_
        simp only [List.take_succ_cons, List.take_zero, List.drop_succ_cons, List.drop_zero]
        repeat (go_big_quiet_step (fail))
        refine wpQuiet_nil ?_
        rintro _ ⟨nq, rfl⟩
        obtain ⟨W5, hW5⟩ : ∃ W5, W5 = w5.drewN nq := ⟨_, rfl⟩
        have hbq : Below w5.heap.size w5 W5 := by rw [hW5]; exact below_drawn (Below.refl _ _) nq
        rw [← hW5]
        clear hW5
        have p0 := below_keep hbq p0
        have p1 := below_keep hbq p1
        have p2 := below_keep hbq p2
        have r0 := below_keep hbq r0
        have r1 := below_keep hbq r1
        have r2 := below_keep hbq r2
        have n0 := below_keep hbq n0
        have nf := ((HA5.out.keep hbq).nextCell HLEN.out).2
        have f2 := (HA5.out.keep hbq).blk.free 2
        have hA6 := (((HA5.out.keep hbq).setNext 0 F HLEN.out).setLast L)
        have HBq := hid hbq
        clear hbq
        obtain ⟨W6, hW6⟩ : ∃ W6, W6 = (W5.setCell ⟨nb5, 0, none⟩ (.int .u32 F)).setCell ⟨w2.heap.size + 1 + 1, 2, none⟩ (.int .u32 L) := ⟨_, rfl⟩
        rw [show (W5.setCell ⟨nb5, 0, none⟩ (u32v F)).setCell ⟨w2.heap.size + 1 + 1, 2, none⟩ (u32v L) = W6 from hW6.symm] at hA6
        have hF6 : Frm (fun k => k = w2.heap.size + 1 + 1 ∨ k = nb5) W5 W6 := by rw [hW6]; exact Frm.set (X := fun k => k = w2.heap.size + 1 + 1 ∨ k = nb5) (Frm.set (X := fun k => k = w2.heap.size + 1 + 1 ∨ k = nb5) (Frm.refl _ _) (Or.inl (Or.inr rfl)) _ _) (Or.inl (Or.inl rfl)) _ _
        have hR6 := (HR5.out.keep HBq.out).frm hF6 (fun e => e.elim e3 e1)
        have u0 := hR6.cell (i := 2) rfl
        have HA6 := hid hA6
        have HF6 := hid hF6
        have hl6 := HRo.out.len
        have hnB := (own_blk hA6.nown).1
        have HNB := hid hnB
        have HB6 := hid (show Below w.heap.size w W6 from ((below_then (below_then HB1.out HB2.out) HB3.out).trans ((HF5.out.below (B := w2.heap.size) HB3.out.size (fun k hk e => by
            rcases e with e | e | e | e
            · omega
            · omega
            · omega
            · exact e)).mono (by have := HB1.out.size; have := HB2.out.size; omega)) |>.trans ((HBq.out.mono (by have := HB1.out.size; have := HB2.out.size; have := HB3.out.size; have := HF5.out.size; omega)) |> fun h => h.trans (hF6.below (B := w.heap.size) (by have := HB1.out.size; have := HB2.out.size; have := HB3.out.size; have := HF5.out.size; have := HBq.out.size; omega) (fun k hk e => by have := HB1.out.size; have := HB2.out.size; rcases e with e | e <;> omega)))))
        clear hF6 hR6 hnB
        go_upto_region 7 with fail
        rw [← hW6]
        clear hW6
        have l2 := hA6.blk.cell (i := 2) rfl
        have lf := hA6.blk.free 2
        have HOR := hid (or_u32 L 1 HL.out.1 (by decide))
        have ON := hid fun W => only_any 0 (by decide) W
        unfold u32v at l2 ON
        have hA7 := hA6.setLast (L ||| 1)
        clear hA6
        go_upto_region 8 with fail
        refine wp_region_drawn_tail 8 (by kernel_rfl) (by kernel_rfl) ?_
        simp only [List.take_succ_cons, List.take_zero, List.drop_succ_cons, List.drop_zero]
        repeat (go_big_quiet_step (first | (go_at_call 30; exact drawn_same fun W hW => ON.out W) | fail))
        refine wpQuiet_nil ?_
        rintro _ ⟨nr, rfl⟩
        obtain ⟨W7, hW7⟩ : ∃ W7, W7 = W6.drewN nr := ⟨_, rfl⟩
        have hbr : Below W6.heap.size W6 W7 := by rw [hW7]; exact below_drawn (Below.refl _ _) nr
        rw [← hW7]
        clear hW7
        have l2 := below_keep hbr l2
        have lf := (HA6.out.keep hbr).blk.free 2
        have hA8 := (HA6.out.keep hbr).setLast (L ||| 1)
        obtain ⟨W8, hW8⟩ : ∃ W8, W8 = W7.setCell ⟨w2.heap.size + 1 + 1, 2, none⟩ (.int .u32 ((L ||| 1 : Nat))) := ⟨_, rfl⟩
        rw [show W7.setCell ⟨w2.heap.size + 1 + 1, 2, none⟩ (u32v (L ||| 1)) = W8 from hW8.symm] at hA8
        have HB8 := hid (show Below w.heap.size w W8 by rw [hW8]; exact (HB6.out.trans (hbr.mono HB6.out.size)).setCell (by show w.heap.size ≤ w2.heap.size + 1 + 1; have := HB1.out.size; have := HB2.out.size; omega) _)
        have HLAST := hid (show Set (L ||| 1) (x.rx false).endd from (HL.out.or (Set.one (m := 0) (by decide))).congr fun j => by
          unfold Rx.endd
          by_cases hj : j = 0
          · subst hj; rw [if_pos rfl, ← HEM.out]; simp
          · rw [if_neg hj]; simp [hj])
        clear hbr hA7
        go_upto_region 9 with fail
        rw [show bits BinOp.or IntKind.u32 (L : Int) 1 = ((L ||| 1 : Nat) : Int) from HOR.out, ← hW8]
        clear hW8
        have hset : ∀ i j, ((nx'.set 0 F).getD i 0).testBit j = (x.rx false).nxt i j := new_rows HRo.out HF.out
        have hslt : ∀ i, (nx'.set 0 F).getD i 0 < 2 ^ 32 := new_lt HRo.out.lt HF.out.1
        have hsl : (nx'.set 0 F).length = 1 + (x.rx false).n := by rw [List.length_set, HRo.out.len]; rfl
        have CN := count_au hA8 (by rw [hsl]; exact H32.out) hslt
        rw [tot_cnt hsl hset] at CN
        have HAUTO := hid (show IsAuto w.heap.size W8 (w2.heap.size + 1 + 1) (x.rx false) from ⟨lb5, cl5, nb5, cn5, lxs5, _, _, ((hA8.more (Z := fun _ => False) (fun k e => e.elim)).base (by have := HB1.out.size; have := HB2.out.size; omega)), hsl, hset, hslt, HLAST.out, H32.out, HTX.out⟩)
        obtain ⟨ct, hct⟩ : ∃ ct, ct = Rx.cnt (x.rx false) := ⟨_, rfl⟩
        rw [← hct] at CN
        have CN := hid CN
        have HCT := hid hct
        clear hset hslt hsl hA8 hct
        by_cases hc : 200 < ct
        · go_wp2_with (go_at_call 31; refine CN.out.mono ?_; rintro e wq ⟨rfl, hw⟩; rw [hw]; clear hw wq)
          go_ret2
          exact ⟨HB8.out, Or.inr (Or.inl ⟨HM.out, by rw [← HCT.out]; exact hc, rfl⟩)⟩
        · go_wp2_with (go_at_call 31; refine CN.out.mono ?_; rintro e wq ⟨rfl, hw⟩; rw [hw]; clear hw wq)
          go_ret2
          exact ⟨HB8.out, Or.inr (Or.inr ⟨HM.out, by rw [← HCT.out]; omega, _, rfl, HAUTO.out⟩)⟩
end Go.Proofs.YtobcbaeoedpefaaDoor
