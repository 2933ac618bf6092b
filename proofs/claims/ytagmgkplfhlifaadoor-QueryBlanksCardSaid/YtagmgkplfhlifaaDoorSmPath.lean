/- query.SamePath. -/
import Derived.Test.YtagmgkplfhlifaaDoorSmAt
import Derived.Test.YtagmgkplfhlifaaDoorRSame
import Derived.Test.YtagmgkplfhlifaaDoorOwn
import Derived.Deep.AppendLies
import Derived.Deep.RegionHeld3
namespace Go.Proofs.YtagmgkplfhlifaaDoor
set_option linter.unusedVariables false
set_option linter.unusedSimpArgs false
set_option maxRecDepth 100000
open Go.ChangeShapes Go.WideShapes Go.ChangeAt Go.RowKit
open Au
theorem Tryd.infoPair : (Tryd.prog.info? 68).map (fun i => (i.zero, i.size, i.bytes)) = some (some (.agg #[.pointer none, .pointer none]), 2, 16) := by kernel_rfl
theorem sm_info : ∃ i, Tryd.prog.info? 68 = some i ∧ i.zero = some (.agg #[.pointer none, .pointer none]) ∧ i.size = 2 ∧ i.bytes = 16 := by
  obtain ⟨i, hi, h⟩ := Option.map_eq_some_iff.1 Tryd.infoPair
  simp only [Prod.mk.injEq] at h
  exact ⟨i, hi, h.1, h.2.1, h.2.2⟩
theorem wpList_mapUpdate_pair {w : World} {ops : Array Oper} {rest : List Oper} {o : Oper} {a : Act} {Q : Exit → Act → World → Prop} (hg : o.guard = none) (m x v : Operand) (hop : o.op = Op.mapUpdate 70 m x v)
    {b : Nat} {S : List (Addr × Addr)} (h : PMap w b S) (hU : ∀ x ∈ S, Unfz w x.1.block ∧ Unfz w x.2.block) (p q : Addr) (hp : Unfz w p.block) (hq : Unfz w q.block) (hn : decide ((p, q) ∈ S) = false)
    (hm : a.eval m = .map (some b)) (hx : a.eval x = ppV p q) (hv : a.eval v = .agg #[])
    (hK : ∀ w', PMap w' b (S ++ [(p, q)]) → Frm (fun k => k = b) w w' → w'.heap.size = w.heap.size → wpList Tryd.prog ops Q rest (a.put o.dst undef) w') :
    wpList Tryd.prog ops Q (o :: rest) a w := by
  refine wpList_plain hg fun K' hK' => ?_
  obtain ⟨w', hrun, r1, r2, r3⟩ := put_pair h hU p q hp hq hn
  unfold Oper.wp
  simp [execOp, hop, hm, hx, hv, hrun, Result.andThen]
  exact hK' _ _ (hK w' r1 r2 r3)
theorem Frm.grown {w w' : World} {b : Nat} (h : Frm (fun k => k = b) w w') : w.grownBy w' (some b) := ⟨h.os, h.tape, h.output, h.size, fun k hk hne => h.block k hk (fun e => hne (by rw [e]))⟩
theorem grown_frm {w w' : World} {row : Option Nat} (h : w.grownBy w' row) : Frm (fun k => some k = row) w w' := ⟨h.os, h.tape, h.output, h.size, fun k hk hne => h.block k hk hne⟩
/-- A box that was just made, as a path at an address. -/
theorem PAt.box {W : World} {b : Nat} {x : Pt} {v u : Value} (h : Blk W b [.int .i64 x.kind, str x.text, v, u] 25) (hP : PtAt W v u x) (hO : PtO W u x) : PAt W b 0 x :=
  ⟨v, u, h.unfz, ⟨h.cell rfl, h.cell rfl, h.cell rfl, h.cell rfl⟩, hP, hO⟩
/-- The row of what is to be looked at. -/
def RestAt (W0 w : World) (v : Value) (R : List Pq) : Prop := w.ownsRow W0.heap.size 68 2 v R.length (pqCells R)
theorem RestAt.parts {W0 w : World} {g n cap : Nat} {R : List Pq} (h : RestAt W0 w (.slice (some ⟨g, 0, none⟩) n cap) R) :
    ∃ cur, W0.heap.size ≤ g ∧ w.heap[g]? = some (.cells cur 68 (0, 0)) ∧ R.length ≤ cap ∧ cap ≤ maxLen ∧ cur.size = cap * 2 ∧ cur.toList.take (R.length * 2) = pqCells R := by
  rcases h.2 with ⟨h, _⟩ | ⟨g', cap', cur, h, h1, h2, h3, h4, h5, h6⟩
  · cases h
  · simp only [Value.slice.injEq, Option.some.injEq, Addr.mk.injEq, and_true] at h
    obtain ⟨rfl, _, rfl⟩ := h
    exact ⟨cur, h1, h2, h3, h4, h5, h6⟩
theorem RestAt.init {W0 w : World} {g n cap : Nat} {R : List Pq} {q : Pq} (h : RestAt W0 w (.slice (some ⟨g, 0, none⟩) (n + 1) cap) (R ++ [q])) (hn : n = R.length) : RestAt W0 w (.slice (some ⟨g, 0, none⟩) n cap) R := by
  obtain ⟨cur, h1, h2, h3, h4, h5, h6⟩ := h.parts
  rw [List.length_append, List.length_singleton] at h3 h6
  unfold RestAt
  refine ⟨pqCells_len R, .inr ⟨g, cap, cur, by rw [hn], h1, h2, by omega, h4, h5, ?_⟩⟩
  have e2 : cur.toList.take (R.length * 2) = (cur.toList.take ((R.length + 1) * 2)).take (R.length * 2) := by
    rw [List.take_take]; congr 1; omega
  have e1 := pqCells_len R
  rw [e2, h6, pqCells_append, List.take_append_of_le_length (by omega), List.take_of_length_le (by omega)]
set_option maxHeartbeats 4000000 in
theorem qsame_any (x y : Pt) (v u v' u' : Value) (w : World) (hP : PtAt w v u x) (hO : PtO w u x) (hP' : PtAt w v' u' y) (hO' : PtO w u' y) (hsz : x.size ≤ 1000000) :
    Calls Tryd.prog 15 #[pv x v u, pv y v' u'] w fun e w' => e = .returned (.bool (x.same y)) ∧ Below w.heap.size w w' := by
  obtain ⟨w1, hw1, hz1, HX1, HP1, HB1⟩ := pt_box w _ v u hP
  obtain ⟨w2, hw2, hz2, HX2, HP2, HB2⟩ := pt_box w1 _ v' u' (hP'.keep HB1.out)
  have hA1 : PAt w2 w.heap.size 0 x := (PAt.box HX1.out HP1.out (hO.keep HB1.out)).keep HB2.out
  have hA2 : PAt w2 (w.heap.size + 1) 0 y := by rw [← hz1]; exact PAt.box HX2.out HP2.out ((hO'.keep HB1.out).keep HB2.out)
  have HB := hid (HB1.out.trans (HB2.out.mono HB1.out.size))
  obtain ⟨r, hr⟩ : ∃ r : Pq, r = ⟨w.heap.size, 0, w.heap.size + 1, 0, x, y⟩ := ⟨_, rfl⟩
  have HI := hid (SmInv.init (W := w2) (r := r) (by rw [hr]; exact ⟨hA1, hA2⟩))
  have HXY := hid (show r.x = x ∧ r.y = y by rw [hr]; exact ⟨rfl, rfl⟩)
  have HSZ := hid hsz
  obtain ⟨N, hN⟩ : ∃ N, N = x.size := ⟨_, rfl⟩
  have HN := hid (show pqSum [r] ≤ N by rw [hN, hr]; simp [pqSum])
  have HNB := hid (show N ≤ 1000000 by rw [hN]; exact hsz)
  obtain ⟨w3, hw3⟩ : ∃ w3, w3 = w2.alloc (.cells #[.pointer (some ⟨w.heap.size, 0, none⟩), .pointer (some ⟨w.heap.size + 1, 0, none⟩)] 68) := ⟨_, rfl⟩
  have hs3 : w3.heap.size = w2.heap.size + 1 := by rw [hw3]; simp
  obtain ⟨w4, hw4⟩ : ∃ w4, w4 = w3.alloc (.map #[] 0) := ⟨_, rfl⟩
  obtain ⟨mb, hmb⟩ : ∃ mb, mb = w2.heap.size + 1 := ⟨_, rfl⟩
  have HMAP := hid (show PMap w4 mb [] by rw [hw4, hmb, ← hs3]; exact PMap.made w3)
  have HMB := hid hmb
  have HB4 := hid (show Below w2.heap.size w2 w4 by rw [hw4, hw3]; exact ((Below.refl _ _).alloc (Nat.le_refl _) _).alloc (by simp) _)
  have HOW := hid (show RestAt w2 w4 (.slice (some ⟨w2.heap.size, 0, none⟩) 1 1) [r] from by
    unfold RestAt
    rw [hw4]
    refine World.ownsRow.alloc ?_ _
    rw [hw3, hr]
    exact ⟨rfl, .inr ⟨w2.heap.size, 1, _, rfl, Nat.le_refl _, heap_alloc_new w2 _, Nat.le_refl _, by unfold maxLen; omega, rfl, rfl⟩⟩)
  have hmm := @run_makeMap Tryd.prog
  unfold pv
  clear hsz hN hP hO hP' hO' HX1 HX2 HP1 HP2 HB1 HB2 hA1 hA2 hr hz1 hz2
  go_enter Tryd.func15, Tryd.ntmps15
  go_upto_region 1 with fail
  rw [← hw1, ← hw2]
  clear hw1 hw2
  go_wp2
  rw [← hw3, ← hw4, ← hmb]
  clear hw3 hw4 hs3 hmb hmm
  go_loopg [5] N (fun gk s5 wr => ∃ R S, pqSum R ≤ gk ∧ gk ≤ N ∧ Hid (Below w2.heap.size w2 wr) ∧ Hid (RestAt w2 wr s5 R) ∧ Hid (PMap wr mb (S.map Pq.key)) ∧ Hid (s5.ownBlock ≠ some mb) ∧ Hid (SmInv w2 r R S))
  case atStart => exact ⟨[r], [], HN.out, Nat.le_refl _, HB4.out, HOW.out, HMAP.out, by have := HMB.out; intro h; simp [Value.ownBlock] at h; omega, HI.out⟩
  case round =>
    obtain ⟨R, S, hgs, hgN, HBr, HR, HM, HNE, HV⟩ := hrel
    clear HN HB4 HOW HMAP HI
    rcases List.eq_nil_or_concat R with hR | ⟨R', q, hR⟩
    · subst hR
      have HF := hid (show x.same y = true by rw [Pt.same_iff, ← HXY.out.1, ← HXY.out.2]; exact HV.out.done)
      have HE := HR.out.2
      rcases HE with ⟨rfl, _⟩ | ⟨g, cap, cur, rfl, _⟩
      · go_wp2
        go_ret
        exact ⟨by rw [HF.out]; rfl, HB.out.trans (HBr.out.mono HB.out.size)⟩
      · simp only [List.length_nil]
        clear HR
        go_wp2
        go_ret
        exact ⟨by rw [HF.out]; rfl, HB.out.trans (HBr.out.mono HB.out.size)⟩
    rw [List.concat_eq_append] at hR
    subst hR
    obtain ⟨n, hn⟩ : ∃ n, n = R'.length := ⟨_, rfl⟩
    have hnb : n + 1 ≤ 1000000 := by
      have h1 := pqSum_len (R' ++ [q])
      have h2 := HNB.out
      simp at h1; omega
    obtain ⟨g, cap, hv, hbg, hgl⟩ := World.ownsRow.form HR.out (by simp)
    have HRC := hid (World.ownsRow.cells HR.out (g := g) (by rw [hv]; rfl))
    have HNLEN := hid (show (R' ++ [q]).length = n + 1 by simp [hn])
    rw [HNLEN.out] at hv
    subst hv
    obtain ⟨_, _, _, hcap, hcm, _, _⟩ := RestAt.parts HR.out
    rw [HNLEN.out] at hcap
    have hcap0 : ¬ cap = 0 := by omega
    obtain ⟨pb, po, qb, qo, x1, y1⟩ := q
    have c0 : wr.cell? ⟨g, n * 2, none⟩ = some (.pointer (some ⟨pb, po, none⟩)) := by
      have := HRC.out (n * 2) (.pointer (some ⟨pb, po, none⟩)) (by
        rw [pqCells_append, List.getElem?_append_right (by rw [pqCells_len]; omega), pqCells_len, ← hn]; simp [pqCells])
      rwa [add_cell rfl, Nat.zero_add] at this
    have c1 : wr.cell? ⟨g, n * 2 + 1, none⟩ = some (.pointer (some ⟨qb, qo, none⟩)) := by
      have := HRC.out (n * 2 + 1) (.pointer (some ⟨qb, qo, none⟩)) (by
        rw [pqCells_append, List.getElem?_append_right (by rw [pqCells_len]; omega), pqCells_len, ← hn, show n * 2 + 1 - n * 2 = 1 by omega]; simp [pqCells])
      rwa [add_cell rfl, Nat.zero_add] at this
    have HOK := hid (HV.out.ok _ (Or.inl (List.mem_append.2 (Or.inr (List.mem_singleton.2 rfl)))))
    obtain ⟨hp1, hp2⟩ := HOK.out
    simp only at hp1 hp2
    have HP1 := hid hp1
    have HP2 := hid hp2
    obtain ⟨w5, hw5⟩ : ∃ w5, w5 = wr.alloc (.cells #[.pointer (some ⟨pb, po, none⟩), .pointer (some ⟨qb, qo, none⟩)] 68) := ⟨_, rfl⟩
    obtain ⟨nb, hnbk⟩ : ∃ nb, nb = wr.heap.size := ⟨_, rfl⟩
    have HBk := hid (show Blk w5 nb [.pointer (some ⟨pb, po, none⟩), .pointer (some ⟨qb, qo, none⟩)] 68 by rw [hw5, hnbk]; exact Blk.new wr _ _)
    have hb5 : Below wr.heap.size wr w5 := by rw [hw5]; exact (Below.refl _ _).alloc (Nat.le_refl _) _
    have HB5 := hid (HBr.out.trans (hb5.mono HBr.out.size))
    have HM5 := hid (HM.out.keep hb5)
    have HN2 := hid hn
    have HNBK := hid hnbk
    have HGL := hid hgl
    have HBG := hid hbg
    have hUS : ∀ W, Below w2.heap.size w2 W → ∀ z ∈ S.map Pq.key, Unfz W z.1.block ∧ Unfz W z.2.block := fun W hb z hz => by
      obtain ⟨p, hp, rfl⟩ := List.mem_map.1 hz
      have := HV.out.ok p (Or.inr hp)
      obtain ⟨⟨_, _, h1, _⟩, ⟨_, _, h2, _⟩⟩ := this
      exact ⟨h1.keep hb, h2.keep hb⟩
    have HUS := hid hUS
    have hUp : ∀ W, Below w2.heap.size w2 W → Unfz W pb ∧ Unfz W qb := fun W hb => by
      obtain ⟨_, _, h1, _⟩ := hp1
      obtain ⟨_, _, h2, _⟩ := hp2
      exact ⟨h1.keep hb, h2.keep hb⟩
    have HUP := hid hUp
    obtain ⟨E, hE⟩ : ∃ E, E = decide (((⟨pb, po, none⟩ : Addr), (⟨qb, qo, none⟩ : Addr)) ∈ S.map Pq.key) := ⟨_, rfl⟩
    have hlk := look_pair HM5.out (hUS w5 HB5.out) ⟨pb, po, none⟩ ⟨qb, qo, none⟩ (hUp w5 HB5.out).1 (hUp w5 HB5.out).2
    rw [← hE] at hlk
    have HE := hid hE
    have HR5 := hid (show RestAt w2 w5 (.slice (some ⟨g, 0, none⟩) (n + 1) cap) (R' ++ [⟨pb, po, qb, qo, x1, y1⟩]) from by rw [hw5]; exact World.ownsRow.alloc HR.out _)
    have HRR := hid (show RestAt w2 w5 (.slice (some ⟨g, 0, none⟩) n cap) R' from HR5.out.init HN2.out)
    have k0 := HBk.out.cell (i := 0) rfl
    have k1 := HBk.out.cell (i := 1) rfl
    have HSL := hid (show pqSum R' + x1.size ≤ gk by have h := hgs; rw [pqSum_append] at h; simpa [pqSum] using h)
    have HX1S := hid (Pt.size_pos x1)
    have HMLT := hid HM.out.lt
    clear hn hnbk hgl hbg hp1 hp2 hUS hUp hE hb5 HR HRC hgs HNLEN HM HR5
    go_upto_region 6 with fail
    rw [← hw5, ← HNBK.out]
    clear hw5
    simp only [ppV] at hlk
    obtain ⟨w6, hw6⟩ : ∃ w6, w6 = w5.alloc (.cells #[] 71) := ⟨_, rfl⟩
    have hb6 : Below w5.heap.size w5 w6 := by rw [hw6]; exact (Below.refl _ _).alloc (Nat.le_refl _) _
    have HB6 := hid (HB5.out.trans (hb6.mono HB5.out.size))
    have HM6 := hid (HM5.out.keep hb6)
    have HRR6 := hid (show RestAt w2 w6 (.slice (some ⟨g, 0, none⟩) n cap) R' from by rw [hw6]; exact World.ownsRow.alloc HRR.out _)
    have HBk6 := hid (HBk.out.keep hb6)
    have j0 := HBk6.out.cell (i := 0) rfl
    have j1 := HBk6.out.cell (i := 1) rfl
    have heq := eql_ptr ⟨pb, po, none⟩ ⟨qb, qo, none⟩ w6 (HUP.out w6 HB6.out).1 (HUP.out w6 HB6.out).2
    obtain ⟨D, hD⟩ : ∃ D, D = decide ((⟨pb, po, none⟩ : Addr) = ⟨qb, qo, none⟩) := ⟨_, rfl⟩
    rw [← hD] at heq
    have HD := hid hD
    have HNE2 := hid (show (Value.slice (some ⟨g, 0, none⟩) n cap).ownBlock ≠ some mb from HNE.out)
    clear hb6 hD HM5 HRR HBk
    go_upto_region 7 with fail
    rw [← hw6]
    clear hw6 c0 c1 k0 k1 hlk
    cases E
    case true =>
      have HS2 := hid (HV.out.skip (of_decide_eq_true HE.out.symm))
      clear heq j0 j1
      go_wp2
      go_roundg (gk - x1.size)
      case measure => have h1 := HSL.out; have h2 := HX1S.out; omega
      case rel => exact ⟨R', S, by have := HSL.out; omega, by omega, HB6.out, HRR6.out, HM6.out, HNE2.out, HS2.out⟩
    case false =>
      cases D
      case true =>
        have HS2 := hid (HV.out.same (of_decide_eq_true HD.out.symm))
        go_wp2
        go_roundg (gk - x1.size)
        case measure => have h1 := HSL.out; have h2 := HX1S.out; omega
        case rel => exact ⟨R', S, by have := HSL.out; omega, by omega, HB6.out, HRR6.out, HM6.out, HNE2.out, HS2.out⟩
      case false =>
        go_upto_region 8 with fail
        clear heq
        go_upto_region 9 with (at_mapUpdate; refine wpList_mapUpdate_pair rfl _ _ _ rfl HM6.out (HUS.out w6 HB6.out) ⟨pb, po, none⟩ ⟨qb, qo, none⟩ (HUP.out w6 HB6.out).1 (HUP.out w6 HB6.out).2 HE.out.symm rfl rfl rfl ?_; intro w7 hm7 hf7 hs7)
        have HB7 := hid (HB6.out.trans (hf7.below (B := w2.heap.size) HB6.out.size (fun k hk e => by have := HMB.out; omega)))
        have HBk7 := hid (HBk6.out.frm hf7 (fun e => by have := HNBK.out; have := HMLT.out; omega))
        have HRR7 := hid (show RestAt w2 w7 (.slice (some ⟨g, 0, none⟩) n cap) R' from World.ownsRow.kept HRR6.out hf7.grown (Or.inr HNE2.out))
        have HM7 := hid hm7
        have HS7 := hid hs7
        obtain ⟨v1, u1, _, hrow1, hpt1, _⟩ := HP1.out
        obtain ⟨v2, u2, _, hrow2, hpt2, _⟩ := HP2.out
        have CT := hid (sbk_any x1 y1 pb po qb qo v1 u1 v2 u2 w7 (hrow1.keep HB7.out) (hrow2.keep HB7.out) (hpt1.keep HB7.out) (hpt2.keep HB7.out))
        obtain ⟨B, hB⟩ : ∃ B, B = topEq x1 y1 := ⟨_, rfl⟩
        rw [← hB] at CT
        have HBT := hid hB
        have l0 := HBk7.out.cell (i := 0) rfl
        have l1 := HBk7.out.cell (i := 1) rfl
        obtain ⟨a1, cap1, kb, ko, c3, q1, q2, q3, q4⟩ := HP1.out.kids
        obtain ⟨a2, cap2, kb', ko', d3, q1', q2', q3', q4'⟩ := HP2.out.kids
        have C3 := hid c3
        have D3 := hid d3
        have HK := hid q4
        have HK' := hid q4'
        clear hf7 hm7 hs7 hB hrow1 hrow2 hpt1 hpt2 j0 j1 HM6 HBk6 HRR6 c3 d3 q4 q4'
        cases B
        case false =>
          have HF := hid (show x.same y = false by
            rw [Bool.eq_false_iff, Ne, Pt.same_iff, ← HXY.out.1, ← HXY.out.2]
            exact HV.out.fails HBT.out.symm)
          go_wp2_with (go_at_call 33; refine CT.out.mono ?_; rintro e w8 ⟨rfl, hb8⟩)
          go_ret
          exact ⟨by rw [HF.out]; rfl, HB.out.trans ((HB7.out.trans (hb8.mono HB7.out.size)).mono HB.out.size)⟩
        case true =>
          go_upto_region 11 with (go_at_call 33; refine CT.out.mono ?_; rintro e w8 ⟨rfl, hb8⟩)
          have HB8 := hid (HB7.out.trans (hb8.mono HB7.out.size))
          have HBk8 := hid (HBk7.out.keep hb8)
          have HM8 := hid (HM7.out.keep hb8)
          have HRR8 := hid (show RestAt w2 w8 (.slice (some ⟨g, 0, none⟩) n cap) R' from World.ownsRow.kept HRR7.out (Frm.of_below (X := fun k => k = mb) hb8).grown (Or.inr HNE2.out))
          have HKL := hid (show x1.kids.length = y1.kids.length by
            have h := HBT.out.symm
            unfold topEq at h
            simp only [Bool.and_eq_true, decide_eq_true_eq] at h
            exact h.2)
          have HST := hid (HV.out.step (b := kb) (o := ko) (b' := kb') (o' := ko') HBT.out.symm HK.out HK'.out)
          have HSZ1 := hid (show x1.size = 1 + Pt.sizes x1.kids by obtain ⟨k, t, L, K⟩ := x1; exact size_mk k t L K)
          have HKS := hid (kidPq_sum kb ko kb' ko' x1.kids y1.kids)
          have HKB := hid (show x1.kids.length ≤ Pt.sizes x1.kids by
            have h1 := kidPq_sum kb ko kb' ko' x1.kids y1.kids x1.kids.length (Nat.le_refl _)
            have h2 := pqSum_len (kidPq kb ko kb' ko' x1.kids y1.kids x1.kids.length)
            rw [kidPq_len, h1, List.take_length] at h2
            exact h2)
          have HNS := hid (pqSum_len R')
          have KP := hid (kidPq_succ kb ko kb' ko' x1.kids y1.kids)
          have KZ := hid (kidPq_zero kb ko kb' ko' x1.kids y1.kids)
          have KL := hid (kidPq_len kb ko kb' ko' x1.kids y1.kids)
          obtain ⟨kf, hkf⟩ : ∃ f, f = kidPq kb ko kb' ko' x1.kids y1.kids := ⟨_, rfl⟩
          rw [← hkf] at HST HKS KP KZ KL
          obtain ⟨K1, hK1⟩ : ∃ n, n = x1.kids.length := ⟨_, rfl⟩
          rw [← hK1] at HST HKL HKB C3 q1 q3
          rw [← HKL.out] at D3 q1' q3'
          have HK1 := hid hK1
          have c3 := below_keep HB8.out C3.out
          have d3 := below_keep HB8.out D3.out
          have m0 := HBk8.out.cell (i := 0) rfl
          have m1 := HBk8.out.cell (i := 1) rfl
          have hK1b : K1 ≤ 1000000 := by
            have h1 := HSL.out; have h2 := HSZ1.out; have h3 := HKB.out; have h4 := HNB.out
            omega
          obtain ⟨gO, hgO⟩ : ∃ z, z = gk := ⟨_, rfl⟩
          have HGO := hid hgO
          rw [← hgO] at HSL hgN
          clear hkf hK1 hb8 HBk7 HM7 HRR7 l0 l1 hgO
          go_wp2
          go_loopg [5, 57] K1 (fun gj s5 s57 wj => ∃ (j : Nat), j ≤ K1 ∧ K1 - j ≤ gj ∧ s57 = .int .i64 j ∧ Hid (Below w2.heap.size w2 wj) ∧ Hid (RestAt w2 wj s5 (R' ++ kf j)) ∧ Hid (PMap wj mb (S.map Pq.key ++ [(⟨pb, po, none⟩, ⟨qb, qo, none⟩)])) ∧ Hid (s5.ownBlock ≠ some mb) ∧ Hid (s5.ownBlock ≠ some nb) ∧ Hid (Blk wj nb [.pointer (some ⟨pb, po, none⟩), .pointer (some ⟨qb, qo, none⟩)] 68))
          case atStart => exact ⟨0, by omega, by omega, rfl, HB8.out, by rw [KZ.out, List.append_nil]; exact HRR8.out, HM8.out, HNE2.out, (by have h1 := HGL.out; have h2 := HNBK.out; show ¬ (some g = some nb); intro e; cases e; omega), HBk8.out⟩
          case round =>
            obtain ⟨j, hj, hgj, rfl, HBj, HRj, HMj, HNEj, HNNj, HBkj⟩ := hrel
            by_cases hlt : j < K1
            case neg =>
              obtain rfl : j = K1 := by omega
              have HSF := hid (show pqSum (R' ++ kf j) ≤ gO - 1 by
                rw [pqSum_append, HKS.out j (by rw [HK1.out]; exact Nat.le_refl _), show x1.kids.take j = x1.kids by rw [HK1.out]; exact List.take_length]
                have h1 := HSL.out; have h2 := HSZ1.out; omega)
              have HSQ := hid (show PMap wr mb ((S ++ [(⟨pb, po, qb, qo, x1, y1⟩ : Pq)]).map Pq.key) by rw [List.map_append]; exact HMj.out)
              go_wp2
              go_roundg (gO - 1)
              case measure => have h1 := HSL.out; have h2 := HX1S.out; have h3 := HGO.out; omega
              case rel => exact ⟨R' ++ kf j, S ++ [(⟨pb, po, qb, qo, x1, y1⟩ : Pq)], HSF.out, by omega, HBj.out, HRj.out, HSQ.out, HNEj.out, HST.out⟩
            case pos =>
              obtain rfl := q3 (by omega)
              obtain rfl := q3' (by omega)
              obtain ⟨iP, hiP, hzP, hsP, hbP⟩ := sm_info
              have HLEN := hid (show (R' ++ kf j).length + 1 ≤ 3000000 by
                rw [List.length_append, KL.out]
                have h1 := HNS.out; have h2 := HSL.out; have h3 := HNB.out
                omega)
              obtain ⟨RJ, hRJ⟩ : ∃ z, z = R' ++ kf j := ⟨_, rfl⟩
              have HRJ := hid hRJ
              rw [← hRJ] at HRj HLEN
              have HOWN := hid fun o => World.ownsRow.alloc (w := wr) HRj.out o
              have HLT5 := hid fun q hq => (World.ownsRow.lt (w := wr) HRj.out q hq).1
              have B1 := hid (show RJ.length + 1 ≤ maxLen by have := HLEN.out; unfold maxLen; omega)
              have B2 := hid (show (RJ.length + 1) * 16 ≤ 140737488355328 by have := HLEN.out; omega)
              have B3 := hid (show ∀ (p q : Addr), ∀ u ∈ [Value.pointer (some p), .pointer (some q)], u.oneCell' = true from fun p q u hu => by
                simp only [List.mem_cons, List.not_mem_nil, or_false] at hu
                rcases hu with rfl | rfl <;> rfl)
              have B4 := hid (show ∀ (o : Obj), w2.heap.size ≤ (wr.alloc o).heap.size from fun o => by have := HBj.out.size; simp; omega)
              have t0 := HBkj.out.cell (i := 0) rfl
              have t1 := HBkj.out.cell (i := 1) rfl
              have t2 := below_keep HBj.out C3.out
              have t3 := below_keep HBj.out D3.out
              have HNBW := hid HBkj.out.lt
              have HMBW := hid HMj.out.lt
              clear hRJ c3 d3 m0 m1
              go_upto_region 14 with fail
              go_region_held3 (fun w' => w'.cell? ⟨nb, 0, none⟩ = some (.pointer (some ⟨pb, po, none⟩)) ∧ w'.cell? ⟨nb, 1, none⟩ = some (.pointer (some ⟨qb, qo, none⟩)) ∧ w'.cell? ⟨pb, po + 3, none⟩ = some (.slice (some ⟨kb, ko, none⟩) K1 cap1) ∧ w'.cell? ⟨qb, qo + 3, none⟩ = some (.slice (some ⟨kb', ko', none⟩) K1 cap2))
                (first
                  | (refine ⟨?_, ?_, ?_, ?_⟩ <;> with_reducible assumption)
                  | (refine ⟨?_, ?_, ?_, ?_⟩ <;> assumption)
                  | go_keep)
                ((refine step_append_lies _ (by rfl) (.tmp 60) (.tmp 76) 69 (by rfl) w2.heap.size 68 iP _ 2 16 Tryd.underlying69 hiP hzP hsP hbP rfl (by decide) u5 _ (pqCells RJ) (by rfl) (HOWN.out _) ⟨wr.heap.size, 0, none⟩ 1 1 [.pointer (some ⟨kb, ko + j * 4, none⟩), .pointer (some ⟨kb', ko' + j * 4, none⟩)] (by rfl) (by rfl) (World.news_of_block (cs := #[.pointer (some ⟨kb, ko + j * 4, none⟩), .pointer (some ⟨kb', ko' + j * 4, none⟩)]) (t := 68) (fr := (0, 0)) (heap_alloc_new wr.drew _)) (B3.out _ _) (Nat.one_pos) B1.out B2.out (B4.out _) (wr.heap.size + 1) (by simp) ?_; intro g9 cap9 w9 hown hgr hat hlt9; have hb9 : Below w2.heap.size w2 w9 := ((below_drawn HBj.out 1).alloc HBj.out.size _).grown hgr (B4.out _) (fun q hq => HLT5.out q hq); have hk9 := Blk.frm ((HBkj.out.drew).alloc _) (grown_frm hgr) (fun e => HNNj.out e.symm); have hm9 := PMap.frm (PMap.keep (w' := wr.drew.alloc _) HMj.out ((below_drawn (Below.refl _ _) 1).alloc (Nat.le_refl _) _)) (grown_frm hgr) (fun e => HNEj.out e.symm); have y0 := Blk.cell hk9 (i := 0) rfl; have y1 := Blk.cell hk9 (i := 1) rfl; have y2 := below_keep hb9 C3.out; have y3 := below_keep hb9 D3.out; have HOW9 := hid hown; have HB9 := hid hb9; have HK9 := hid hk9; have HM9 := hid hm9; have HAT9 := hid hat; clear hown hgr hat hlt9 hb9 hk9 hm9 t0 t1 t2 t3))
              have HOWZ := hid (show RestAt w2 w9 (.slice (some ⟨g9, 0, none⟩) (RJ.length + 1) cap9) (R' ++ kf (j + 1)) from by
                unfold RestAt
                rw [KP.out, ← List.append_assoc, ← HRJ.out, pqCells_append, List.length_append, List.length_singleton]
                exact HOW9.out)
              have HX1 := hid (show (Value.slice (some ⟨g9, 0, none⟩) (RJ.length + 1) cap9).ownBlock ≠ some mb from fun e => by
                have e : g9 = mb := by simpa [Value.ownBlock] using e
                subst e
                rcases HAT9.out with h | h
                · exact HNEj.out h
                · have := HMBW.out; omega)
              have HX2 := hid (show (Value.slice (some ⟨g9, 0, none⟩) (RJ.length + 1) cap9).ownBlock ≠ some nb from fun e => by
                have e : g9 = nb := by simpa [Value.ownBlock] using e
                subst e
                rcases HAT9.out with h | h
                · exact HNNj.out h
                · have := HNBW.out; omega)
              clear y0 y1 y2 y3 HOW9
              go_wp2
              go_roundg (K1 - (j + 1))
              case measure => omega
              case rel => exact ⟨j + 1, by omega, Nat.le_refl _, by go_num, HB9.out, HOWZ.out, HM9.out, HX1.out, HX2.out, HK9.out⟩
end Go.Proofs.YtagmgkplfhlifaaDoor
