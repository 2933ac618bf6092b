/- query.Vars. -/
import Derived.Test.YtagmgkplfhlifaaDoorQyAt
import Derived.Test.YtagmgkplfhlifaaDoorSmMap
import Derived.Test.YtagmgkplfhlifaaDoorQpNots
import Derived.Maps.OwnSet
import Derived.Maps.Views
namespace Go.Proofs.YtagmgkplfhlifaaDoor
set_option linter.unusedVariables false
set_option linter.unusedSimpArgs false
set_option maxRecDepth 100000
open Go.ChangeShapes Go.WideShapes Go.ChangeAt Go.RowKit Go.Maps
open Au
theorem str_keyed : Keyed Tryd.prog 9 := string_keyed Tryd.underlying9
theorem key_str (t : T) (h : t.length ≤ 140737488351232) : keyOf Tryd.prog 9 (str t) = some (.string t) := by
  unfold str
  have := WideMaps.keyOf_string_mk (P := Tryd.prog) (k := 9) Tryd.underlying9 (s := ⟨t.toArray⟩) (by unfold maxLen; show t.toArray.size ≤ _; simp; omega)
  simpa using this
/-- A set of texts, as what a map reads as. -/
def seenV (l : List T) : DataW Unit := Maps.setOf (.agg []) (l.map Lit.string)
theorem seenV_snoc (l : List T) (t : T) : seenV (l ++ [t]) = (seenV l).put (.string t) (.agg []) := by
  unfold seenV
  rw [List.map_append, List.map_cons, List.map_nil, Maps.setOf_snoc]
theorem seenV_has {l : List T} {t : T} (hl : ∀ s ∈ l, s.length ≤ 140737488351232) : Maps.has (seenV l) (.string t) = decide (t ∈ l) := by
  unfold seenV
  rw [Maps.has_setOf _ _ _ (fun x hx => by
    obtain ⟨s, hs, rfl⟩ := List.mem_map.1 hx
    exact str_keyed.key (key_str s (hl s hs)))]
  rw [Bool.eq_iff_iff]
  simp only [List.any_eq_true, List.mem_map, decide_eq_true_eq]
  constructor
  · rintro ⟨x, ⟨s, hs, rfl⟩, hx⟩
    have : s = t := by simpa [Lit.sameKey] using hx
    rw [← this]; exact hs
  · intro h
    exact ⟨_, ⟨t, h, rfl⟩, by simp [Lit.sameKey]⟩
theorem zero_unit (w : World) : (zeroValue 71).run Tryd.prog w = .ok (.agg #[]) w := by kernel_rfl
/-- What query.Vars holds on its way: the names so far, in a row and in a map. -/
structure VsAt (w0 W : World) (mb : Nat) (v : Value) (acc : List T) (n : Nat) : Prop where
  below : Below w0.heap.size w0 W
  map : W.ownsMap Tryd.prog 9 Go.unitElem mb n (seenV acc)
  row : W.ownsRow (mb + 1) 9 1 v acc.length (acc.map str)
  ge : w0.heap.size ≤ mb
theorem VsAt.alloc {w0 W : World} {mb n : Nat} {v : Value} {acc : List T} (h : VsAt w0 W mb v acc n) (o : Obj) : VsAt w0 (W.alloc o) mb v acc n := ⟨h.below.alloc h.below.size o, h.map.alloc o, h.row.alloc o, h.ge⟩
theorem VsAt.more {w0 W : World} {mb n : Nat} {v : Value} {acc : List T} (h : VsAt w0 W mb v acc n) : VsAt w0 W mb v acc (n + 1) := by
  obtain ⟨es, clock, hb, F, hs, hD⟩ := h.map
  exact ⟨h.below, ⟨es, clock, hb, F, by omega, hD⟩, h.row, h.ge⟩
/-- One name more. -/
theorem VsAt.step {w0 W W1 W2 : World} {mb n : Nat} {v v' : Value} {acc : List T} {t : T} (h : VsAt w0 W mb v acc n) (hm : W1.ownsMap Tryd.prog 9 Go.unitElem mb (n + 1) ((seenV acc).put (.string t) (.agg []))) (hg : W.grownBy W1 (some mb))
    (hr : W2.ownsRow (mb + 1) 9 1 v' (acc.length + 1) (acc.map str ++ [str t])) (hg2 : W1.grownBy W2 v.ownBlock) : VsAt w0 W2 mb v' (acc ++ [t]) (n + 1) := by
  have hlt := h.map.lt
  have hb1 := h.below.grown hg h.below.size (fun k hk => by cases hk; exact h.ge)
  refine ⟨hb1.grown hg2 hb1.size (fun k hk => ?_), ?_, ?_, h.ge⟩
  · have := (h.row.lt k hk).1
    have := h.ge
    omega
  · rw [seenV_snoc]
    exact hm.kept hg2 (fun e => by have := (h.row.lt _ e.symm).1; omega)
  · rw [List.length_append, List.map_append]; exact hr
theorem VsAt.row1 {w0 W W1 : World} {mb n : Nat} {v : Value} {acc : List T} (h : VsAt w0 W mb v acc n) (hg : W.grownBy W1 (some mb)) : W1.ownsRow (mb + 1) 9 1 v acc.length (acc.map str) :=
  h.row.kept hg (.inr (fun e => by have := (h.row.lt _ e).1; omega))
theorem Blk.grownK {w w' : World} {q : Nat} {A : List Value} {t : TypeId} {r : Option Nat} (h : Blk w q A t) (hg : w.grownBy w' r) (hb : some q ≠ r) : Blk w' q A t := by
  have hlt := h.lt
  unfold Blk at h ⊢
  rw [hg.block q hlt hb]; exact h
set_option maxHeartbeats 4000000 in
theorem qvars_any (ps : List Pa) (w : World) (sl : Value) (ask : Bool) (va fa : Option Addr) (vn vc fn fc : Nat) (lim off : Int) (hP : PasAt w sl ps) (hn : ps.length ≤ 1000000) :
    Calls Tryd.prog 24 #[.agg #[.bool ask, .slice va vn vc, sl, .slice fa fn fc, .int .i64 lim, .int .i64 off]] w fun e w' => ∃ v', e = .returned v' ∧ TextsAt w' v' (varsOf ps) ∧ Below w.heap.size w w' := by
  obtain ⟨a, cap, b, off0, f, g, rfl, h1, h2, h3, h4, h5, h6, h7⟩ := hP
  have HROW := hid h5
  have HPT := hid h6
  have HOK := hid h7
  have HA := hid h4
  have HNM := hid (show ∀ s ∈ names ps, s.length ≤ 140737488351232 by
    intro s hs
    simp only [names, List.mem_flatMap, List.mem_cons, List.not_mem_nil, or_false] at hs
    obtain ⟨p, hp, hs⟩ := hs
    obtain ⟨i, hi, rfl⟩ := List.getElem_of_mem hp
    rcases hs with rfl | rfl
    · exact (h7 i hi).1.2.1
    · exact (h7 i hi).2.2.1)
  have hmm := @run_makeMap Tryd.prog
  obtain ⟨n, hN⟩ : ∃ n, n = ps.length := ⟨_, rfl⟩
  have HN := hid hN
  rw [← hN] at hn h1 ⊢
  obtain ⟨w1, hw1⟩ : ∃ w1, w1 = w.alloc (.cells #[.bool ask, .slice va vn vc, .slice a n cap, .slice fa fn fc, .int .i64 lim, .int .i64 off] 40) := ⟨_, rfl⟩
  have hs1 : w1.heap.size = w.heap.size + 1 := by rw [hw1]; simp
  have BX := hid (show Blk w1 w.heap.size [.bool ask, .slice va vn vc, .slice a n cap, .slice fa fn fc, .int .i64 lim, .int .i64 off] 40 by rw [hw1]; exact Blk.new' rfl rfl)
  have HB1 := hid (show Below w.heap.size w w1 by rw [hw1]; exact (Below.refl _ _).alloc (Nat.le_refl _) _)
  have HV0 := hid (show VsAt w (w1.alloc (.map #[] 0)) (w.heap.size + 1) (.slice none 0 0) [] 0 from
    ⟨HB1.out.alloc HB1.out.size _, by rw [← hs1]; exact World.ownsMap_made _ _ _ _, World.ownsRow_nil _ _ _ _, by omega⟩)
  have BX2 := hid (BX.out.alloc (.map #[] 0))
  obtain ⟨mb, hmb⟩ : ∃ mb, mb = w.heap.size + 1 := ⟨_, rfl⟩
  rw [← hmb] at HV0
  have HMB := hid hmb
  have hs1' : w1.heap.size = mb := by omega
  clear hN h4 h5 h6 h7 hs1 hmb
  go_enter Tryd.func24, Tryd.ntmps24
  go_upto_region 1 with fail
  rw [← hw1]
  clear hw1 BX
  go_upto_region 3 with fail
  try simp only [hs1']
  obtain ⟨w2, hw2⟩ : ∃ w2, w2 = w1.alloc (.map #[] 0) := ⟨_, rfl⟩
  rw [← hw2] at HV0 BX2 ⊢
  have hs2 : w2.heap.size = mb + 1 := by rw [hw2]; simp [hs1']
  clear hw2 hs1' hmm
  have c2 := BX2.out.cell (i := 2) rfl
  go_upto_region 4 with fail
  go_loopg [3, 15] n (fun gk s3 s15 wr => ∃ (i : Nat) (acc : List T), s15 = .int .i64 i ∧ i ≤ n ∧ n - i ≤ gk ∧ Hid (VsAt w wr mb s3 acc (2 * i)) ∧ Hid (acc = addsV [] (names (ps.take i))))
  case atStart => exact ⟨0, [], rfl, Nat.zero_le _, Nat.le_refl _, HV0.out, rfl⟩
  case round =>
    obtain ⟨i, acc, rfl, hin, hg, HV, HACC⟩ := hrel
    clear HV0 BX2 c2
    by_cases hlt : i < n
    · have hltz : (i : Int) < (n : Int) := by omega
      have hiL : i < ps.length := by rw [← HN.out]; exact hlt
      have ha := HA.out (by omega)
      subst ha
      have HR := hid ((HROW.out i hiL).keep (hid (show Below w.heap.size w wr from HV.out.below)).out)
      have HS1 := hid (names_take hiL)
      have HLL := hid (show ∀ s ∈ acc, s.length ≤ 140737488351232 by
        intro s hs
        rw [HACC.out] at hs
        rcases addsV_mem hs with hs | hs
        · cases hs
        · refine HNM.out s ?_
          simp only [names, List.mem_flatMap] at hs ⊢
          obtain ⟨p, hp, hs⟩ := hs
          exact ⟨p, List.mem_of_mem_take hp, hs⟩)
      obtain ⟨x, hx⟩ : ∃ x, x = ps[i] := ⟨_, rfl⟩
      have hok := HOK.out i hiL
      rw [← hx] at HR HS1 hok
      have hPT := HPT.out i hiL
      rw [← hx] at hPT
      generalize f i = v at HR hPT
      generalize g i = u at HR hPT
      obtain ⟨_, _, hTX, _, ua, uc, _, _, _, _, rfl, _⟩ := hPT.open
      obtain ⟨va', vc', rfl, _⟩ := hTX.open
      generalize hK1 : x.p.kids.length = un at HR
      generalize hK2 : x.p.texts.length = vn' at HR
      obtain ⟨c0, c1, c2, c3, c4, c5, c6, c7, c8, c9, c10, c11⟩ := HR.out.open
      have HL1 := hid hok.1.2.1
      have HL2 := hid hok.2.2.1
      obtain ⟨⟨sv, sk, st, sx⟩, xp, ⟨ov, ok, ot, ox⟩⟩ := x
      simp only at c0 c1 c2 c3 c4 c5 c6 c7 c8 c9 c10 c11 HS1 HL1 HL2
      clear hok hx HR hPT hTX hK1 hK2
      have HV4 := hid (show VsAt w (new12 wr ⟨⟨sv, sk, st, sx⟩, xp, ⟨ov, ok, ot, ox⟩⟩ (.slice va' vn' vc') (.slice ua un uc) 53) mb u3 acc (2 * i) from HV.out.alloc _)
      have HU4 := hid (show Blk (new12 wr ⟨⟨sv, sk, st, sx⟩, xp, ⟨ov, ok, ot, ox⟩⟩ (.slice va' vn' vc') (.slice ua un uc) 53) wr.heap.size [str sv, .int .i64 sk, str st, str sx, .int .i64 xp.kind, str xp.text, .slice va' vn' vc', .slice ua un uc, str ov, .int .i64 ok, str ot, str ox] 53 from Blk.new' rfl rfl)
      go_upto_region 6 with (show wpList _ _ _ _ _ (new12 wr ⟨⟨sv, sk, st, sx⟩, xp, ⟨ov, ok, ot, ox⟩⟩ (.slice va' vn' vc') (.slice ua un uc) 53); obtain ⟨w4, hw4⟩ : ∃ w4, w4 = new12 wr ⟨⟨sv, sk, st, sx⟩, xp, ⟨ov, ok, ot, ox⟩⟩ (.slice va' vn' vc') (.slice ua un uc) 53 := ⟨_, rfl⟩; rw [← hw4] at HV4 HU4 ⊢; clear hw4)
      have k0 := HU4.out.cell (i := 0) rfl
      have k8 := HU4.out.cell (i := 8) rfl
      clear c0 c1 c2 c3 c4 c5 c6 c7 c8 c9 c10 c11
      have hs4 := HV4.out.below.size
      go_wp2
      obtain ⟨nb, hnb⟩ : ∃ nb, nb = w4.heap.size := ⟨_, rfl⟩
      have HV5 := hid (HV4.out.alloc (.cells #[str sv, str ov] 9))
      have HU5 := hid (show Blk (w4.alloc (.cells #[str sv, str ov] 9)) nb [str sv, str ov] 9 by rw [hnb]; exact Blk.new' rfl rfl)
      have HNE := hid (show u3.ownBlock ≠ some nb from fun e => by have := (HV4.out.row.lt _ e).2; omega)
      have HNM' := hid (show nb ≠ mb by have := HV4.out.map.lt; omega)
      rw [← hnb]
      generalize w4.alloc (.cells #[str sv, str ov] 9) = w5 at HV5 HU5 ⊢
      clear HV4 HU4 hnb hs4 k0 k8 w4
      have HGK := hid hg
      clear hg
      go_loopg [3, 27] 2 (fun gj s3 s27 wj => ∃ (j : Nat) (bcc : List T), s27 = .int .i64 j ∧ j ≤ 2 ∧ 2 - j ≤ gj ∧ Hid (VsAt w wj mb s3 bcc (2 * i + j)) ∧ Hid (Blk wj nb [str sv, str ov] 9) ∧ Hid (s3.ownBlock ≠ some nb) ∧ Hid (bcc = addsV acc ([sv, ov].take j)))
      case atStart => exact ⟨0, acc, rfl, by omega, by omega, HV5.out, HU5.out, HNE.out, rfl⟩
      case round =>
        obtain ⟨j, bcc, rfl, hj2, hgj, HVj, HUj, HNEj, HBCC⟩ := hrel
        clear HV5 HU5 HNE
        by_cases hjl : j < 2
        · have hjz : (j : Int) < 2 := by omega
          obtain ⟨nm, hnm⟩ : ∃ nm, nm = ([sv, ov] : List T).getD j [] := ⟨_, rfl⟩
          have HSN := hid (show addsV acc (([sv, ov] : List T).take (j + 1)) = addV bcc nm by
            rw [List.take_add_one, addsV_append, ← HBCC.out, List.getElem?_eq_getElem (by simpa using hjl), hnm]
            simp [List.getD, hjl, addsV])
          have HLN := hid (show nm.length ≤ 140737488351232 by
            rw [hnm]
            rcases (show j = 0 ∨ j = 1 by omega) with rfl | rfl
            · exact HL1.out
            · exact HL2.out)
          have HLB := hid (show ∀ s ∈ bcc, s.length ≤ 140737488351232 by
            intro s hs
            rw [HBCC.out] at hs
            rcases addsV_mem hs with hs | hs
            · exact HLL.out s hs
            · have := List.mem_of_mem_take hs
              simp at this
              rcases this with rfl | rfl
              · exact HL1.out
              · exact HL2.out)
          have HK := hid (key_str nm HLN.out)
          have c0 := HUj.out.cell (i := j) (v := str nm) (by
            rw [hnm]
            rcases (show j = 0 ∨ j = 1 by omega) with rfl | rfl <;> rfl)
          have HLBC := hid (show bcc.length ≤ 2000002 by
            rw [HBCC.out]
            have h1 := addsV_len acc (([sv, ov] : List T).take j)
            have h2 := addsV_len [] (names (ps.take i))
            rw [← HACC.out, names_len, List.length_take] at h2
            rw [List.length_take] at h1
            simp at h1 h2; omega)
          obtain ⟨tw, htw⟩ : ∃ tw, tw = Maps.has (seenV bcc) (.string nm) := ⟨_, rfl⟩
          have HTW := hid htw
          have HIN := hid (show decide (nm ∈ bcc) = tw by rw [htw, seenV_has HLB.out])
          clear htw hnm
          go_upto_region 9 with fail
          go_upto_region 10 with (at_lookup; refine wpList_lookup_own_unit _ rfl _ _ 81 rfl 9 71 str_keyed Tryd.underlying81 (zero_unit _) mb (2 * i + j) (seenV bcc) rfl HVj.out.map _ _ rfl HK.out ?_; rw [← HTW.out])
          have HVa := hid (HVj.out.alloc (.cells #[] 71))
          have HUa := hid (HUj.out.alloc (.cells #[] 71))
          generalize wr.alloc (.cells #[] 71) = wa at HVa HUa ⊢
          clear HVj HUj c0
          cases tw
          · by_cases hem : nm = []
            · have HEM := hid (show addV bcc nm = bcc from addV_old (.inr hem))
              go_wp2
              go_roundg (2 - (j + 1))
              case measure => omega
              case rel =>
                refine ⟨j + 1, bcc, by go_num, by omega, by omega, HVa.out.more, HUa.out, HNEj.out, ?_⟩
                show _ = _
                rw [HSN.out, HEM.out]
            · have HEM := hid (show addV bcc nm = bcc ++ [nm] from addV_new HIN.out hem)
              have hie : nm.isEmpty = false := by cases nm with | nil => exact absurd rfl hem | cons c l => rfl
              go_upto_region 11 with fail
              have H2I := hid (show 2 * i + j < maxLen by unfold maxLen; omega)
              go_upto_region 12 with (at_mapUpdate; refine wpList_mapUpdate_own _ rfl _ _ _ 81 rfl 9 71 str_keyed Tryd.underlying81 _ mb (2 * i + j) (seenV bcc) rfl HVa.out.map H2I.out _ _ _ rfl rfl HK.out (.agg []) [] Go.unitElem_mk ?_; intro w6 hM6 hg6)
              have HM6 := hid hM6
              have HG6 := hid hg6
              have HR6 := hid (HVa.out.row1 hg6)
              have HU6 := hid (HUa.out.grownK hg6 (fun e => HNM'.out (Option.some.inj e)))
              have HZ6 := hid (show mb + 1 ≤ w6.heap.size by have := HVa.out.map.lt; have := hg6.size; omega)
              have HLC := hid (show bcc.length + 1 ≤ maxLen ∧ (bcc.length + 1) * 16 ≤ 140737488355328 by have := HLBC.out; unfold maxLen; omega)
              obtain ⟨iS, hiS, hzS, hsS, hbS⟩ := info_parts Tryd.infoStr1
              clear hM6 hg6
              go_upto_region 13 with (at_builtin; refine wpList_append_one rfl _ _ 22 rfl (mb + 1) 9 iS (.string ByteArray.empty) 16 Tryd.underlying22 hiS hzS hsS hbS (by kernel_rfl) u3 bcc.length (bcc.map str) (str nm) w6 rfl rfl HR6.out rfl rfl HLC.out.1 HLC.out.2 HZ6.out ?_; intro v7 w7 g1 g2 g3)
              have HV7 := hid (HVa.out.step HM6.out HG6.out g1 g2)
              have HU7 := hid (HU6.out.grownK g2 (fun e => HNEj.out e.symm))
              have HN7 := hid (show v7.ownBlock ≠ some nb from by
                rcases g3 with e | ⟨k, e, hk⟩
                · rw [e]; exact HNEj.out
                · rw [e]; intro h; cases h; have := HU6.out.lt; omega)
              clear g1 g2 g3
              go_wp2
              go_roundg (2 - (j + 1))
              case measure => omega
              case rel =>
                refine ⟨j + 1, bcc ++ [nm], by go_num, by omega, by omega, HV7.out, HU7.out, HN7.out, ?_⟩
                show _ = _
                rw [HSN.out, HEM.out]
          · go_wp2
            go_roundg (2 - (j + 1))
            case measure => omega
            case rel =>
              refine ⟨j + 1, bcc, by go_num, by omega, by omega, HVa.out.more, HUa.out, HNEj.out, ?_⟩
              show _ = _
              rw [HSN.out, addV_old (.inl HIN.out)]
        · obtain rfl : j = 2 := by omega
          have hjz : ¬ (2 : Int) < 2 := by omega
          go_wp2
          go_roundg (n - (i + 1))
          case measure => have := HGK.out; omega
          case rel =>
            refine ⟨i + 1, bcc, by go_num, by omega, by omega, ?_, ?_⟩
            · exact (show 2 * (i + 1) = 2 * i + 2 by omega) ▸ HVj.out
            · show _ = _
              rw [HS1.out, addsV_append, ← HACC.out]
              exact HBCC.out
    · obtain rfl : i = n := by omega
      have hltz : ¬ (i : Int) < (i : Int) := by omega
      have e0 : ps.take i = ps := List.take_of_length_le (by rw [← HN.out]; exact Nat.le_refl _)
      rw [e0] at HACC
      clear e0
      go_wp2
      go_ret
      refine ⟨_, rfl, ?_, HV.out.below⟩
      have := SlAt.own (f := str) (d := []) HV.out.row rfl
      rw [HACC.out] at this
      exact this
end Go.Proofs.YtagmgkplfhlifaaDoor
