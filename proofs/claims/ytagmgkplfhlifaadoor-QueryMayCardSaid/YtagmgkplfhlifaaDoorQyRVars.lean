/- ref12's Vars. -/
import Derived.Test.YtagmgkplfhlifaaDoorQyVars
import Derived.Test.YtagmgkplfhlifaaDoorRPath
import Derived.Deep.RegionWith
namespace Go.Proofs.YtagmgkplfhlifaaDoor
set_option linter.unusedVariables false
set_option linter.unusedSimpArgs false
set_option maxRecDepth 100000
open Go.ChangeShapes Go.WideShapes Go.ChangeAt Go.RowKit
open Au
/-- What ref12's Vars holds on its way. -/
structure RsAtV (w0 W : World) (v : Value) (acc : List T) (Q : List Value) : Prop where
  below : Below w0.heap.size w0 W
  box : Blk W w0.heap.size Q 40
  row : W.ownsRow (w0.heap.size + 1) 9 1 v acc.length (acc.map str)
theorem vrow_below {w w' : World} {B n sz : Nat} {t : TypeId} {v : Value} {xs : List Value} (h : w.ownsRow B t sz v n xs) (hb : Below w.heap.size w w') : w'.ownsRow B t sz v n xs :=
  h.kept (row := none) ⟨hb.os, hb.tape, hb.output, hb.size, fun k hk _ => hb.block k hk⟩ (by cases v.ownBlock <;> simp)
theorem RsAtV.keep {w0 W W' : World} {v : Value} {acc : List T} {Q : List Value} (h : RsAtV w0 W v acc Q) (hb : Below W.heap.size W W') : RsAtV w0 W' v acc Q :=
  ⟨h.below.trans (hb.mono h.below.size), h.box.keep hb, vrow_below h.row hb⟩
theorem RsAtV.name {w0 W W' : World} {v v' : Value} {acc : List T} {Q : List Value} {t : T} (h : RsAtV w0 W v acc Q) (hr : W'.ownsRow (w0.heap.size + 1) 9 1 v' (acc.length + 1) (acc.map str ++ [str t])) (hg : W.grownBy W' v.ownBlock) : RsAtV w0 W' v' (acc ++ [t]) Q := by
  have hob : ∀ k, v.ownBlock = some k → w0.heap.size + 1 ≤ k := fun k hk => (h.row.lt k hk).1
  refine ⟨h.below.grown hg h.below.size (fun k hk => by have := hob k hk; omega), h.box.grownK hg (fun e => by have := hob _ e.symm; omega), ?_⟩
  rw [List.length_append, List.map_append]; exact hr
set_option maxHeartbeats 4000000 in
theorem rvars_any (ps : List Pa) (w : World) (sl : Value) (ask : Bool) (va fa : Option Addr) (vn vc fn fc : Nat) (lim off : Int) (hP : PasAt w sl ps) (hn : ps.length ≤ 1000) :
    Calls Tryd.prog 25 #[.agg #[.bool ask, .slice va vn vc, sl, .slice fa fn fc, .int .i64 lim, .int .i64 off]] w fun e w' => ∃ v', e = .returned v' ∧ TextsAt w' v' (varsOf ps) ∧ Below w.heap.size w w' := by
  obtain ⟨a, cap, b, off0, f, g, rfl, h1, h2, h3, h4, h5, h6, h7⟩ := hP
  have HROW := hid h5
  have HA := hid h4
  obtain ⟨n, hN⟩ : ∃ n, n = ps.length := ⟨_, rfl⟩
  have HN := hid hN
  rw [← hN] at hn h1 ⊢
  obtain ⟨w1, hw1⟩ : ∃ w1, w1 = w.alloc (.cells #[.bool ask, .slice va vn vc, .slice a n cap, .slice fa fn fc, .int .i64 lim, .int .i64 off] 40) := ⟨_, rfl⟩
  obtain ⟨Q, hQ⟩ : ∃ Q, Q = [Value.bool ask, .slice va vn vc, .slice a n cap, .slice fa fn fc, .int .i64 lim, .int .i64 off] := ⟨_, rfl⟩
  have HQ := hid hQ
  have HV0 := hid (show RsAtV w w1 (.slice none 0 0) [] Q from ⟨by rw [hw1]; exact (Below.refl _ _).alloc (Nat.le_refl _) _, by rw [hw1, hQ]; exact Blk.new' rfl rfl, World.ownsRow_nil _ _ _ _⟩)
  clear hN h4 h5 h6 h7 hQ
  go_enter Tryd.func25, Tryd.ntmps25
  go_upto_region 1 with fail
  rw [← hw1]
  clear hw1
  go_upto_region 3 with fail
  go_loopg [3, 4] n (fun gk s3 s4 wr => ∃ (i : Nat) (acc : List T), s4 = .int .i64 i ∧ i ≤ n ∧ n - i ≤ gk ∧ Hid (RsAtV w wr s3 acc Q) ∧ Hid (acc = addsV [] (names (ps.take i))))
  case atStart => exact ⟨0, [], rfl, Nat.zero_le _, Nat.le_refl _, HV0.out, rfl⟩
  case round =>
    obtain ⟨i, acc, rfl, hin, hg, HV, HACC⟩ := hrel
    have HG := hid hg
    have hbx := HV.out.box
    rw [HQ.out] at hbx
    have HBX := hid hbx
    have q2 := HBX.out.cell (i := 2) rfl
    clear hg HV0 hbx
    by_cases hlt : i < n
    · have hltz : (i : Int) < (n : Int) := by omega
      have hiL : i < ps.length := by rw [← HN.out]; exact hlt
      have ha := HA.out (by omega)
      subst ha
      have HR := hid ((HROW.out i hiL).keep (hid (show Below w.heap.size w wr from HV.out.below)).out)
      have HS1 := hid (names_take hiL)
      obtain ⟨c0, _, _, _, _, _, _, _, c8, _, _, _⟩ := HR.out.open
      generalize ps[i] = x at c0 c8 HS1 HR
      clear HR
      obtain ⟨⟨sv, sk, st, sx⟩, xp, ⟨ov, ok, ot, ox⟩⟩ := x
      simp only at c0 c8 HS1
      have hba := lt_of_cell c0
      have hqa := lt_of_cell q2
      go_upto_region 5 with fail
      go_cut [5] (fun s5 wx => s5 = .slice (some ⟨wr.heap.size, 0, none⟩) 2 2 ∧ Hid (Below wr.heap.size wr wx) ∧ Hid (Blk wx wr.heap.size [str sv, str ov] 9))
      case first =>
        have HBA := hid (show Below wr.heap.size wr (wr.alloc (.cells #[str sv, str ov] 9)).drew from ((Below.refl wr.heap.size wr).alloc (Nat.le_refl _) _).drew)
        have HBB := hid (show Blk (wr.alloc (.cells #[str sv, str ov] 9)).drew wr.heap.size [str sv, str ov] 9 from Blk.drew (Blk.new' rfl rfl))
        go_region_with fail
        all_goals
          go_wp2_with fail
          go_meet
          exact ⟨rfl, HBA, HBB⟩
      case rest =>
        obtain ⟨rfl, HBc, HUc⟩ := hcut
        have HVc := hid (HV.out.keep HBc.out)
        have HNE := hid (show u3.ownBlock ≠ some wr.heap.size from fun e => by have := (HV.out.row.lt _ e).2; omega)
        have HNQ := hid (show wr.heap.size ≠ w.heap.size by omega)
        obtain ⟨nb, hnb⟩ : ∃ nb, nb = wr.heap.size := ⟨_, rfl⟩
        rw [← hnb] at HUc HNE HNQ ⊢
        clear q2 c0 c8 hba hqa HBX HV hnb
        obtain ⟨w5, rfl⟩ : ∃ w5 : World, w5 = wc := ⟨_, rfl⟩
        obtain ⟨iS, hiS, hzS, hsS, hbS⟩ := info_parts Tryd.infoStr1
        have HAL := hid (show acc.length ≤ 2000 by
          have h2 := addsV_len [] (names (ps.take i))
          rw [← HACC.out, names_len, List.length_take] at h2
          simp at h2; omega)
        go_upto_region 7 with fail
        go_loopg [3, 6] 2 (fun gj s3 s6 wj => ∃ (k : Nat) (bcc : List T), s6 = .int .i64 k ∧ k ≤ 2 ∧ 2 - k ≤ gj ∧ Hid (RsAtV w wj s3 bcc Q) ∧ Hid (Blk wj nb [str sv, str ov] 9) ∧ Hid (s3.ownBlock ≠ some nb) ∧ Hid (bcc = addsV acc ([sv, ov].take k)))
        case atStart => exact ⟨0, acc, rfl, by omega, by omega, HVc.out, HUc.out, HNE.out, rfl⟩
        case round =>
          obtain ⟨k, bcc, rfl, hk2, hgk, HVk, HUk, HNk, HBCC⟩ := hrel
          clear HVc HUc HNE
          by_cases hkl : k < 2
          · have hkz : (k : Int) < 2 := by omega
            obtain ⟨nm, hnm⟩ : ∃ nm, nm = ([sv, ov] : List T).getD k [] := ⟨_, rfl⟩
            have HSN := hid (show addsV acc (([sv, ov] : List T).take (k + 1)) = addV bcc nm by
              rw [List.take_add_one, addsV_append, ← HBCC.out, List.getElem?_eq_getElem (by simpa using hkl), hnm]
              simp [List.getD, hkl, addsV])
            have HLB := hid (show bcc.length ≤ 3000 by
              rw [HBCC.out]
              have h1 := addsV_len acc (([sv, ov] : List T).take k)
              have := HAL.out
              rw [List.length_take] at h1
              simp at h1; omega)
            have c0 := HUk.out.cell (i := k) (v := str nm) (by
              rw [hnm]
              rcases (show k = 0 ∨ k = 1 by omega) with rfl | rfl <;> rfl)
            clear hnm
            by_cases hem : nm = []
            · have HEM := hid (show addV bcc nm = bcc from addV_old (.inr hem))
              have hie : nm.isEmpty = true := by rw [hem]; rfl
              clear hem
              go_wp2
              go_roundg (2 - (k + 1))
              case measure => omega
              case rel =>
                refine ⟨k + 1, bcc, by go_num, by omega, by omega, HVk.out, HUk.out, HNk.out, ?_⟩
                show _ = _
                rw [HSN.out, HEM.out]
            · have hie : nm.isEmpty = false := by cases nm with | nil => exact absurd rfl hem | cons c l => rfl
              have PL := hid (place_any u3 bcc nm wr (SlAt.own (f := str) (d := []) HVk.out.row rfl) (by have := HLB.out; omega))
              have hpz := placeZ_nonneg bcc nm
              obtain ⟨pz, hp⟩ : ∃ p, p = placeZ bcc nm := ⟨_, rfl⟩
              rw [← hp] at hpz PL
              clear hp
              by_cases hmem : nm ∈ bcc
              · have hneg : ¬ pz < 0 := by have := hpz.2 hmem; omega
                have HEM := hid (show addV bcc nm = bcc from addV_old (.inl (decide_eq_true hmem)))
                clear hpz hmem hem
                go_wp2_with (go_at_call 28; refine PL.out.mono ?_; rintro e wr ⟨rfl, hw⟩; subst hw)
                go_roundg (2 - (k + 1))
                case measure => omega
                case rel =>
                  refine ⟨k + 1, bcc, by go_num, by omega, by omega, HVk.out, HUk.out, HNk.out, ?_⟩
                  show _ = _
                  rw [HSN.out, HEM.out]
              · have hneg : pz < 0 := by have h9 : ¬ 0 ≤ pz := fun h => hmem (hpz.1 h); omega
                have HEM := hid (show addV bcc nm = bcc ++ [nm] from addV_new (decide_eq_false hmem) hem)
                clear hpz hmem hem
                have HZ := hid (show w.heap.size + 1 ≤ wr.heap.size by have := HVk.out.box.lt; omega)
                have HWN := hid HVk.out.row
                have HLC := hid (show bcc.length + 1 ≤ maxLen ∧ (bcc.length + 1) * 16 ≤ 140737488355328 by have := HLB.out; unfold maxLen; omega)
                go_upto_region 10 with (go_at_call 28; refine PL.out.mono ?_; rintro e wr ⟨rfl, hw⟩; subst hw)
                go_wp2_with (at_builtin; refine wpList_append_one rfl _ _ 22 rfl (w.heap.size + 1) 9 iS (.string ByteArray.empty) 16 Tryd.underlying22 hiS hzS hsS hbS (by kernel_rfl) u3 bcc.length (bcc.map str) (str nm) wr rfl rfl HWN.out rfl rfl HLC.out.1 HLC.out.2 HZ.out ?_; intro v7 w7 g1 g2 g3; have HV7 := hid (HVk.out.name g1 g2); have HU7 := hid (HUk.out.grownK g2 (fun e => HNk.out e.symm)); have HN7 := hid (show v7.ownBlock ≠ some nb from by
                    rcases g3 with e | ⟨q, e, hq⟩
                    · rw [e]; exact HNk.out
                    · rw [e]; intro h; cases h; have := HUk.out.lt; omega); clear g1 g2 g3)
                go_roundg (2 - (k + 1))
                case measure => omega
                case rel =>
                  refine ⟨k + 1, bcc ++ [nm], by go_num, by omega, by omega, HV7.out, HU7.out, HN7.out, ?_⟩
                  show _ = _
                  rw [HSN.out, HEM.out]
          · obtain rfl : k = 2 := by omega
            have hkz : ¬ (2 : Int) < 2 := by omega
            go_wp2
            go_roundg (n - (i + 1))
            case measure => have := HG.out; omega
            case rel =>
              refine ⟨i + 1, bcc, by go_num, by omega, by omega, HVk.out, ?_⟩
              show _ = _
              rw [HS1.out, addsV_append, ← HACC.out]
              exact HBCC.out
    · obtain rfl : i = n := by omega
      have hltz : ¬ (i : Int) < (i : Int) := by omega
      have e0 : ps.take i = ps := List.take_of_length_le (by rw [← HN.out]; exact Nat.le_refl _)
      rw [e0] at HACC
      clear e0
      go_wp2
      go_ret
      refine ⟨_, rfl, ?_, HV.out.below⟩
      have := SlAt.own (f := str) (d := []) HV.out.row rfl
      rw [HACC.out] at this
      exact this
end Go.Proofs.YtagmgkplfhlifaaDoor
