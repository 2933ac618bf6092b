/- term's quote, Show, Cmp. -/
import Derived.Test.YtmfnbmbedplgcaaGreatDoorTmEsc
namespace Go.Proofs.YtmfnbmbedplgcaaGreatDoor
set_option linter.unusedVariables false
set_option linter.unusedSimpArgs false
set_option maxRecDepth 100000
open Go.ChangeShapes Go.WideShapes Go.ChangeAt Go.RowKit

set_option maxHeartbeats 1000000 in
theorem quote_any (s : List UInt8) (W : World) (hs : s.length ≤ 1000000000) :
    Calls Tryz.prog 65 #[str s] W fun e W' => e = .returned (str (34 :: (Tm.escs s ++ [34]))) ∧ Below W.heap.size W W' := by
  obtain ⟨i0, hi, hz0, hz1, hz2⟩ := info_parts Tryz.info5
  have mk1 : (Instr.makeSlice 57 (.int .i64 0) (.int .i64 ((s.length : Int) + 2))).run Tryz.prog W = .ok (.slice (some ⟨W.heap.size, 0, none⟩) 0 (s.length + 2)) (W.alloc (.cells (madeCells #[.int .u8 0] (s.length + 2)) 5)) := by
    have h := run_make W 57 5 i0 _ Tryz.underlying57 hi hz0 .i64 .i64 0 ((s.length : Int) + 2) (by omega) (by omega) (by rw [hz2]; omega) (by omega)
    rw [h, hz1, show ((s.length : Int) + 2).toNat = s.length + 2 by omega, Nat.mul_one]; rfl
  have HM := hid (show (madeCells #[Value.int .u8 0] (s.length + 2)).size = (s.length + 2) * 1 by rw [size_madeCells, Nat.mul_one])
  go_enter Tryz.func65, Tryz.ntmps65
  go_wp2_with (at_builtin; refine wpList_append_many rfl (.tmp 9) (.tmp 10) 57 rfl W.heap.size 5 i0 _ 1 Tryz.underlying57 hi hz0 hz1 hz2 rfl _ 0 [] [byv 34] 1 (by rfl) _ rfl rfl ?own (W.heap.size + 1) ?hh rfl ?one ?b1 ?b2 ?base ?_)
  case own => exact World.ownsRow_made W _ _ (Nat.le_refl _) (by unfold maxLen; omega) HM.out
  case hh => simp
  case one => intro u hu; simp at hu; rw [hu]; rfl
  case b1 => unfold maxLen; omega
  case b2 => omega
  case base => simp
  intro v1 w1 hown hgr _
  have hb1 : Below W.heap.size W w1 := ((Below.refl W.heap.size W).alloc (Nat.le_refl _) _).grown hgr (by simp) (fun k hk => by simp only [Value.ownBlock, Option.some.injEq] at hk; omega)
  have O1 := hid (show w1.ownsRow W.heap.size 5 1 v1 (1 + (Tm.escs (s.take 0)).length) ((34 :: Tm.escs (s.take 0)).map byv) from hown)
  have HB1 := hid hb1
  clear hown hgr hb1 mk1
  go_wp2
  go_loopw [14, 3, 4] (fun s14 s3 s4 wr => ∃ i : Nat, i ≤ s.length ∧ s14 = .int .i64 i ∧ Hid (wr.ownsRow W.heap.size 5 1 s3 (1 + (Tm.escs (s.take i)).length) ((34 :: Tm.escs (s.take i)).map byv)) ∧ Hid (Below W.heap.size W wr)) (fun s14 _ _ _ => s.length - (intOf s14).toNat)
  case atStart => exact ⟨0, by omega, rfl, O1, HB1⟩
  case round =>
    obtain ⟨i, hi1, rfl, OO, HB⟩ := hrel
    have hzr := HB.out.size
    have hle := Tm.escs_len (s.take i)
    rw [List.length_take] at hle
    by_cases hlt : i < s.length
    · obtain ⟨c, hc⟩ : ∃ c, s[i]? = some c := ⟨_, List.getElem?_eq_getElem hlt⟩
      have hcc := fun q => ba_get s i c hc q
      have HS := hid (escs_take_succ s i c hc)
      have ES := hid (esc_any c u3 _ _ W.heap.size wr OO.out (by omega) hzr)
      clear hc hle
      go_wp2_with (go_at_call 81; refine ES.out.mono ?_; rintro e w2 ⟨v2, rfl, O2, hgr2, hmv⟩)
      have hb2 : Below W.heap.size W w2 := HB.out.grown hgr2 hzr (fun g hg => (OO.out.lt g hg).1)
      have O3 := hid (show w2.ownsRow W.heap.size 5 1 v2 (1 + (Tm.escs (s.take (i + 1))).length) ((34 :: Tm.escs (s.take (i + 1))).map byv) by
        rw [HS.out, List.length_append, ← Nat.add_assoc, ← List.cons_append, List.map_append]; exact O2)
      have HB3 := hid hb2
      clear O2 hgr2 hmv hb2
      go_roundw
      case rel => exact ⟨i + 1, by omega, by go_num, O3, HB3⟩
      case measure => simp [intOf]; omega
    · have hnn : i = s.length := by omega
      have O4 := hid (show wr.ownsRow W.heap.size 5 1 u3 (1 + (Tm.escs s).length) ((34 :: Tm.escs s).map byv) by have h := OO.out; rw [hnn, List.take_length] at h; exact h)
      have hle2 := Tm.escs_len s
      clear OO
      have CV := hid (fun (w : World) (v : Value) (h : w.ownsRow W.heap.size 5 1 v (1 + (Tm.escs s).length + 1) ((34 :: (Tm.escs s ++ [34])).map byv)) => conv_own h (by simp; omega))
      go_wp2_with (at_builtin; refine wpList_append_many rfl (.tmp 23) (.tmp 24) 57 rfl W.heap.size 5 i0 _ 1 Tryz.underlying57 hi hz0 hz1 hz2 rfl u3 _ _ [byv 34] 1 (by rfl) wr rfl rfl O4.out wr.heap.size rfl rfl ?one ?b1 ?b2 ?base ?_)
      case one => intro u hu; simp at hu; rw [hu]; rfl
      case b1 => unfold maxLen; omega
      case b2 => omega
      case base => exact hzr
      intro v5 w5 hown hgr5 _
      have hb5 : Below W.heap.size W w5 := HB.out.grown hgr5 hzr (fun g hg => (O4.out.lt g hg).1)
      have cv := CV.out w5 v5 (by simpa using hown)
      have HB5 := hid hb5
      clear hown hgr5 hb5 hle hle2
      go_wp2
      go_ret
      exact ⟨rfl, HB5.out⟩
end Go.Proofs.YtmfnbmbedplgcaaGreatDoor
