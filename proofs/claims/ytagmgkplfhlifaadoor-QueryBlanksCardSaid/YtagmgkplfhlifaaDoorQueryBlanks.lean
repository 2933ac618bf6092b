/- QueryBlanks: blanks between change nothing: for every path. -/
import Derived.Test.YtagmgkplfhlifaaDoorQpLaid
import Derived.Test.YtagmgkplfhlifaaDoorQpKnown
import Derived.Test.YtagmgkplfhlifaaDoorQpBlank
import Derived.Test.YtagmgkplfhlifaaDoorRShow
import Derived.Test.YtagmgkplfhlifaaDoorRMay
import Derived.Test.YtagmgkplfhlifaaDoorBig
namespace Go.Proofs.YtagmgkplfhlifaaDoor
set_option linter.unusedVariables false
set_option linter.unusedSimpArgs false
set_option maxRecDepth 100000
open Go.ChangeShapes Go.WideShapes Go.ChangeAt Go.RowKit
open Au
theorem bl_step (S : T) (i : Nat) (c : UInt8) (h : S[i]? = some c) : 32 :: Qp.bl false (S.take (i + 1)) = (32 :: Qp.bl false (S.take i)) ++ (c :: (if (!Qp.inI (Qp.blS false (S.take i)) c && c != 33) = true then [32, 32] else [])) ∧ Qp.blS false (S.take (i + 1)) = Qp.inI (Qp.blS false (S.take i)) c := by
  have hi := (List.getElem?_eq_some_iff.1 h).1
  rw [List.take_add_one, h, show (some c).toList = [c] from rfl, Qp.bl_append, Qp.blS_append]
  refine ⟨?_, rfl⟩
  rw [show Qp.bl (Qp.blS false (S.take i)) [c] = c :: ((if (!Qp.inI (Qp.blS false (S.take i)) c && c != 33) = true then [32, 32] else []) ++ []) from rfl, List.append_nil]
  rfl
--CUT--
set_option maxHeartbeats 8000000 in
theorem queryBlanks_any (x : Pt) (v u : Value) (w : World) (hP : PtAt w v u x) (hV : QVars w) :
    Calls Tryd.prog 7 #[pv x v u] w fun e w' => e = .returned (.bool true) ∧ Below w.heap.size w w' := by
  obtain ⟨w1, hw1, hz1, HX1, HP1, HB1⟩ := pt_box w x v u hP
  obtain ⟨c0, c1, c2, c3⟩ := blk4 HX1.out
  have HV1 := hid (hV.keep HB1.out)
  have KN := hid fun W (hb : Below w1.heap.size w1 W) => qknown_any W (HV1.out.keep hb)
  have BG := big_any x w1 v u 0 HP1.out (by decide)
  have CI := hid fun W (hb : Below w1.heap.size w1 W) => rispath_any x v u W (HP1.out.keep hb) ((HV1.out.keep hb).1)
  obtain ⟨B, hB⟩ : ∃ z, z = bigP 0 x := ⟨_, rfl⟩
  rw [← hB] at BG
  have BG := hid BG
  obtain ⟨M, hM⟩ : ∃ z, z = x.may := ⟨_, rfl⟩
  rw [← hM] at CI
  unfold pv at BG CI ⊢
  clear hB
  cases B
  case true =>
    obtain ⟨k, hk⟩ : ∃ z, z = x.kind := ⟨_, rfl⟩
    obtain ⟨tx, htx⟩ : ∃ z, z = x.text := ⟨_, rfl⟩
    rw [← hk, ← htx] at BG CI hw1 ⊢
    rw [← hk] at c0
    rw [← htx] at c1
    clear hM hk htx hP hV HX1 HP1 hz1
    go_enter Tryd.func7, Tryd.ntmps7
    go_upto_region 1 with fail
    rw [← hw1]
    clear hw1
    go_wp2_with (go_at_call 18; refine BG.out.mono ?_; rintro e w2 ⟨rfl, hb2⟩)
    go_ret
    exact ⟨rfl, HB1.out.trans (hb2.mono HB1.out.size)⟩
  case false =>
    cases M
    case false =>
      obtain ⟨k, hk⟩ : ∃ z, z = x.kind := ⟨_, rfl⟩
      obtain ⟨tx, htx⟩ : ∃ z, z = x.text := ⟨_, rfl⟩
      rw [← hk, ← htx] at BG CI hw1 ⊢
      rw [← hk] at c0
      rw [← htx] at c1
      clear hM hk htx hP hV HX1 HP1 hz1
      go_enter Tryd.func7, Tryd.ntmps7
      go_upto_region 1 with fail
      rw [← hw1]
      clear hw1
      go_wp2_with (first
        | (go_at_call 18; refine BG.out.mono ?_; rintro e w2 ⟨rfl, hb2⟩; have HB2 := hid hb2; have d0 := below_keep hb2 c0; have d1 := below_keep hb2 c1; have d2 := below_keep hb2 c2; have d3 := below_keep hb2 c3; clear hb2)
        | (go_at_call 20; refine (CI.out _ HB2.out).mono ?_; rintro e w3 ⟨rfl, hb3⟩))
      go_ret
      exact ⟨rfl, HB1.out.trans ((HB2.out.trans (hb3.mono HB2.out.size)).mono HB1.out.size)⟩
    case true =>
      have hm := hM.symm
      have hwf := (may_parts hm).1
      have hsl := may_len hm
      have hbl := Qp.bl_len x.show false
      have SH := hid fun W (hb : Below w1.heap.size w1 W) => rshow_any x 0 hwf v u W (by omega) (HP1.out.keep hb)
      have hTl : x.blanked.length ≤ 100000000 := by unfold Pt.blanked; simp only [List.length_cons]; omega
      have P1 := hid fun W (hb : Below w1.heap.size w1 W) => qpath_out x.show W (by omega) (HV1.out.keep hb)
      have P2 := hid fun W (hb : Below w1.heap.size w1 W) => qpath_out x.blanked W hTl (HV1.out.keep hb)
      unfold OutPost at P1 P2
      have HO1 := Pt.out_show hwf
      have HO2 := Pt.out_blanked hwf
      have hle : x.show.length ≤ x.blanked.length := by unfold Pt.blanked; simp only [List.length_cons]; omega
      have RS := hid fun z => rsame_any z
      simp only [SameOk, pv] at RS
      obtain ⟨y, hy⟩ : ∃ z, z = Qp.outP x.show := ⟨_, rfl⟩
      obtain ⟨N, hN⟩ : ∃ z, z = Qp.outN x.show := ⟨_, rfl⟩
      obtain ⟨E, hE⟩ : ∃ z, z = Qp.outE x.show := ⟨_, rfl⟩
      obtain ⟨y2, hy2⟩ : ∃ z, z = Qp.outP x.blanked := ⟨_, rfl⟩
      obtain ⟨N2, hN2⟩ : ∃ z, z = Qp.outN x.blanked := ⟨_, rfl⟩
      obtain ⟨E2, hE2⟩ : ∃ z, z = Qp.outE x.blanked := ⟨_, rfl⟩
      rw [← hy, ← hN, ← hE] at P1 HO1
      rw [← hy2, ← hN2, ← hE2] at P2 HO2
      have HOUT := hid (show (600 < x.blanked.length ∧ E2 = 4 ∧ N2 = 0) ∨ (x.blanked.length ≤ 600 ∧ E = E2 ∧ y = y2 ∧ (E2 = 3 ∨ (E2 = 0 ∧ N2 = x.blanked.length))) by
        rcases HO2 with ⟨h1, h2, h3⟩ | ⟨h1, h2, h3, h4, h5⟩ | ⟨h1, h2, h3, h4⟩
        · exact Or.inl ⟨h1, h2, h3⟩
        · rcases HO1 with ⟨g1, _⟩ | ⟨g1, g2, g3, g4, g5⟩ | ⟨g1, g2, g3, g4⟩
          · omega
          · exact Or.inr ⟨h1, by omega, by rw [g4, h4], Or.inr ⟨h3, h5⟩⟩
          · rw [h2] at g2; cases g2
        · rcases HO1 with ⟨g1, _⟩ | ⟨g1, g2, g3, g4, g5⟩ | ⟨g1, g2, g3, g4⟩
          · omega
          · rw [h2] at g2; cases g2
          · exact Or.inr ⟨h1, by omega, by rw [g4, h4], Or.inl h3⟩)
      have HSTEP := hid (bl_step x.show)
      have HLEN := hid fun i => Qp.bl_len (x.show.take i) false
      have HEND := hid (show (32 :: Qp.bl false (x.show.take x.show.length)) = x.blanked by rw [List.take_length]; rfl)
      obtain ⟨TT, hTT⟩ : ∃ z, z = x.blanked := ⟨_, rfl⟩
      rw [← hTT] at P2 HOUT HEND hTl
      obtain ⟨S, hS⟩ : ∃ z, z = x.show := ⟨_, rfl⟩
      unfold pv at SH
      rw [← hS] at P1 SH HSTEP HLEN HEND hsl
      obtain ⟨F, hF⟩ : ∃ f : Nat → T, f = fun i => 32 :: Qp.bl false (S.take i) := ⟨_, rfl⟩
      obtain ⟨G, hG⟩ : ∃ f : Nat → Bool, f = fun i => Qp.blS false (S.take i) := ⟨_, rfl⟩
      have HF0 := hid (show F 0 = [32] by rw [hF]; rfl)
      have HG0 := hid (show G 0 = false by rw [hG]; rfl)
      have HFE := hid (show F S.length = TT by rw [hF]; exact HEND.out)
      have HST := hid (show ∀ i c, S[i]? = some c → F (i + 1) = F i ++ (c :: (if (!Qp.inI (G i) c && c != 33) = true then [32, 32] else [])) ∧ G (i + 1) = Qp.inI (G i) c from fun i c h => by rw [hF, hG]; exact HSTEP.out i c h)
      have HFL := hid (show ∀ i, (F i).length ≤ 40000 from fun i => by
        rw [hF]
        have := HLEN.out i
        rw [List.length_take] at this
        simp only [List.length_cons]
        omega)
      obtain ⟨k, hk⟩ : ∃ z, z = x.kind := ⟨_, rfl⟩
      obtain ⟨tx, htx⟩ : ∃ z, z = x.text := ⟨_, rfl⟩
      rw [← hk, ← htx] at BG CI SH hw1 ⊢
      rw [← hk] at c0
      rw [← htx] at c1
      obtain ⟨yk, hyk⟩ : ∃ z, z = y.kind := ⟨_, rfl⟩
      obtain ⟨yt, hyt⟩ : ∃ z, z = y.text := ⟨_, rfl⟩
      obtain ⟨yk2, hyk2⟩ : ∃ z, z = y2.kind := ⟨_, rfl⟩
      obtain ⟨yt2, hyt2⟩ : ∃ z, z = y2.text := ⟨_, rfl⟩
      rw [← hyk, ← hyt] at P1
      rw [← hyk2, ← hyt2] at P2
      have HRS := hid (show y = y2 → ∀ v u v' u' W, PtAt W v u y → PtAt W v' u' y2 → Calls Tryd.prog 16 #[.agg #[.int .i64 yk, str yt, v, u], .agg #[.int .i64 yk2, str yt2, v', u']] W fun e w' => e = .returned (.bool true) ∧ Below W.heap.size W w' from fun e v u v' u' W h1 h2 => by
        have h := RS.out y y2 v u v' u' W h1 h2
        rw [← hyk, ← hyt, ← hyk2, ← hyt2] at h
        rw [(Pt.same_iff y y2).2 e] at h
        exact h)
      clear hM hm hwf hk htx hP hV HX1 HP1 hz1 hy hN hE hy2 hN2 hE2 hS hTT RS hyk hyt hyk2 hyt2 HO1 HO2 hle hbl HSTEP HLEN HEND hF hG
      go_enter Tryd.func7, Tryd.ntmps7
      go_upto_region 1 with fail
      rw [← hw1]
      clear hw1
      go_upto_region 3 with (first
        | (go_at_call 18; refine BG.out.mono ?_; rintro e w2 ⟨rfl, hb2⟩; have HB2 := hid hb2; have d0 := below_keep hb2 c0; have d1 := below_keep hb2 c1; have d2 := below_keep hb2 c2; have d3 := below_keep hb2 c3; clear hb2)
        | (go_at_call 20; refine (CI.out _ HB2.out).mono ?_; rintro e w3 ⟨rfl, hb3⟩; have HB3 := hid (HB2.out.trans (hb3.mono HB2.out.size)); have g0 := below_keep hb3 d0; have g1 := below_keep hb3 d1; have g2 := below_keep hb3 d2; have g3 := below_keep hb3 d3; clear hb3))
      clear c0 c1 c2 c3 d0 d1 d2 d3
      go_upto_region 4 with (go_at_call 22; refine (SH.out _ HB3.out).mono ?_; rintro e w4 ⟨rfl, hb4⟩; have HB4 := hid (HB3.out.trans (hb4.mono HB3.out.size)))
      clear g0 g1 g2 g3 hb4 SH CI BG
      go_wp2
      go_loopg [4, 5, 6] S.length (fun gk s4 s5 s6 wr => wr = w4 ∧ ∃ i : Nat, i ≤ S.length ∧ S.length - i ≤ gk ∧ s4 = str (F i) ∧ s5 = .bool (G i) ∧ s6 = .int .i64 i)
      case atStart => exact ⟨rfl, 0, by omega, by omega, by rw [HF0.out], by rw [HG0.out], rfl⟩
      case round =>
        obtain ⟨rfl, i, hi, hg, rfl, rfl, rfl⟩ := hrel
        by_cases hlt : i < S.length
        case pos =>
          obtain ⟨c, hget⟩ : ∃ c, S[i]? = some c := ⟨S[i], List.getElem?_eq_getElem hlt⟩
          have hcc := fun q => ba_get S i c hget q
          have HS2 := hid (HST.out i c hget)
          have hfl := HFL.out i
          have hex : (⟨S.toArray⟩ : ByteArray).extract i (i + 1) = ⟨#[c]⟩ := by
            rw [ba_extract, show i + 1 - i = 1 by omega, List.drop_eq_getElem_cons hlt]
            rw [List.getElem?_eq_getElem hlt] at hget
            rw [Option.some.inj hget]; rfl
          obtain ⟨H, hH⟩ : ∃ z, z = G i := ⟨_, rfl⟩
          rw [← hH] at HS2 ⊢
          have hiI : (i : Int) < (S.length : Int) := by omega
          clear hH hget
          by_cases h60 : c = 60
          · subst h60
            have e60 : (((60 : UInt8).toNat : Int) == 60) = true := by decide
            have n60 : (((60 : UInt8).toNat : Int) != 60) = false := by decide
            have e62 : (((60 : UInt8).toNat : Int) == 62) = false := by decide
            have n62 : (((60 : UInt8).toNat : Int) != 62) = true := by decide
            have e33 : (((60 : UInt8).toNat : Int) == 33) = false := by decide
            have n33 : (((60 : UInt8).toNat : Int) != 33) = true := by decide
            cases H
            case false =>
              have HF2 := hid (show F (i + 1) = F i ++ (60 :: []) by
                have h := HS2.out.1
                rw [(show Qp.inI false 60 = true by rfl), (show (if (!true && (60 : UInt8) != 33) = true then [32, 32] else []) = ([] : T) by rfl)] at h
                exact h)
              have HG2 := hid (show G (i + 1) = true by rw [HS2.out.2]; exact (show Qp.inI false 60 = true by rfl))
              go_wp2
              go_roundg (S.length - (i + 1))
              case measure => omega
              case rel => exact ⟨rfl, i + 1, by omega, Nat.le_refl _, by rw [HF2.out]; simp [qba_append], by rw [HG2.out], by go_num⟩
            case true =>
              have HF2 := hid (show F (i + 1) = F i ++ (60 :: []) by
                have h := HS2.out.1
                rw [(show Qp.inI true 60 = true by rfl), (show (if (!true && (60 : UInt8) != 33) = true then [32, 32] else []) = ([] : T) by rfl)] at h
                exact h)
              have HG2 := hid (show G (i + 1) = true by rw [HS2.out.2]; exact (show Qp.inI true 60 = true by rfl))
              go_wp2
              go_roundg (S.length - (i + 1))
              case measure => omega
              case rel => exact ⟨rfl, i + 1, by omega, Nat.le_refl _, by rw [HF2.out]; simp [qba_append], by rw [HG2.out], by go_num⟩
          by_cases h62 : c = 62
          · subst h62
            have e60 : (((62 : UInt8).toNat : Int) == 60) = false := by decide
            have n60 : (((62 : UInt8).toNat : Int) != 60) = true := by decide
            have e62 : (((62 : UInt8).toNat : Int) == 62) = true := by decide
            have n62 : (((62 : UInt8).toNat : Int) != 62) = false := by decide
            have e33 : (((62 : UInt8).toNat : Int) == 33) = false := by decide
            have n33 : (((62 : UInt8).toNat : Int) != 33) = true := by decide
            cases H
            case false =>
              have HF2 := hid (show F (i + 1) = F i ++ (62 :: [32, 32]) by
                have h := HS2.out.1
                rw [(show Qp.inI false 62 = false by rfl), (show (if (!false && (62 : UInt8) != 33) = true then [32, 32] else []) = ([32, 32] : T) by rfl)] at h
                exact h)
              have HG2 := hid (show G (i + 1) = false by rw [HS2.out.2]; exact (show Qp.inI false 62 = false by rfl))
              go_wp2
              go_roundg (S.length - (i + 1))
              case measure => omega
              case rel => exact ⟨rfl, i + 1, by omega, Nat.le_refl _, by rw [HF2.out]; simp [qba_append], by rw [HG2.out], by go_num⟩
            case true =>
              have HF2 := hid (show F (i + 1) = F i ++ (62 :: [32, 32]) by
                have h := HS2.out.1
                rw [(show Qp.inI true 62 = false by rfl), (show (if (!false && (62 : UInt8) != 33) = true then [32, 32] else []) = ([32, 32] : T) by rfl)] at h
                exact h)
              have HG2 := hid (show G (i + 1) = false by rw [HS2.out.2]; exact (show Qp.inI true 62 = false by rfl))
              go_wp2
              go_roundg (S.length - (i + 1))
              case measure => omega
              case rel => exact ⟨rfl, i + 1, by omega, Nat.le_refl _, by rw [HF2.out]; simp [qba_append], by rw [HG2.out], by go_num⟩
          by_cases h33 : c = 33
          · subst h33
            have e60 : (((33 : UInt8).toNat : Int) == 60) = false := by decide
            have n60 : (((33 : UInt8).toNat : Int) != 60) = true := by decide
            have e62 : (((33 : UInt8).toNat : Int) == 62) = false := by decide
            have n62 : (((33 : UInt8).toNat : Int) != 62) = true := by decide
            have e33 : (((33 : UInt8).toNat : Int) == 33) = true := by decide
            have n33 : (((33 : UInt8).toNat : Int) != 33) = false := by decide
            cases H
            case false =>
              have HF2 := hid (show F (i + 1) = F i ++ (33 :: []) by
                have h := HS2.out.1
                rw [(show Qp.inI false 33 = false by rfl), (show (if (!false && (33 : UInt8) != 33) = true then [32, 32] else []) = ([] : T) by rfl)] at h
                exact h)
              have HG2 := hid (show G (i + 1) = false by rw [HS2.out.2]; exact (show Qp.inI false 33 = false by rfl))
              go_wp2
              go_roundg (S.length - (i + 1))
              case measure => omega
              case rel => exact ⟨rfl, i + 1, by omega, Nat.le_refl _, by rw [HF2.out]; simp [qba_append], by rw [HG2.out], by go_num⟩
            case true =>
              have HF2 := hid (show F (i + 1) = F i ++ (33 :: []) by
                have h := HS2.out.1
                rw [(show Qp.inI true 33 = true by rfl), (show (if (!true && (33 : UInt8) != 33) = true then [32, 32] else []) = ([] : T) by rfl)] at h
                exact h)
              have HG2 := hid (show G (i + 1) = true by rw [HS2.out.2]; exact (show Qp.inI true 33 = true by rfl))
              go_wp2
              go_roundg (S.length - (i + 1))
              case measure => omega
              case rel => exact ⟨rfl, i + 1, by omega, Nat.le_refl _, by rw [HF2.out]; simp [qba_append], by rw [HG2.out], by go_num⟩
          · have e60 : ((c.toNat : Int) == 60) = false := beq_eq_false_iff_ne.2 (fun e => h60 (UInt8.toNat_inj.1 (by show c.toNat = 60; omega)))
            have n60 : ((c.toNat : Int) != 60) = true := bne_iff_ne.2 (fun e => h60 (UInt8.toNat_inj.1 (by show c.toNat = 60; omega)))
            have e62 : ((c.toNat : Int) == 62) = false := beq_eq_false_iff_ne.2 (fun e => h62 (UInt8.toNat_inj.1 (by show c.toNat = 62; omega)))
            have n62 : ((c.toNat : Int) != 62) = true := bne_iff_ne.2 (fun e => h62 (UInt8.toNat_inj.1 (by show c.toNat = 62; omega)))
            have e33 : ((c.toNat : Int) == 33) = false := beq_eq_false_iff_ne.2 (fun e => h33 (UInt8.toNat_inj.1 (by show c.toNat = 33; omega)))
            have n33 : ((c.toNat : Int) != 33) = true := bne_iff_ne.2 (fun e => h33 (UInt8.toNat_inj.1 (by show c.toNat = 33; omega)))
            cases H
            case false =>
              have HF2 := hid (show F (i + 1) = F i ++ (c :: [32, 32]) by
                have h := HS2.out.1
                rw [(show Qp.inI false c = false by unfold Qp.inI; simp [h60, h62]), (show (if (!false && (c : UInt8) != 33) = true then [32, 32] else []) = ([32, 32] : T) by simp [h33])] at h
                exact h)
              have HG2 := hid (show G (i + 1) = false by rw [HS2.out.2]; exact (show Qp.inI false c = false by unfold Qp.inI; simp [h60, h62]))
              have H60 := hid h60
              have H62 := hid h62
              have H33 := hid h33
              clear h60 h62 h33
              go_wp2
              go_roundg (S.length - (i + 1))
              case measure => omega
              case rel => exact ⟨rfl, i + 1, by omega, Nat.le_refl _, by rw [HF2.out]; simp [qba_append], by rw [HG2.out], by go_num⟩
            case true =>
              have HF2 := hid (show F (i + 1) = F i ++ (c :: []) by
                have h := HS2.out.1
                rw [(show Qp.inI true c = true by unfold Qp.inI; simp [h60, h62]), (show (if (!true && (c : UInt8) != 33) = true then [32, 32] else []) = ([] : T) by simp [h33])] at h
                exact h)
              have HG2 := hid (show G (i + 1) = true by rw [HS2.out.2]; exact (show Qp.inI true c = true by unfold Qp.inI; simp [h60, h62]))
              have H60 := hid h60
              have H62 := hid h62
              have H33 := hid h33
              clear h60 h62 h33
              go_wp2
              go_roundg (S.length - (i + 1))
              case measure => omega
              case rel => exact ⟨rfl, i + 1, by omega, Nat.le_refl _, by rw [HF2.out]; simp [qba_append], by rw [HG2.out], by go_num⟩
        case neg =>
          obtain rfl : i = S.length := by omega
          have hFE := HFE.out
          rw [hFE]
          have HBW := hid HB4.out
          clear hFE
          go_upto_region 14 with (go_at_call 13; refine (P1.out _ HB4.out).mono ?_; rintro e w5 ⟨a, n, c, a', n', c', HP, rfl, HB5⟩; have HB6 := hid (HB4.out.trans (HB5.out.mono HB4.out.size)))
          obtain ⟨w6, hw6⟩ : ∃ w6, w6 = w5.alloc (.cells #[.int .i64 yk, str yt, .slice a n c, .slice a' n' c'] 25) := ⟨_, rfl⟩
          have hb6 : Below w5.heap.size w5 w6 := by rw [hw6]; exact (Below.refl _ _).alloc (Nat.le_refl _) _
          have HY := hid (show Blk w6 w5.heap.size [.int .i64 yk, str yt, .slice a n c, .slice a' n' c'] 25 by rw [hw6]; exact Blk.new w5 _ _)
          have HB7 := hid (HB6.out.trans (hb6.mono HB6.out.size))
          have HPY := hid (HP.out.1.keep hb6)
          obtain ⟨yb, hyb⟩ : ∃ z, z = w5.heap.size := ⟨_, rfl⟩
          rw [← hyb] at HY
          rw [← hw6, ← hyb]
          clear hw6 hyb hb6 HP HB5 HB6 P1
          go_upto_region 15 with (go_at_call 13; refine (P2.out _ HB7.out).mono ?_; rintro e w7 ⟨b, m, d, b', m', d', HP2, rfl, HB8⟩; have HB9 := hid (HB7.out.trans (HB8.out.mono HB7.out.size)))
          obtain ⟨w8, hw8⟩ : ∃ w8, w8 = w7.alloc (.cells #[.int .i64 yk2, str yt2, .slice b m d, .slice b' m' d'] 25) := ⟨_, rfl⟩
          have hb8 : Below w7.heap.size w7 w8 := by rw [hw8]; exact (Below.refl _ _).alloc (Nat.le_refl _) _
          have HZ := hid (show Blk w8 w7.heap.size [.int .i64 yk2, str yt2, .slice b m d, .slice b' m' d'] 25 by rw [hw8]; exact Blk.new w7 _ _)
          have HB10 := hid (HB9.out.trans (hb8.mono HB9.out.size))
          have HPZ := hid (HP2.out.1.keep hb8)
          have HPY8 := hid ((HPY.out.keep HB8.out).keep hb8)
          have HY8 := hid ((HY.out.keep HB8.out).keep hb8)
          obtain ⟨zb, hzb⟩ : ∃ z, z = w7.heap.size := ⟨_, rfl⟩
          rw [← hzb] at HZ
          rw [← hw8, ← hzb]
          obtain ⟨y0, y1, y2', y3⟩ := blk4 HY8.out
          obtain ⟨z0, z1, z2, z3⟩ := blk4 HZ.out
          clear hw8 hzb hb8 HP2 HB8 HB9 P2 HY HPY HB7
          rcases HOUT.out with ⟨h1, h2, h3⟩ | ⟨h1, h2, h3, h4⟩
          · subst h2 h3
            have b1 : decide ((600 : Int) < (TT.length : Int)) = true := decide_eq_true (by omega)
            have b2 : decide (600 < TT.length) = true := decide_eq_true h1
            clear h1
            go_wp2_with (go_at_call 17; refine (KN.out _ HB10.out).mono ?_; rintro e w11 ⟨rfl, hb11⟩)
            go_ret
            exact ⟨rfl, HB1.out.trans ((HB10.out.trans (hb11.mono HB10.out.size)).mono HB1.out.size)⟩
          · have b1 : decide ((600 : Int) < (TT.length : Int)) = false := decide_eq_false (by omega)
            have b2 : decide (600 < TT.length) = false := decide_eq_false (by omega)
            have RS := hid fun v u v' u' W h5 h6 => HRS.out h3 v u v' u' W h5 h6
            have H4 := hid h4
            subst h2
            clear h1 h3 h4 HRS
            rcases H4.out with h5 | ⟨h5, h6⟩
            · subst h5
              go_wp2_with (first
                | (go_at_call 16; refine (RS.out _ _ _ _ w8 HPY8.out HPZ.out).mono ?_; rintro e w10 ⟨rfl, hb10⟩; have HB11 := hid (HB10.out.trans (hb10.mono HB10.out.size)); clear hb10)
                | (go_at_call 17; refine (KN.out _ HB11.out).mono ?_; rintro e w11 ⟨rfl, hb11⟩))
              go_ret
              exact ⟨rfl, HB1.out.trans ((HB11.out.trans (hb11.mono HB11.out.size)).mono HB1.out.size)⟩
            · subst h5
              have bS : ((N2 : Int) == (TT.length : Int)) = true := by rw [h6]; simp
              have bS2 : (N2 == TT.length) = true := by rw [h6]; simp
              clear h6
              go_wp2_with (first
                | (go_at_call 16; refine (RS.out _ _ _ _ w8 HPY8.out HPZ.out).mono ?_; rintro e w10 ⟨rfl, hb10⟩; have HB11 := hid (HB10.out.trans (hb10.mono HB10.out.size)); clear hb10)
                | (go_at_call 17; refine (KN.out _ HB11.out).mono ?_; rintro e w11 ⟨rfl, hb11⟩))
              go_ret
              exact ⟨rfl, HB1.out.trans ((HB11.out.trans (hb11.mono HB11.out.size)).mono HB1.out.size)⟩

theorem queryBlanks_walk (H : Type) (enc : TypeId × Value → H) (W : World) (base : Nat) (args : Array Value) (ds gs : List (DataW H)) (before : List MemPlace)
    (hval : ∀ (j : Nat) t v, Tryd.f7.params[j]? = some t → args[j]? = some v → Value.okWide Tryd.prog W .any base t v)
    (hW : DataW.Whole enc Tryd.prog Tryd.f7.params.toList Rows.queryBlanksSpec.vars false W args.toList ds gs before)
    (hz : (DataW.weightsEach Tryd.prog (Tryd.f7.params.toList ++ Rows.queryBlanksSpec.plain.varTypes Tryd.prog) (ds ++ gs)).all (· ≤ reachBytes) = true)
    (hL : laidMetH Tryd.prog Rows.queryBlanksRow.laid W) (hsh : W.ShapedOpen Tryd.prog) :
    Calls Tryd.prog 7 args W fun e W' => e = .returned (.bool true) ∧ Below W.heap.size W W' := by
  obtain ⟨p, q, hA, _, _, _, _⟩ := hW
  rw [Tryd.params7] at hA hval
  rw [Tryd.params7] at hz
  obtain ⟨v0, vs0, d0, ds0, p0, q0, hargs, rfl, rfl, h0, r0⟩ := trodAll_cons hA
  obtain ⟨rfl, rfl, rfl⟩ := trodAll_nil r0
  obtain rfl : args = #[v0] := by cases args; simp_all
  obtain ⟨y0, a0, b0, rfl, P0⟩ := arg_pt (hval 0 25 v0 rfl rfl) h0 (sized_arg hz (j := 0) (t := 25) (d := d0) rfl rfl)
  exact queryBlanks_any y0 a0 b0 W P0 (qvars_of hL hsh)

theorem queryBlanks_lifted (os : Os) (started : os.Started) (H : Type) (enc : TypeId × Value → H) (F : Stop.Interp) :
    ReturnsInHanded {} Tryd.checked os 7 .any ((OpenSpec.ofChange Rows.queryBlanksSpec).preRow enc Tryd.prog Tryd.f7 Rows.queryBlanksRow.domain false Rows.queryBlanksRow.laid) (((OpenSpec.ofChange Rows.queryBlanksSpec).at F).post enc Tryd.prog Tryd.f7 false true false false) := by
  obtain ⟨places, hx⟩ : ∃ places, DataW.whole enc Tryd.prog ((laidWorld os).forCall (fun _ _ => 0) ⟨#[], #[.agg #[.int .i64 0, .string ByteArray.empty, .slice none 0 0, .slice none 0 0]], []⟩).memory Tryd.f7.params.toList Rows.queryBlanksSpec.vars false (#[.agg #[.int .i64 0, .string ByteArray.empty, .slice none 0 0, .slice none 0 0]] : Array Value).toList 8 = some ([.agg [.lit (.int .i64 0), .lit (.string []), .nil, .nil]], [], places) := ⟨[], by kernel_rfl⟩
  refine returnsInHanded_of_row (C := Tryd.checked) (s := OpenSpec.ofChange Rows.queryBlanksSpec) own started (by kernel_rfl) Tryd.func7
    (witness_row_at (enc := enc) (C := Tryd.checked) false (laidWorld os) #[.agg #[.int .i64 0, .string ByteArray.empty, .slice none 0 0, .slice none 0 0]] rfl (by kernel_rfl) (by kernel_rfl) (by kernel_rfl)
      (OpenSpec.preRow_of_cond 8 hx (by kernel_rfl) (fun k hk => by cases hk) (by kernel_rfl) (laidMet_of_run' 8 (by kernel_rfl) (by kernel_rfl)))) ?_
  intro W base args ds gs before hval hW _ _ hz hL hsh _
  refine (queryBlanks_walk H enc W base args ds gs before hval hW hz hL hsh).mono fun e W' ⟨he, hb⟩ => ⟨_, he, ?_⟩
  exact law_post (fn := Tryd.f7) (s := Rows.queryBlanksSpec) (tb := 4) rfl (fun ds hd => by match ds, hd with | [d0], _ => rfl) rfl Tryd.underlying4 (by kernel_rfl) hW hb

theorem queryBlanks_said : Rows.QueryBlanksSaid :=
  OpenClaim.holds_of_cond 7 Tryd.f7 rfl rfl rfl rfl rfl rfl rfl ⟨rfl, rfl, rfl, rfl, rfl⟩ rfl rfl rfl rfl rfl (by kernel_rfl) Tryd.func7 (by kernel_rfl)
    (of_decide_eq_true (by kernel_rfl)) (by unfold Func.isWrapper; first | (rw [if_pos (by decide +kernel)]; kernel_rfl) | (rw [if_neg (by decide +kernel)]; exact ⟨rfl, rfl⟩))
    (fun os started H enc _ F => by rw [OpenClaim.pre_eq_preRow]; exact queryBlanks_lifted os started H enc F)

theorem queryBlanks_plain (f : FuncId) (fn : Func) (hf : Tryd.pinned.checked.prog.funcNamed Rows.queryBlanksRow.func = some f) (hfn : Tryd.pinned.checked.prog.funcs[f]? = some fn) :
    false = Tryd.pinned.checked.prog.looks [] ∧ ∀ (j : Nat) t, fn.params[j]? = some t → Tryd.pinned.checked.prog.wantsStandIn t = false := by
  obtain rfl : f = 7 := Option.some.inj ((show Tryd.prog.funcNamed Rows.queryBlanksRow.func = some 7 by kernel_rfl).symm.trans hf) |>.symm
  obtain rfl : fn = Tryd.f7 := (Option.some.inj (Tryd.func7.symm.trans hfn)).symm
  refine ⟨by kernel_rfl, fun j t ht => ?_⟩
  have h := Array.mem_of_getElem? ht
  have hall : Tryd.f7.params.all (fun t => !Tryd.prog.wantsStandIn t) = true := by kernel_rfl
  have := Array.all_eq_true_iff_forall_mem.1 hall t h
  show Tryd.prog.wantsStandIn t = false
  simpa using this

/-- THE STATEMENT. -/
theorem queryBlanks_card : Rows.QueryBlanksCardSaid :=
  Claim7.holds_tied_plain_at .later [] _ _ _ _ queryBlanks_said (fun _ h => by cases h) (by kernel_rfl) (fun _ h => by cases h) queryBlanks_row_tie rfl ⟨rfl, rfl⟩ (by kernel_rfl) rfl queryBlanks_plain (by kernel_rfl)
end Go.Proofs.YtagmgkplfhlifaaDoor
