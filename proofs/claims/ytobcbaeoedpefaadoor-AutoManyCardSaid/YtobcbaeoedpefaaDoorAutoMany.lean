/- AutoMany: a star has the word of no steps; star and plus have each word of the Kid, and two of them one behind the other; a plus has the word of no steps just where the Kid has. -/
import Derived.Test.YtobcbaeoedpefaaDoorAuLaid
import Derived.Test.YtobcbaeoedpefaaDoorRfNew
import Derived.Test.YtobcbaeoedpefaaDoorStpApp
namespace Go.Proofs.YtobcbaeoedpefaaDoor
set_option linter.unusedVariables false
set_option linter.unusedSimpArgs false
set_option maxRecDepth 100000
open Go.ChangeShapes Go.WideShapes Go.ChangeAt Go.RowKit
open Au
theorem nameO {P : Program} {md : Region.Mode} {ops : Array Oper} {Q : Exit → Act → World → Prop} {S : World → Prop} {fuel : Nat} {l : Array Bool} {a : Act} {w : World} (h : ∀ O T d Q' S', O = ops → T = a.tmps → d = a.defers → Q' = Q → S' = S → wpAnyH P md O Q' S' fuel l ⟨T, d⟩ w) : wpAnyH P md ops Q S fuel l a w := h ops a.tmps a.defers Q S rfl rfl rfl rfl rfl
theorem lang_append_nil {A : Rx.Lg} {w : List S} (h : A w) : Rx.Many A w := by
  have := Rx.Many.step h Rx.Many.nil
  rwa [List.append_nil] at this
theorem star_has_nil (a : Rx) : (Rx.star a).has [] = true := (Rx.has_lang _ _).2 Rx.Many.nil
theorem star_has {a : Rx} {w : List S} (h : a.has w = true) : (Rx.star a).has w = true := (Rx.has_lang _ _).2 (lang_append_nil ((Rx.has_lang _ _).1 h))
theorem star_two {a : Rx} {w v : List S} (h : a.has w = true) (k : a.has v = true) : (Rx.star a).has (w ++ v) = true := (Rx.has_lang _ _).2 (Rx.Many.step ((Rx.has_lang _ _).1 h) (lang_append_nil ((Rx.has_lang _ _).1 k)))
theorem plus_has_nil (a : Rx) : (Rx.plus a).has [] = a.has [] := by
  rw [Bool.eq_iff_iff, Rx.has_lang, Rx.has_lang]
  exact Rx.cat_nil.trans ⟨fun h => h.1, fun h => ⟨h, Rx.Many.nil⟩⟩
theorem plus_has {a : Rx} {w : List S} (h : a.has w = true) : (Rx.plus a).has w = true := (Rx.has_lang _ _).2 ⟨w, [], by simp, (Rx.has_lang _ _).1 h, Rx.Many.nil⟩
theorem plus_two {a : Rx} {w v : List S} (h : a.has w = true) (k : a.has v = true) : (Rx.plus a).has (w ++ v) = true := (Rx.has_lang _ _).2 ⟨w, v, rfl, (Rx.has_lang _ _).1 h, lang_append_nil ((Rx.has_lang _ _).1 k)⟩
theorem word_app (L K : List Stp) : wordOf (L ++ K) = wordOf L ++ wordOf K := by unfold wordOf; rw [List.map_append]
theorem ones_app {L K : List Stp} (h : ones L) (k : ones K) : ones (L ++ K) := fun i hi => by
  by_cases hl : i < L.length
  · rw [List.getElem_append_left hl]; exact h i hl
  · rw [List.getElem_append_right (by omega)]; exact k _ _
theorem rx_star (x : Pt) : (Pt.mk 5 [] [] [x]).rx false = .star (x.rx false) := by rw [Pt.rx]; rfl
theorem rx_plus (x : Pt) : (Pt.mk 6 [] [] [x]).rx false = .plus (x.rx false) := by rw [Pt.rx]; rfl
theorem may_plus {x : Pt} (h : (Pt.mk 5 [] [] [x]).may = true) : (Pt.mk 6 [] [] [x]).may = true := by
  unfold Pt.may at h ⊢
  rw [wf_mk, size_mk] at h ⊢
  exact h
theorem cnt_plus (a : Rx) : Rx.cnt (.plus a) = Rx.cnt (.star a) := rfl
theorem sum_le_of {f g : Nat → Nat} (h : ∀ a, f a ≤ g a) : ∀ l : List Nat, (l.map f).sum ≤ (l.map g).sum
  | [] => by simp
  | a :: l => by have := h a; have := sum_le_of h l; simp only [List.map_cons, List.sum_cons]; omega
theorem filter_le_of {p q : Nat → Bool} (h : ∀ a, p a = true → q a = true) : ∀ l : List Nat, (l.filter p).length ≤ (l.filter q).length
  | [] => by simp
  | a :: l => by
    have ih := filter_le_of h l
    by_cases hp : p a = true
    · rw [List.filter_cons_of_pos hp, List.filter_cons_of_pos (h a hp)]; simp only [List.length_cons]; omega
    · rw [List.filter_cons_of_neg hp]
      by_cases hq : q a = true
      · rw [List.filter_cons_of_pos hq]; simp only [List.length_cons]; omega
      · rw [List.filter_cons_of_neg hq]; exact ih
theorem cnt_star_le (a : Rx) : Rx.cnt a ≤ Rx.cnt (.star a) := by
  unfold Rx.cnt
  rw [show (Rx.star a).n = a.n from rfl]
  refine sum_le_of (fun i => filter_le_of (fun j hj => ?_) _) _
  unfold Rx.nxt at hj ⊢
  by_cases hi : i = 0
  · rw [if_pos hi] at hj ⊢; exact hj
  · rw [if_neg hi] at hj ⊢
    unfold Rx.fol
    simp [hj]
set_option maxHeartbeats 16000000 in
theorem autoMany_any (x : Pt) (v u y z : Value) (L K : List Stp) (w : World) (hP : PtAt w v u x) (hL : StepsAt w y L) (hlL : ∀ t ∈ L, t.low) (hK : StepsAt w z K) (hlK : ∀ t ∈ K, t.low) (hT : T8 w) :
    Calls Tryd.prog 6 #[pv x v u, y, z] w fun e w' => e = .returned (.bool true) ∧ Below w.heap.size w w' := by
  obtain ⟨a0, n0, c0, a1, n1, c1, rfl, rfl⟩ := pv_open hP
  obtain ⟨ya, yc, rfl, hyl, hym⟩ := hL.open
  obtain ⟨zA, zc, rfl, hzl, hzm⟩ := hK.open
  obtain ⟨w1, hw1⟩ : ∃ w1, w1 = w.alloc (.cells #[.int .i64 x.kind, str x.text, .slice a0 n0 c0, .slice a1 n1 c1] 25) := ⟨_, rfl⟩
  have hb1 : Below w.heap.size w w1 := by rw [hw1]; exact (Below.refl _ _).alloc (Nat.le_refl _) _
  have hX : Blk w1 w.heap.size [.int .i64 x.kind, str x.text, .slice a0 n0 c0, .slice a1 n1 c1] 25 := by rw [hw1]; exact Blk.new w _ _
  have HP1 := hid (hP.keep hb1)
  have HL1 := hid (hL.keep hb1)
  have HK1 := hid (hK.keep hb1)
  have HT1 := hid (hT.keep hb1)
  have BG := big_any _ w1 _ _ 0 HP1.out (by omega)
  have IP := fun W (hb : Below w1.heap.size w1 W) => rispath_any x _ _ W (HP1.out.keep hb) (HT1.out.keep hb)
  unfold pv at BG IP ⊢
  have WL := hid fun W (hb : Below w1.heap.size w1 W) => word_any _ L W (HL1.out.keep hb) hlL
  have WK := hid fun W (hb : Below w1.heap.size w1 W) => word_any _ K W (HK1.out.keep hb) hlK
  obtain ⟨bg, hbg⟩ : ∃ z, z = bigP 0 x := ⟨_, rfl⟩
  obtain ⟨wl, hwl⟩ : ∃ z, z = wordB L := ⟨_, rfl⟩
  obtain ⟨wk, hwk⟩ : ∃ z, z = wordB K := ⟨_, rfl⟩
  obtain ⟨ip, hip⟩ : ∃ z, z = x.may := ⟨_, rfl⟩
  rw [← hbg] at BG
  rw [← hwl] at WL
  rw [← hwk] at WK
  rw [← hip] at IP
  have BG := hid BG
  have IP := hid IP
  have HWL := hid hwl
  have HWK := hid hwk
  have HIP := hid hip
  have HB1 := hid hb1
  have HX := hid hX
  obtain ⟨x0, x1, x2, x3⟩ := blk4 hX
  obtain ⟨m, hm⟩ : ∃ m, m = L.length := ⟨_, rfl⟩
  obtain ⟨k, hk⟩ : ∃ m, m = K.length := ⟨_, rfl⟩
  have HML := hid hm
  have HMK := hid hk
  rw [← hm] at WL hyl ⊢
  rw [← hk] at WK hzl ⊢
  clear hb1 hX hP hL hT hK hlL hlK hwl hwk hip hm hk hbg
  have early : Hid (∀ e w3, e = Ending.returned (.bool true) → Below w1.heap.size w1 w3 → e = .returned (.bool true) ∧ Below w.heap.size w w3) := fun e w3 h hb => ⟨h, below_then HB1.out hb⟩
  cases bg
  case true =>
    go_enter Tryd.func6, Tryd.ntmps6
    go_upto_region 1 with fail
    rw [← hw1]
    clear hw1
    go_wp2_with fail
    refine BG.out.mono ?_
    rintro e w2 ⟨rfl, hb2⟩
    have x0 := below_keep hb2 x0
    have x1 := below_keep hb2 x1
    have x2 := below_keep hb2 x2
    have x3 := below_keep hb2 x3
    have HB2 := hid hb2
    clear hb2
    go_wp2
    go_ret
    exact early.out _ _ rfl HB2.out
  cases wl
  case false =>
    go_enter Tryd.func6, Tryd.ntmps6
    go_upto_region 1 with fail
    rw [← hw1]
    clear hw1
    go_wp2_with fail
    refine BG.out.mono ?_
    rintro e w2 ⟨rfl, hb2⟩
    have x0 := below_keep hb2 x0
    have x1 := below_keep hb2 x1
    have x2 := below_keep hb2 x2
    have x3 := below_keep hb2 x3
    have HB2 := hid hb2
    clear hb2
    go_wp2_with fail
    refine (WL.out _ HB2.out).mono ?_
    rintro e wq ⟨rfl, hw⟩
    rw [hw]
    clear hw wq WL
    go_wp2
    go_ret
    exact early.out _ _ rfl HB2.out
  cases wk
  case false =>
    go_enter Tryd.func6, Tryd.ntmps6
    go_upto_region 1 with fail
    rw [← hw1]
    clear hw1
    go_wp2_with fail
    refine BG.out.mono ?_
    rintro e w2 ⟨rfl, hb2⟩
    have x0 := below_keep hb2 x0
    have x1 := below_keep hb2 x1
    have x2 := below_keep hb2 x2
    have x3 := below_keep hb2 x3
    have HB2 := hid hb2
    clear hb2
    go_wp2_with fail
    refine (WL.out _ HB2.out).mono ?_
    rintro e wq ⟨rfl, hw⟩
    rw [hw]
    clear hw wq WL
    go_wp2_with fail
    refine (WK.out _ HB2.out).mono ?_
    rintro e wq ⟨rfl, hw⟩
    rw [hw]
    clear hw wq WK
    go_wp2
    go_ret
    exact early.out _ _ rfl HB2.out
  cases ip
  case false =>
    go_enter Tryd.func6, Tryd.ntmps6
    go_upto_region 1 with fail
    rw [← hw1]
    clear hw1
    go_wp2_with fail
    refine BG.out.mono ?_
    rintro e w2 ⟨rfl, hb2⟩
    have x0 := below_keep hb2 x0
    have x1 := below_keep hb2 x1
    have x2 := below_keep hb2 x2
    have x3 := below_keep hb2 x3
    have HB2 := hid hb2
    clear hb2
    go_wp2_with fail
    refine (WL.out _ HB2.out).mono ?_
    rintro e wq ⟨rfl, hw⟩
    rw [hw]
    clear hw wq WL
    go_wp2_with fail
    refine (WK.out _ HB2.out).mono ?_
    rintro e wq ⟨rfl, hw⟩
    rw [hw]
    clear hw wq WK
    go_wp2_with fail
    refine (IP.out _ HB2.out).mono ?_
    rintro e w3 ⟨rfl, hb3⟩
    have HB3 := hid (below_then HB2.out hb3)
    have x0 := below_keep hb3 x0
    have x1 := below_keep hb3 x1
    have x2 := below_keep hb3 x2
    have x3 := below_keep hb3 x3
    clear hb3
    go_wp2
    go_ret
    exact early.out _ _ rfl HB3.out
  go_enter Tryd.func6, Tryd.ntmps6
  go_upto_region 1 with fail
  rw [← hw1]
  clear hw1
  go_wp2_with fail
  refine BG.out.mono ?_
  rintro e w2 ⟨rfl, hb2⟩
  have x0 := below_keep hb2 x0
  have x1 := below_keep hb2 x1
  have x2 := below_keep hb2 x2
  have x3 := below_keep hb2 x3
  have HB2 := hid hb2
  clear hb2
  go_wp2_with fail
  refine (WL.out _ HB2.out).mono ?_
  rintro e wq ⟨rfl, hw⟩
  rw [hw]
  clear hw wq WL
  go_wp2_with fail
  refine (WK.out _ HB2.out).mono ?_
  rintro e wq ⟨rfl, hw⟩
  rw [hw]
  clear hw wq WK
  go_wp2_with fail
  refine (IP.out _ HB2.out).mono ?_
  rintro e w3 ⟨rfl, hb3⟩
  have HB3 := hid (below_then HB2.out hb3)
  have x0 := below_keep hb3 x0
  have x1 := below_keep hb3 x1
  have x2 := below_keep hb3 x2
  have x3 := below_keep hb3 x3
  clear hb3
  go_upto_region 3 with fail
  have HX := hid ((HX.out.keep HB3.out))
  obtain ⟨w2, hww⟩ : ∃ w2, w2 = w3 := ⟨_, rfl⟩
  rw [← hww]
  rw [← hww] at HX HB3 x0 x1 x2 x3
  clear hww w3
  refine wp_region_held_drew (S := fun w' => Blk w' w.heap.size [.int .i64 x.kind, str x.text, .slice a0 n0 c0, .slice a1 n1 c1] 25) (by kernel_rfl) (HX.out.keep (below_drawn (Below.refl _ _) 1)) (fun hHeld => ?_)
  refine wpAnyH_take (i := 0) (oi := ({ dst := some 35, op := Op.load 25 (Operand.tmp 3), type := 25, pos := "law.go:129", after := #[], guard := none } : Oper)) (v := ?_) rfl (by kernel_rfl) (by kernel_rfl) (by kernel_rfl) (fun _ _ _ h => h) (Or.inl ⟨by rfl, ?_⟩) hHeld ?_
  rotate_left 1
  · intro w9 hw9; (try (obtain ⟨x0, x1, x2, x3⟩ := blk4 hw9)); go_simp; try with_reducible rfl
  simp only [Act.put, List.setIfInBounds_toArray, List.set_cons_zero, List.set_cons_succ]
  refine wpAnyH_take (i := 3) (oi := ({ dst := some 38, op := Op.load 25 (Operand.tmp 3), type := 25, pos := "law.go:129", after := #[{ on := 8, ground := Ground.gcOnly Departure.lateStores }], guard := none } : Oper)) (v := ?_) rfl (by kernel_rfl) (by kernel_rfl) (by kernel_rfl) (fun _ _ _ h => h) (Or.inl ⟨by rfl, ?_⟩) hHeld ?_
  rotate_left 1
  · intro w9 hw9; (try (obtain ⟨x0, x1, x2, x3⟩ := blk4 hw9)); go_simp; try with_reducible rfl
  simp only [Act.put, List.setIfInBounds_toArray, List.set_cons_zero, List.set_cons_succ]
  refine nameO ?_
  intro O T DD QQ SS hO hT hDD hQQ hSS
  dsimp only at hT hDD
  subst hDD
  have HPAN := hid (show ∀ e (a : Act) (d : Option Nat) v w, QQ (.panic e) (a.put d v) w → QQ (.panic e) a w from by rw [hQQ]; intro e a d v w h; first | exact h | (unfold Act.put at h; split at h <;> exact h))
  have HS9 := hid (show ∀ W, Below w2.heap.size w2 W → SS W from by rw [hSS]; exact fun W hb => HX.out.keep hb)
  clear hSS hHeld
  have g111111 : ∀ (W : World) (q1 : Nat) (q4 : Nat) (q6 : Nat) (q7 : Nat), Below w2.heap.size w2 W → (Blk W q1 [.int .i64 x.kind, str x.text, .slice a0 n0 c0, .slice a1 n1 c1] 25 ∧ w2.heap.size ≤ q1) → (Blk W q4 [.int .i64 x.kind, str x.text, .slice a0 n0 c0, .slice a1 n1 c1] 25 ∧ w2.heap.size ≤ q4) → (Blk W q6 [.int .i64 5, .string ⟨#[]⟩, .slice none 0 0, .slice (some ⟨q1, 0, none⟩) 1 1] 25 ∧ w2.heap.size ≤ q6) → (Blk W q7 [.int .i64 6, .string ⟨#[]⟩, .slice none 0 0, .slice (some ⟨q4, 0, none⟩) 1 1] 25 ∧ w2.heap.size ≤ q7) → q1 ≠ q4 → q1 ≠ q6 → q1 ≠ q7 → q4 ≠ q6 → q4 ≠ q7 → q6 ≠ q7 → wpAnyH Tryd.prog .any O QQ SS 0 #[true, true, true, true, true, true, true, true, true, true] ⟨((((((T.setIfInBounds 36 (.slice (some ⟨q1, 0, none⟩) 1 1)).setIfInBounds 37 (.agg #[.int .i64 5, .string ⟨#[]⟩, .slice none 0 0, .slice (some ⟨q1, 0, none⟩) 1 1])).setIfInBounds 39 (.slice (some ⟨q4, 0, none⟩) 1 1)).setIfInBounds 40 (.agg #[.int .i64 6, .string ⟨#[]⟩, .slice none 0 0, .slice (some ⟨q4, 0, none⟩) 1 1])).setIfInBounds 7 (.pointer (some ⟨q6, 0, none⟩))).setIfInBounds 8 (.pointer (some ⟨q7, 0, none⟩))), []⟩ W := by
    intro W q1 q4 q6 q7 hB h_q1 h_q4 h_q6 h_q7 n_q1_q4 n_q1_q6 n_q1_q7 n_q4_q6 n_q4_q7 n_q6_q7
    subst hO
    subst hT
    refine wpAnyH_done (by kernel_rfl) ?_ _
    rw [hQQ]
    clear hQQ
    (try simp only [List.setIfInBounds_toArray, List.set_cons_zero, List.set_cons_succ])
    have hBq := hB
    have HB4 := hid (below_then HB3.out hBq)
    obtain ⟨hq1, _⟩ := h_q1
    obtain ⟨hq4, _⟩ := h_q4
    obtain ⟨hq6, _⟩ := h_q6
    obtain ⟨hq7, _⟩ := h_q7
    have hPW := HP1.out.keep HB4.out
    have h5 := hid (pt_one 5 (by decide) hq1 hPW)
    have h6 := hid (pt_one 6 (by decide) hq4 hPW)
    have hPW := hid hPW
    have HTW := hid (HT1.out.keep HB4.out)
    have HLW := hid (HL1.out.keep HB4.out)
    have HKW := hid (HK1.out.keep HB4.out)
    have x0 := below_keep hB x0
    have x1 := below_keep hB x1
    have x2 := below_keep hB x2
    have x3 := below_keep hB x3
    obtain ⟨c0, c1, c2, c3⟩ := blk4 hq6
    obtain ⟨d0, d1, d2, d3⟩ := blk4 hq7
    clear hB hBq hq1 hq4 hq6 hq7
    clear n_q1_q4 n_q1_q6 n_q1_q7 n_q4_q6 n_q4_q7 n_q6_q7
    have IP := fun W2 (hb : Below W.heap.size W W2) => rispath_any (.mk 5 [] [] [x]) _ _ W2 (h5.out.keep hb) (HTW.out.keep hb)
    simp only [pv, Pt.kind, Pt.text] at IP
    obtain ⟨ip, hip⟩ : ∃ z, z = (Pt.mk 5 [] [] [x]).may := ⟨_, rfl⟩
    rw [← hip] at IP
    have IP := hid IP
    have HIP5 := hid hip
    clear hip
    have early : Hid (∀ e w9, e = Ending.returned (.bool true) → Below W.heap.size W w9 → e = .returned (.bool true) ∧ Below w.heap.size w w9) := fun e w9 h hb => early.out _ _ h (below_then HB4.out hb)
    go_wp2_with fail
    refine (IP.out _ (Below.refl _ _)).mono ?_
    rintro e w4 ⟨rfl, hb4⟩
    have x0 := below_keep hb4 x0
    have x1 := below_keep hb4 x1
    have x2 := below_keep hb4 x2
    have x3 := below_keep hb4 x3
    have c0 := below_keep hb4 c0
    have c1 := below_keep hb4 c1
    have c2 := below_keep hb4 c2
    have c3 := below_keep hb4 c3
    have d0 := below_keep hb4 d0
    have d1 := below_keep hb4 d1
    have d2 := below_keep hb4 d2
    have d3 := below_keep hb4 d3
    have HB5 := hid hb4
    clear hb4 IP
    cases ip
    case false =>
      go_wp2
      go_ret
      exact early.out _ _ rfl HB5.out
    have hm5 : (Pt.mk 5 [] [] [x]).may = true := HIP5.out.symm
    have hm : x.may = true := HIP.out.symm
    have hm6 := may_plus hm5
    by_cases hcs : Rx.cnt (.star (x.rx false)) ≤ 200
    case neg =>
      have N1 := hid fun W2 (hb : Below W.heap.size W W2) => by have h := new_some (hPW.out.keep hb) (HTW.out.keep hb); simp only [pv] at h; exact h
      have N2 := hid fun W2 (hb : Below W.heap.size W W2) => by have h := new_full (h5.out.keep hb) (HTW.out.keep hb) hm5 (by rw [rx_star]; omega); simp only [pv, Pt.kind, Pt.text] at h; exact h
      have N3 := hid fun W2 (hb : Below W.heap.size W W2) => by have h := new_full (h6.out.keep hb) (HTW.out.keep hb) hm6 (by rw [rx_plus, cnt_plus]; omega); simp only [pv, Pt.kind, Pt.text] at h; exact h
      have N4 := hid fun W2 (hb : Below W.heap.size W W2) => by have h := rnew_any (.mk 5 [] [] [x]) _ _ W2 (h5.out.keep hb) (HTW.out.keep hb); simp only [pv, Pt.kind, Pt.text] at h; exact h
      have HCS := hid (show 200 < Rx.cnt ((Pt.mk 5 [] [] [x]).rx false) by rw [rx_star]; omega)
      have HM5 := hid hm5
      clear hcs hm5 hm hm6
      go_wp2_with fail
      refine (N1.out _ HB5.out).mono ?_
      rintro e w5 ⟨⟨pa, ka, rfl⟩, hb⟩
      have c0 := below_keep hb c0
      have c1 := below_keep hb c1
      have c2 := below_keep hb c2
      have c3 := below_keep hb c3
      have d0 := below_keep hb d0
      have d1 := below_keep hb d1
      have d2 := below_keep hb d2
      have d3 := below_keep hb d3
      have HB6 := hid (below_then HB5.out hb)
      clear hb x0 x1 x2 x3
      go_wp2_with fail
      refine (N2.out _ HB6.out).mono ?_
      rintro e w6 ⟨rfl, hb⟩
      have c0 := below_keep hb c0
      have c1 := below_keep hb c1
      have c2 := below_keep hb c2
      have c3 := below_keep hb c3
      have d0 := below_keep hb d0
      have d1 := below_keep hb d1
      have d2 := below_keep hb d2
      have d3 := below_keep hb d3
      have HB7 := hid (below_then HB6.out hb)
      clear hb
      go_wp2_with fail
      refine (N3.out _ HB7.out).mono ?_
      rintro e w7 ⟨rfl, hb⟩
      have c0 := below_keep hb c0
      have c1 := below_keep hb c1
      have c2 := below_keep hb c2
      have c3 := below_keep hb c3
      have HB8 := hid (below_then HB7.out hb)
      clear hb d0 d1 d2 d3
      have fin : Hid (∀ e w9, RNewPost (.mk 5 [] [] [x]) w7 e w9 → Below W.heap.size W w9 ∧ e = .returned (.tuple #[.pointer none, .int .i64 3])) := fun e w9 h => by
        obtain ⟨hb, h | h | h⟩ := h
        · exact absurd (h.1.symm.trans HM5.out) (by simp)
        · exact ⟨below_then HB8.out hb, h.2.2⟩
        · exact absurd h.2.1 (by have := HCS.out; omega)
      by_cases hk : ka = 0
      · subst hk
        go_wp2_with fail
        refine (N4.out _ HB8.out).mono ?_
        intro e w8 h8
        obtain ⟨hb8, rfl⟩ := fin.out _ _ h8
        have HB9 := hid hb8
        clear hb8 h8
        go_wp2
        go_ret
        exact early.out _ _ rfl HB9.out
      · have hk1 : (ka == 0) = false := beq_eq_false_iff_ne.2 hk
        have hk2 : (ka != 0) = true := by rw [bne, hk1]; rfl
        clear hk
        go_wp2_with fail
        refine (N4.out _ HB8.out).mono ?_
        intro e w8 h8
        obtain ⟨hb8, rfl⟩ := fin.out _ _ h8
        have HB9 := hid hb8
        clear hb8 h8
        go_wp2
        go_ret
        exact early.out _ _ rfl HB9.out
    have hcx : Rx.cnt (x.rx false) ≤ 200 := Nat.le_trans (cnt_star_le _) hcs
    have N1 := hid fun W2 (hb : Below W.heap.size W W2) => by have h := new_ok (hPW.out.keep hb) (HTW.out.keep hb) hm hcx; simp only [pv] at h; exact h
    have N2 := hid fun W2 (hb : Below W.heap.size W W2) => by have h := new_ok (h5.out.keep hb) (HTW.out.keep hb) hm5 (by rw [rx_star]; exact hcs); rw [rx_star] at h; simp only [pv, Pt.kind, Pt.text] at h; exact h
    have N3 := hid fun W2 (hb : Below W.heap.size W W2) => by have h := new_ok (h6.out.keep hb) (HTW.out.keep hb) hm6 (by rw [rx_plus, cnt_plus]; exact hcs); rw [rx_plus] at h; simp only [pv, Pt.kind, Pt.text] at h; exact h
    clear hcs hcx hm5 hm hm6
    obtain ⟨r, hr⟩ : ∃ r, r = x.rx false := ⟨_, rfl⟩
    rw [← hr] at N1 N2 N3
    clear hr
    go_wp2_with fail
    refine (N1.out _ HB5.out).mono ?_
    rintro e w5 ⟨pa, rfl, hb, hA⟩
    have c0 := below_keep hb c0
    have c1 := below_keep hb c1
    have c2 := below_keep hb c2
    have c3 := below_keep hb c3
    have d0 := below_keep hb d0
    have d1 := below_keep hb d1
    have d2 := below_keep hb d2
    have d3 := below_keep hb d3
    have HB6 := hid (below_then HB5.out hb)
    have HA := hid hA
    clear hb x0 x1 x2 x3 hA
    go_wp2_with fail
    refine (N2.out _ HB6.out).mono ?_
    rintro e w6 ⟨pb, rfl, hb, hA⟩
    have d0 := below_keep hb d0
    have d1 := below_keep hb d1
    have d2 := below_keep hb d2
    have d3 := below_keep hb d3
    have HB7 := hid (below_then HB6.out hb)
    have HA := hid (HA.out.keep hb)
    have HS := hid hA
    clear hb c0 c1 c2 c3 hA
    go_wp2_with fail
    refine (N3.out _ HB7.out).mono ?_
    rintro e w7 ⟨pc, rfl, hb, hA⟩
    have HB8 := hid (below_then HB7.out hb)
    have HA := hid (HA.out.keep hb)
    have HS := hid (HS.out.keep hb)
    have HPl := hid hA
    clear hb d0 d1 d2 d3 hA
    have hoL := (wordB_ones HWL.out.symm)
    have hoK := (wordB_ones HWK.out.symm)
    have HOL := hid hoL
    have HOK := hid hoK
    clear hoL hoK
    have HL7 := hid (HLW.out.keep HB8.out)
    have HK7 := hid (HKW.out.keep HB8.out)
    have nil0 : Hid (ones []) := fun i hi => absurd hi (by simp)
    obtain ⟨fa, hza⟩ : ∃ z, z = r.has (wordOf L) := ⟨_, rfl⟩
    obtain ⟨fk, hzk⟩ : ∃ z, z = r.has (wordOf K) := ⟨_, rfl⟩
    obtain ⟨z0, hz0⟩ : ∃ z, z = r.has (wordOf []) := ⟨_, rfl⟩
    have TA := fun W2 (hb : Below w7.heap.size w7 W2) => takes_au _ _ (HA.out.keep hb) (HL7.out.keep hb) HOL.out.1
    have TK := fun W2 (hb : Below w7.heap.size w7 W2) => takes_au _ _ (HA.out.keep hb) (HK7.out.keep hb) HOK.out.1
    have T0 := fun W2 (hb : Below w7.heap.size w7 W2) => takes_au _ _ (HA.out.keep hb) (StepsAt.nil W2) nil0.out
    have S0 := fun W2 (hb : Below w7.heap.size w7 W2) => takes_au _ _ (HS.out.keep hb) (StepsAt.nil W2) nil0.out
    have P0 := fun W2 (hb : Below w7.heap.size w7 W2) => takes_au _ _ (HPl.out.keep hb) (StepsAt.nil W2) nil0.out
    have SA := fun W2 (hb : Below w7.heap.size w7 W2) => takes_au _ _ (HS.out.keep hb) (HL7.out.keep hb) HOL.out.1
    have PA := fun W2 (hb : Below w7.heap.size w7 W2) => takes_au _ _ (HPl.out.keep hb) (HL7.out.keep hb) HOL.out.1
    rw [← hza] at TA
    rw [← hzk] at TK
    rw [← hz0] at T0
    rw [show (Rx.star r).has (wordOf []) = true from star_has_nil r] at S0
    rw [show (Rx.plus r).has (wordOf []) = z0 from by rw [hz0]; exact plus_has_nil r] at P0
    rw [← HML.out] at TA SA PA
    rw [← HMK.out] at TK
    have TA := hid TA
    have TK := hid TK
    have T0 := hid T0
    have S0 := hid S0
    have P0 := hid P0
    have HZA := hid hza
    have HZK := hid hzk
    have SA := hid SA
    have PA := hid PA
    have e0 : (z0 != z0) = false := by cases z0 <;> rfl
    have e00 : (z0 == z0) = true := by cases z0 <;> rfl
    clear hza hzk hz0
    have KN := hid fun W2 (hb : Below w7.heap.size w7 W2) => known_any W2 (HTW.out.keep (HB8.out.trans (hb.mono HB8.out.size)))
    have HB9 := hid (Below.refl w7.heap.size w7)
    go_wp2_with fail
    refine (S0.out _ HB9.out).mono ?_
    rintro e w10 ⟨rfl, hb⟩
    have HB10 := hid (below_then HB9.out hb)
    clear hb
    go_wp2_with fail
    refine (P0.out _ HB10.out).mono ?_
    rintro e w11 ⟨rfl, hb⟩
    have HB11 := hid (below_then HB10.out hb)
    clear hb
    go_wp2_with fail
    refine (T0.out _ HB11.out).mono ?_
    rintro e w12 ⟨rfl, hb⟩
    have HB12 := hid (below_then HB11.out hb)
    clear hb
    go_upto_region 14 with fail
    have HLm := hid (show StepsAt w12 (.slice ya m yc) L by rw [HML.out]; exact HL7.out.keep HB12.out)
    have HKm := hid (show StepsAt w12 (.slice zA k zc) K by rw [HMK.out]; exact HK7.out.keep HB12.out)
    have HV0 := hid (SrOld.made (Nat.le_refl w12.heap.size))
    have HN1 := hid (show ([] : List Stp).length + L.length ≤ 1000 by have := HOL.out.2; simp; omega)
    have HN2 := hid (show (([] : List Stp) ++ L).length + K.length ≤ 1000 by have := HOL.out.2; have := HOK.out.2; simp; omega)
    go_upto_region 15 with (first
      | (at_builtin; refine wpList_append_steps rfl (.tmp 98) (.tmp 99) rfl HV0.out rfl HLm.out rfl ((Below.refl _ _).alloc (Nat.le_refl _) _) HN1.out ?_; intro v1 w51 ys1 hv1 hb1; have HV1 := hid hv1; have HB51 := hid hb1; clear hv1 hb1)
      | (at_builtin; refine wpList_append_steps rfl (.tmp 100) (.tmp 101) rfl HV1.out rfl HKm.out rfl HB51.out HN2.out ?_; intro v2 w52 ys2 hv2 hb2; have HV2 := hid hv2; have HB52 := hid (below_then HB12.out hb2); have HS52 := hid (hv2.steps hb2); clear hv2 hb2))
    cases fa
    case false =>
      have HC52 := hid (Below.refl w52.heap.size w52)
      go_wp2_with fail
      refine (TA.out _ (HB52.out.trans (HC52.out.mono HB52.out.size))).mono ?_
      rintro e w13 ⟨rfl, hb⟩
      have HB13 := hid (below_then HC52.out hb)
      clear hb
      go_wp2_with fail
      refine (TA.out _ (HB52.out.trans (HB13.out.mono HB52.out.size))).mono ?_
      rintro e w14 ⟨rfl, hb⟩
      have HB14 := hid (below_then HB13.out hb)
      clear hb
      go_wp2_with fail
      refine (KN.out _ (HB52.out.trans (HB14.out.mono HB52.out.size))).mono ?_
      rintro e w15 ⟨rfl, hb⟩
      have HB15 := hid (below_then HB14.out hb)
      clear hb
      go_wp2
      go_ret
      exact early.out _ _ rfl (HB8.out.trans ((HB52.out.trans (HB15.out.mono HB52.out.size)).mono HB8.out.size))
    have SA := SA.out
    have PA := PA.out
    rw [star_has HZA.out.symm] at SA
    rw [plus_has HZA.out.symm] at PA
    have SA := hid SA
    have PA := hid PA
    cases fk
    case false =>
      have HC52 := hid (Below.refl w52.heap.size w52)
      go_wp2_with fail
      refine (TA.out _ (HB52.out.trans (HC52.out.mono HB52.out.size))).mono ?_
      rintro e w16 ⟨rfl, hb⟩
      have HB16 := hid (below_then HC52.out hb)
      clear hb
      go_wp2_with fail
      refine (SA.out _ (HB52.out.trans (HB16.out.mono HB52.out.size))).mono ?_
      rintro e w17 ⟨rfl, hb⟩
      have HB17 := hid (below_then HB16.out hb)
      clear hb
      go_wp2_with fail
      refine (PA.out _ (HB52.out.trans (HB17.out.mono HB52.out.size))).mono ?_
      rintro e w18 ⟨rfl, hb⟩
      have HB18 := hid (below_then HB17.out hb)
      clear hb
      go_wp2_with fail
      refine (TA.out _ (HB52.out.trans (HB18.out.mono HB52.out.size))).mono ?_
      rintro e w19 ⟨rfl, hb⟩
      have HB19 := hid (below_then HB18.out hb)
      clear hb
      go_wp2_with fail
      refine (TK.out _ (HB52.out.trans (HB19.out.mono HB52.out.size))).mono ?_
      rintro e w20 ⟨rfl, hb⟩
      have HB20 := hid (below_then HB19.out hb)
      clear hb
      go_wp2_with fail
      refine (KN.out _ (HB52.out.trans (HB20.out.mono HB52.out.size))).mono ?_
      rintro e w21 ⟨rfl, hb⟩
      have HB21 := hid (below_then HB20.out hb)
      clear hb
      go_wp2
      go_ret
      exact early.out _ _ rfl (HB8.out.trans ((HB52.out.trans (HB21.out.mono HB52.out.size)).mono HB8.out.size))
    have ho2 := hid (ones_app (ones_app (fun i hi => absurd hi (by simp) : ones []) HOL.out.1) HOK.out.1)
    have S2 := fun W2 (hb : Below w52.heap.size w52 W2) => takes_au _ _ (HS.out.keep (HB52.out.trans (hb.mono HB52.out.size))) (HS52.out.keep hb) ho2.out
    have P2 := fun W2 (hb : Below w52.heap.size w52 W2) => takes_au _ _ (HPl.out.keep (HB52.out.trans (hb.mono HB52.out.size))) (HS52.out.keep hb) ho2.out
    have hw2 : wordOf ([] ++ L ++ K) = wordOf L ++ wordOf K := word_app L K
    rw [hw2, star_two HZA.out.symm HZK.out.symm] at S2
    rw [hw2, plus_two HZA.out.symm HZK.out.symm] at P2
    have S2 := hid S2
    have P2 := hid P2
    clear hw2
    have HC52 := hid (Below.refl w52.heap.size w52)
    go_wp2_with fail
    refine (TA.out _ (HB52.out.trans (HC52.out.mono HB52.out.size))).mono ?_
    rintro e w22 ⟨rfl, hb⟩
    have HB22 := hid (below_then HC52.out hb)
    clear hb
    go_wp2_with fail
    refine (SA.out _ (HB52.out.trans (HB22.out.mono HB52.out.size))).mono ?_
    rintro e w23 ⟨rfl, hb⟩
    have HB23 := hid (below_then HB22.out hb)
    clear hb
    go_wp2_with fail
    refine (PA.out _ (HB52.out.trans (HB23.out.mono HB52.out.size))).mono ?_
    rintro e w24 ⟨rfl, hb⟩
    have HB24 := hid (below_then HB23.out hb)
    clear hb
    go_wp2_with fail
    refine (TA.out _ (HB52.out.trans (HB24.out.mono HB52.out.size))).mono ?_
    rintro e w25 ⟨rfl, hb⟩
    have HB25 := hid (below_then HB24.out hb)
    clear hb
    go_wp2_with fail
    refine (TK.out _ (HB52.out.trans (HB25.out.mono HB52.out.size))).mono ?_
    rintro e w26 ⟨rfl, hb⟩
    have HB26 := hid (below_then HB25.out hb)
    clear hb
    go_wp2_with fail
    refine (S2.out _ HB26.out).mono ?_
    rintro e w27 ⟨rfl, hb⟩
    have HB27 := hid (below_then HB26.out hb)
    clear hb
    go_wp2_with fail
    refine (P2.out _ HB27.out).mono ?_
    rintro e w28 ⟨rfl, hb⟩
    have HB28 := hid (below_then HB27.out hb)
    clear hb
    go_wp2_with fail
    refine (KN.out _ (HB52.out.trans (HB28.out.mono HB52.out.size))).mono ?_
    rintro e w29 ⟨rfl, hb⟩
    have HB29 := hid (below_then HB28.out hb)
    clear hb
    go_wp2
    go_ret
    exact early.out _ _ rfl (HB8.out.trans ((HB52.out.trans (HB29.out.mono HB52.out.size)).mono HB8.out.size))
  have g111110 : ∀ (W : World) (q1 : Nat) (q4 : Nat) (q6 : Nat) (q7 : Nat), Below w2.heap.size w2 W → (Blk W q1 [.int .i64 x.kind, str x.text, .slice a0 n0 c0, .slice a1 n1 c1] 25 ∧ w2.heap.size ≤ q1) → (Blk W q4 [.int .i64 x.kind, str x.text, .slice a0 n0 c0, .slice a1 n1 c1] 25 ∧ w2.heap.size ≤ q4) → (Blk W q6 [.int .i64 5, .string ⟨#[]⟩, .slice none 0 0, .slice (some ⟨q1, 0, none⟩) 1 1] 25 ∧ w2.heap.size ≤ q6) → (Blk W q7 [.int .i64 0, .string ⟨#[]⟩, .slice none 0 0, .slice none 0 0] 25 ∧ w2.heap.size ≤ q7) → q1 ≠ q4 → q1 ≠ q6 → q1 ≠ q7 → q4 ≠ q6 → q4 ≠ q7 → q6 ≠ q7 → wpAnyH Tryd.prog .any O QQ SS 1 #[true, true, true, true, true, true, true, true, true, false] ⟨((((((T.setIfInBounds 36 (.slice (some ⟨q1, 0, none⟩) 1 1)).setIfInBounds 37 (.agg #[.int .i64 5, .string ⟨#[]⟩, .slice none 0 0, .slice (some ⟨q1, 0, none⟩) 1 1])).setIfInBounds 39 (.slice (some ⟨q4, 0, none⟩) 1 1)).setIfInBounds 40 (.agg #[.int .i64 6, .string ⟨#[]⟩, .slice none 0 0, .slice (some ⟨q4, 0, none⟩) 1 1])).setIfInBounds 7 (.pointer (some ⟨q6, 0, none⟩))).setIfInBounds 8 (.pointer (some ⟨q7, 0, none⟩))), []⟩ W := by
    intro W q1 q4 q6 q7 hB h_q1 h_q4 h_q6 h_q7 n_q1_q4 n_q1_q6 n_q1_q7 n_q4_q6 n_q4_q7 n_q6_q7
    subst hO
    subst hT
    have G111111 := hid g111111
    clear g111111 hQQ
    have H_q1 := hid h_q1
    have H_q4 := hid h_q4
    have H_q6 := hid h_q6
    have H_q7 := hid h_q7
    have HB := hid hB
    have hHeld := HS9.out W hB
    clear hB h_q1 h_q4 h_q6 h_q7
    (try simp only [List.setIfInBounds_toArray, List.set_cons_zero, List.set_cons_succ])
    refine wpAnyH_ready (rs := [9]) (by kernel_rfl) (by simp) ?_
    refine AllReadyH.cons (o := ({ dst := none, op := Op.store 25 (Operand.tmp 8) (Operand.tmp 40), type := 0, pos := "law.go:129", after := #[{ on := 7, ground := Ground.data }, { on := 5, ground := Ground.data }, { on := 8, ground := Ground.chain }, { on := 0, ground := Ground.phase }, { on := 1, ground := Ground.phase }, { on := 2, ground := Ground.phase }, { on := 3, ground := Ground.phase }, { on := 4, ground := Ground.phase }, { on := 5, ground := Ground.phase }, { on := 6, ground := Ground.phase }, { on := 7, ground := Ground.phase }, { on := 8, ground := Ground.phase }], guard := none } : Oper)) rfl (fun K hK => ?_) ?_
    · obtain ⟨u0, u1, u2, u3⟩ : W.cell? ⟨q7, 0, none⟩ = some (.int .i64 0) ∧ W.cell? ⟨q7, 1, none⟩ = some (.string ⟨#[]⟩) ∧ W.cell? ⟨q7, 2, none⟩ = some (.slice none 0 0) ∧ W.cell? ⟨q7, 3, none⟩ = some (.slice none 0 0) := ⟨H_q7.out.1.cell (i := 0) rfl, H_q7.out.1.cell (i := 1) rfl, H_q7.out.1.cell (i := 2) rfl, H_q7.out.1.cell (i := 3) rfl⟩
      have v0 := H_q7.out.1.free 0
      have v1 := H_q7.out.1.free 1
      have v2 := H_q7.out.1.free 2
      have v3 := H_q7.out.1.free 3
      go_simp
      refine hK.out _ _ (HS9.out _ ((((HB.out.setCell (p := ⟨q7, 0, none⟩) H_q7.out.2 (.int .i64 6)).setCell (p := ⟨q7, 1, none⟩) H_q7.out.2 (.string ⟨#[]⟩)).setCell (p := ⟨q7, 2, none⟩) H_q7.out.2 (.slice none 0 0)).setCell (p := ⟨q7, 3, none⟩) H_q7.out.2 (.slice (some ⟨q4, 0, none⟩) 1 1))) (fun hHeld => ?_)
      clear hK K
      (try simp only [Act.put, List.setIfInBounds_toArray, List.set_cons_zero, List.set_cons_succ])
      have G := G111111.out _ q1 q4 q6 q7 ((((HB.out.setCell (p := ⟨q7, 0, none⟩) H_q7.out.2 (.int .i64 6)).setCell (p := ⟨q7, 1, none⟩) H_q7.out.2 (.string ⟨#[]⟩)).setCell (p := ⟨q7, 2, none⟩) H_q7.out.2 (.slice none 0 0)).setCell (p := ⟨q7, 3, none⟩) H_q7.out.2 (.slice (some ⟨q4, 0, none⟩) 1 1)) ⟨((((H_q1.out.1.other n_q1_q7 0 (.int .i64 6)).other n_q1_q7 1 (.string ⟨#[]⟩)).other n_q1_q7 2 (.slice none 0 0)).other n_q1_q7 3 (.slice (some ⟨q4, 0, none⟩) 1 1)), H_q1.out.2⟩ ⟨((((H_q4.out.1.other n_q4_q7 0 (.int .i64 6)).other n_q4_q7 1 (.string ⟨#[]⟩)).other n_q4_q7 2 (.slice none 0 0)).other n_q4_q7 3 (.slice (some ⟨q4, 0, none⟩) 1 1)), H_q4.out.2⟩ ⟨((((H_q6.out.1.other n_q6_q7 0 (.int .i64 6)).other n_q6_q7 1 (.string ⟨#[]⟩)).other n_q6_q7 2 (.slice none 0 0)).other n_q6_q7 3 (.slice (some ⟨q4, 0, none⟩) 1 1)), H_q6.out.2⟩ ⟨((((H_q7.out.1.set 0 (.int .i64 6)).set 1 (.string ⟨#[]⟩)).set 2 (.slice none 0 0)).set 3 (.slice (some ⟨q4, 0, none⟩) 1 1)), H_q7.out.2⟩ n_q1_q4 n_q1_q6 n_q1_q7 n_q4_q6 n_q4_q7 n_q6_q7
      (try simp only [List.setIfInBounds_toArray, List.set_cons_zero, List.set_cons_succ] at G)
      exact G
    exact AllReadyH.nil
  have g111100 : ∀ (W : World) (q1 : Nat) (q4 : Nat) (q6 : Nat) (q7 : Nat), Below w2.heap.size w2 W → (Blk W q1 [.int .i64 x.kind, str x.text, .slice a0 n0 c0, .slice a1 n1 c1] 25 ∧ w2.heap.size ≤ q1) → (Blk W q4 [.int .i64 x.kind, str x.text, .slice a0 n0 c0, .slice a1 n1 c1] 25 ∧ w2.heap.size ≤ q4) → (Blk W q6 [.int .i64 0, .string ⟨#[]⟩, .slice none 0 0, .slice none 0 0] 25 ∧ w2.heap.size ≤ q6) → (Blk W q7 [.int .i64 0, .string ⟨#[]⟩, .slice none 0 0, .slice none 0 0] 25 ∧ w2.heap.size ≤ q7) → q1 ≠ q4 → q1 ≠ q6 → q1 ≠ q7 → q4 ≠ q6 → q4 ≠ q7 → q6 ≠ q7 → wpAnyH Tryd.prog .any O QQ SS 2 #[true, true, true, true, true, true, true, true, false, false] ⟨((((((T.setIfInBounds 36 (.slice (some ⟨q1, 0, none⟩) 1 1)).setIfInBounds 37 (.agg #[.int .i64 5, .string ⟨#[]⟩, .slice none 0 0, .slice (some ⟨q1, 0, none⟩) 1 1])).setIfInBounds 39 (.slice (some ⟨q4, 0, none⟩) 1 1)).setIfInBounds 40 (.agg #[.int .i64 6, .string ⟨#[]⟩, .slice none 0 0, .slice (some ⟨q4, 0, none⟩) 1 1])).setIfInBounds 7 (.pointer (some ⟨q6, 0, none⟩))).setIfInBounds 8 (.pointer (some ⟨q7, 0, none⟩))), []⟩ W := by
    intro W q1 q4 q6 q7 hB h_q1 h_q4 h_q6 h_q7 n_q1_q4 n_q1_q6 n_q1_q7 n_q4_q6 n_q4_q7 n_q6_q7
    clear g111111
    subst hO
    subst hT
    have G111110 := hid g111110
    clear g111110 hQQ
    have H_q1 := hid h_q1
    have H_q4 := hid h_q4
    have H_q6 := hid h_q6
    have H_q7 := hid h_q7
    have HB := hid hB
    have hHeld := HS9.out W hB
    clear hB h_q1 h_q4 h_q6 h_q7
    (try simp only [List.setIfInBounds_toArray, List.set_cons_zero, List.set_cons_succ])
    refine wpAnyH_ready (rs := [8]) (by kernel_rfl) (by simp) ?_
    refine AllReadyH.cons (o := ({ dst := none, op := Op.store 25 (Operand.tmp 7) (Operand.tmp 37), type := 0, pos := "law.go:129", after := #[{ on := 6, ground := Ground.data }, { on := 2, ground := Ground.data }, { on := 0, ground := Ground.phase }, { on := 1, ground := Ground.phase }, { on := 2, ground := Ground.phase }, { on := 3, ground := Ground.textOnly Departure.lateStores }, { on := 4, ground := Ground.textOnly Departure.lateStores }, { on := 5, ground := Ground.textOnly Departure.lateStores }, { on := 6, ground := Ground.phase }, { on := 7, ground := Ground.phase }], guard := none } : Oper)) rfl (fun K hK => ?_) ?_
    · obtain ⟨u0, u1, u2, u3⟩ : W.cell? ⟨q6, 0, none⟩ = some (.int .i64 0) ∧ W.cell? ⟨q6, 1, none⟩ = some (.string ⟨#[]⟩) ∧ W.cell? ⟨q6, 2, none⟩ = some (.slice none 0 0) ∧ W.cell? ⟨q6, 3, none⟩ = some (.slice none 0 0) := ⟨H_q6.out.1.cell (i := 0) rfl, H_q6.out.1.cell (i := 1) rfl, H_q6.out.1.cell (i := 2) rfl, H_q6.out.1.cell (i := 3) rfl⟩
      have v0 := H_q6.out.1.free 0
      have v1 := H_q6.out.1.free 1
      have v2 := H_q6.out.1.free 2
      have v3 := H_q6.out.1.free 3
      go_simp
      refine hK.out _ _ (HS9.out _ ((((HB.out.setCell (p := ⟨q6, 0, none⟩) H_q6.out.2 (.int .i64 5)).setCell (p := ⟨q6, 1, none⟩) H_q6.out.2 (.string ⟨#[]⟩)).setCell (p := ⟨q6, 2, none⟩) H_q6.out.2 (.slice none 0 0)).setCell (p := ⟨q6, 3, none⟩) H_q6.out.2 (.slice (some ⟨q1, 0, none⟩) 1 1))) (fun hHeld => ?_)
      clear hK K
      (try simp only [Act.put, List.setIfInBounds_toArray, List.set_cons_zero, List.set_cons_succ])
      have G := G111110.out _ q1 q4 q6 q7 ((((HB.out.setCell (p := ⟨q6, 0, none⟩) H_q6.out.2 (.int .i64 5)).setCell (p := ⟨q6, 1, none⟩) H_q6.out.2 (.string ⟨#[]⟩)).setCell (p := ⟨q6, 2, none⟩) H_q6.out.2 (.slice none 0 0)).setCell (p := ⟨q6, 3, none⟩) H_q6.out.2 (.slice (some ⟨q1, 0, none⟩) 1 1)) ⟨((((H_q1.out.1.other n_q1_q6 0 (.int .i64 5)).other n_q1_q6 1 (.string ⟨#[]⟩)).other n_q1_q6 2 (.slice none 0 0)).other n_q1_q6 3 (.slice (some ⟨q1, 0, none⟩) 1 1)), H_q1.out.2⟩ ⟨((((H_q4.out.1.other n_q4_q6 0 (.int .i64 5)).other n_q4_q6 1 (.string ⟨#[]⟩)).other n_q4_q6 2 (.slice none 0 0)).other n_q4_q6 3 (.slice (some ⟨q1, 0, none⟩) 1 1)), H_q4.out.2⟩ ⟨((((H_q6.out.1.set 0 (.int .i64 5)).set 1 (.string ⟨#[]⟩)).set 2 (.slice none 0 0)).set 3 (.slice (some ⟨q1, 0, none⟩) 1 1)), H_q6.out.2⟩ ⟨((((H_q7.out.1.other n_q6_q7.symm 0 (.int .i64 5)).other n_q6_q7.symm 1 (.string ⟨#[]⟩)).other n_q6_q7.symm 2 (.slice none 0 0)).other n_q6_q7.symm 3 (.slice (some ⟨q1, 0, none⟩) 1 1)), H_q7.out.2⟩ n_q1_q4 n_q1_q6 n_q1_q7 n_q4_q6 n_q4_q7 n_q6_q7
      (try simp only [List.setIfInBounds_toArray, List.set_cons_zero, List.set_cons_succ] at G)
      exact G
    exact AllReadyH.nil
  have g101110 : ∀ (W : World) (q1 : Nat) (q6 : Nat) (q7 : Nat), Below w2.heap.size w2 W → (Blk W q1 [.int .i64 x.kind, str x.text, .slice a0 n0 c0, .slice a1 n1 c1] 25 ∧ w2.heap.size ≤ q1) → (Blk W q6 [.int .i64 5, .string ⟨#[]⟩, .slice none 0 0, .slice (some ⟨q1, 0, none⟩) 1 1] 25 ∧ w2.heap.size ≤ q6) → (Blk W q7 [.int .i64 0, .string ⟨#[]⟩, .slice none 0 0, .slice none 0 0] 25 ∧ w2.heap.size ≤ q7) → q1 ≠ q6 → q1 ≠ q7 → q6 ≠ q7 → wpAnyH Tryd.prog .any O QQ SS 3 #[true, true, true, true, false, false, true, true, true, false] ⟨((((T.setIfInBounds 36 (.slice (some ⟨q1, 0, none⟩) 1 1)).setIfInBounds 37 (.agg #[.int .i64 5, .string ⟨#[]⟩, .slice none 0 0, .slice (some ⟨q1, 0, none⟩) 1 1])).setIfInBounds 7 (.pointer (some ⟨q6, 0, none⟩))).setIfInBounds 8 (.pointer (some ⟨q7, 0, none⟩))), []⟩ W := by
    intro W q1 q6 q7 hB h_q1 h_q6 h_q7 n_q1_q6 n_q1_q7 n_q6_q7
    clear g111111 g111100
    subst hO
    subst hT
    have G111110 := hid g111110
    clear g111110 hQQ
    have H_q1 := hid h_q1
    have H_q6 := hid h_q6
    have H_q7 := hid h_q7
    have HB := hid hB
    have hHeld := HS9.out W hB
    clear hB h_q1 h_q6 h_q7
    (try simp only [List.setIfInBounds_toArray, List.set_cons_zero, List.set_cons_succ])
    refine wpAnyH_ready (rs := [4]) (by kernel_rfl) (by simp) ?_
    refine AllReadyH.cons (o := ({ dst := some 39, op := Op.buildSlice 23 1 #[(0, Operand.tmp 38)], type := 23, pos := "law.go:129", after := #[{ on := 3, ground := Ground.data }, { on := 8, ground := Ground.gcOnly Departure.lateStores }], guard := none } : Oper)) rfl (fun K hK => ?_) ?_
    · go_simp
      refine hK.out _ _ (HS9.out _ (HB.out.alloc HB.out.size _)) (fun hHeld => ?_)
      clear hK K
      (try simp only [Act.put, List.setIfInBounds_toArray, List.set_cons_zero, List.set_cons_succ])
      refine wpAnyH_take (i := 5) (oi := ({ dst := some 40, op := Op.build 25 #[(0, Operand.const (Value.int IntKind.i64 6)), (3, Operand.tmp 39)], type := 25, pos := "law.go:129", after := #[{ on := 4, ground := Ground.data }, { on := 8, ground := Ground.gcOnly Departure.lateStores }], guard := none } : Oper)) (v := ?_) rfl (by kernel_rfl) (by kernel_rfl) (by kernel_rfl) (fun e a w h => HPAN.out e _ _ _ w h) (Or.inl ⟨by rfl, ?_⟩) hHeld ?_
      rotate_left 1
      · intro w9 hw9; skip; go_simp; try with_reducible rfl
      simp only [Act.put, List.setIfInBounds_toArray, List.set_cons_zero, List.set_cons_succ]
      have G := G111110.out _ q1 W.heap.size q6 q7 (HB.out.alloc HB.out.size _) ⟨H_q1.out.1.alloc _, H_q1.out.2⟩ ⟨Blk.new' rfl rfl, HB.out.size⟩ ⟨H_q6.out.1.alloc _, H_q6.out.2⟩ ⟨H_q7.out.1.alloc _, H_q7.out.2⟩ (Nat.ne_of_lt H_q1.out.1.lt) n_q1_q6 n_q1_q7 (Nat.ne_of_gt H_q6.out.1.lt) (Nat.ne_of_gt H_q7.out.1.lt) n_q6_q7
      (try simp only [List.setIfInBounds_toArray, List.set_cons_zero, List.set_cons_succ] at G)
      exact G
    exact AllReadyH.nil
  have g111000 : ∀ (W : World) (q1 : Nat) (q4 : Nat) (q6 : Nat), Below w2.heap.size w2 W → (Blk W q1 [.int .i64 x.kind, str x.text, .slice a0 n0 c0, .slice a1 n1 c1] 25 ∧ w2.heap.size ≤ q1) → (Blk W q4 [.int .i64 x.kind, str x.text, .slice a0 n0 c0, .slice a1 n1 c1] 25 ∧ w2.heap.size ≤ q4) → (Blk W q6 [.int .i64 0, .string ⟨#[]⟩, .slice none 0 0, .slice none 0 0] 25 ∧ w2.heap.size ≤ q6) → q1 ≠ q4 → q1 ≠ q6 → q4 ≠ q6 → wpAnyH Tryd.prog .any O QQ SS 3 #[true, true, true, true, true, true, true, false, false, false] ⟨(((((T.setIfInBounds 36 (.slice (some ⟨q1, 0, none⟩) 1 1)).setIfInBounds 37 (.agg #[.int .i64 5, .string ⟨#[]⟩, .slice none 0 0, .slice (some ⟨q1, 0, none⟩) 1 1])).setIfInBounds 39 (.slice (some ⟨q4, 0, none⟩) 1 1)).setIfInBounds 40 (.agg #[.int .i64 6, .string ⟨#[]⟩, .slice none 0 0, .slice (some ⟨q4, 0, none⟩) 1 1])).setIfInBounds 7 (.pointer (some ⟨q6, 0, none⟩))), []⟩ W := by
    intro W q1 q4 q6 hB h_q1 h_q4 h_q6 n_q1_q4 n_q1_q6 n_q4_q6
    clear g111111 g111110 g101110
    subst hO
    subst hT
    have G111100 := hid g111100
    clear g111100 hQQ
    have H_q1 := hid h_q1
    have H_q4 := hid h_q4
    have H_q6 := hid h_q6
    have HB := hid hB
    have hHeld := HS9.out W hB
    clear hB h_q1 h_q4 h_q6
    (try simp only [List.setIfInBounds_toArray, List.set_cons_zero, List.set_cons_succ])
    refine wpAnyH_ready (rs := [7]) (by kernel_rfl) (by simp) ?_
    refine AllReadyH.cons (o := ({ dst := some 8, op := Op.alloc 25, type := 0, pos := "law.go:129", after := #[], guard := none } : Oper)) rfl (fun K hK => ?_) ?_
    · go_simp
      refine hK.out _ _ (HS9.out _ (HB.out.alloc HB.out.size _)) (fun hHeld => ?_)
      clear hK K
      (try simp only [Act.put, List.setIfInBounds_toArray, List.set_cons_zero, List.set_cons_succ])
      have G := G111100.out _ q1 q4 q6 W.heap.size (HB.out.alloc HB.out.size _) ⟨H_q1.out.1.alloc _, H_q1.out.2⟩ ⟨H_q4.out.1.alloc _, H_q4.out.2⟩ ⟨H_q6.out.1.alloc _, H_q6.out.2⟩ ⟨Blk.new' rfl rfl, HB.out.size⟩ n_q1_q4 n_q1_q6 (Nat.ne_of_lt H_q1.out.1.lt) n_q4_q6 (Nat.ne_of_lt H_q4.out.1.lt) (Nat.ne_of_lt H_q6.out.1.lt)
      (try simp only [List.setIfInBounds_toArray, List.set_cons_zero, List.set_cons_succ] at G)
      exact G
    exact AllReadyH.nil
  have g110100 : ∀ (W : World) (q1 : Nat) (q4 : Nat) (q7 : Nat), Below w2.heap.size w2 W → (Blk W q1 [.int .i64 x.kind, str x.text, .slice a0 n0 c0, .slice a1 n1 c1] 25 ∧ w2.heap.size ≤ q1) → (Blk W q4 [.int .i64 x.kind, str x.text, .slice a0 n0 c0, .slice a1 n1 c1] 25 ∧ w2.heap.size ≤ q4) → (Blk W q7 [.int .i64 0, .string ⟨#[]⟩, .slice none 0 0, .slice none 0 0] 25 ∧ w2.heap.size ≤ q7) → q1 ≠ q4 → q1 ≠ q7 → q4 ≠ q7 → wpAnyH Tryd.prog .any O QQ SS 3 #[true, true, true, true, true, true, false, true, false, false] ⟨(((((T.setIfInBounds 36 (.slice (some ⟨q1, 0, none⟩) 1 1)).setIfInBounds 37 (.agg #[.int .i64 5, .string ⟨#[]⟩, .slice none 0 0, .slice (some ⟨q1, 0, none⟩) 1 1])).setIfInBounds 39 (.slice (some ⟨q4, 0, none⟩) 1 1)).setIfInBounds 40 (.agg #[.int .i64 6, .string ⟨#[]⟩, .slice none 0 0, .slice (some ⟨q4, 0, none⟩) 1 1])).setIfInBounds 8 (.pointer (some ⟨q7, 0, none⟩))), []⟩ W := by
    intro W q1 q4 q7 hB h_q1 h_q4 h_q7 n_q1_q4 n_q1_q7 n_q4_q7
    clear g111111 g111110 g101110 g111000
    subst hO
    subst hT
    have G111100 := hid g111100
    clear g111100 hQQ
    have H_q1 := hid h_q1
    have H_q4 := hid h_q4
    have H_q7 := hid h_q7
    have HB := hid hB
    have hHeld := HS9.out W hB
    clear hB h_q1 h_q4 h_q7
    (try simp only [List.setIfInBounds_toArray, List.set_cons_zero, List.set_cons_succ])
    refine wpAnyH_ready (rs := [6]) (by kernel_rfl) (by simp) ?_
    refine AllReadyH.cons (o := ({ dst := some 7, op := Op.alloc 25, type := 0, pos := "law.go:129", after := #[], guard := none } : Oper)) rfl (fun K hK => ?_) ?_
    · go_simp
      refine hK.out _ _ (HS9.out _ (HB.out.alloc HB.out.size _)) (fun hHeld => ?_)
      clear hK K
      (try simp only [Act.put, List.setIfInBounds_toArray, List.set_cons_zero, List.set_cons_succ])
      have G := G111100.out _ q1 q4 W.heap.size q7 (HB.out.alloc HB.out.size _) ⟨H_q1.out.1.alloc _, H_q1.out.2⟩ ⟨H_q4.out.1.alloc _, H_q4.out.2⟩ ⟨Blk.new' rfl rfl, HB.out.size⟩ ⟨H_q7.out.1.alloc _, H_q7.out.2⟩ n_q1_q4 (Nat.ne_of_lt H_q1.out.1.lt) n_q1_q7 (Nat.ne_of_lt H_q4.out.1.lt) n_q4_q7 (Nat.ne_of_gt H_q7.out.1.lt)
      (try simp only [List.setIfInBounds_toArray, List.set_cons_zero, List.set_cons_succ] at G)
      exact G
    exact AllReadyH.nil
  have g101100 : ∀ (W : World) (q1 : Nat) (q6 : Nat) (q7 : Nat), Below w2.heap.size w2 W → (Blk W q1 [.int .i64 x.kind, str x.text, .slice a0 n0 c0, .slice a1 n1 c1] 25 ∧ w2.heap.size ≤ q1) → (Blk W q6 [.int .i64 0, .string ⟨#[]⟩, .slice none 0 0, .slice none 0 0] 25 ∧ w2.heap.size ≤ q6) → (Blk W q7 [.int .i64 0, .string ⟨#[]⟩, .slice none 0 0, .slice none 0 0] 25 ∧ w2.heap.size ≤ q7) → q1 ≠ q6 → q1 ≠ q7 → q6 ≠ q7 → wpAnyH Tryd.prog .any O QQ SS 4 #[true, true, true, true, false, false, true, true, false, false] ⟨((((T.setIfInBounds 36 (.slice (some ⟨q1, 0, none⟩) 1 1)).setIfInBounds 37 (.agg #[.int .i64 5, .string ⟨#[]⟩, .slice none 0 0, .slice (some ⟨q1, 0, none⟩) 1 1])).setIfInBounds 7 (.pointer (some ⟨q6, 0, none⟩))).setIfInBounds 8 (.pointer (some ⟨q7, 0, none⟩))), []⟩ W := by
    intro W q1 q6 q7 hB h_q1 h_q6 h_q7 n_q1_q6 n_q1_q7 n_q6_q7
    clear g111111 g111110 g111000 g110100
    subst hO
    subst hT
    have G111100 := hid g111100
    have G101110 := hid g101110
    clear g111100 g101110 hQQ
    have H_q1 := hid h_q1
    have H_q6 := hid h_q6
    have H_q7 := hid h_q7
    have HB := hid hB
    have hHeld := HS9.out W hB
    clear hB h_q1 h_q6 h_q7
    (try simp only [List.setIfInBounds_toArray, List.set_cons_zero, List.set_cons_succ])
    refine wpAnyH_ready (rs := [4, 8]) (by kernel_rfl) (by simp) ?_
    refine AllReadyH.cons (o := ({ dst := some 39, op := Op.buildSlice 23 1 #[(0, Operand.tmp 38)], type := 23, pos := "law.go:129", after := #[{ on := 3, ground := Ground.data }, { on := 8, ground := Ground.gcOnly Departure.lateStores }], guard := none } : Oper)) rfl (fun K hK => ?_) ?_
    · go_simp
      refine hK.out _ _ (HS9.out _ (HB.out.alloc HB.out.size _)) (fun hHeld => ?_)
      clear hK K
      (try simp only [Act.put, List.setIfInBounds_toArray, List.set_cons_zero, List.set_cons_succ])
      refine wpAnyH_take (i := 5) (oi := ({ dst := some 40, op := Op.build 25 #[(0, Operand.const (Value.int IntKind.i64 6)), (3, Operand.tmp 39)], type := 25, pos := "law.go:129", after := #[{ on := 4, ground := Ground.data }, { on := 8, ground := Ground.gcOnly Departure.lateStores }], guard := none } : Oper)) (v := ?_) rfl (by kernel_rfl) (by kernel_rfl) (by kernel_rfl) (fun e a w h => HPAN.out e _ _ _ w h) (Or.inl ⟨by rfl, ?_⟩) hHeld ?_
      rotate_left 1
      · intro w9 hw9; skip; go_simp; try with_reducible rfl
      simp only [Act.put, List.setIfInBounds_toArray, List.set_cons_zero, List.set_cons_succ]
      have G := G111100.out _ q1 W.heap.size q6 q7 (HB.out.alloc HB.out.size _) ⟨H_q1.out.1.alloc _, H_q1.out.2⟩ ⟨Blk.new' rfl rfl, HB.out.size⟩ ⟨H_q6.out.1.alloc _, H_q6.out.2⟩ ⟨H_q7.out.1.alloc _, H_q7.out.2⟩ (Nat.ne_of_lt H_q1.out.1.lt) n_q1_q6 n_q1_q7 (Nat.ne_of_gt H_q6.out.1.lt) (Nat.ne_of_gt H_q7.out.1.lt) n_q6_q7
      (try simp only [List.setIfInBounds_toArray, List.set_cons_zero, List.set_cons_succ] at G)
      exact G
    refine AllReadyH.cons (o := ({ dst := none, op := Op.store 25 (Operand.tmp 7) (Operand.tmp 37), type := 0, pos := "law.go:129", after := #[{ on := 6, ground := Ground.data }, { on := 2, ground := Ground.data }, { on := 0, ground := Ground.phase }, { on := 1, ground := Ground.phase }, { on := 2, ground := Ground.phase }, { on := 3, ground := Ground.textOnly Departure.lateStores }, { on := 4, ground := Ground.textOnly Departure.lateStores }, { on := 5, ground := Ground.textOnly Departure.lateStores }, { on := 6, ground := Ground.phase }, { on := 7, ground := Ground.phase }], guard := none } : Oper)) rfl (fun K hK => ?_) ?_
    · obtain ⟨u0, u1, u2, u3⟩ : W.cell? ⟨q6, 0, none⟩ = some (.int .i64 0) ∧ W.cell? ⟨q6, 1, none⟩ = some (.string ⟨#[]⟩) ∧ W.cell? ⟨q6, 2, none⟩ = some (.slice none 0 0) ∧ W.cell? ⟨q6, 3, none⟩ = some (.slice none 0 0) := ⟨H_q6.out.1.cell (i := 0) rfl, H_q6.out.1.cell (i := 1) rfl, H_q6.out.1.cell (i := 2) rfl, H_q6.out.1.cell (i := 3) rfl⟩
      have v0 := H_q6.out.1.free 0
      have v1 := H_q6.out.1.free 1
      have v2 := H_q6.out.1.free 2
      have v3 := H_q6.out.1.free 3
      go_simp
      refine hK.out _ _ (HS9.out _ ((((HB.out.setCell (p := ⟨q6, 0, none⟩) H_q6.out.2 (.int .i64 5)).setCell (p := ⟨q6, 1, none⟩) H_q6.out.2 (.string ⟨#[]⟩)).setCell (p := ⟨q6, 2, none⟩) H_q6.out.2 (.slice none 0 0)).setCell (p := ⟨q6, 3, none⟩) H_q6.out.2 (.slice (some ⟨q1, 0, none⟩) 1 1))) (fun hHeld => ?_)
      clear hK K
      (try simp only [Act.put, List.setIfInBounds_toArray, List.set_cons_zero, List.set_cons_succ])
      have G := G101110.out _ q1 q6 q7 ((((HB.out.setCell (p := ⟨q6, 0, none⟩) H_q6.out.2 (.int .i64 5)).setCell (p := ⟨q6, 1, none⟩) H_q6.out.2 (.string ⟨#[]⟩)).setCell (p := ⟨q6, 2, none⟩) H_q6.out.2 (.slice none 0 0)).setCell (p := ⟨q6, 3, none⟩) H_q6.out.2 (.slice (some ⟨q1, 0, none⟩) 1 1)) ⟨((((H_q1.out.1.other n_q1_q6 0 (.int .i64 5)).other n_q1_q6 1 (.string ⟨#[]⟩)).other n_q1_q6 2 (.slice none 0 0)).other n_q1_q6 3 (.slice (some ⟨q1, 0, none⟩) 1 1)), H_q1.out.2⟩ ⟨((((H_q6.out.1.set 0 (.int .i64 5)).set 1 (.string ⟨#[]⟩)).set 2 (.slice none 0 0)).set 3 (.slice (some ⟨q1, 0, none⟩) 1 1)), H_q6.out.2⟩ ⟨((((H_q7.out.1.other n_q6_q7.symm 0 (.int .i64 5)).other n_q6_q7.symm 1 (.string ⟨#[]⟩)).other n_q6_q7.symm 2 (.slice none 0 0)).other n_q6_q7.symm 3 (.slice (some ⟨q1, 0, none⟩) 1 1)), H_q7.out.2⟩ n_q1_q6 n_q1_q7 n_q6_q7
      (try simp only [List.setIfInBounds_toArray, List.set_cons_zero, List.set_cons_succ] at G)
      exact G
    exact AllReadyH.nil
  have g011100 : ∀ (W : World) (q4 : Nat) (q6 : Nat) (q7 : Nat), Below w2.heap.size w2 W → (Blk W q4 [.int .i64 x.kind, str x.text, .slice a0 n0 c0, .slice a1 n1 c1] 25 ∧ w2.heap.size ≤ q4) → (Blk W q6 [.int .i64 0, .string ⟨#[]⟩, .slice none 0 0, .slice none 0 0] 25 ∧ w2.heap.size ≤ q6) → (Blk W q7 [.int .i64 0, .string ⟨#[]⟩, .slice none 0 0, .slice none 0 0] 25 ∧ w2.heap.size ≤ q7) → q4 ≠ q6 → q4 ≠ q7 → q6 ≠ q7 → wpAnyH Tryd.prog .any O QQ SS 4 #[true, false, false, true, true, true, true, true, false, false] ⟨((((T.setIfInBounds 39 (.slice (some ⟨q4, 0, none⟩) 1 1)).setIfInBounds 40 (.agg #[.int .i64 6, .string ⟨#[]⟩, .slice none 0 0, .slice (some ⟨q4, 0, none⟩) 1 1])).setIfInBounds 7 (.pointer (some ⟨q6, 0, none⟩))).setIfInBounds 8 (.pointer (some ⟨q7, 0, none⟩))), []⟩ W := by
    intro W q4 q6 q7 hB h_q4 h_q6 h_q7 n_q4_q6 n_q4_q7 n_q6_q7
    clear g111111 g111110 g101110 g111000 g110100 g101100
    subst hO
    subst hT
    have G111100 := hid g111100
    clear g111100 hQQ
    have H_q4 := hid h_q4
    have H_q6 := hid h_q6
    have H_q7 := hid h_q7
    have HB := hid hB
    have hHeld := HS9.out W hB
    clear hB h_q4 h_q6 h_q7
    (try simp only [List.setIfInBounds_toArray, List.set_cons_zero, List.set_cons_succ])
    refine wpAnyH_ready (rs := [1]) (by kernel_rfl) (by simp) ?_
    refine AllReadyH.cons (o := ({ dst := some 36, op := Op.buildSlice 23 1 #[(0, Operand.tmp 35)], type := 23, pos := "law.go:129", after := #[{ on := 0, ground := Ground.data }], guard := none } : Oper)) rfl (fun K hK => ?_) ?_
    · go_simp
      refine hK.out _ _ (HS9.out _ (HB.out.alloc HB.out.size _)) (fun hHeld => ?_)
      clear hK K
      (try simp only [Act.put, List.setIfInBounds_toArray, List.set_cons_zero, List.set_cons_succ])
      refine wpAnyH_take (i := 2) (oi := ({ dst := some 37, op := Op.build 25 #[(0, Operand.const (Value.int IntKind.i64 5)), (3, Operand.tmp 36)], type := 25, pos := "law.go:129", after := #[{ on := 1, ground := Ground.data }], guard := none } : Oper)) (v := ?_) rfl (by kernel_rfl) (by kernel_rfl) (by kernel_rfl) (fun e a w h => HPAN.out e _ _ _ w h) (Or.inl ⟨by rfl, ?_⟩) hHeld ?_
      rotate_left 1
      · intro w9 hw9; skip; go_simp; try with_reducible rfl
      simp only [Act.put, List.setIfInBounds_toArray, List.set_cons_zero, List.set_cons_succ]
      have G := G111100.out _ W.heap.size q4 q6 q7 (HB.out.alloc HB.out.size _) ⟨Blk.new' rfl rfl, HB.out.size⟩ ⟨H_q4.out.1.alloc _, H_q4.out.2⟩ ⟨H_q6.out.1.alloc _, H_q6.out.2⟩ ⟨H_q7.out.1.alloc _, H_q7.out.2⟩ (Nat.ne_of_gt H_q4.out.1.lt) (Nat.ne_of_gt H_q6.out.1.lt) (Nat.ne_of_gt H_q7.out.1.lt) n_q4_q6 n_q4_q7 n_q6_q7
      (try simp only [List.setIfInBounds_toArray, List.set_cons_zero, List.set_cons_succ] at G)
      exact G
    exact AllReadyH.nil
  have g110000 : ∀ (W : World) (q1 : Nat) (q4 : Nat), Below w2.heap.size w2 W → (Blk W q1 [.int .i64 x.kind, str x.text, .slice a0 n0 c0, .slice a1 n1 c1] 25 ∧ w2.heap.size ≤ q1) → (Blk W q4 [.int .i64 x.kind, str x.text, .slice a0 n0 c0, .slice a1 n1 c1] 25 ∧ w2.heap.size ≤ q4) → q1 ≠ q4 → wpAnyH Tryd.prog .any O QQ SS 4 #[true, true, true, true, true, true, false, false, false, false] ⟨((((T.setIfInBounds 36 (.slice (some ⟨q1, 0, none⟩) 1 1)).setIfInBounds 37 (.agg #[.int .i64 5, .string ⟨#[]⟩, .slice none 0 0, .slice (some ⟨q1, 0, none⟩) 1 1])).setIfInBounds 39 (.slice (some ⟨q4, 0, none⟩) 1 1)).setIfInBounds 40 (.agg #[.int .i64 6, .string ⟨#[]⟩, .slice none 0 0, .slice (some ⟨q4, 0, none⟩) 1 1])), []⟩ W := by
    intro W q1 q4 hB h_q1 h_q4 n_q1_q4
    clear g111111 g111110 g111100 g101110 g101100 g011100
    subst hO
    subst hT
    have G111000 := hid g111000
    have G110100 := hid g110100
    clear g111000 g110100 hQQ
    have H_q1 := hid h_q1
    have H_q4 := hid h_q4
    have HB := hid hB
    have hHeld := HS9.out W hB
    clear hB h_q1 h_q4
    (try simp only [List.setIfInBounds_toArray, List.set_cons_zero, List.set_cons_succ])
    refine wpAnyH_ready (rs := [6, 7]) (by kernel_rfl) (by simp) ?_
    refine AllReadyH.cons (o := ({ dst := some 7, op := Op.alloc 25, type := 0, pos := "law.go:129", after := #[], guard := none } : Oper)) rfl (fun K hK => ?_) ?_
    · go_simp
      refine hK.out _ _ (HS9.out _ (HB.out.alloc HB.out.size _)) (fun hHeld => ?_)
      clear hK K
      (try simp only [Act.put, List.setIfInBounds_toArray, List.set_cons_zero, List.set_cons_succ])
      have G := G111000.out _ q1 q4 W.heap.size (HB.out.alloc HB.out.size _) ⟨H_q1.out.1.alloc _, H_q1.out.2⟩ ⟨H_q4.out.1.alloc _, H_q4.out.2⟩ ⟨Blk.new' rfl rfl, HB.out.size⟩ n_q1_q4 (Nat.ne_of_lt H_q1.out.1.lt) (Nat.ne_of_lt H_q4.out.1.lt)
      (try simp only [List.setIfInBounds_toArray, List.set_cons_zero, List.set_cons_succ] at G)
      exact G
    refine AllReadyH.cons (o := ({ dst := some 8, op := Op.alloc 25, type := 0, pos := "law.go:129", after := #[], guard := none } : Oper)) rfl (fun K hK => ?_) ?_
    · go_simp
      refine hK.out _ _ (HS9.out _ (HB.out.alloc HB.out.size _)) (fun hHeld => ?_)
      clear hK K
      (try simp only [Act.put, List.setIfInBounds_toArray, List.set_cons_zero, List.set_cons_succ])
      have G := G110100.out _ q1 q4 W.heap.size (HB.out.alloc HB.out.size _) ⟨H_q1.out.1.alloc _, H_q1.out.2⟩ ⟨H_q4.out.1.alloc _, H_q4.out.2⟩ ⟨Blk.new' rfl rfl, HB.out.size⟩ n_q1_q4 (Nat.ne_of_lt H_q1.out.1.lt) (Nat.ne_of_lt H_q4.out.1.lt)
      (try simp only [List.setIfInBounds_toArray, List.set_cons_zero, List.set_cons_succ] at G)
      exact G
    exact AllReadyH.nil
  have g101000 : ∀ (W : World) (q1 : Nat) (q6 : Nat), Below w2.heap.size w2 W → (Blk W q1 [.int .i64 x.kind, str x.text, .slice a0 n0 c0, .slice a1 n1 c1] 25 ∧ w2.heap.size ≤ q1) → (Blk W q6 [.int .i64 0, .string ⟨#[]⟩, .slice none 0 0, .slice none 0 0] 25 ∧ w2.heap.size ≤ q6) → q1 ≠ q6 → wpAnyH Tryd.prog .any O QQ SS 5 #[true, true, true, true, false, false, true, false, false, false] ⟨(((T.setIfInBounds 36 (.slice (some ⟨q1, 0, none⟩) 1 1)).setIfInBounds 37 (.agg #[.int .i64 5, .string ⟨#[]⟩, .slice none 0 0, .slice (some ⟨q1, 0, none⟩) 1 1])).setIfInBounds 7 (.pointer (some ⟨q6, 0, none⟩))), []⟩ W := by
    intro W q1 q6 hB h_q1 h_q6 n_q1_q6
    clear g111111 g111110 g111100 g101110 g110100 g011100 g110000
    subst hO
    subst hT
    have G111000 := hid g111000
    have G101100 := hid g101100
    clear g111000 g101100 hQQ
    have H_q1 := hid h_q1
    have H_q6 := hid h_q6
    have HB := hid hB
    have hHeld := HS9.out W hB
    clear hB h_q1 h_q6
    (try simp only [List.setIfInBounds_toArray, List.set_cons_zero, List.set_cons_succ])
    refine wpAnyH_ready (rs := [4, 7]) (by kernel_rfl) (by simp) ?_
    refine AllReadyH.cons (o := ({ dst := some 39, op := Op.buildSlice 23 1 #[(0, Operand.tmp 38)], type := 23, pos := "law.go:129", after := #[{ on := 3, ground := Ground.data }, { on := 8, ground := Ground.gcOnly Departure.lateStores }], guard := none } : Oper)) rfl (fun K hK => ?_) ?_
    · go_simp
      refine hK.out _ _ (HS9.out _ (HB.out.alloc HB.out.size _)) (fun hHeld => ?_)
      clear hK K
      (try simp only [Act.put, List.setIfInBounds_toArray, List.set_cons_zero, List.set_cons_succ])
      refine wpAnyH_take (i := 5) (oi := ({ dst := some 40, op := Op.build 25 #[(0, Operand.const (Value.int IntKind.i64 6)), (3, Operand.tmp 39)], type := 25, pos := "law.go:129", after := #[{ on := 4, ground := Ground.data }, { on := 8, ground := Ground.gcOnly Departure.lateStores }], guard := none } : Oper)) (v := ?_) rfl (by kernel_rfl) (by kernel_rfl) (by kernel_rfl) (fun e a w h => HPAN.out e _ _ _ w h) (Or.inl ⟨by rfl, ?_⟩) hHeld ?_
      rotate_left 1
      · intro w9 hw9; skip; go_simp; try with_reducible rfl
      simp only [Act.put, List.setIfInBounds_toArray, List.set_cons_zero, List.set_cons_succ]
      have G := G111000.out _ q1 W.heap.size q6 (HB.out.alloc HB.out.size _) ⟨H_q1.out.1.alloc _, H_q1.out.2⟩ ⟨Blk.new' rfl rfl, HB.out.size⟩ ⟨H_q6.out.1.alloc _, H_q6.out.2⟩ (Nat.ne_of_lt H_q1.out.1.lt) n_q1_q6 (Nat.ne_of_gt H_q6.out.1.lt)
      (try simp only [List.setIfInBounds_toArray, List.set_cons_zero, List.set_cons_succ] at G)
      exact G
    refine AllReadyH.cons (o := ({ dst := some 8, op := Op.alloc 25, type := 0, pos := "law.go:129", after := #[], guard := none } : Oper)) rfl (fun K hK => ?_) ?_
    · go_simp
      refine hK.out _ _ (HS9.out _ (HB.out.alloc HB.out.size _)) (fun hHeld => ?_)
      clear hK K
      (try simp only [Act.put, List.setIfInBounds_toArray, List.set_cons_zero, List.set_cons_succ])
      have G := G101100.out _ q1 q6 W.heap.size (HB.out.alloc HB.out.size _) ⟨H_q1.out.1.alloc _, H_q1.out.2⟩ ⟨H_q6.out.1.alloc _, H_q6.out.2⟩ ⟨Blk.new' rfl rfl, HB.out.size⟩ n_q1_q6 (Nat.ne_of_lt H_q1.out.1.lt) (Nat.ne_of_lt H_q6.out.1.lt)
      (try simp only [List.setIfInBounds_toArray, List.set_cons_zero, List.set_cons_succ] at G)
      exact G
    exact AllReadyH.nil
  have g100100 : ∀ (W : World) (q1 : Nat) (q7 : Nat), Below w2.heap.size w2 W → (Blk W q1 [.int .i64 x.kind, str x.text, .slice a0 n0 c0, .slice a1 n1 c1] 25 ∧ w2.heap.size ≤ q1) → (Blk W q7 [.int .i64 0, .string ⟨#[]⟩, .slice none 0 0, .slice none 0 0] 25 ∧ w2.heap.size ≤ q7) → q1 ≠ q7 → wpAnyH Tryd.prog .any O QQ SS 5 #[true, true, true, true, false, false, false, true, false, false] ⟨(((T.setIfInBounds 36 (.slice (some ⟨q1, 0, none⟩) 1 1)).setIfInBounds 37 (.agg #[.int .i64 5, .string ⟨#[]⟩, .slice none 0 0, .slice (some ⟨q1, 0, none⟩) 1 1])).setIfInBounds 8 (.pointer (some ⟨q7, 0, none⟩))), []⟩ W := by
    intro W q1 q7 hB h_q1 h_q7 n_q1_q7
    clear g111111 g111110 g111100 g101110 g111000 g011100 g110000 g101000
    subst hO
    subst hT
    have G110100 := hid g110100
    have G101100 := hid g101100
    clear g110100 g101100 hQQ
    have H_q1 := hid h_q1
    have H_q7 := hid h_q7
    have HB := hid hB
    have hHeld := HS9.out W hB
    clear hB h_q1 h_q7
    (try simp only [List.setIfInBounds_toArray, List.set_cons_zero, List.set_cons_succ])
    refine wpAnyH_ready (rs := [4, 6]) (by kernel_rfl) (by simp) ?_
    refine AllReadyH.cons (o := ({ dst := some 39, op := Op.buildSlice 23 1 #[(0, Operand.tmp 38)], type := 23, pos := "law.go:129", after := #[{ on := 3, ground := Ground.data }, { on := 8, ground := Ground.gcOnly Departure.lateStores }], guard := none } : Oper)) rfl (fun K hK => ?_) ?_
    · go_simp
      refine hK.out _ _ (HS9.out _ (HB.out.alloc HB.out.size _)) (fun hHeld => ?_)
      clear hK K
      (try simp only [Act.put, List.setIfInBounds_toArray, List.set_cons_zero, List.set_cons_succ])
      refine wpAnyH_take (i := 5) (oi := ({ dst := some 40, op := Op.build 25 #[(0, Operand.const (Value.int IntKind.i64 6)), (3, Operand.tmp 39)], type := 25, pos := "law.go:129", after := #[{ on := 4, ground := Ground.data }, { on := 8, ground := Ground.gcOnly Departure.lateStores }], guard := none } : Oper)) (v := ?_) rfl (by kernel_rfl) (by kernel_rfl) (by kernel_rfl) (fun e a w h => HPAN.out e _ _ _ w h) (Or.inl ⟨by rfl, ?_⟩) hHeld ?_
      rotate_left 1
      · intro w9 hw9; skip; go_simp; try with_reducible rfl
      simp only [Act.put, List.setIfInBounds_toArray, List.set_cons_zero, List.set_cons_succ]
      have G := G110100.out _ q1 W.heap.size q7 (HB.out.alloc HB.out.size _) ⟨H_q1.out.1.alloc _, H_q1.out.2⟩ ⟨Blk.new' rfl rfl, HB.out.size⟩ ⟨H_q7.out.1.alloc _, H_q7.out.2⟩ (Nat.ne_of_lt H_q1.out.1.lt) n_q1_q7 (Nat.ne_of_gt H_q7.out.1.lt)
      (try simp only [List.setIfInBounds_toArray, List.set_cons_zero, List.set_cons_succ] at G)
      exact G
    refine AllReadyH.cons (o := ({ dst := some 7, op := Op.alloc 25, type := 0, pos := "law.go:129", after := #[], guard := none } : Oper)) rfl (fun K hK => ?_) ?_
    · go_simp
      refine hK.out _ _ (HS9.out _ (HB.out.alloc HB.out.size _)) (fun hHeld => ?_)
      clear hK K
      (try simp only [Act.put, List.setIfInBounds_toArray, List.set_cons_zero, List.set_cons_succ])
      have G := G101100.out _ q1 W.heap.size q7 (HB.out.alloc HB.out.size _) ⟨H_q1.out.1.alloc _, H_q1.out.2⟩ ⟨Blk.new' rfl rfl, HB.out.size⟩ ⟨H_q7.out.1.alloc _, H_q7.out.2⟩ (Nat.ne_of_lt H_q1.out.1.lt) n_q1_q7 (Nat.ne_of_gt H_q7.out.1.lt)
      (try simp only [List.setIfInBounds_toArray, List.set_cons_zero, List.set_cons_succ] at G)
      exact G
    exact AllReadyH.nil
  have g011000 : ∀ (W : World) (q4 : Nat) (q6 : Nat), Below w2.heap.size w2 W → (Blk W q4 [.int .i64 x.kind, str x.text, .slice a0 n0 c0, .slice a1 n1 c1] 25 ∧ w2.heap.size ≤ q4) → (Blk W q6 [.int .i64 0, .string ⟨#[]⟩, .slice none 0 0, .slice none 0 0] 25 ∧ w2.heap.size ≤ q6) → q4 ≠ q6 → wpAnyH Tryd.prog .any O QQ SS 5 #[true, false, false, true, true, true, true, false, false, false] ⟨(((T.setIfInBounds 39 (.slice (some ⟨q4, 0, none⟩) 1 1)).setIfInBounds 40 (.agg #[.int .i64 6, .string ⟨#[]⟩, .slice none 0 0, .slice (some ⟨q4, 0, none⟩) 1 1])).setIfInBounds 7 (.pointer (some ⟨q6, 0, none⟩))), []⟩ W := by
    intro W q4 q6 hB h_q4 h_q6 n_q4_q6
    clear g111111 g111110 g111100 g101110 g110100 g101100 g110000 g101000 g100100
    subst hO
    subst hT
    have G111000 := hid g111000
    have G011100 := hid g011100
    clear g111000 g011100 hQQ
    have H_q4 := hid h_q4
    have H_q6 := hid h_q6
    have HB := hid hB
    have hHeld := HS9.out W hB
    clear hB h_q4 h_q6
    (try simp only [List.setIfInBounds_toArray, List.set_cons_zero, List.set_cons_succ])
    refine wpAnyH_ready (rs := [1, 7]) (by kernel_rfl) (by simp) ?_
    refine AllReadyH.cons (o := ({ dst := some 36, op := Op.buildSlice 23 1 #[(0, Operand.tmp 35)], type := 23, pos := "law.go:129", after := #[{ on := 0, ground := Ground.data }], guard := none } : Oper)) rfl (fun K hK => ?_) ?_
    · go_simp
      refine hK.out _ _ (HS9.out _ (HB.out.alloc HB.out.size _)) (fun hHeld => ?_)
      clear hK K
      (try simp only [Act.put, List.setIfInBounds_toArray, List.set_cons_zero, List.set_cons_succ])
      refine wpAnyH_take (i := 2) (oi := ({ dst := some 37, op := Op.build 25 #[(0, Operand.const (Value.int IntKind.i64 5)), (3, Operand.tmp 36)], type := 25, pos := "law.go:129", after := #[{ on := 1, ground := Ground.data }], guard := none } : Oper)) (v := ?_) rfl (by kernel_rfl) (by kernel_rfl) (by kernel_rfl) (fun e a w h => HPAN.out e _ _ _ w h) (Or.inl ⟨by rfl, ?_⟩) hHeld ?_
      rotate_left 1
      · intro w9 hw9; skip; go_simp; try with_reducible rfl
      simp only [Act.put, List.setIfInBounds_toArray, List.set_cons_zero, List.set_cons_succ]
      have G := G111000.out _ W.heap.size q4 q6 (HB.out.alloc HB.out.size _) ⟨Blk.new' rfl rfl, HB.out.size⟩ ⟨H_q4.out.1.alloc _, H_q4.out.2⟩ ⟨H_q6.out.1.alloc _, H_q6.out.2⟩ (Nat.ne_of_gt H_q4.out.1.lt) (Nat.ne_of_gt H_q6.out.1.lt) n_q4_q6
      (try simp only [List.setIfInBounds_toArray, List.set_cons_zero, List.set_cons_succ] at G)
      exact G
    refine AllReadyH.cons (o := ({ dst := some 8, op := Op.alloc 25, type := 0, pos := "law.go:129", after := #[], guard := none } : Oper)) rfl (fun K hK => ?_) ?_
    · go_simp
      refine hK.out _ _ (HS9.out _ (HB.out.alloc HB.out.size _)) (fun hHeld => ?_)
      clear hK K
      (try simp only [Act.put, List.setIfInBounds_toArray, List.set_cons_zero, List.set_cons_succ])
      have G := G011100.out _ q4 q6 W.heap.size (HB.out.alloc HB.out.size _) ⟨H_q4.out.1.alloc _, H_q4.out.2⟩ ⟨H_q6.out.1.alloc _, H_q6.out.2⟩ ⟨Blk.new' rfl rfl, HB.out.size⟩ n_q4_q6 (Nat.ne_of_lt H_q4.out.1.lt) (Nat.ne_of_lt H_q6.out.1.lt)
      (try simp only [List.setIfInBounds_toArray, List.set_cons_zero, List.set_cons_succ] at G)
      exact G
    exact AllReadyH.nil
  have g010100 : ∀ (W : World) (q4 : Nat) (q7 : Nat), Below w2.heap.size w2 W → (Blk W q4 [.int .i64 x.kind, str x.text, .slice a0 n0 c0, .slice a1 n1 c1] 25 ∧ w2.heap.size ≤ q4) → (Blk W q7 [.int .i64 0, .string ⟨#[]⟩, .slice none 0 0, .slice none 0 0] 25 ∧ w2.heap.size ≤ q7) → q4 ≠ q7 → wpAnyH Tryd.prog .any O QQ SS 5 #[true, false, false, true, true, true, false, true, false, false] ⟨(((T.setIfInBounds 39 (.slice (some ⟨q4, 0, none⟩) 1 1)).setIfInBounds 40 (.agg #[.int .i64 6, .string ⟨#[]⟩, .slice none 0 0, .slice (some ⟨q4, 0, none⟩) 1 1])).setIfInBounds 8 (.pointer (some ⟨q7, 0, none⟩))), []⟩ W := by
    intro W q4 q7 hB h_q4 h_q7 n_q4_q7
    clear g111111 g111110 g111100 g101110 g111000 g101100 g110000 g101000 g100100 g011000
    subst hO
    subst hT
    have G110100 := hid g110100
    have G011100 := hid g011100
    clear g110100 g011100 hQQ
    have H_q4 := hid h_q4
    have H_q7 := hid h_q7
    have HB := hid hB
    have hHeld := HS9.out W hB
    clear hB h_q4 h_q7
    (try simp only [List.setIfInBounds_toArray, List.set_cons_zero, List.set_cons_succ])
    refine wpAnyH_ready (rs := [1, 6]) (by kernel_rfl) (by simp) ?_
    refine AllReadyH.cons (o := ({ dst := some 36, op := Op.buildSlice 23 1 #[(0, Operand.tmp 35)], type := 23, pos := "law.go:129", after := #[{ on := 0, ground := Ground.data }], guard := none } : Oper)) rfl (fun K hK => ?_) ?_
    · go_simp
      refine hK.out _ _ (HS9.out _ (HB.out.alloc HB.out.size _)) (fun hHeld => ?_)
      clear hK K
      (try simp only [Act.put, List.setIfInBounds_toArray, List.set_cons_zero, List.set_cons_succ])
      refine wpAnyH_take (i := 2) (oi := ({ dst := some 37, op := Op.build 25 #[(0, Operand.const (Value.int IntKind.i64 5)), (3, Operand.tmp 36)], type := 25, pos := "law.go:129", after := #[{ on := 1, ground := Ground.data }], guard := none } : Oper)) (v := ?_) rfl (by kernel_rfl) (by kernel_rfl) (by kernel_rfl) (fun e a w h => HPAN.out e _ _ _ w h) (Or.inl ⟨by rfl, ?_⟩) hHeld ?_
      rotate_left 1
      · intro w9 hw9; skip; go_simp; try with_reducible rfl
      simp only [Act.put, List.setIfInBounds_toArray, List.set_cons_zero, List.set_cons_succ]
      have G := G110100.out _ W.heap.size q4 q7 (HB.out.alloc HB.out.size _) ⟨Blk.new' rfl rfl, HB.out.size⟩ ⟨H_q4.out.1.alloc _, H_q4.out.2⟩ ⟨H_q7.out.1.alloc _, H_q7.out.2⟩ (Nat.ne_of_gt H_q4.out.1.lt) (Nat.ne_of_gt H_q7.out.1.lt) n_q4_q7
      (try simp only [List.setIfInBounds_toArray, List.set_cons_zero, List.set_cons_succ] at G)
      exact G
    refine AllReadyH.cons (o := ({ dst := some 7, op := Op.alloc 25, type := 0, pos := "law.go:129", after := #[], guard := none } : Oper)) rfl (fun K hK => ?_) ?_
    · go_simp
      refine hK.out _ _ (HS9.out _ (HB.out.alloc HB.out.size _)) (fun hHeld => ?_)
      clear hK K
      (try simp only [Act.put, List.setIfInBounds_toArray, List.set_cons_zero, List.set_cons_succ])
      have G := G011100.out _ q4 W.heap.size q7 (HB.out.alloc HB.out.size _) ⟨H_q4.out.1.alloc _, H_q4.out.2⟩ ⟨Blk.new' rfl rfl, HB.out.size⟩ ⟨H_q7.out.1.alloc _, H_q7.out.2⟩ (Nat.ne_of_lt H_q4.out.1.lt) n_q4_q7 (Nat.ne_of_gt H_q7.out.1.lt)
      (try simp only [List.setIfInBounds_toArray, List.set_cons_zero, List.set_cons_succ] at G)
      exact G
    exact AllReadyH.nil
  have g001100 : ∀ (W : World) (q6 : Nat) (q7 : Nat), Below w2.heap.size w2 W → (Blk W q6 [.int .i64 0, .string ⟨#[]⟩, .slice none 0 0, .slice none 0 0] 25 ∧ w2.heap.size ≤ q6) → (Blk W q7 [.int .i64 0, .string ⟨#[]⟩, .slice none 0 0, .slice none 0 0] 25 ∧ w2.heap.size ≤ q7) → q6 ≠ q7 → wpAnyH Tryd.prog .any O QQ SS 6 #[true, false, false, true, false, false, true, true, false, false] ⟨((T.setIfInBounds 7 (.pointer (some ⟨q6, 0, none⟩))).setIfInBounds 8 (.pointer (some ⟨q7, 0, none⟩))), []⟩ W := by
    intro W q6 q7 hB h_q6 h_q7 n_q6_q7
    clear g111111 g111110 g111100 g101110 g111000 g110100 g110000 g101000 g100100 g011000 g010100
    subst hO
    subst hT
    have G101100 := hid g101100
    have G011100 := hid g011100
    clear g101100 g011100 hQQ
    have H_q6 := hid h_q6
    have H_q7 := hid h_q7
    have HB := hid hB
    have hHeld := HS9.out W hB
    clear hB h_q6 h_q7
    (try simp only [List.setIfInBounds_toArray, List.set_cons_zero, List.set_cons_succ])
    refine wpAnyH_ready (rs := [1, 4]) (by kernel_rfl) (by simp) ?_
    refine AllReadyH.cons (o := ({ dst := some 36, op := Op.buildSlice 23 1 #[(0, Operand.tmp 35)], type := 23, pos := "law.go:129", after := #[{ on := 0, ground := Ground.data }], guard := none } : Oper)) rfl (fun K hK => ?_) ?_
    · go_simp
      refine hK.out _ _ (HS9.out _ (HB.out.alloc HB.out.size _)) (fun hHeld => ?_)
      clear hK K
      (try simp only [Act.put, List.setIfInBounds_toArray, List.set_cons_zero, List.set_cons_succ])
      refine wpAnyH_take (i := 2) (oi := ({ dst := some 37, op := Op.build 25 #[(0, Operand.const (Value.int IntKind.i64 5)), (3, Operand.tmp 36)], type := 25, pos := "law.go:129", after := #[{ on := 1, ground := Ground.data }], guard := none } : Oper)) (v := ?_) rfl (by kernel_rfl) (by kernel_rfl) (by kernel_rfl) (fun e a w h => HPAN.out e _ _ _ w h) (Or.inl ⟨by rfl, ?_⟩) hHeld ?_
      rotate_left 1
      · intro w9 hw9; skip; go_simp; try with_reducible rfl
      simp only [Act.put, List.setIfInBounds_toArray, List.set_cons_zero, List.set_cons_succ]
      have G := G101100.out _ W.heap.size q6 q7 (HB.out.alloc HB.out.size _) ⟨Blk.new' rfl rfl, HB.out.size⟩ ⟨H_q6.out.1.alloc _, H_q6.out.2⟩ ⟨H_q7.out.1.alloc _, H_q7.out.2⟩ (Nat.ne_of_gt H_q6.out.1.lt) (Nat.ne_of_gt H_q7.out.1.lt) n_q6_q7
      (try simp only [List.setIfInBounds_toArray, List.set_cons_zero, List.set_cons_succ] at G)
      exact G
    refine AllReadyH.cons (o := ({ dst := some 39, op := Op.buildSlice 23 1 #[(0, Operand.tmp 38)], type := 23, pos := "law.go:129", after := #[{ on := 3, ground := Ground.data }, { on := 8, ground := Ground.gcOnly Departure.lateStores }], guard := none } : Oper)) rfl (fun K hK => ?_) ?_
    · go_simp
      refine hK.out _ _ (HS9.out _ (HB.out.alloc HB.out.size _)) (fun hHeld => ?_)
      clear hK K
      (try simp only [Act.put, List.setIfInBounds_toArray, List.set_cons_zero, List.set_cons_succ])
      refine wpAnyH_take (i := 5) (oi := ({ dst := some 40, op := Op.build 25 #[(0, Operand.const (Value.int IntKind.i64 6)), (3, Operand.tmp 39)], type := 25, pos := "law.go:129", after := #[{ on := 4, ground := Ground.data }, { on := 8, ground := Ground.gcOnly Departure.lateStores }], guard := none } : Oper)) (v := ?_) rfl (by kernel_rfl) (by kernel_rfl) (by kernel_rfl) (fun e a w h => HPAN.out e _ _ _ w h) (Or.inl ⟨by rfl, ?_⟩) hHeld ?_
      rotate_left 1
      · intro w9 hw9; skip; go_simp; try with_reducible rfl
      simp only [Act.put, List.setIfInBounds_toArray, List.set_cons_zero, List.set_cons_succ]
      have G := G011100.out _ W.heap.size q6 q7 (HB.out.alloc HB.out.size _) ⟨Blk.new' rfl rfl, HB.out.size⟩ ⟨H_q6.out.1.alloc _, H_q6.out.2⟩ ⟨H_q7.out.1.alloc _, H_q7.out.2⟩ (Nat.ne_of_gt H_q6.out.1.lt) (Nat.ne_of_gt H_q7.out.1.lt) n_q6_q7
      (try simp only [List.setIfInBounds_toArray, List.set_cons_zero, List.set_cons_succ] at G)
      exact G
    exact AllReadyH.nil
  have g100000 : ∀ (W : World) (q1 : Nat), Below w2.heap.size w2 W → (Blk W q1 [.int .i64 x.kind, str x.text, .slice a0 n0 c0, .slice a1 n1 c1] 25 ∧ w2.heap.size ≤ q1) → wpAnyH Tryd.prog .any O QQ SS 6 #[true, true, true, true, false, false, false, false, false, false] ⟨((T.setIfInBounds 36 (.slice (some ⟨q1, 0, none⟩) 1 1)).setIfInBounds 37 (.agg #[.int .i64 5, .string ⟨#[]⟩, .slice none 0 0, .slice (some ⟨q1, 0, none⟩) 1 1])), []⟩ W := by
    intro W q1 hB h_q1
    clear g111111 g111110 g111100 g101110 g111000 g110100 g101100 g011100 g011000 g010100 g001100
    subst hO
    subst hT
    have G110000 := hid g110000
    have G101000 := hid g101000
    have G100100 := hid g100100
    clear g110000 g101000 g100100 hQQ
    have H_q1 := hid h_q1
    have HB := hid hB
    have hHeld := HS9.out W hB
    clear hB h_q1
    (try simp only [List.setIfInBounds_toArray, List.set_cons_zero, List.set_cons_succ])
    refine wpAnyH_ready (rs := [4, 6, 7]) (by kernel_rfl) (by simp) ?_
    refine AllReadyH.cons (o := ({ dst := some 39, op := Op.buildSlice 23 1 #[(0, Operand.tmp 38)], type := 23, pos := "law.go:129", after := #[{ on := 3, ground := Ground.data }, { on := 8, ground := Ground.gcOnly Departure.lateStores }], guard := none } : Oper)) rfl (fun K hK => ?_) ?_
    · go_simp
      refine hK.out _ _ (HS9.out _ (HB.out.alloc HB.out.size _)) (fun hHeld => ?_)
      clear hK K
      (try simp only [Act.put, List.setIfInBounds_toArray, List.set_cons_zero, List.set_cons_succ])
      refine wpAnyH_take (i := 5) (oi := ({ dst := some 40, op := Op.build 25 #[(0, Operand.const (Value.int IntKind.i64 6)), (3, Operand.tmp 39)], type := 25, pos := "law.go:129", after := #[{ on := 4, ground := Ground.data }, { on := 8, ground := Ground.gcOnly Departure.lateStores }], guard := none } : Oper)) (v := ?_) rfl (by kernel_rfl) (by kernel_rfl) (by kernel_rfl) (fun e a w h => HPAN.out e _ _ _ w h) (Or.inl ⟨by rfl, ?_⟩) hHeld ?_
      rotate_left 1
      · intro w9 hw9; skip; go_simp; try with_reducible rfl
      simp only [Act.put, List.setIfInBounds_toArray, List.set_cons_zero, List.set_cons_succ]
      have G := G110000.out _ q1 W.heap.size (HB.out.alloc HB.out.size _) ⟨H_q1.out.1.alloc _, H_q1.out.2⟩ ⟨Blk.new' rfl rfl, HB.out.size⟩ (Nat.ne_of_lt H_q1.out.1.lt)
      (try simp only [List.setIfInBounds_toArray, List.set_cons_zero, List.set_cons_succ] at G)
      exact G
    refine AllReadyH.cons (o := ({ dst := some 7, op := Op.alloc 25, type := 0, pos := "law.go:129", after := #[], guard := none } : Oper)) rfl (fun K hK => ?_) ?_
    · go_simp
      refine hK.out _ _ (HS9.out _ (HB.out.alloc HB.out.size _)) (fun hHeld => ?_)
      clear hK K
      (try simp only [Act.put, List.setIfInBounds_toArray, List.set_cons_zero, List.set_cons_succ])
      have G := G101000.out _ q1 W.heap.size (HB.out.alloc HB.out.size _) ⟨H_q1.out.1.alloc _, H_q1.out.2⟩ ⟨Blk.new' rfl rfl, HB.out.size⟩ (Nat.ne_of_lt H_q1.out.1.lt)
      (try simp only [List.setIfInBounds_toArray, List.set_cons_zero, List.set_cons_succ] at G)
      exact G
    refine AllReadyH.cons (o := ({ dst := some 8, op := Op.alloc 25, type := 0, pos := "law.go:129", after := #[], guard := none } : Oper)) rfl (fun K hK => ?_) ?_
    · go_simp
      refine hK.out _ _ (HS9.out _ (HB.out.alloc HB.out.size _)) (fun hHeld => ?_)
      clear hK K
      (try simp only [Act.put, List.setIfInBounds_toArray, List.set_cons_zero, List.set_cons_succ])
      have G := G100100.out _ q1 W.heap.size (HB.out.alloc HB.out.size _) ⟨H_q1.out.1.alloc _, H_q1.out.2⟩ ⟨Blk.new' rfl rfl, HB.out.size⟩ (Nat.ne_of_lt H_q1.out.1.lt)
      (try simp only [List.setIfInBounds_toArray, List.set_cons_zero, List.set_cons_succ] at G)
      exact G
    exact AllReadyH.nil
  have g010000 : ∀ (W : World) (q4 : Nat), Below w2.heap.size w2 W → (Blk W q4 [.int .i64 x.kind, str x.text, .slice a0 n0 c0, .slice a1 n1 c1] 25 ∧ w2.heap.size ≤ q4) → wpAnyH Tryd.prog .any O QQ SS 6 #[true, false, false, true, true, true, false, false, false, false] ⟨((T.setIfInBounds 39 (.slice (some ⟨q4, 0, none⟩) 1 1)).setIfInBounds 40 (.agg #[.int .i64 6, .string ⟨#[]⟩, .slice none 0 0, .slice (some ⟨q4, 0, none⟩) 1 1])), []⟩ W := by
    intro W q4 hB h_q4
    clear g111111 g111110 g111100 g101110 g111000 g110100 g101100 g011100 g101000 g100100 g001100 g100000
    subst hO
    subst hT
    have G110000 := hid g110000
    have G011000 := hid g011000
    have G010100 := hid g010100
    clear g110000 g011000 g010100 hQQ
    have H_q4 := hid h_q4
    have HB := hid hB
    have hHeld := HS9.out W hB
    clear hB h_q4
    (try simp only [List.setIfInBounds_toArray, List.set_cons_zero, List.set_cons_succ])
    refine wpAnyH_ready (rs := [1, 6, 7]) (by kernel_rfl) (by simp) ?_
    refine AllReadyH.cons (o := ({ dst := some 36, op := Op.buildSlice 23 1 #[(0, Operand.tmp 35)], type := 23, pos := "law.go:129", after := #[{ on := 0, ground := Ground.data }], guard := none } : Oper)) rfl (fun K hK => ?_) ?_
    · go_simp
      refine hK.out _ _ (HS9.out _ (HB.out.alloc HB.out.size _)) (fun hHeld => ?_)
      clear hK K
      (try simp only [Act.put, List.setIfInBounds_toArray, List.set_cons_zero, List.set_cons_succ])
      refine wpAnyH_take (i := 2) (oi := ({ dst := some 37, op := Op.build 25 #[(0, Operand.const (Value.int IntKind.i64 5)), (3, Operand.tmp 36)], type := 25, pos := "law.go:129", after := #[{ on := 1, ground := Ground.data }], guard := none } : Oper)) (v := ?_) rfl (by kernel_rfl) (by kernel_rfl) (by kernel_rfl) (fun e a w h => HPAN.out e _ _ _ w h) (Or.inl ⟨by rfl, ?_⟩) hHeld ?_
      rotate_left 1
      · intro w9 hw9; skip; go_simp; try with_reducible rfl
      simp only [Act.put, List.setIfInBounds_toArray, List.set_cons_zero, List.set_cons_succ]
      have G := G110000.out _ W.heap.size q4 (HB.out.alloc HB.out.size _) ⟨Blk.new' rfl rfl, HB.out.size⟩ ⟨H_q4.out.1.alloc _, H_q4.out.2⟩ (Nat.ne_of_gt H_q4.out.1.lt)
      (try simp only [List.setIfInBounds_toArray, List.set_cons_zero, List.set_cons_succ] at G)
      exact G
    refine AllReadyH.cons (o := ({ dst := some 7, op := Op.alloc 25, type := 0, pos := "law.go:129", after := #[], guard := none } : Oper)) rfl (fun K hK => ?_) ?_
    · go_simp
      refine hK.out _ _ (HS9.out _ (HB.out.alloc HB.out.size _)) (fun hHeld => ?_)
      clear hK K
      (try simp only [Act.put, List.setIfInBounds_toArray, List.set_cons_zero, List.set_cons_succ])
      have G := G011000.out _ q4 W.heap.size (HB.out.alloc HB.out.size _) ⟨H_q4.out.1.alloc _, H_q4.out.2⟩ ⟨Blk.new' rfl rfl, HB.out.size⟩ (Nat.ne_of_lt H_q4.out.1.lt)
      (try simp only [List.setIfInBounds_toArray, List.set_cons_zero, List.set_cons_succ] at G)
      exact G
    refine AllReadyH.cons (o := ({ dst := some 8, op := Op.alloc 25, type := 0, pos := "law.go:129", after := #[], guard := none } : Oper)) rfl (fun K hK => ?_) ?_
    · go_simp
      refine hK.out _ _ (HS9.out _ (HB.out.alloc HB.out.size _)) (fun hHeld => ?_)
      clear hK K
      (try simp only [Act.put, List.setIfInBounds_toArray, List.set_cons_zero, List.set_cons_succ])
      have G := G010100.out _ q4 W.heap.size (HB.out.alloc HB.out.size _) ⟨H_q4.out.1.alloc _, H_q4.out.2⟩ ⟨Blk.new' rfl rfl, HB.out.size⟩ (Nat.ne_of_lt H_q4.out.1.lt)
      (try simp only [List.setIfInBounds_toArray, List.set_cons_zero, List.set_cons_succ] at G)
      exact G
    exact AllReadyH.nil
  have g001000 : ∀ (W : World) (q6 : Nat), Below w2.heap.size w2 W → (Blk W q6 [.int .i64 0, .string ⟨#[]⟩, .slice none 0 0, .slice none 0 0] 25 ∧ w2.heap.size ≤ q6) → wpAnyH Tryd.prog .any O QQ SS 7 #[true, false, false, true, false, false, true, false, false, false] ⟨(T.setIfInBounds 7 (.pointer (some ⟨q6, 0, none⟩))), []⟩ W := by
    intro W q6 hB h_q6
    clear g111111 g111110 g111100 g101110 g111000 g110100 g101100 g011100 g110000 g100100 g010100 g100000 g010000
    subst hO
    subst hT
    have G101000 := hid g101000
    have G011000 := hid g011000
    have G001100 := hid g001100
    clear g101000 g011000 g001100 hQQ
    have H_q6 := hid h_q6
    have HB := hid hB
    have hHeld := HS9.out W hB
    clear hB h_q6
    (try simp only [List.setIfInBounds_toArray, List.set_cons_zero, List.set_cons_succ])
    refine wpAnyH_ready (rs := [1, 4, 7]) (by kernel_rfl) (by simp) ?_
    refine AllReadyH.cons (o := ({ dst := some 36, op := Op.buildSlice 23 1 #[(0, Operand.tmp 35)], type := 23, pos := "law.go:129", after := #[{ on := 0, ground := Ground.data }], guard := none } : Oper)) rfl (fun K hK => ?_) ?_
    · go_simp
      refine hK.out _ _ (HS9.out _ (HB.out.alloc HB.out.size _)) (fun hHeld => ?_)
      clear hK K
      (try simp only [Act.put, List.setIfInBounds_toArray, List.set_cons_zero, List.set_cons_succ])
      refine wpAnyH_take (i := 2) (oi := ({ dst := some 37, op := Op.build 25 #[(0, Operand.const (Value.int IntKind.i64 5)), (3, Operand.tmp 36)], type := 25, pos := "law.go:129", after := #[{ on := 1, ground := Ground.data }], guard := none } : Oper)) (v := ?_) rfl (by kernel_rfl) (by kernel_rfl) (by kernel_rfl) (fun e a w h => HPAN.out e _ _ _ w h) (Or.inl ⟨by rfl, ?_⟩) hHeld ?_
      rotate_left 1
      · intro w9 hw9; skip; go_simp; try with_reducible rfl
      simp only [Act.put, List.setIfInBounds_toArray, List.set_cons_zero, List.set_cons_succ]
      have G := G101000.out _ W.heap.size q6 (HB.out.alloc HB.out.size _) ⟨Blk.new' rfl rfl, HB.out.size⟩ ⟨H_q6.out.1.alloc _, H_q6.out.2⟩ (Nat.ne_of_gt H_q6.out.1.lt)
      (try simp only [List.setIfInBounds_toArray, List.set_cons_zero, List.set_cons_succ] at G)
      exact G
    refine AllReadyH.cons (o := ({ dst := some 39, op := Op.buildSlice 23 1 #[(0, Operand.tmp 38)], type := 23, pos := "law.go:129", after := #[{ on := 3, ground := Ground.data }, { on := 8, ground := Ground.gcOnly Departure.lateStores }], guard := none } : Oper)) rfl (fun K hK => ?_) ?_
    · go_simp
      refine hK.out _ _ (HS9.out _ (HB.out.alloc HB.out.size _)) (fun hHeld => ?_)
      clear hK K
      (try simp only [Act.put, List.setIfInBounds_toArray, List.set_cons_zero, List.set_cons_succ])
      refine wpAnyH_take (i := 5) (oi := ({ dst := some 40, op := Op.build 25 #[(0, Operand.const (Value.int IntKind.i64 6)), (3, Operand.tmp 39)], type := 25, pos := "law.go:129", after := #[{ on := 4, ground := Ground.data }, { on := 8, ground := Ground.gcOnly Departure.lateStores }], guard := none } : Oper)) (v := ?_) rfl (by kernel_rfl) (by kernel_rfl) (by kernel_rfl) (fun e a w h => HPAN.out e _ _ _ w h) (Or.inl ⟨by rfl, ?_⟩) hHeld ?_
      rotate_left 1
      · intro w9 hw9; skip; go_simp; try with_reducible rfl
      simp only [Act.put, List.setIfInBounds_toArray, List.set_cons_zero, List.set_cons_succ]
      have G := G011000.out _ W.heap.size q6 (HB.out.alloc HB.out.size _) ⟨Blk.new' rfl rfl, HB.out.size⟩ ⟨H_q6.out.1.alloc _, H_q6.out.2⟩ (Nat.ne_of_gt H_q6.out.1.lt)
      (try simp only [List.setIfInBounds_toArray, List.set_cons_zero, List.set_cons_succ] at G)
      exact G
    refine AllReadyH.cons (o := ({ dst := some 8, op := Op.alloc 25, type := 0, pos := "law.go:129", after := #[], guard := none } : Oper)) rfl (fun K hK => ?_) ?_
    · go_simp
      refine hK.out _ _ (HS9.out _ (HB.out.alloc HB.out.size _)) (fun hHeld => ?_)
      clear hK K
      (try simp only [Act.put, List.setIfInBounds_toArray, List.set_cons_zero, List.set_cons_succ])
      have G := G001100.out _ q6 W.heap.size (HB.out.alloc HB.out.size _) ⟨H_q6.out.1.alloc _, H_q6.out.2⟩ ⟨Blk.new' rfl rfl, HB.out.size⟩ (Nat.ne_of_lt H_q6.out.1.lt)
      (try simp only [List.setIfInBounds_toArray, List.set_cons_zero, List.set_cons_succ] at G)
      exact G
    exact AllReadyH.nil
  have g000100 : ∀ (W : World) (q7 : Nat), Below w2.heap.size w2 W → (Blk W q7 [.int .i64 0, .string ⟨#[]⟩, .slice none 0 0, .slice none 0 0] 25 ∧ w2.heap.size ≤ q7) → wpAnyH Tryd.prog .any O QQ SS 7 #[true, false, false, true, false, false, false, true, false, false] ⟨(T.setIfInBounds 8 (.pointer (some ⟨q7, 0, none⟩))), []⟩ W := by
    intro W q7 hB h_q7
    clear g111111 g111110 g111100 g101110 g111000 g110100 g101100 g011100 g110000 g101000 g011000 g100000 g010000 g001000
    subst hO
    subst hT
    have G100100 := hid g100100
    have G010100 := hid g010100
    have G001100 := hid g001100
    clear g100100 g010100 g001100 hQQ
    have H_q7 := hid h_q7
    have HB := hid hB
    have hHeld := HS9.out W hB
    clear hB h_q7
    (try simp only [List.setIfInBounds_toArray, List.set_cons_zero, List.set_cons_succ])
    refine wpAnyH_ready (rs := [1, 4, 6]) (by kernel_rfl) (by simp) ?_
    refine AllReadyH.cons (o := ({ dst := some 36, op := Op.buildSlice 23 1 #[(0, Operand.tmp 35)], type := 23, pos := "law.go:129", after := #[{ on := 0, ground := Ground.data }], guard := none } : Oper)) rfl (fun K hK => ?_) ?_
    · go_simp
      refine hK.out _ _ (HS9.out _ (HB.out.alloc HB.out.size _)) (fun hHeld => ?_)
      clear hK K
      (try simp only [Act.put, List.setIfInBounds_toArray, List.set_cons_zero, List.set_cons_succ])
      refine wpAnyH_take (i := 2) (oi := ({ dst := some 37, op := Op.build 25 #[(0, Operand.const (Value.int IntKind.i64 5)), (3, Operand.tmp 36)], type := 25, pos := "law.go:129", after := #[{ on := 1, ground := Ground.data }], guard := none } : Oper)) (v := ?_) rfl (by kernel_rfl) (by kernel_rfl) (by kernel_rfl) (fun e a w h => HPAN.out e _ _ _ w h) (Or.inl ⟨by rfl, ?_⟩) hHeld ?_
      rotate_left 1
      · intro w9 hw9; skip; go_simp; try with_reducible rfl
      simp only [Act.put, List.setIfInBounds_toArray, List.set_cons_zero, List.set_cons_succ]
      have G := G100100.out _ W.heap.size q7 (HB.out.alloc HB.out.size _) ⟨Blk.new' rfl rfl, HB.out.size⟩ ⟨H_q7.out.1.alloc _, H_q7.out.2⟩ (Nat.ne_of_gt H_q7.out.1.lt)
      (try simp only [List.setIfInBounds_toArray, List.set_cons_zero, List.set_cons_succ] at G)
      exact G
    refine AllReadyH.cons (o := ({ dst := some 39, op := Op.buildSlice 23 1 #[(0, Operand.tmp 38)], type := 23, pos := "law.go:129", after := #[{ on := 3, ground := Ground.data }, { on := 8, ground := Ground.gcOnly Departure.lateStores }], guard := none } : Oper)) rfl (fun K hK => ?_) ?_
    · go_simp
      refine hK.out _ _ (HS9.out _ (HB.out.alloc HB.out.size _)) (fun hHeld => ?_)
      clear hK K
      (try simp only [Act.put, List.setIfInBounds_toArray, List.set_cons_zero, List.set_cons_succ])
      refine wpAnyH_take (i := 5) (oi := ({ dst := some 40, op := Op.build 25 #[(0, Operand.const (Value.int IntKind.i64 6)), (3, Operand.tmp 39)], type := 25, pos := "law.go:129", after := #[{ on := 4, ground := Ground.data }, { on := 8, ground := Ground.gcOnly Departure.lateStores }], guard := none } : Oper)) (v := ?_) rfl (by kernel_rfl) (by kernel_rfl) (by kernel_rfl) (fun e a w h => HPAN.out e _ _ _ w h) (Or.inl ⟨by rfl, ?_⟩) hHeld ?_
      rotate_left 1
      · intro w9 hw9; skip; go_simp; try with_reducible rfl
      simp only [Act.put, List.setIfInBounds_toArray, List.set_cons_zero, List.set_cons_succ]
      have G := G010100.out _ W.heap.size q7 (HB.out.alloc HB.out.size _) ⟨Blk.new' rfl rfl, HB.out.size⟩ ⟨H_q7.out.1.alloc _, H_q7.out.2⟩ (Nat.ne_of_gt H_q7.out.1.lt)
      (try simp only [List.setIfInBounds_toArray, List.set_cons_zero, List.set_cons_succ] at G)
      exact G
    refine AllReadyH.cons (o := ({ dst := some 7, op := Op.alloc 25, type := 0, pos := "law.go:129", after := #[], guard := none } : Oper)) rfl (fun K hK => ?_) ?_
    · go_simp
      refine hK.out _ _ (HS9.out _ (HB.out.alloc HB.out.size _)) (fun hHeld => ?_)
      clear hK K
      (try simp only [Act.put, List.setIfInBounds_toArray, List.set_cons_zero, List.set_cons_succ])
      have G := G001100.out _ W.heap.size q7 (HB.out.alloc HB.out.size _) ⟨Blk.new' rfl rfl, HB.out.size⟩ ⟨H_q7.out.1.alloc _, H_q7.out.2⟩ (Nat.ne_of_gt H_q7.out.1.lt)
      (try simp only [List.setIfInBounds_toArray, List.set_cons_zero, List.set_cons_succ] at G)
      exact G
    exact AllReadyH.nil
  have g000000 : ∀ (W : World), Below w2.heap.size w2 W → wpAnyH Tryd.prog .any O QQ SS 8 #[true, false, false, true, false, false, false, false, false, false] ⟨T, []⟩ W := by
    intro W hB
    clear g111111 g111110 g111100 g101110 g111000 g110100 g101100 g011100 g110000 g101000 g100100 g011000 g010100 g001100
    subst hO
    subst hT
    have G100000 := hid g100000
    have G010000 := hid g010000
    have G001000 := hid g001000
    have G000100 := hid g000100
    clear g100000 g010000 g001000 g000100 hQQ
    have HB := hid hB
    have hHeld := HS9.out W hB
    clear hB 
    (try simp only [List.setIfInBounds_toArray, List.set_cons_zero, List.set_cons_succ])
    refine wpAnyH_ready (rs := [1, 4, 6, 7]) (by kernel_rfl) (by simp) ?_
    refine AllReadyH.cons (o := ({ dst := some 36, op := Op.buildSlice 23 1 #[(0, Operand.tmp 35)], type := 23, pos := "law.go:129", after := #[{ on := 0, ground := Ground.data }], guard := none } : Oper)) rfl (fun K hK => ?_) ?_
    · go_simp
      refine hK.out _ _ (HS9.out _ (HB.out.alloc HB.out.size _)) (fun hHeld => ?_)
      clear hK K
      (try simp only [Act.put, List.setIfInBounds_toArray, List.set_cons_zero, List.set_cons_succ])
      refine wpAnyH_take (i := 2) (oi := ({ dst := some 37, op := Op.build 25 #[(0, Operand.const (Value.int IntKind.i64 5)), (3, Operand.tmp 36)], type := 25, pos := "law.go:129", after := #[{ on := 1, ground := Ground.data }], guard := none } : Oper)) (v := ?_) rfl (by kernel_rfl) (by kernel_rfl) (by kernel_rfl) (fun e a w h => HPAN.out e _ _ _ w h) (Or.inl ⟨by rfl, ?_⟩) hHeld ?_
      rotate_left 1
      · intro w9 hw9; skip; go_simp; try with_reducible rfl
      simp only [Act.put, List.setIfInBounds_toArray, List.set_cons_zero, List.set_cons_succ]
      have G := G100000.out _ W.heap.size (HB.out.alloc HB.out.size _) ⟨Blk.new' rfl rfl, HB.out.size⟩
      (try simp only [List.setIfInBounds_toArray, List.set_cons_zero, List.set_cons_succ] at G)
      exact G
    refine AllReadyH.cons (o := ({ dst := some 39, op := Op.buildSlice 23 1 #[(0, Operand.tmp 38)], type := 23, pos := "law.go:129", after := #[{ on := 3, ground := Ground.data }, { on := 8, ground := Ground.gcOnly Departure.lateStores }], guard := none } : Oper)) rfl (fun K hK => ?_) ?_
    · go_simp
      refine hK.out _ _ (HS9.out _ (HB.out.alloc HB.out.size _)) (fun hHeld => ?_)
      clear hK K
      (try simp only [Act.put, List.setIfInBounds_toArray, List.set_cons_zero, List.set_cons_succ])
      refine wpAnyH_take (i := 5) (oi := ({ dst := some 40, op := Op.build 25 #[(0, Operand.const (Value.int IntKind.i64 6)), (3, Operand.tmp 39)], type := 25, pos := "law.go:129", after := #[{ on := 4, ground := Ground.data }, { on := 8, ground := Ground.gcOnly Departure.lateStores }], guard := none } : Oper)) (v := ?_) rfl (by kernel_rfl) (by kernel_rfl) (by kernel_rfl) (fun e a w h => HPAN.out e _ _ _ w h) (Or.inl ⟨by rfl, ?_⟩) hHeld ?_
      rotate_left 1
      · intro w9 hw9; skip; go_simp; try with_reducible rfl
      simp only [Act.put, List.setIfInBounds_toArray, List.set_cons_zero, List.set_cons_succ]
      have G := G010000.out _ W.heap.size (HB.out.alloc HB.out.size _) ⟨Blk.new' rfl rfl, HB.out.size⟩
      (try simp only [List.setIfInBounds_toArray, List.set_cons_zero, List.set_cons_succ] at G)
      exact G
    refine AllReadyH.cons (o := ({ dst := some 7, op := Op.alloc 25, type := 0, pos := "law.go:129", after := #[], guard := none } : Oper)) rfl (fun K hK => ?_) ?_
    · go_simp
      refine hK.out _ _ (HS9.out _ (HB.out.alloc HB.out.size _)) (fun hHeld => ?_)
      clear hK K
      (try simp only [Act.put, List.setIfInBounds_toArray, List.set_cons_zero, List.set_cons_succ])
      have G := G001000.out _ W.heap.size (HB.out.alloc HB.out.size _) ⟨Blk.new' rfl rfl, HB.out.size⟩
      (try simp only [List.setIfInBounds_toArray, List.set_cons_zero, List.set_cons_succ] at G)
      exact G
    refine AllReadyH.cons (o := ({ dst := some 8, op := Op.alloc 25, type := 0, pos := "law.go:129", after := #[], guard := none } : Oper)) rfl (fun K hK => ?_) ?_
    · go_simp
      refine hK.out _ _ (HS9.out _ (HB.out.alloc HB.out.size _)) (fun hHeld => ?_)
      clear hK K
      (try simp only [Act.put, List.setIfInBounds_toArray, List.set_cons_zero, List.set_cons_succ])
      have G := G000100.out _ W.heap.size (HB.out.alloc HB.out.size _) ⟨Blk.new' rfl rfl, HB.out.size⟩
      (try simp only [List.setIfInBounds_toArray, List.set_cons_zero, List.set_cons_succ] at G)
      exact G
    exact AllReadyH.nil
  exact g000000 _ (below_drawn (Below.refl _ _) 1)

theorem autoMany_walk (H : Type) (enc : TypeId × Value → H) (W : World) (base : Nat) (args : Array Value) (ds gs : List (DataW H)) (before : List MemPlace)
    (hval : ∀ (j : Nat) t v, Tryd.f6.params[j]? = some t → args[j]? = some v → Value.okWide Tryd.prog W .any base t v)
    (hW : DataW.Whole enc Tryd.prog Tryd.f6.params.toList Rows.autoManySpec.vars false W args.toList ds gs before)
    (hz : (DataW.weightsEach Tryd.prog (Tryd.f6.params.toList ++ Rows.autoManySpec.plain.varTypes Tryd.prog) (ds ++ gs)).all (· ≤ reachBytes) = true)
    (hL : laidMetH Tryd.prog Rows.autoManyRow.laid W) (hsh : W.ShapedOpen Tryd.prog) :
    Calls Tryd.prog 6 args W fun e W' => e = .returned (.bool true) ∧ Below W.heap.size W W' := by
  obtain ⟨p, q, hA, _, _, _, _⟩ := hW
  rw [Tryd.params6] at hA hval
  rw [Tryd.params6] at hz
  obtain ⟨v0, vs0, d0, ds0, p0, q0, hargs, rfl, rfl, h0, r0⟩ := trodAll_cons hA
  obtain ⟨v1, vs1, d1, ds1, p1, q1, rfl, rfl, rfl, h1, r1⟩ := trodAll_cons r0
  obtain ⟨v2, vs2, d2, ds2, p2, q2, rfl, rfl, rfl, h2, r2⟩ := trodAll_cons r1
  obtain ⟨rfl, rfl, rfl⟩ := trodAll_nil r2
  obtain rfl : args = #[v0, v1, v2] := by cases args; simp_all
  obtain ⟨y0, a0, b0, rfl, P0⟩ := arg_pt (hval 0 25 v0 rfl rfl) h0 (sized_arg hz (j := 0) (t := 25) (d := d0) rfl rfl)
  obtain ⟨l1, L1, b1⟩ := arg_steps (hval 1 36 v1 rfl rfl) h1 (sized_arg hz (j := 1) (t := 36) (d := d1) rfl rfl)
  obtain ⟨l2, L2, b2⟩ := arg_steps (hval 2 36 v2 rfl rfl) h2 (sized_arg hz (j := 2) (t := 36) (d := d2) rfl rfl)
  exact autoMany_any y0 a0 b0 v1 v2 l1 l2 W P0 L1 b1 L2 b2 (t8_of hL hsh)

theorem autoMany_lifted (os : Os) (started : os.Started) (H : Type) (enc : TypeId × Value → H) (F : Stop.Interp) :
    ReturnsInHanded {} Tryd.checked os 6 .any ((OpenSpec.ofChange Rows.autoManySpec).preRow enc Tryd.prog Tryd.f6 Rows.autoManyRow.domain false Rows.autoManyRow.laid) (((OpenSpec.ofChange Rows.autoManySpec).at F).post enc Tryd.prog Tryd.f6 false true false false) := by
  obtain ⟨places, hx⟩ : ∃ places, DataW.whole enc Tryd.prog ((laidWorld os).forCall (fun _ _ => 0) ⟨#[], #[.agg #[.int .i64 0, .string ByteArray.empty, .slice none 0 0, .slice none 0 0], .slice none 0 0, .slice none 0 0], []⟩).memory Tryd.f6.params.toList Rows.autoManySpec.vars false (#[.agg #[.int .i64 0, .string ByteArray.empty, .slice none 0 0, .slice none 0 0], .slice none 0 0, .slice none 0 0] : Array Value).toList 8 = some ([.agg [.lit (.int .i64 0), .lit (.string []), .nil, .nil], .nil, .nil], [], places) := ⟨[], by kernel_rfl⟩
  refine returnsInHanded_of_row (C := Tryd.checked) (s := OpenSpec.ofChange Rows.autoManySpec) own started (by kernel_rfl) Tryd.func6
    (witness_row_at (enc := enc) (C := Tryd.checked) false (laidWorld os) #[.agg #[.int .i64 0, .string ByteArray.empty, .slice none 0 0, .slice none 0 0], .slice none 0 0, .slice none 0 0] rfl (by kernel_rfl) (by kernel_rfl) (by kernel_rfl)
      (OpenSpec.preRow_of_cond 8 hx (by kernel_rfl) (fun k hk => by cases hk) (by kernel_rfl) (laidMet_of_run' 8 (by kernel_rfl) (by kernel_rfl)))) ?_
  intro W base args ds gs before hval hW _ _ hz hL hsh _
  refine (autoMany_walk H enc W base args ds gs before hval hW hz hL hsh).mono fun e W' ⟨he, hb⟩ => ⟨_, he, ?_⟩
  exact law_post (fn := Tryd.f6) (s := Rows.autoManySpec) (tb := 4) rfl (fun ds hd => by match ds, hd with | [d0, d1, d2], _ => rfl) rfl Tryd.underlying4 (by kernel_rfl) hW hb

theorem autoMany_said : Rows.AutoManySaid :=
  OpenClaim.holds_of_cond 6 Tryd.f6 rfl rfl rfl rfl rfl rfl rfl ⟨rfl, rfl, rfl, rfl, rfl⟩ rfl rfl rfl rfl rfl (by kernel_rfl) Tryd.func6 (by kernel_rfl)
    (of_decide_eq_true (by kernel_rfl)) (by unfold Func.isWrapper; first | (rw [if_pos (by decide +kernel)]; kernel_rfl) | (rw [if_neg (by decide +kernel)]; exact ⟨rfl, rfl⟩))
    (fun os started H enc _ F => by rw [OpenClaim.pre_eq_preRow]; exact autoMany_lifted os started H enc F)

theorem autoMany_plain (f : FuncId) (fn : Func) (hf : Tryd.pinned.checked.prog.funcNamed Rows.autoManyRow.func = some f) (hfn : Tryd.pinned.checked.prog.funcs[f]? = some fn) :
    false = Tryd.pinned.checked.prog.looks [] ∧ ∀ (j : Nat) t, fn.params[j]? = some t → Tryd.pinned.checked.prog.wantsStandIn t = false := by
  obtain rfl : f = 6 := Option.some.inj ((show Tryd.prog.funcNamed Rows.autoManyRow.func = some 6 by kernel_rfl).symm.trans hf) |>.symm
  obtain rfl : fn = Tryd.f6 := (Option.some.inj (Tryd.func6.symm.trans hfn)).symm
  refine ⟨by kernel_rfl, fun j t ht => ?_⟩
  have h := Array.mem_of_getElem? ht
  have hall : Tryd.f6.params.all (fun t => !Tryd.prog.wantsStandIn t) = true := by kernel_rfl
  have := Array.all_eq_true_iff_forall_mem.1 hall t h
  show Tryd.prog.wantsStandIn t = false
  simpa using this

/-- THE STATEMENT. -/
theorem autoMany_card : Rows.AutoManyCardSaid :=
  Claim7.holds_tied_plain_at .later [] _ _ _ _ autoMany_said (fun _ h => by cases h) (by kernel_rfl) (fun _ h => by cases h) autoMany_row_tie rfl ⟨rfl, rfl⟩ (by kernel_rfl) rfl autoMany_plain (by kernel_rfl)
end Go.Proofs.YtobcbaeoedpefaaDoor
