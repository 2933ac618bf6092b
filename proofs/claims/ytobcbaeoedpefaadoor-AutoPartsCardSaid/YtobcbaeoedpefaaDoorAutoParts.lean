/- AutoParts: an alternative has the words of both parts, a sequence just those that are a word of the one and then a word of the other, and their places stand to the parts. -/
import Derived.Test.YtobcbaeoedpefaaDoorAuLaid
import Derived.Test.YtobcbaeoedpefaaDoorRfNew
import Derived.Test.YtobcbaeoedpefaaDoorStpApp
import Derived.Test.YtobcbaeoedpefaaDoorAuCnt
namespace Go.Proofs.YtobcbaeoedpefaaDoor
set_option linter.unusedVariables false
set_option linter.unusedSimpArgs false
set_option maxRecDepth 100000
open Go.ChangeShapes Go.WideShapes Go.ChangeAt Go.RowKit
open Au
theorem nameO {P : Program} {md : Region.Mode} {ops : Array Oper} {Q : Exit → Act → World → Prop} {S : World → Prop} {fuel : Nat} {l : Array Bool} {a : Act} {w : World} (h : ∀ O T d Q' S', O = ops → T = a.tmps → d = a.defers → Q' = Q → S' = S → wpAnyH P md O Q' S' fuel l ⟨T, d⟩ w) : wpAnyH P md ops Q S fuel l a w := h ops a.tmps a.defers Q S rfl rfl rfl rfl rfl
theorem word_app (L K : List Stp) : wordOf (L ++ K) = wordOf L ++ wordOf K := by unfold wordOf; rw [List.map_append]
theorem ones_app {L K : List Stp} (h : ones L) (k : ones K) : ones (L ++ K) := fun i hi => by
  by_cases hl : i < L.length
  · rw [List.getElem_append_left hl]; exact h i hl
  · rw [List.getElem_append_right (by omega)]; exact k _ _
theorem rx_seq (x y : Pt) : (Pt.mk 3 [] [] [x, y]).rx false = .seq (x.rx false) (y.rx false) := by rw [Pt.rx]; rfl
theorem rx_alt (x y : Pt) : (Pt.mk 4 [] [] [x, y]).rx false = .alt (x.rx false) (y.rx false) := by rw [Pt.rx]; rfl
theorem StepsAt.empty {W : World} {a : Option Addr} {c : Nat} (hc : c ≤ maxLen) (h : a = none → c = 0) : StepsAt W (.slice a 0 c) [] :=
  ⟨a, c, 0, 0, fun _ => undef, rfl, Nat.zero_le _, hc, h, fun h => absurd h (by simp), fun i h => absurd h (by simp), fun i h => absurd h (by simp)⟩
theorem StepsAt.front {W : World} {a : Option Addr} {n c : Nat} {L : List Stp} (h : StepsAt W (.slice a n c) L) (k : Nat) (hk : k ≤ L.length) : StepsAt W (.slice a k c) (L.take k) := by
  obtain ⟨a', cap, b, off, f, he, h2, h3, h4, h5, h6, h7⟩ := h
  cases he
  have hl : (L.take k).length = k := by rw [List.length_take]; omega
  refine ⟨a, c, b, off, f, by rw [hl], by omega, h3, h4, fun hp => h5 (by omega), fun i hi => ?_, fun i hi => ?_⟩
  · rw [List.getElem_take]; exact h6 i (by omega)
  · rw [List.getElem_take]; exact h7 i (by omega)
theorem StepsAt.back {W : World} {b o : Nat} {n c : Nat} {L : List Stp} (h : StepsAt W (.slice (some ⟨b, o, none⟩) n c) L) (k : Nat) (hk : k ≤ L.length) : StepsAt W (.slice (some ⟨b, o + k * 5, none⟩) (n - k) (c - k)) (L.drop k) := by
  obtain ⟨a', cap, b', off, f, he, h2, h3, h4, h5, h6, h7⟩ := h
  cases he
  have hl : (L.drop k).length = L.length - k := by rw [List.length_drop]
  refine ⟨_, c - k, b, o + k * 5, fun i => f (i + k), by rw [hl], by omega, by omega, (fun h => by cases h), fun _ => rfl, fun i hi => ?_, fun i hi => ?_⟩
  · have hp : 0 < L.length := by omega
    have := h5 hp
    cases this
    rw [List.getElem_drop]
    have := h6 (k + i) (by omega)
    show Row5 W b (o + k * 5 + i * 5) L[k + i] (f (i + k))
    rw [show o + k * 5 + i * 5 = o + (k + i) * 5 by omega, show i + k = k + i by omega]
    exact this
  · rw [List.getElem_drop]
    show TextsAt W (f (i + k)) _
    rw [show i + k = k + i by omega]
    exact h7 (k + i) (by omega)
theorem StepsAt.back2 {W : World} {a : Option Addr} {n c : Nat} {L : List Stp} (h : StepsAt W (.slice a n c) L) (k : Nat) (hk : k ≤ L.length) : StepsAt W (.slice (a.map fun x => x.add (k * 5)) (n - k) (c - k)) (L.drop k) := by
  cases a with
  | none =>
    obtain ⟨a', cap, b', off, f, he, h2, h3, h4, h5, h6, h7⟩ := h
    cases he
    have hl : L = [] := by
      cases L with
      | nil => rfl
      | cons s r => exact absurd (h5 (by simp)) (by simp)
    subst hl
    have hc := h4 rfl
    subst hc
    simpa using (StepsAt.empty (W := W) (a := none) (c := 0) (by unfold maxLen; omega) (fun _ => rfl))
  | some ad =>
    obtain ⟨a', cap, b', off, f, he, h2, h3, h4, h5, h6, h7⟩ := h
    cases he
    by_cases hp : 0 < L.length
    · have := h5 hp
      cases this
      have hb := StepsAt.back (W := W) (b := b') (o := off) (n := L.length) (c := c) (L := L) ⟨_, c, b', off, f, rfl, h2, h3, h4, h5, h6, h7⟩ k hk
      by_cases hk0 : k = 0
      · subst hk0; simpa [Addr.add] using hb
      · have : ¬ (k * 5 = 0) := by omega
        simpa [Addr.add, this, hk0] using hb
    · have hl : L = [] := List.eq_nil_of_length_eq_zero (by omega)
      subst hl
      have hk0 : k = 0 := by simpa using hk
      subst hk0
      simpa using (StepsAt.empty (W := W) (a := some (ad.add 0)) (c := c) h3 (fun h => by cases h))
theorem StepsAt.back3 {W : World} {a : Option Addr} {n c : Nat} {L : List Stp} (h : StepsAt W (.slice a n c) L) (k : Nat) (hk : c - k = 0) : StepsAt W (.slice a (n - k) 0) (L.drop k) := by
  obtain ⟨a', cap, b', off, f, he, h2, h3, h4, h5, h6, h7⟩ := h
  cases he
  have hl : L.drop k = [] := List.drop_eq_nil_of_le (by omega)
  rw [hl, show L.length - k = 0 by omega]
  exact StepsAt.empty (by unfold maxLen; omega) (fun _ => rfl)
set_option maxHeartbeats 16000000 in
theorem autoParts_any (x x2 : Pt) (v u v2 u2 y z : Value) (L K : List Stp) (w : World) (hP : PtAt w v u x) (hP2 : PtAt w v2 u2 x2) (hL : StepsAt w y L) (hlL : ∀ t ∈ L, t.low) (hK : StepsAt w z K) (hlK : ∀ t ∈ K, t.low) (hT : T8 w) :
    Calls Tryd.prog 10 #[pv x v u, pv x2 v2 u2, y, z] w fun e w' => e = .returned (.bool true) ∧ Below w.heap.size w w' := by
  obtain ⟨a0, n0, c0, a1, n1, c1, rfl, rfl⟩ := pv_open hP
  obtain ⟨a2, n2, c2, a3, n3, c3, rfl, rfl⟩ := pv_open hP2
  obtain ⟨ya, yc, rfl, hyl, hym⟩ := hL.open
  obtain ⟨zA, zc, rfl, hzl, hzm⟩ := hK.open
  obtain ⟨w2, hw2⟩ : ∃ w2, w2 = (w.alloc (.cells #[.int .i64 x.kind, str x.text, .slice a0 n0 c0, .slice a1 n1 c1] 25)).alloc (.cells #[.int .i64 x2.kind, str x2.text, .slice a2 n2 c2, .slice a3 n3 c3] 25) := ⟨_, rfl⟩
  have hb2 : Below w.heap.size w w2 := by rw [hw2]; exact ((Below.refl _ _).alloc (Nat.le_refl _) _).alloc (by simp) _
  have hX : Blk w2 w.heap.size [.int .i64 x.kind, str x.text, .slice a0 n0 c0, .slice a1 n1 c1] 25 := by rw [hw2]; exact (Blk.new w _ _).alloc _
  have hY : Blk w2 (w.heap.size + 1) [.int .i64 x2.kind, str x2.text, .slice a2 n2 c2, .slice a3 n3 c3] 25 := by rw [hw2]; exact Blk.new' (by simp) rfl
  have HP2 := hid (hP.keep hb2)
  have HQ2 := hid (hP2.keep hb2)
  have HL2 := hid (hL.keep hb2)
  have HK2 := hid (hK.keep hb2)
  have HT2 := hid (hT.keep hb2)
  unfold pv
  have HLL := hid hlL
  have HLK := hid hlK
  have HB2 := hid hb2
  have HX := hid hX
  have HY := hid hY
  obtain ⟨x0, x1, x9, x3⟩ := blk4 hX
  obtain ⟨y0, y1, y9, y3⟩ := blk4 hY
  obtain ⟨m, hm⟩ : ∃ m, m = L.length := ⟨_, rfl⟩
  obtain ⟨k, hk⟩ : ∃ m, m = K.length := ⟨_, rfl⟩
  have HML := hid hm
  have HMK := hid hk
  rw [← hm] at hyl ⊢
  rw [← hk] at hzl ⊢
  clear hb2 hX hY hP hP2 hL hT hK hlL hlK hm hk
  have early : Hid (∀ e w3, e = Ending.returned (.bool true) → Below w2.heap.size w2 w3 → e = .returned (.bool true) ∧ Below w.heap.size w w3) := fun e w3 h hb => ⟨h, below_then HB2.out hb⟩
  go_enter Tryd.func10, Tryd.ntmps10
  go_upto_region 1 with fail
  rw [← hw2]
  clear hw2
  refine wp_region_held_drew (S := fun w' => Blk w' w.heap.size [.int .i64 x.kind, str x.text, .slice a0 n0 c0, .slice a1 n1 c1] 25 ∧ Blk w' (w.heap.size + 1) [.int .i64 x2.kind, str x2.text, .slice a2 n2 c2, .slice a3 n3 c3] 25) (by kernel_rfl) (⟨HX.out.keep (below_drawn (Below.refl _ _) 1), HY.out.keep (below_drawn (Below.refl _ _) 1)⟩) (fun hHeld => ?_)
  refine wpAnyH_take (i := 0) (oi := ({ dst := some 26, op := Op.load 25 (Operand.tmp 4), type := 25, pos := "more.go:12", after := #[], guard := none } : Oper)) (v := ?_) rfl (by kernel_rfl) (by kernel_rfl) (by kernel_rfl) (fun _ _ _ h => h) (Or.inl ⟨by rfl, ?_⟩) hHeld ?_
  rotate_left 1
  · intro w9 hw9; (try (obtain ⟨x0, x1, x9, x3⟩ := blk4 hw9.1)); (try (obtain ⟨y0, y1, y9, y3⟩ := blk4 hw9.2)); go_simp; try with_reducible rfl
  simp only [Act.put, List.setIfInBounds_toArray, List.set_cons_zero, List.set_cons_succ]
  refine wpAnyH_take (i := 1) (oi := ({ dst := some 27, op := Op.load 25 (Operand.tmp 5), type := 25, pos := "more.go:12", after := #[], guard := none } : Oper)) (v := ?_) rfl (by kernel_rfl) (by kernel_rfl) (by kernel_rfl) (fun _ _ _ h => h) (Or.inl ⟨by rfl, ?_⟩) hHeld ?_
  rotate_left 1
  · intro w9 hw9; (try (obtain ⟨x0, x1, x9, x3⟩ := blk4 hw9.1)); (try (obtain ⟨y0, y1, y9, y3⟩ := blk4 hw9.2)); go_simp; try with_reducible rfl
  simp only [Act.put, List.setIfInBounds_toArray, List.set_cons_zero, List.set_cons_succ]
  refine wpAnyH_take (i := 4) (oi := ({ dst := some 30, op := Op.load 25 (Operand.tmp 4), type := 25, pos := "more.go:12", after := #[{ on := 10, ground := Ground.gcOnly Departure.lateStores }], guard := none } : Oper)) (v := ?_) rfl (by kernel_rfl) (by kernel_rfl) (by kernel_rfl) (fun _ _ _ h => h) (Or.inl ⟨by rfl, ?_⟩) hHeld ?_
  rotate_left 1
  · intro w9 hw9; (try (obtain ⟨x0, x1, x9, x3⟩ := blk4 hw9.1)); (try (obtain ⟨y0, y1, y9, y3⟩ := blk4 hw9.2)); go_simp; try with_reducible rfl
  simp only [Act.put, List.setIfInBounds_toArray, List.set_cons_zero, List.set_cons_succ]
  refine wpAnyH_take (i := 5) (oi := ({ dst := some 31, op := Op.load 25 (Operand.tmp 5), type := 25, pos := "more.go:12", after := #[{ on := 10, ground := Ground.gcOnly Departure.lateStores }], guard := none } : Oper)) (v := ?_) rfl (by kernel_rfl) (by kernel_rfl) (by kernel_rfl) (fun _ _ _ h => h) (Or.inl ⟨by rfl, ?_⟩) hHeld ?_
  rotate_left 1
  · intro w9 hw9; (try (obtain ⟨x0, x1, x9, x3⟩ := blk4 hw9.1)); (try (obtain ⟨y0, y1, y9, y3⟩ := blk4 hw9.2)); go_simp; try with_reducible rfl
  simp only [Act.put, List.setIfInBounds_toArray, List.set_cons_zero, List.set_cons_succ]
  refine nameO ?_
  intro O T DD QQ SS hO hT hDD hQQ hSS
  dsimp only at hT hDD
  subst hDD
  have HPAN := hid (show ∀ e (a : Act) (d : Option Nat) v w, QQ (.panic e) (a.put d v) w → QQ (.panic e) a w from by rw [hQQ]; intro e a d v w h; first | exact h | (unfold Act.put at h; split at h <;> exact h))
  have HS9 := hid (show ∀ W, Below w2.heap.size w2 W → SS W from by rw [hSS]; exact fun W hb => ⟨HX.out.keep hb, HY.out.keep hb⟩)
  clear hSS hHeld
  have g111111 : ∀ (W : World) (q2 : Nat) (q6 : Nat) (q8 : Nat) (q9 : Nat), Below w2.heap.size w2 W → (Blk W q2 [.int .i64 x.kind, str x.text, .slice a0 n0 c0, .slice a1 n1 c1, .int .i64 x2.kind, str x2.text, .slice a2 n2 c2, .slice a3 n3 c3] 25 ∧ w2.heap.size ≤ q2) → (Blk W q6 [.int .i64 x.kind, str x.text, .slice a0 n0 c0, .slice a1 n1 c1, .int .i64 x2.kind, str x2.text, .slice a2 n2 c2, .slice a3 n3 c3] 25 ∧ w2.heap.size ≤ q6) → (Blk W q8 [.int .i64 3, .string ⟨#[]⟩, .slice none 0 0, .slice (some ⟨q2, 0, none⟩) 2 2] 25 ∧ w2.heap.size ≤ q8) → (Blk W q9 [.int .i64 4, .string ⟨#[]⟩, .slice none 0 0, .slice (some ⟨q6, 0, none⟩) 2 2] 25 ∧ w2.heap.size ≤ q9) → q2 ≠ q6 → q2 ≠ q8 → q2 ≠ q9 → q6 ≠ q8 → q6 ≠ q9 → q8 ≠ q9 → wpAnyH Tryd.prog .any O QQ SS 0 #[true, true, true, true, true, true, true, true, true, true, true, true] ⟨((((((T.setIfInBounds 28 (.slice (some ⟨q2, 0, none⟩) 2 2)).setIfInBounds 29 (.agg #[.int .i64 3, .string ⟨#[]⟩, .slice none 0 0, .slice (some ⟨q2, 0, none⟩) 2 2])).setIfInBounds 32 (.slice (some ⟨q6, 0, none⟩) 2 2)).setIfInBounds 33 (.agg #[.int .i64 4, .string ⟨#[]⟩, .slice none 0 0, .slice (some ⟨q6, 0, none⟩) 2 2])).setIfInBounds 9 (.pointer (some ⟨q8, 0, none⟩))).setIfInBounds 10 (.pointer (some ⟨q9, 0, none⟩))), []⟩ W := by
    intro W q2 q6 q8 q9 hB h_q2 h_q6 h_q8 h_q9 n_q2_q6 n_q2_q8 n_q2_q9 n_q6_q8 n_q6_q9 n_q8_q9
    subst hO
    subst hT
    refine wpAnyH_done (by kernel_rfl) ?_ _
    rw [hQQ]
    clear hQQ
    (try simp only [List.setIfInBounds_toArray, List.set_cons_zero, List.set_cons_succ])
    have HB4 := hid hB
    obtain ⟨hq2, _⟩ := h_q2
    obtain ⟨hq6, _⟩ := h_q6
    obtain ⟨hq8, _⟩ := h_q8
    obtain ⟨hq9, _⟩ := h_q9
    have hPW := HP2.out.keep hB
    have hQW := HQ2.out.keep hB
    have h3 := hid (pt_two 3 (by decide) hq2 hPW hQW)
    have h4 := hid (pt_two 4 (by decide) hq6 hPW hQW)
    have hPW := hid hPW
    have hQW := hid hQW
    have HTW := hid (HT2.out.keep hB)
    have HLW := hid (HL2.out.keep hB)
    have HKW := hid (HK2.out.keep hB)
    have x0 := below_keep hB x0
    have x1 := below_keep hB x1
    have x9 := below_keep hB x9
    have x3 := below_keep hB x3
    have y0 := below_keep hB y0
    have y1 := below_keep hB y1
    have y9 := below_keep hB y9
    have y3 := below_keep hB y3
    obtain ⟨c0, c1, c2, c3⟩ := blk4 hq8
    obtain ⟨d0, d1, d2, d3⟩ := blk4 hq9
    clear hB hq2 hq6 hq8 hq9
    clear n_q2_q6 n_q2_q8 n_q2_q9 n_q6_q8 n_q6_q9 n_q8_q9
    have early : Hid (∀ e w9, e = Ending.returned (.bool true) → Below W.heap.size W w9 → e = .returned (.bool true) ∧ Below w.heap.size w w9) := fun e w9 h hb => early.out _ _ h (below_then HB4.out hb)
    have BX := fun W2 (hb : Below W.heap.size W W2) => big_any _ W2 _ _ 0 (hPW.out.keep hb) (by omega)
    have BY := fun W2 (hb : Below W.heap.size W W2) => big_any _ W2 _ _ 0 (hQW.out.keep hb) (by omega)
    simp only [pv] at BX BY
    have WL := fun W2 (hb : Below W.heap.size W W2) => word_any _ L W2 (HLW.out.keep hb) HLL.out
    have WK := fun W2 (hb : Below W.heap.size W W2) => word_any _ K W2 (HKW.out.keep hb) HLK.out
    rw [← HML.out] at WL
    rw [← HMK.out] at WK
    obtain ⟨bx, hbx⟩ : ∃ z, z = bigP 0 x := ⟨_, rfl⟩
    obtain ⟨bq, hbq⟩ : ∃ z, z = bigP 0 x2 := ⟨_, rfl⟩
    obtain ⟨wl, hwl⟩ : ∃ z, z = wordB L := ⟨_, rfl⟩
    obtain ⟨wk, hwk⟩ : ∃ z, z = wordB K := ⟨_, rfl⟩
    rw [← hbx] at BX
    rw [← hbq] at BY
    rw [← hwl] at WL
    rw [← hwk] at WK
    have BX := hid BX
    have BY := hid BY
    have WL := hid WL
    have WK := hid WK
    have HWL := hid hwl
    have HWK := hid hwk
    clear hbx hbq hwl hwk
    go_wp2_with fail
    refine (BX.out _ (Below.refl _ _)).mono ?_
    rintro e w4 ⟨rfl, hb⟩
    have x0 := below_keep hb x0
    have x1 := below_keep hb x1
    have x9 := below_keep hb x9
    have x3 := below_keep hb x3
    have y0 := below_keep hb y0
    have y1 := below_keep hb y1
    have y9 := below_keep hb y9
    have y3 := below_keep hb y3
    have c0 := below_keep hb c0
    have c1 := below_keep hb c1
    have c2 := below_keep hb c2
    have c3 := below_keep hb c3
    have d0 := below_keep hb d0
    have d1 := below_keep hb d1
    have d2 := below_keep hb d2
    have d3 := below_keep hb d3
    have HB5 := hid hb
    clear hb
    cases bx
    case true =>
      go_wp2
      go_ret
      exact early.out _ _ rfl HB5.out
    go_wp2_with fail
    refine (BY.out _ HB5.out).mono ?_
    rintro e w5 ⟨rfl, hb⟩
    have x0 := below_keep hb x0
    have x1 := below_keep hb x1
    have x9 := below_keep hb x9
    have x3 := below_keep hb x3
    have y0 := below_keep hb y0
    have y1 := below_keep hb y1
    have y9 := below_keep hb y9
    have y3 := below_keep hb y3
    have c0 := below_keep hb c0
    have c1 := below_keep hb c1
    have c2 := below_keep hb c2
    have c3 := below_keep hb c3
    have d0 := below_keep hb d0
    have d1 := below_keep hb d1
    have d2 := below_keep hb d2
    have d3 := below_keep hb d3
    have HB6 := hid (below_then HB5.out hb)
    clear hb
    cases bq
    case true =>
      go_wp2
      go_ret
      exact early.out _ _ rfl HB6.out
    go_wp2_with fail
    refine (WL.out _ HB6.out).mono ?_
    rintro e wq ⟨rfl, hw⟩
    rw [hw]
    clear hw wq
    cases wl
    case false =>
      go_wp2
      go_ret
      exact early.out _ _ rfl HB6.out
    go_wp2_with fail
    refine (WK.out _ HB6.out).mono ?_
    rintro e wq ⟨rfl, hw⟩
    rw [hw]
    clear hw wq
    cases wk
    case false =>
      go_wp2
      go_ret
      exact early.out _ _ rfl HB6.out
    have RS := hid fun W2 (hb : Below W.heap.size W W2) => by have h := rnew_any (.mk 3 [] [] [x, x2]) _ _ W2 (h3.out.keep hb) (HTW.out.keep hb); simp only [pv, Pt.kind, Pt.text] at h; exact h
    have RA := hid fun W2 (hb : Below W.heap.size W W2) => by have h := rnew_any (.mk 4 [] [] [x, x2]) _ _ W2 (h4.out.keep hb) (HTW.out.keep hb); simp only [pv, Pt.kind, Pt.text] at h; exact h
    clear BX BY WL WK
    go_wp2_with fail
    refine (RS.out _ HB6.out).mono ?_
    rintro e w6 ⟨hb, hres⟩
    have x0 := below_keep hb x0
    have x1 := below_keep hb x1
    have x9 := below_keep hb x9
    have x3 := below_keep hb x3
    have y0 := below_keep hb y0
    have y1 := below_keep hb y1
    have y9 := below_keep hb y9
    have y3 := below_keep hb y3
    have c0 := below_keep hb c0
    have c1 := below_keep hb c1
    have c2 := below_keep hb c2
    have c3 := below_keep hb c3
    have d0 := below_keep hb d0
    have d1 := below_keep hb d1
    have d2 := below_keep hb d2
    have d3 := below_keep hb d3
    have HB7 := hid (below_then HB6.out hb)
    clear hb
    have HR := hid hres
    clear hres
    have HR : Hid ((∃ k : Int, k ≠ 0 ∧ e = .returned (.tuple #[.pointer none, .int .i64 k])) ∨ ((Pt.mk 3 [] [] [x, x2]).may = true ∧ Rx.cnt ((Pt.mk 3 [] [] [x, x2]).rx false) ≤ 200 ∧ ∃ p, e = .returned (.tuple #[.pointer (some ⟨p, 0, none⟩), .int .i64 0]))) := by
      rcases HR.out with ⟨_, h⟩ | ⟨_, _, h⟩ | ⟨h1, h2, p, h, _⟩
      · exact Or.inl ⟨1, by decide, h⟩
      · exact Or.inl ⟨3, by decide, h⟩
      · exact Or.inr ⟨h1, h2, p, h⟩
    rcases HR.out with ⟨k1, hk0, rfl⟩ | ⟨hm3, hc3, pr, rfl⟩
    · have hk1 : (k1 == 0) = false := beq_eq_false_iff_ne.2 hk0
      have hk2 : (k1 != 0) = true := by rw [bne, hk1]; rfl
      clear hk0 HR
      go_wp2_with fail
      refine (RA.out _ HB7.out).mono ?_
      rintro e w7 ⟨hb, hres⟩
      have HB8 := hid (below_then HB7.out hb)
      clear hb
      have HR : Hid (∃ (p : Option Addr) (k : Int), e = .returned (.tuple #[.pointer p, .int .i64 k])) := by
        rcases hres with ⟨_, h⟩ | ⟨_, _, h⟩ | ⟨h1, h2, p, h, _⟩
        · exact ⟨_, _, h⟩
        · exact ⟨_, _, h⟩
        · exact ⟨_, _, h⟩
      clear hres
      obtain ⟨p7, k7, rfl⟩ := HR.out
      go_wp2
      go_ret
      exact early.out _ _ rfl HB8.out
    clear HR
    have HM3 := hid hm3
    have HC3 := hid hc3
    clear hm3 hc3
    go_wp2_with fail
    refine (RA.out _ HB7.out).mono ?_
    rintro e w7 ⟨hb, hres⟩
    have x0 := below_keep hb x0
    have x1 := below_keep hb x1
    have x9 := below_keep hb x9
    have x3 := below_keep hb x3
    have y0 := below_keep hb y0
    have y1 := below_keep hb y1
    have y9 := below_keep hb y9
    have y3 := below_keep hb y3
    have c0 := below_keep hb c0
    have c1 := below_keep hb c1
    have c2 := below_keep hb c2
    have c3 := below_keep hb c3
    have d0 := below_keep hb d0
    have d1 := below_keep hb d1
    have d2 := below_keep hb d2
    have d3 := below_keep hb d3
    have HB8 := hid (below_then HB7.out hb)
    clear hb
    have HR : Hid ((∃ k : Int, k ≠ 0 ∧ e = .returned (.tuple #[.pointer none, .int .i64 k])) ∨ ((Pt.mk 4 [] [] [x, x2]).may = true ∧ Rx.cnt ((Pt.mk 4 [] [] [x, x2]).rx false) ≤ 200 ∧ ∃ p, e = .returned (.tuple #[.pointer (some ⟨p, 0, none⟩), .int .i64 0]))) := by
      rcases hres with ⟨_, h⟩ | ⟨_, _, h⟩ | ⟨h1, h2, p, h, _⟩
      · exact Or.inl ⟨1, by decide, h⟩
      · exact Or.inl ⟨3, by decide, h⟩
      · exact Or.inr ⟨h1, h2, p, h⟩
    clear hres
    rcases HR.out with ⟨k1, hk0, rfl⟩ | ⟨hm4, hc4, pr2, rfl⟩
    · have hk1 : (k1 == 0) = false := beq_eq_false_iff_ne.2 hk0
      have hk2 : (k1 != 0) = true := by rw [bne, hk1]; rfl
      clear hk0 HR
      go_wp2
      go_ret
      exact early.out _ _ rfl HB8.out
    have hmx := (kids_may hm4).1
    have hmy := (kids_may hm4).2
    have hcx : Rx.cnt (x.rx false) ≤ 200 := Nat.le_trans (cnt_alt_left _ (x2.rx false)) (by rw [← rx_alt]; exact hc4)
    have hcy : Rx.cnt (x2.rx false) ≤ 200 := Nat.le_trans (cnt_alt_right (x.rx false) _) (by rw [← rx_alt]; exact hc4)
    have N1 := hid fun W2 (hb : Below W.heap.size W W2) => by have h := new_ok (hPW.out.keep hb) (HTW.out.keep hb) hmx hcx; simp only [pv] at h; exact h
    have N2 := hid fun W2 (hb : Below W.heap.size W W2) => by have h := new_ok (hQW.out.keep hb) (HTW.out.keep hb) hmy hcy; simp only [pv] at h; exact h
    have N3 := hid fun W2 (hb : Below W.heap.size W W2) => by have h := new_ok (h3.out.keep hb) (HTW.out.keep hb) HM3.out HC3.out; rw [rx_seq] at h; simp only [pv, Pt.kind, Pt.text] at h; exact h
    have N4 := hid fun W2 (hb : Below W.heap.size W W2) => by have h := new_ok (h4.out.keep hb) (HTW.out.keep hb) hm4 hc4; rw [rx_alt] at h; simp only [pv, Pt.kind, Pt.text] at h; exact h
    have hnx := n_wf x 0 false (may_wf hmx)
    have hny := n_wf x2 0 false (may_wf hmy)
    clear hmx hmy hcx hcy hm4 hc4 HR
    obtain ⟨r, hr⟩ : ∃ r, r = x.rx false := ⟨_, rfl⟩
    obtain ⟨s, hs⟩ : ∃ r, r = x2.rx false := ⟨_, rfl⟩
    rw [← hr] at N1 N3 N4
    rw [← hs] at N2 N3 N4
    rw [← hr] at hnx
    rw [← hs] at hny
    have HNX := hid hnx
    have HNY := hid hny
    clear hr hs hnx hny
    go_wp2_with fail
    refine (N1.out _ HB8.out).mono ?_
    rintro e w8 ⟨pa, rfl, hb, hA⟩
    have y0 := below_keep hb y0
    have y1 := below_keep hb y1
    have y9 := below_keep hb y9
    have y3 := below_keep hb y3
    have c0 := below_keep hb c0
    have c1 := below_keep hb c1
    have c2 := below_keep hb c2
    have c3 := below_keep hb c3
    have d0 := below_keep hb d0
    have d1 := below_keep hb d1
    have d2 := below_keep hb d2
    have d3 := below_keep hb d3
    have HB9 := hid (below_then HB8.out hb)
    have HA := hid hA
    clear hb x0 x1 x9 x3 hA
    go_wp2_with fail
    refine (N2.out _ HB9.out).mono ?_
    rintro e w9 ⟨pb, rfl, hb, hA⟩
    have c0 := below_keep hb c0
    have c1 := below_keep hb c1
    have c2 := below_keep hb c2
    have c3 := below_keep hb c3
    have d0 := below_keep hb d0
    have d1 := below_keep hb d1
    have d2 := below_keep hb d2
    have d3 := below_keep hb d3
    have HB10 := hid (below_then HB9.out hb)
    have HA := hid (HA.out.keep hb)
    have HS := hid hA
    clear hb y0 y1 y9 y3 hA
    go_wp2_with fail
    refine (N3.out _ HB10.out).mono ?_
    rintro e w10 ⟨pc, rfl, hb, hA⟩
    have d0 := below_keep hb d0
    have d1 := below_keep hb d1
    have d2 := below_keep hb d2
    have d3 := below_keep hb d3
    have HB11 := hid (below_then HB10.out hb)
    have HA := hid (HA.out.keep hb)
    have HS := hid (HS.out.keep hb)
    have HC := hid hA
    clear hb c0 c1 c2 c3 hA
    go_wp2_with fail
    refine (N4.out _ HB11.out).mono ?_
    rintro e w11 ⟨pd, rfl, hb, hA⟩
    have HB12 := hid (below_then HB11.out hb)
    have HA := hid (HA.out.keep hb)
    have HS := hid (HS.out.keep hb)
    have HC := hid (HC.out.keep hb)
    have HD := hid hA
    clear hb d0 d1 d2 d3 hA
    have hoL := (wordB_ones HWL.out.symm)
    have hoK := (wordB_ones HWK.out.symm)
    have HOL := hid hoL
    have HOK := hid hoK
    clear hoL hoK
    have HL7 := hid (HLW.out.keep HB12.out)
    have HK7 := hid (HKW.out.keep HB12.out)
    go_upto_region 14 with fail
    have HLm := hid (show StepsAt w11 (.slice ya m yc) L by rw [HML.out]; exact HL7.out)
    have HKm := hid (show StepsAt w11 (.slice zA k zc) K by rw [HMK.out]; exact HK7.out)
    have HV0 := hid (SrOld.made (Nat.le_refl w11.heap.size))
    have HN1 := hid (show ([] : List Stp).length + L.length ≤ 1000 by have := HOL.out.2; simp; omega)
    have HN2 := hid (show (([] : List Stp) ++ L).length + K.length ≤ 1000 by have := HOL.out.2; have := HOK.out.2; simp; omega)
    go_upto_region 15 with (first
      | (at_builtin; refine wpList_append_steps rfl (.tmp 110) (.tmp 111) rfl HV0.out rfl HLm.out rfl ((Below.refl _ _).alloc (Nat.le_refl _) _) HN1.out ?_; intro v1 w51 ys1 hv1 hb1; have HV1 := hid hv1; have HB51 := hid hb1; clear hv1 hb1)
      | (at_builtin; refine wpList_append_steps rfl (.tmp 112) (.tmp 113) rfl HV1.out rfl HKm.out rfl HB51.out HN2.out ?_; intro v5 w52 ys2 hv2 hb2; have HV2 := hid hv2; have HB52 := hid hb2; have HS52 := hid (hv2.steps hb2); clear hv2 hb2))
    obtain ⟨BK, hBK⟩ : ∃ z, z = [] ++ L ++ K := ⟨_, rfl⟩
    have hBK' : BK = L ++ K := hBK
    rw [← hBK] at HS52
    clear hBK
    obtain ⟨a5, c5, b5, o5, f5, hv5, e1, e2, e3, e4, _⟩ := HS52.out
    obtain ⟨N, hN⟩ : ∃ N, N = BK.length := ⟨_, rfl⟩
    rw [← hN] at hv5 e1 e4
    subst hv5
    have HN := hid hN
    have HBK := hid hBK'
    have hN16 : N ≤ 16 := by rw [hN, hBK', List.length_append]; have := HOL.out.2; have := HOK.out.2; omega
    clear hN hBK'
    have HS5 := hid (show StepsAt w52 (.slice a5 N c5) BK by rw [HN.out]; rw [HN.out] at HS52; exact HS52.out)
    clear HS52
    have ho5 := hid (show ones BK by rw [HBK.out]; exact ones_app HOL.out.1 HOK.out.1)
    have HAo := hid fun W2 (hb : Below w52.heap.size w52 W2) => (HA.out.keep (HB52.out.trans (hb.mono HB52.out.size)))
    have HSo := hid fun W2 (hb : Below w52.heap.size w52 W2) => (HS.out.keep (HB52.out.trans (hb.mono HB52.out.size)))
    have HCo := hid fun W2 (hb : Below w52.heap.size w52 W2) => (HC.out.keep (HB52.out.trans (hb.mono HB52.out.size)))
    have HDo := hid fun W2 (hb : Below w52.heap.size w52 W2) => (HD.out.keep (HB52.out.trans (hb.mono HB52.out.size)))
    have HLo := hid fun W2 (hb : Below w52.heap.size w52 W2) => (HLm.out.keep (HB52.out.trans (hb.mono HB52.out.size)))
    have HKo := hid fun W2 (hb : Below w52.heap.size w52 W2) => (HKm.out.keep (HB52.out.trans (hb.mono HB52.out.size)))
    obtain ⟨fa, hfa⟩ : ∃ z, z = r.has (wordOf L) := ⟨_, rfl⟩
    obtain ⟨fb, hfb⟩ : ∃ z, z = s.has (wordOf L) := ⟨_, rfl⟩
    obtain ⟨fk, hfk⟩ : ∃ z, z = s.has (wordOf K) := ⟨_, rfl⟩
    obtain ⟨fc, hfc⟩ : ∃ z, z = (Rx.seq r s).has (wordOf BK) := ⟨_, rfl⟩
    have TA := fun W2 (hb : Below w52.heap.size w52 W2) => takes_au _ _ (HAo.out W2 hb) (HLo.out W2 hb) HOL.out.1
    have TB := fun W2 (hb : Below w52.heap.size w52 W2) => takes_au _ _ (HSo.out W2 hb) (HLo.out W2 hb) HOL.out.1
    have TK := fun W2 (hb : Below w52.heap.size w52 W2) => takes_au _ _ (HSo.out W2 hb) (HKo.out W2 hb) HOK.out.1
    have TD := fun W2 (hb : Below w52.heap.size w52 W2) => takes_au _ _ (HDo.out W2 hb) (HLo.out W2 hb) HOL.out.1
    have TC := fun W2 (hb : Below w52.heap.size w52 W2) => takes_au _ _ (HCo.out W2 hb) (HS5.out.keep hb) ho5.out
    rw [← hfa] at TA
    rw [← hfb] at TB
    rw [← hfk] at TK
    rw [alt_has, ← hfa, ← hfb] at TD
    rw [← hfc] at TC
    have TA := hid TA
    have TB := hid TB
    have TK := hid TK
    have TD := hid TD
    have TC := hid TC
    have HFC := hid hfc
    have hseq := hid (show fa = true → fk = true → fc = true from fun h1 h2 => by rw [hfc, HBK.out, word_app]; exact seq_has (by rw [← hfa]; exact h1) (by rw [← hfk]; exact h2))
    have KN := hid fun W2 (hb : Below w52.heap.size w52 W2) => known_any W2 (HTW.out.keep (HB12.out.trans ((HB52.out.trans (hb.mono HB52.out.size)).mono HB12.out.size)))
    have HB60 := hid (Below.refl w52.heap.size w52)
    clear hfa hfb hfk hfc
    cases fa
    case false =>
      have b0 : (fb != fb) = false := by cases fb <;> rfl
      have b1 : (false || fb) = fb := rfl
      have TD := TD.out
      rw [b1] at TD
      have TD := hid TD
      clear b1
      go_wp2_with fail
      refine (TD.out _ HB60.out).mono ?_
      rintro e w60 ⟨rfl, hb⟩
      have HB60 := hid (below_then HB60.out hb)
      clear hb
      go_wp2_with fail
      refine (TA.out _ HB60.out).mono ?_
      rintro e w61 ⟨rfl, hb⟩
      have HB61 := hid (below_then HB60.out hb)
      clear hb
      go_wp2_with fail
      refine (TB.out _ HB61.out).mono ?_
      rintro e w62 ⟨rfl, hb⟩
      have HB62 := hid (below_then HB61.out hb)
      clear hb
      go_wp2_with fail
      refine (TA.out _ HB62.out).mono ?_
      rintro e w63 ⟨rfl, hb⟩
      have HB63 := hid (below_then HB62.out hb)
      clear hb
      obtain ⟨g, hg⟩ : ∃ g : Nat → Bool, ∀ k, g k = (r.has ((wordOf BK).take k) && s.has ((wordOf BK).drop k)) := ⟨_, fun _ => rfl⟩
      have HG := hid hg
      clear hg
      have hN8 : N ≤ 16 := hN16
      go_wp2
      go_loopw [24, 25] (fun s24 s25 wr => ∃ i : Nat, i ≤ N + 1 ∧ s24 = .bool ((List.range i).any g) ∧ s25 = .int .i64 i ∧ Hid (Below w52.heap.size w52 wr)) (fun _ s25 _ => N + 1 - (intOf s25).toNat)
      case atStart => exact ⟨0, by omega, rfl, rfl, HB63⟩
      case round =>
        obtain ⟨i, hi, rfl, rfl, HBr⟩ := hrel
        obtain ⟨an, han⟩ : ∃ z, z = (List.range i).any g := ⟨_, rfl⟩
        rw [← han]
        have HAN := hid han
        clear han
        by_cases hlt : i ≤ N
        case pos =>
          cases an
          case true =>
            go_wp2
            go_roundw
            case rel => exact ⟨i + 1, by omega, by rw [List.range_succ, List.any_append, ← HAN.out]; rfl, by go_num, HBr⟩
            case measure => simp [intOf]; omega
          case false =>
            have hiB : i ≤ BK.length := by rw [← HN.out]; exact hlt
            obtain ⟨ga, hga⟩ : ∃ z, z = r.has ((wordOf BK).take i) := ⟨_, rfl⟩
            obtain ⟨gb, hgb⟩ : ∃ z, z = s.has ((wordOf BK).drop i) := ⟨_, rfl⟩
            have hgi : g i = (ga && gb) := by rw [HG.out, hga, hgb]
            have HGI := hid hgi
            have hoF : ones (BK.take i) := fun j hj => by rw [List.getElem_take]; exact ho5.out j _
            have hoB : ones (BK.drop i) := fun j hj => by rw [List.getElem_drop]; exact ho5.out _ _
            have TF := takes_au _ _ (HAo.out _ HBr.out) ((HS5.out.front i hiB).keep HBr.out) hoF
            rw [show wordOf (BK.take i) = (wordOf BK).take i by unfold wordOf; rw [List.map_take], ← hga] at TF
            have TF := hid TF
            clear hga hgi
            go_wp2_with fail
            refine TF.out.mono ?_
            rintro e w70 ⟨rfl, hb⟩
            have HB70 := hid (below_then HBr.out hb)
            clear hb TF
            cases ga
            case false =>
              go_wp2
              go_roundw
              case rel => exact ⟨i + 1, by omega, by rw [List.range_succ, List.any_append, ← HAN.out, List.any_cons, HGI.out]; rfl, by go_num, HB70⟩
              case measure => simp [intOf]; omega
            case true =>
              have HT1' := hid (HS5.out.back2 i hiB)
              have HT2' := hid fun (hc : c5 - i = 0) => HS5.out.back3 i hc
              have TG := hid fun vv (h : StepsAt w52 vv (BK.drop i)) => takes_au _ _ (HSo.out _ HB70.out) (h.keep HB70.out) hoB
              have HGB := hid (show s.has (wordOf (BK.drop i)) = gb by rw [show wordOf (BK.drop i) = (wordOf BK).drop i by unfold wordOf; rw [List.map_drop], hgb])
              clear hgb
              have hR := hid (show (List.range (i + 1)).any g = gb by rw [List.range_succ, List.any_append, ← HAN.out, List.any_cons, HGI.out]; simp)
              by_cases hci : i < c5
              · have q1 : ¬ (c5 = i) := by omega
                have q2 : ¬ (c5 - i = 0) := by omega
                have q3 : ¬ (i = c5) := by omega
                have q4 : ¬ (c5 ≤ i) := by omega
                go_wp2_with fail
                refine (TG.out _ HT1'.out).mono ?_
                rintro e w71 ⟨rfl, hb⟩
                have HB71 := hid (below_then HB70.out hb)
                clear hb
                rw [HGB.out]
                go_wp2
                go_roundw
                case rel => exact ⟨i + 1, by omega, by rw [hR.out], by go_num, HB71⟩
                case measure => simp [intOf]; omega
              · have hcz : c5 - i = 0 := by omega
                have hT := hid (HT2'.out hcz)
                have q1 : c5 = i := by have := hiB; have := HN.out; have := e1; omega
                have hcz := hid hcz
                clear q1
                go_wp2_with fail
                refine (TG.out _ (by first | exact hT.out | exact HT1'.out)).mono ?_
                rintro e w71 ⟨rfl, hb⟩
                have HB71 := hid (below_then HB70.out hb)
                clear hb
                rw [HGB.out]
                go_wp2
                go_roundw
                case rel => exact ⟨i + 1, by omega, by rw [hR.out], by go_num, HB71⟩
                case measure => simp [intOf]; omega
        case neg =>
          obtain rfl : i = N + 1 := by omega
          have hlen : (wordOf BK).length = N := by unfold wordOf; rw [List.length_map, HN.out]
          have e := (HAN.out.trans (show (List.range (N + 1)).any g = (Rx.seq r s).has (wordOf BK) from by rw [seq_has_any, hlen]; congr 1; funext k; exact HG.out k)).trans HFC.out.symm
          subst e
          clear hlen HAN hlt hi
          obtain ⟨nA, hnA⟩ : ∃ n, n = 1 + r.n := ⟨_, rfl⟩
          obtain ⟨nB, hnB⟩ : ∃ n, n = 1 + s.n := ⟨_, rfl⟩
          obtain ⟨nC, hnC⟩ : ∃ n, n = 1 + (Rx.seq r s).n := ⟨_, rfl⟩
          have hA33 : nA ≤ 33 := by have := HNX.out; omega
          have hB33 : nB ≤ 33 := by have := HNY.out; omega
          have hC66 : nC ≤ 66 := by rw [hnC, Rx.n_seq]; omega
          have hABC : (((nC : Nat) : Int) + 1 == (nA : Int) + (nB : Int)) = true := by rw [hnC, Rx.n_seq, hnA, hnB]; simp; omega
          have PA := fun W2 (hb : Below w52.heap.size w52 W2) => isauto_places (HAo.out W2 hb)
          have PB := fun W2 (hb : Below w52.heap.size w52 W2) => isauto_places (HSo.out W2 hb)
          have PC := fun W2 (hb : Below w52.heap.size w52 W2) => isauto_places (HCo.out W2 hb)
          rw [← hnA] at PA
          rw [← hnB] at PB
          rw [← hnC] at PC
          have PA := hid PA
          have PB := hid PB
          have PC := hid PC
          clear hnA hnB hnC
          have ceq : (an == an) = true := by cases an <;> rfl
          go_wp2_with fail
          refine (TC.out _ HBr.out).mono ?_
          rintro e w80 ⟨rfl, hb⟩
          have HB80 := hid (below_then HBr.out hb)
          clear hb
          go_wp2_with fail
          refine (PC.out _ HB80.out).mono ?_
          rintro e wq ⟨rfl, hw⟩
          rw [hw]
          clear hw wq
          go_wp2_with fail
          refine (PA.out _ HB80.out).mono ?_
          rintro e wq ⟨rfl, hw⟩
          rw [hw]
          clear hw wq
          go_wp2_with fail
          refine (PB.out _ HB80.out).mono ?_
          rintro e wq ⟨rfl, hw⟩
          rw [hw]
          clear hw wq
          go_wp2_with fail
          refine (KN.out _ HB80.out).mono ?_
          rintro e w81 ⟨rfl, hb⟩
          have HB81 := hid (below_then HB80.out hb)
          clear hb
          go_wp2
          go_ret
          exact early.out _ _ rfl (HB12.out.trans ((HB52.out.trans (HB81.out.mono HB52.out.size)).mono HB12.out.size))
    case true =>
      cases fk
      case false =>
        go_wp2_with fail
        refine (TD.out _ HB60.out).mono ?_
        rintro e w64 ⟨rfl, hb⟩
        have HB64 := hid (below_then HB60.out hb)
        clear hb
        go_wp2_with fail
        refine (TA.out _ HB64.out).mono ?_
        rintro e w65 ⟨rfl, hb⟩
        have HB65 := hid (below_then HB64.out hb)
        clear hb
        go_wp2_with fail
        refine (TA.out _ HB65.out).mono ?_
        rintro e w66 ⟨rfl, hb⟩
        have HB66 := hid (below_then HB65.out hb)
        clear hb
        go_wp2_with fail
        refine (TK.out _ HB66.out).mono ?_
        rintro e w67 ⟨rfl, hb⟩
        have HB67 := hid (below_then HB66.out hb)
        clear hb
        obtain ⟨g, hg⟩ : ∃ g : Nat → Bool, ∀ k, g k = (r.has ((wordOf BK).take k) && s.has ((wordOf BK).drop k)) := ⟨_, fun _ => rfl⟩
        have HG := hid hg
        clear hg
        have hN8 : N ≤ 16 := hN16
        go_wp2
        go_loopw [24, 25] (fun s24 s25 wr => ∃ i : Nat, i ≤ N + 1 ∧ s24 = .bool ((List.range i).any g) ∧ s25 = .int .i64 i ∧ Hid (Below w52.heap.size w52 wr)) (fun _ s25 _ => N + 1 - (intOf s25).toNat)
        case atStart => exact ⟨0, by omega, rfl, rfl, HB67⟩
        case round =>
          obtain ⟨i, hi, rfl, rfl, HBr⟩ := hrel
          obtain ⟨an, han⟩ : ∃ z, z = (List.range i).any g := ⟨_, rfl⟩
          rw [← han]
          have HAN := hid han
          clear han
          by_cases hlt : i ≤ N
          case pos =>
            cases an
            case true =>
              go_wp2
              go_roundw
              case rel => exact ⟨i + 1, by omega, by rw [List.range_succ, List.any_append, ← HAN.out]; rfl, by go_num, HBr⟩
              case measure => simp [intOf]; omega
            case false =>
              have hiB : i ≤ BK.length := by rw [← HN.out]; exact hlt
              obtain ⟨ga, hga⟩ : ∃ z, z = r.has ((wordOf BK).take i) := ⟨_, rfl⟩
              obtain ⟨gb, hgb⟩ : ∃ z, z = s.has ((wordOf BK).drop i) := ⟨_, rfl⟩
              have hgi : g i = (ga && gb) := by rw [HG.out, hga, hgb]
              have HGI := hid hgi
              have hoF : ones (BK.take i) := fun j hj => by rw [List.getElem_take]; exact ho5.out j _
              have hoB : ones (BK.drop i) := fun j hj => by rw [List.getElem_drop]; exact ho5.out _ _
              have TF := takes_au _ _ (HAo.out _ HBr.out) ((HS5.out.front i hiB).keep HBr.out) hoF
              rw [show wordOf (BK.take i) = (wordOf BK).take i by unfold wordOf; rw [List.map_take], ← hga] at TF
              have TF := hid TF
              clear hga hgi
              go_wp2_with fail
              refine TF.out.mono ?_
              rintro e w70 ⟨rfl, hb⟩
              have HB70 := hid (below_then HBr.out hb)
              clear hb TF
              cases ga
              case false =>
                go_wp2
                go_roundw
                case rel => exact ⟨i + 1, by omega, by rw [List.range_succ, List.any_append, ← HAN.out, List.any_cons, HGI.out]; rfl, by go_num, HB70⟩
                case measure => simp [intOf]; omega
              case true =>
                have HT1' := hid (HS5.out.back2 i hiB)
                have HT2' := hid fun (hc : c5 - i = 0) => HS5.out.back3 i hc
                have TG := hid fun vv (h : StepsAt w52 vv (BK.drop i)) => takes_au _ _ (HSo.out _ HB70.out) (h.keep HB70.out) hoB
                have HGB := hid (show s.has (wordOf (BK.drop i)) = gb by rw [show wordOf (BK.drop i) = (wordOf BK).drop i by unfold wordOf; rw [List.map_drop], hgb])
                clear hgb
                have hR := hid (show (List.range (i + 1)).any g = gb by rw [List.range_succ, List.any_append, ← HAN.out, List.any_cons, HGI.out]; simp)
                by_cases hci : i < c5
                · have q1 : ¬ (c5 = i) := by omega
                  have q2 : ¬ (c5 - i = 0) := by omega
                  have q3 : ¬ (i = c5) := by omega
                  have q4 : ¬ (c5 ≤ i) := by omega
                  go_wp2_with fail
                  refine (TG.out _ HT1'.out).mono ?_
                  rintro e w71 ⟨rfl, hb⟩
                  have HB71 := hid (below_then HB70.out hb)
                  clear hb
                  rw [HGB.out]
                  go_wp2
                  go_roundw
                  case rel => exact ⟨i + 1, by omega, by rw [hR.out], by go_num, HB71⟩
                  case measure => simp [intOf]; omega
                · have hcz : c5 - i = 0 := by omega
                  have hT := hid (HT2'.out hcz)
                  have q1 : c5 = i := by have := hiB; have := HN.out; have := e1; omega
                  have hcz := hid hcz
                  clear q1
                  go_wp2_with fail
                  refine (TG.out _ (by first | exact hT.out | exact HT1'.out)).mono ?_
                  rintro e w71 ⟨rfl, hb⟩
                  have HB71 := hid (below_then HB70.out hb)
                  clear hb
                  rw [HGB.out]
                  go_wp2
                  go_roundw
                  case rel => exact ⟨i + 1, by omega, by rw [hR.out], by go_num, HB71⟩
                  case measure => simp [intOf]; omega
          case neg =>
            obtain rfl : i = N + 1 := by omega
            have hlen : (wordOf BK).length = N := by unfold wordOf; rw [List.length_map, HN.out]
            have e := (HAN.out.trans (show (List.range (N + 1)).any g = (Rx.seq r s).has (wordOf BK) from by rw [seq_has_any, hlen]; congr 1; funext k; exact HG.out k)).trans HFC.out.symm
            subst e
            clear hlen HAN hlt hi
            obtain ⟨nA, hnA⟩ : ∃ n, n = 1 + r.n := ⟨_, rfl⟩
            obtain ⟨nB, hnB⟩ : ∃ n, n = 1 + s.n := ⟨_, rfl⟩
            obtain ⟨nC, hnC⟩ : ∃ n, n = 1 + (Rx.seq r s).n := ⟨_, rfl⟩
            have hA33 : nA ≤ 33 := by have := HNX.out; omega
            have hB33 : nB ≤ 33 := by have := HNY.out; omega
            have hC66 : nC ≤ 66 := by rw [hnC, Rx.n_seq]; omega
            have hABC : (((nC : Nat) : Int) + 1 == (nA : Int) + (nB : Int)) = true := by rw [hnC, Rx.n_seq, hnA, hnB]; simp; omega
            have PA := fun W2 (hb : Below w52.heap.size w52 W2) => isauto_places (HAo.out W2 hb)
            have PB := fun W2 (hb : Below w52.heap.size w52 W2) => isauto_places (HSo.out W2 hb)
            have PC := fun W2 (hb : Below w52.heap.size w52 W2) => isauto_places (HCo.out W2 hb)
            rw [← hnA] at PA
            rw [← hnB] at PB
            rw [← hnC] at PC
            have PA := hid PA
            have PB := hid PB
            have PC := hid PC
            clear hnA hnB hnC
            have ceq : (an == an) = true := by cases an <;> rfl
            go_wp2_with fail
            refine (TC.out _ HBr.out).mono ?_
            rintro e w80 ⟨rfl, hb⟩
            have HB80 := hid (below_then HBr.out hb)
            clear hb
            go_wp2_with fail
            refine (PC.out _ HB80.out).mono ?_
            rintro e wq ⟨rfl, hw⟩
            rw [hw]
            clear hw wq
            go_wp2_with fail
            refine (PA.out _ HB80.out).mono ?_
            rintro e wq ⟨rfl, hw⟩
            rw [hw]
            clear hw wq
            go_wp2_with fail
            refine (PB.out _ HB80.out).mono ?_
            rintro e wq ⟨rfl, hw⟩
            rw [hw]
            clear hw wq
            go_wp2_with fail
            refine (KN.out _ HB80.out).mono ?_
            rintro e w81 ⟨rfl, hb⟩
            have HB81 := hid (below_then HB80.out hb)
            clear hb
            go_wp2
            go_ret
            exact early.out _ _ rfl (HB12.out.trans ((HB52.out.trans (HB81.out.mono HB52.out.size)).mono HB12.out.size))
      case true =>
        obtain rfl := hseq.out rfl rfl
        go_wp2_with fail
        refine (TD.out _ HB60.out).mono ?_
        rintro e w68 ⟨rfl, hb⟩
        have HB68 := hid (below_then HB60.out hb)
        clear hb
        go_wp2_with fail
        refine (TA.out _ HB68.out).mono ?_
        rintro e w69 ⟨rfl, hb⟩
        have HB69 := hid (below_then HB68.out hb)
        clear hb
        go_wp2_with fail
        refine (TA.out _ HB69.out).mono ?_
        rintro e w70 ⟨rfl, hb⟩
        have HB70 := hid (below_then HB69.out hb)
        clear hb
        go_wp2_with fail
        refine (TK.out _ HB70.out).mono ?_
        rintro e w71 ⟨rfl, hb⟩
        have HB71 := hid (below_then HB70.out hb)
        clear hb
        go_wp2_with fail
        refine (TC.out _ HB71.out).mono ?_
        rintro e w72 ⟨rfl, hb⟩
        have HB72 := hid (below_then HB71.out hb)
        clear hb
        obtain ⟨g, hg⟩ : ∃ g : Nat → Bool, ∀ k, g k = (r.has ((wordOf BK).take k) && s.has ((wordOf BK).drop k)) := ⟨_, fun _ => rfl⟩
        have HG := hid hg
        clear hg
        have hN8 : N ≤ 16 := hN16
        go_wp2
        go_loopw [24, 25] (fun s24 s25 wr => ∃ i : Nat, i ≤ N + 1 ∧ s24 = .bool ((List.range i).any g) ∧ s25 = .int .i64 i ∧ Hid (Below w52.heap.size w52 wr)) (fun _ s25 _ => N + 1 - (intOf s25).toNat)
        case atStart => exact ⟨0, by omega, rfl, rfl, HB72⟩
        case round =>
          obtain ⟨i, hi, rfl, rfl, HBr⟩ := hrel
          obtain ⟨an, han⟩ : ∃ z, z = (List.range i).any g := ⟨_, rfl⟩
          rw [← han]
          have HAN := hid han
          clear han
          by_cases hlt : i ≤ N
          case pos =>
            cases an
            case true =>
              go_wp2
              go_roundw
              case rel => exact ⟨i + 1, by omega, by rw [List.range_succ, List.any_append, ← HAN.out]; rfl, by go_num, HBr⟩
              case measure => simp [intOf]; omega
            case false =>
              have hiB : i ≤ BK.length := by rw [← HN.out]; exact hlt
              obtain ⟨ga, hga⟩ : ∃ z, z = r.has ((wordOf BK).take i) := ⟨_, rfl⟩
              obtain ⟨gb, hgb⟩ : ∃ z, z = s.has ((wordOf BK).drop i) := ⟨_, rfl⟩
              have hgi : g i = (ga && gb) := by rw [HG.out, hga, hgb]
              have HGI := hid hgi
              have hoF : ones (BK.take i) := fun j hj => by rw [List.getElem_take]; exact ho5.out j _
              have hoB : ones (BK.drop i) := fun j hj => by rw [List.getElem_drop]; exact ho5.out _ _
              have TF := takes_au _ _ (HAo.out _ HBr.out) ((HS5.out.front i hiB).keep HBr.out) hoF
              rw [show wordOf (BK.take i) = (wordOf BK).take i by unfold wordOf; rw [List.map_take], ← hga] at TF
              have TF := hid TF
              clear hga hgi
              go_wp2_with fail
              refine TF.out.mono ?_
              rintro e w70 ⟨rfl, hb⟩
              have HB70 := hid (below_then HBr.out hb)
              clear hb TF
              cases ga
              case false =>
                go_wp2
                go_roundw
                case rel => exact ⟨i + 1, by omega, by rw [List.range_succ, List.any_append, ← HAN.out, List.any_cons, HGI.out]; rfl, by go_num, HB70⟩
                case measure => simp [intOf]; omega
              case true =>
                have HT1' := hid (HS5.out.back2 i hiB)
                have HT2' := hid fun (hc : c5 - i = 0) => HS5.out.back3 i hc
                have TG := hid fun vv (h : StepsAt w52 vv (BK.drop i)) => takes_au _ _ (HSo.out _ HB70.out) (h.keep HB70.out) hoB
                have HGB := hid (show s.has (wordOf (BK.drop i)) = gb by rw [show wordOf (BK.drop i) = (wordOf BK).drop i by unfold wordOf; rw [List.map_drop], hgb])
                clear hgb
                have hR := hid (show (List.range (i + 1)).any g = gb by rw [List.range_succ, List.any_append, ← HAN.out, List.any_cons, HGI.out]; simp)
                by_cases hci : i < c5
                · have q1 : ¬ (c5 = i) := by omega
                  have q2 : ¬ (c5 - i = 0) := by omega
                  have q3 : ¬ (i = c5) := by omega
                  have q4 : ¬ (c5 ≤ i) := by omega
                  go_wp2_with fail
                  refine (TG.out _ HT1'.out).mono ?_
                  rintro e w71 ⟨rfl, hb⟩
                  have HB71 := hid (below_then HB70.out hb)
                  clear hb
                  rw [HGB.out]
                  go_wp2
                  go_roundw
                  case rel => exact ⟨i + 1, by omega, by rw [hR.out], by go_num, HB71⟩
                  case measure => simp [intOf]; omega
                · have hcz : c5 - i = 0 := by omega
                  have hT := hid (HT2'.out hcz)
                  have q1 : c5 = i := by have := hiB; have := HN.out; have := e1; omega
                  have hcz := hid hcz
                  clear q1
                  go_wp2_with fail
                  refine (TG.out _ (by first | exact hT.out | exact HT1'.out)).mono ?_
                  rintro e w71 ⟨rfl, hb⟩
                  have HB71 := hid (below_then HB70.out hb)
                  clear hb
                  rw [HGB.out]
                  go_wp2
                  go_roundw
                  case rel => exact ⟨i + 1, by omega, by rw [hR.out], by go_num, HB71⟩
                  case measure => simp [intOf]; omega
          case neg =>
            obtain rfl : i = N + 1 := by omega
            have hlen : (wordOf BK).length = N := by unfold wordOf; rw [List.length_map, HN.out]
            have e := (HAN.out.trans (show (List.range (N + 1)).any g = (Rx.seq r s).has (wordOf BK) from by rw [seq_has_any, hlen]; congr 1; funext k; exact HG.out k)).trans HFC.out.symm
            subst e
            clear hlen HAN hlt hi
            obtain ⟨nA, hnA⟩ : ∃ n, n = 1 + r.n := ⟨_, rfl⟩
            obtain ⟨nB, hnB⟩ : ∃ n, n = 1 + s.n := ⟨_, rfl⟩
            obtain ⟨nC, hnC⟩ : ∃ n, n = 1 + (Rx.seq r s).n := ⟨_, rfl⟩
            have hA33 : nA ≤ 33 := by have := HNX.out; omega
            have hB33 : nB ≤ 33 := by have := HNY.out; omega
            have hC66 : nC ≤ 66 := by rw [hnC, Rx.n_seq]; omega
            have hABC : (((nC : Nat) : Int) + 1 == (nA : Int) + (nB : Int)) = true := by rw [hnC, Rx.n_seq, hnA, hnB]; simp; omega
            have PA := fun W2 (hb : Below w52.heap.size w52 W2) => isauto_places (HAo.out W2 hb)
            have PB := fun W2 (hb : Below w52.heap.size w52 W2) => isauto_places (HSo.out W2 hb)
            have PC := fun W2 (hb : Below w52.heap.size w52 W2) => isauto_places (HCo.out W2 hb)
            rw [← hnA] at PA
            rw [← hnB] at PB
            rw [← hnC] at PC
            have PA := hid PA
            have PB := hid PB
            have PC := hid PC
            clear hnA hnB hnC
            go_wp2_with fail
            refine (TC.out _ HBr.out).mono ?_
            rintro e w80 ⟨rfl, hb⟩
            have HB80 := hid (below_then HBr.out hb)
            clear hb
            go_wp2_with fail
            refine (PC.out _ HB80.out).mono ?_
            rintro e wq ⟨rfl, hw⟩
            rw [hw]
            clear hw wq
            go_wp2_with fail
            refine (PA.out _ HB80.out).mono ?_
            rintro e wq ⟨rfl, hw⟩
            rw [hw]
            clear hw wq
            go_wp2_with fail
            refine (PB.out _ HB80.out).mono ?_
            rintro e wq ⟨rfl, hw⟩
            rw [hw]
            clear hw wq
            go_wp2_with fail
            refine (KN.out _ HB80.out).mono ?_
            rintro e w81 ⟨rfl, hb⟩
            have HB81 := hid (below_then HB80.out hb)
            clear hb
            go_wp2
            go_ret
            exact early.out _ _ rfl (HB12.out.trans ((HB52.out.trans (HB81.out.mono HB52.out.size)).mono HB12.out.size))
  have g111110 : ∀ (W : World) (q2 : Nat) (q6 : Nat) (q8 : Nat) (q9 : Nat), Below w2.heap.size w2 W → (Blk W q2 [.int .i64 x.kind, str x.text, .slice a0 n0 c0, .slice a1 n1 c1, .int .i64 x2.kind, str x2.text, .slice a2 n2 c2, .slice a3 n3 c3] 25 ∧ w2.heap.size ≤ q2) → (Blk W q6 [.int .i64 x.kind, str x.text, .slice a0 n0 c0, .slice a1 n1 c1, .int .i64 x2.kind, str x2.text, .slice a2 n2 c2, .slice a3 n3 c3] 25 ∧ w2.heap.size ≤ q6) → (Blk W q8 [.int .i64 3, .string ⟨#[]⟩, .slice none 0 0, .slice (some ⟨q2, 0, none⟩) 2 2] 25 ∧ w2.heap.size ≤ q8) → (Blk W q9 [.int .i64 0, .string ⟨#[]⟩, .slice none 0 0, .slice none 0 0] 25 ∧ w2.heap.size ≤ q9) → q2 ≠ q6 → q2 ≠ q8 → q2 ≠ q9 → q6 ≠ q8 → q6 ≠ q9 → q8 ≠ q9 → wpAnyH Tryd.prog .any O QQ SS 1 #[true, true, true, true, true, true, true, true, true, true, true, false] ⟨((((((T.setIfInBounds 28 (.slice (some ⟨q2, 0, none⟩) 2 2)).setIfInBounds 29 (.agg #[.int .i64 3, .string ⟨#[]⟩, .slice none 0 0, .slice (some ⟨q2, 0, none⟩) 2 2])).setIfInBounds 32 (.slice (some ⟨q6, 0, none⟩) 2 2)).setIfInBounds 33 (.agg #[.int .i64 4, .string ⟨#[]⟩, .slice none 0 0, .slice (some ⟨q6, 0, none⟩) 2 2])).setIfInBounds 9 (.pointer (some ⟨q8, 0, none⟩))).setIfInBounds 10 (.pointer (some ⟨q9, 0, none⟩))), []⟩ W := by
    intro W q2 q6 q8 q9 hB h_q2 h_q6 h_q8 h_q9 n_q2_q6 n_q2_q8 n_q2_q9 n_q6_q8 n_q6_q9 n_q8_q9
    subst hO
    subst hT
    have G111111 := hid g111111
    clear g111111 hQQ
    have H_q2 := hid h_q2
    have H_q6 := hid h_q6
    have H_q8 := hid h_q8
    have H_q9 := hid h_q9
    have HB := hid hB
    have hHeld := HS9.out W hB
    clear hB h_q2 h_q6 h_q8 h_q9
    (try simp only [List.setIfInBounds_toArray, List.set_cons_zero, List.set_cons_succ])
    refine wpAnyH_ready (rs := [11]) (by kernel_rfl) (by simp) ?_
    refine AllReadyH.cons (o := ({ dst := none, op := Op.store 25 (Operand.tmp 10) (Operand.tmp 33), type := 0, pos := "more.go:12", after := #[{ on := 9, ground := Ground.data }, { on := 7, ground := Ground.data }, { on := 10, ground := Ground.chain }, { on := 0, ground := Ground.phase }, { on := 1, ground := Ground.phase }, { on := 2, ground := Ground.phase }, { on := 3, ground := Ground.phase }, { on := 4, ground := Ground.phase }, { on := 5, ground := Ground.phase }, { on := 6, ground := Ground.phase }, { on := 7, ground := Ground.phase }, { on := 8, ground := Ground.phase }, { on := 9, ground := Ground.phase }, { on := 10, ground := Ground.phase }], guard := none } : Oper)) rfl (fun K hK => ?_) ?_
    · obtain ⟨u0, u1, u2, u3⟩ : W.cell? ⟨q9, 0, none⟩ = some (.int .i64 0) ∧ W.cell? ⟨q9, 1, none⟩ = some (.string ⟨#[]⟩) ∧ W.cell? ⟨q9, 2, none⟩ = some (.slice none 0 0) ∧ W.cell? ⟨q9, 3, none⟩ = some (.slice none 0 0) := ⟨H_q9.out.1.cell (i := 0) rfl, H_q9.out.1.cell (i := 1) rfl, H_q9.out.1.cell (i := 2) rfl, H_q9.out.1.cell (i := 3) rfl⟩
      have v0 := H_q9.out.1.free 0
      have v1 := H_q9.out.1.free 1
      have v2 := H_q9.out.1.free 2
      have v3 := H_q9.out.1.free 3
      go_simp
      refine hK.out _ _ (HS9.out _ ((((HB.out.setCell (p := ⟨q9, 0, none⟩) H_q9.out.2 (.int .i64 4)).setCell (p := ⟨q9, 1, none⟩) H_q9.out.2 (.string ⟨#[]⟩)).setCell (p := ⟨q9, 2, none⟩) H_q9.out.2 (.slice none 0 0)).setCell (p := ⟨q9, 3, none⟩) H_q9.out.2 (.slice (some ⟨q6, 0, none⟩) 2 2))) (fun hHeld => ?_)
      clear hK K
      (try simp only [Act.put, List.setIfInBounds_toArray, List.set_cons_zero, List.set_cons_succ])
      have G := G111111.out _ q2 q6 q8 q9 ((((HB.out.setCell (p := ⟨q9, 0, none⟩) H_q9.out.2 (.int .i64 4)).setCell (p := ⟨q9, 1, none⟩) H_q9.out.2 (.string ⟨#[]⟩)).setCell (p := ⟨q9, 2, none⟩) H_q9.out.2 (.slice none 0 0)).setCell (p := ⟨q9, 3, none⟩) H_q9.out.2 (.slice (some ⟨q6, 0, none⟩) 2 2)) ⟨((((H_q2.out.1.other n_q2_q9 0 (.int .i64 4)).other n_q2_q9 1 (.string ⟨#[]⟩)).other n_q2_q9 2 (.slice none 0 0)).other n_q2_q9 3 (.slice (some ⟨q6, 0, none⟩) 2 2)), H_q2.out.2⟩ ⟨((((H_q6.out.1.other n_q6_q9 0 (.int .i64 4)).other n_q6_q9 1 (.string ⟨#[]⟩)).other n_q6_q9 2 (.slice none 0 0)).other n_q6_q9 3 (.slice (some ⟨q6, 0, none⟩) 2 2)), H_q6.out.2⟩ ⟨((((H_q8.out.1.other n_q8_q9 0 (.int .i64 4)).other n_q8_q9 1 (.string ⟨#[]⟩)).other n_q8_q9 2 (.slice none 0 0)).other n_q8_q9 3 (.slice (some ⟨q6, 0, none⟩) 2 2)), H_q8.out.2⟩ ⟨((((H_q9.out.1.set 0 (.int .i64 4)).set 1 (.string ⟨#[]⟩)).set 2 (.slice none 0 0)).set 3 (.slice (some ⟨q6, 0, none⟩) 2 2)), H_q9.out.2⟩ n_q2_q6 n_q2_q8 n_q2_q9 n_q6_q8 n_q6_q9 n_q8_q9
      (try simp only [List.setIfInBounds_toArray, List.set_cons_zero, List.set_cons_succ] at G)
      exact G
    exact AllReadyH.nil
  have g111100 : ∀ (W : World) (q2 : Nat) (q6 : Nat) (q8 : Nat) (q9 : Nat), Below w2.heap.size w2 W → (Blk W q2 [.int .i64 x.kind, str x.text, .slice a0 n0 c0, .slice a1 n1 c1, .int .i64 x2.kind, str x2.text, .slice a2 n2 c2, .slice a3 n3 c3] 25 ∧ w2.heap.size ≤ q2) → (Blk W q6 [.int .i64 x.kind, str x.text, .slice a0 n0 c0, .slice a1 n1 c1, .int .i64 x2.kind, str x2.text, .slice a2 n2 c2, .slice a3 n3 c3] 25 ∧ w2.heap.size ≤ q6) → (Blk W q8 [.int .i64 0, .string ⟨#[]⟩, .slice none 0 0, .slice none 0 0] 25 ∧ w2.heap.size ≤ q8) → (Blk W q9 [.int .i64 0, .string ⟨#[]⟩, .slice none 0 0, .slice none 0 0] 25 ∧ w2.heap.size ≤ q9) → q2 ≠ q6 → q2 ≠ q8 → q2 ≠ q9 → q6 ≠ q8 → q6 ≠ q9 → q8 ≠ q9 → wpAnyH Tryd.prog .any O QQ SS 2 #[true, true, true, true, true, true, true, true, true, true, false, false] ⟨((((((T.setIfInBounds 28 (.slice (some ⟨q2, 0, none⟩) 2 2)).setIfInBounds 29 (.agg #[.int .i64 3, .string ⟨#[]⟩, .slice none 0 0, .slice (some ⟨q2, 0, none⟩) 2 2])).setIfInBounds 32 (.slice (some ⟨q6, 0, none⟩) 2 2)).setIfInBounds 33 (.agg #[.int .i64 4, .string ⟨#[]⟩, .slice none 0 0, .slice (some ⟨q6, 0, none⟩) 2 2])).setIfInBounds 9 (.pointer (some ⟨q8, 0, none⟩))).setIfInBounds 10 (.pointer (some ⟨q9, 0, none⟩))), []⟩ W := by
    intro W q2 q6 q8 q9 hB h_q2 h_q6 h_q8 h_q9 n_q2_q6 n_q2_q8 n_q2_q9 n_q6_q8 n_q6_q9 n_q8_q9
    clear g111111
    subst hO
    subst hT
    have G111110 := hid g111110
    clear g111110 hQQ
    have H_q2 := hid h_q2
    have H_q6 := hid h_q6
    have H_q8 := hid h_q8
    have H_q9 := hid h_q9
    have HB := hid hB
    have hHeld := HS9.out W hB
    clear hB h_q2 h_q6 h_q8 h_q9
    (try simp only [List.setIfInBounds_toArray, List.set_cons_zero, List.set_cons_succ])
    refine wpAnyH_ready (rs := [10]) (by kernel_rfl) (by simp) ?_
    refine AllReadyH.cons (o := ({ dst := none, op := Op.store 25 (Operand.tmp 9) (Operand.tmp 29), type := 0, pos := "more.go:12", after := #[{ on := 8, ground := Ground.data }, { on := 3, ground := Ground.data }, { on := 0, ground := Ground.phase }, { on := 1, ground := Ground.phase }, { on := 2, ground := Ground.phase }, { on := 3, ground := Ground.phase }, { on := 4, ground := Ground.textOnly Departure.lateStores }, { on := 5, ground := Ground.textOnly Departure.lateStores }, { on := 6, ground := Ground.textOnly Departure.lateStores }, { on := 7, ground := Ground.textOnly Departure.lateStores }, { on := 8, ground := Ground.phase }, { on := 9, ground := Ground.phase }], guard := none } : Oper)) rfl (fun K hK => ?_) ?_
    · obtain ⟨u0, u1, u2, u3⟩ : W.cell? ⟨q8, 0, none⟩ = some (.int .i64 0) ∧ W.cell? ⟨q8, 1, none⟩ = some (.string ⟨#[]⟩) ∧ W.cell? ⟨q8, 2, none⟩ = some (.slice none 0 0) ∧ W.cell? ⟨q8, 3, none⟩ = some (.slice none 0 0) := ⟨H_q8.out.1.cell (i := 0) rfl, H_q8.out.1.cell (i := 1) rfl, H_q8.out.1.cell (i := 2) rfl, H_q8.out.1.cell (i := 3) rfl⟩
      have v0 := H_q8.out.1.free 0
      have v1 := H_q8.out.1.free 1
      have v2 := H_q8.out.1.free 2
      have v3 := H_q8.out.1.free 3
      go_simp
      refine hK.out _ _ (HS9.out _ ((((HB.out.setCell (p := ⟨q8, 0, none⟩) H_q8.out.2 (.int .i64 3)).setCell (p := ⟨q8, 1, none⟩) H_q8.out.2 (.string ⟨#[]⟩)).setCell (p := ⟨q8, 2, none⟩) H_q8.out.2 (.slice none 0 0)).setCell (p := ⟨q8, 3, none⟩) H_q8.out.2 (.slice (some ⟨q2, 0, none⟩) 2 2))) (fun hHeld => ?_)
      clear hK K
      (try simp only [Act.put, List.setIfInBounds_toArray, List.set_cons_zero, List.set_cons_succ])
      have G := G111110.out _ q2 q6 q8 q9 ((((HB.out.setCell (p := ⟨q8, 0, none⟩) H_q8.out.2 (.int .i64 3)).setCell (p := ⟨q8, 1, none⟩) H_q8.out.2 (.string ⟨#[]⟩)).setCell (p := ⟨q8, 2, none⟩) H_q8.out.2 (.slice none 0 0)).setCell (p := ⟨q8, 3, none⟩) H_q8.out.2 (.slice (some ⟨q2, 0, none⟩) 2 2)) ⟨((((H_q2.out.1.other n_q2_q8 0 (.int .i64 3)).other n_q2_q8 1 (.string ⟨#[]⟩)).other n_q2_q8 2 (.slice none 0 0)).other n_q2_q8 3 (.slice (some ⟨q2, 0, none⟩) 2 2)), H_q2.out.2⟩ ⟨((((H_q6.out.1.other n_q6_q8 0 (.int .i64 3)).other n_q6_q8 1 (.string ⟨#[]⟩)).other n_q6_q8 2 (.slice none 0 0)).other n_q6_q8 3 (.slice (some ⟨q2, 0, none⟩) 2 2)), H_q6.out.2⟩ ⟨((((H_q8.out.1.set 0 (.int .i64 3)).set 1 (.string ⟨#[]⟩)).set 2 (.slice none 0 0)).set 3 (.slice (some ⟨q2, 0, none⟩) 2 2)), H_q8.out.2⟩ ⟨((((H_q9.out.1.other n_q8_q9.symm 0 (.int .i64 3)).other n_q8_q9.symm 1 (.string ⟨#[]⟩)).other n_q8_q9.symm 2 (.slice none 0 0)).other n_q8_q9.symm 3 (.slice (some ⟨q2, 0, none⟩) 2 2)), H_q9.out.2⟩ n_q2_q6 n_q2_q8 n_q2_q9 n_q6_q8 n_q6_q9 n_q8_q9
      (try simp only [List.setIfInBounds_toArray, List.set_cons_zero, List.set_cons_succ] at G)
      exact G
    exact AllReadyH.nil
  have g101110 : ∀ (W : World) (q2 : Nat) (q8 : Nat) (q9 : Nat), Below w2.heap.size w2 W → (Blk W q2 [.int .i64 x.kind, str x.text, .slice a0 n0 c0, .slice a1 n1 c1, .int .i64 x2.kind, str x2.text, .slice a2 n2 c2, .slice a3 n3 c3] 25 ∧ w2.heap.size ≤ q2) → (Blk W q8 [.int .i64 3, .string ⟨#[]⟩, .slice none 0 0, .slice (some ⟨q2, 0, none⟩) 2 2] 25 ∧ w2.heap.size ≤ q8) → (Blk W q9 [.int .i64 0, .string ⟨#[]⟩, .slice none 0 0, .slice none 0 0] 25 ∧ w2.heap.size ≤ q9) → q2 ≠ q8 → q2 ≠ q9 → q8 ≠ q9 → wpAnyH Tryd.prog .any O QQ SS 3 #[true, true, true, true, true, true, false, false, true, true, true, false] ⟨((((T.setIfInBounds 28 (.slice (some ⟨q2, 0, none⟩) 2 2)).setIfInBounds 29 (.agg #[.int .i64 3, .string ⟨#[]⟩, .slice none 0 0, .slice (some ⟨q2, 0, none⟩) 2 2])).setIfInBounds 9 (.pointer (some ⟨q8, 0, none⟩))).setIfInBounds 10 (.pointer (some ⟨q9, 0, none⟩))), []⟩ W := by
    intro W q2 q8 q9 hB h_q2 h_q8 h_q9 n_q2_q8 n_q2_q9 n_q8_q9
    clear g111111 g111100
    subst hO
    subst hT
    have G111110 := hid g111110
    clear g111110 hQQ
    have H_q2 := hid h_q2
    have H_q8 := hid h_q8
    have H_q9 := hid h_q9
    have HB := hid hB
    have hHeld := HS9.out W hB
    clear hB h_q2 h_q8 h_q9
    (try simp only [List.setIfInBounds_toArray, List.set_cons_zero, List.set_cons_succ])
    refine wpAnyH_ready (rs := [6]) (by kernel_rfl) (by simp) ?_
    refine AllReadyH.cons (o := ({ dst := some 32, op := Op.buildSlice 23 2 #[(0, Operand.tmp 30), (1, Operand.tmp 31)], type := 23, pos := "more.go:12", after := #[{ on := 4, ground := Ground.data }, { on := 5, ground := Ground.data }, { on := 10, ground := Ground.gcOnly Departure.lateStores }], guard := none } : Oper)) rfl (fun K hK => ?_) ?_
    · go_simp
      refine hK.out _ _ (HS9.out _ (HB.out.alloc HB.out.size _)) (fun hHeld => ?_)
      clear hK K
      (try simp only [Act.put, List.setIfInBounds_toArray, List.set_cons_zero, List.set_cons_succ])
      refine wpAnyH_take (i := 7) (oi := ({ dst := some 33, op := Op.build 25 #[(0, Operand.const (Value.int IntKind.i64 4)), (3, Operand.tmp 32)], type := 25, pos := "more.go:12", after := #[{ on := 6, ground := Ground.data }, { on := 10, ground := Ground.gcOnly Departure.lateStores }], guard := none } : Oper)) (v := ?_) rfl (by kernel_rfl) (by kernel_rfl) (by kernel_rfl) (fun e a w h => HPAN.out e _ _ _ w h) (Or.inl ⟨by rfl, ?_⟩) hHeld ?_
      rotate_left 1
      · intro w9 hw9; skip; go_simp; try with_reducible rfl
      simp only [Act.put, List.setIfInBounds_toArray, List.set_cons_zero, List.set_cons_succ]
      have G := G111110.out _ q2 W.heap.size q8 q9 (HB.out.alloc HB.out.size _) ⟨H_q2.out.1.alloc _, H_q2.out.2⟩ ⟨Blk.new' rfl rfl, HB.out.size⟩ ⟨H_q8.out.1.alloc _, H_q8.out.2⟩ ⟨H_q9.out.1.alloc _, H_q9.out.2⟩ (Nat.ne_of_lt H_q2.out.1.lt) n_q2_q8 n_q2_q9 (Nat.ne_of_gt H_q8.out.1.lt) (Nat.ne_of_gt H_q9.out.1.lt) n_q8_q9
      (try simp only [List.setIfInBounds_toArray, List.set_cons_zero, List.set_cons_succ] at G)
      exact G
    exact AllReadyH.nil
  have g111000 : ∀ (W : World) (q2 : Nat) (q6 : Nat) (q8 : Nat), Below w2.heap.size w2 W → (Blk W q2 [.int .i64 x.kind, str x.text, .slice a0 n0 c0, .slice a1 n1 c1, .int .i64 x2.kind, str x2.text, .slice a2 n2 c2, .slice a3 n3 c3] 25 ∧ w2.heap.size ≤ q2) → (Blk W q6 [.int .i64 x.kind, str x.text, .slice a0 n0 c0, .slice a1 n1 c1, .int .i64 x2.kind, str x2.text, .slice a2 n2 c2, .slice a3 n3 c3] 25 ∧ w2.heap.size ≤ q6) → (Blk W q8 [.int .i64 0, .string ⟨#[]⟩, .slice none 0 0, .slice none 0 0] 25 ∧ w2.heap.size ≤ q8) → q2 ≠ q6 → q2 ≠ q8 → q6 ≠ q8 → wpAnyH Tryd.prog .any O QQ SS 3 #[true, true, true, true, true, true, true, true, true, false, false, false] ⟨(((((T.setIfInBounds 28 (.slice (some ⟨q2, 0, none⟩) 2 2)).setIfInBounds 29 (.agg #[.int .i64 3, .string ⟨#[]⟩, .slice none 0 0, .slice (some ⟨q2, 0, none⟩) 2 2])).setIfInBounds 32 (.slice (some ⟨q6, 0, none⟩) 2 2)).setIfInBounds 33 (.agg #[.int .i64 4, .string ⟨#[]⟩, .slice none 0 0, .slice (some ⟨q6, 0, none⟩) 2 2])).setIfInBounds 9 (.pointer (some ⟨q8, 0, none⟩))), []⟩ W := by
    intro W q2 q6 q8 hB h_q2 h_q6 h_q8 n_q2_q6 n_q2_q8 n_q6_q8
    clear g111111 g111110 g101110
    subst hO
    subst hT
    have G111100 := hid g111100
    clear g111100 hQQ
    have H_q2 := hid h_q2
    have H_q6 := hid h_q6
    have H_q8 := hid h_q8
    have HB := hid hB
    have hHeld := HS9.out W hB
    clear hB h_q2 h_q6 h_q8
    (try simp only [List.setIfInBounds_toArray, List.set_cons_zero, List.set_cons_succ])
    refine wpAnyH_ready (rs := [9]) (by kernel_rfl) (by simp) ?_
    refine AllReadyH.cons (o := ({ dst := some 10, op := Op.alloc 25, type := 0, pos := "more.go:12", after := #[], guard := none } : Oper)) rfl (fun K hK => ?_) ?_
    · go_simp
      refine hK.out _ _ (HS9.out _ (HB.out.alloc HB.out.size _)) (fun hHeld => ?_)
      clear hK K
      (try simp only [Act.put, List.setIfInBounds_toArray, List.set_cons_zero, List.set_cons_succ])
      have G := G111100.out _ q2 q6 q8 W.heap.size (HB.out.alloc HB.out.size _) ⟨H_q2.out.1.alloc _, H_q2.out.2⟩ ⟨H_q6.out.1.alloc _, H_q6.out.2⟩ ⟨H_q8.out.1.alloc _, H_q8.out.2⟩ ⟨Blk.new' rfl rfl, HB.out.size⟩ n_q2_q6 n_q2_q8 (Nat.ne_of_lt H_q2.out.1.lt) n_q6_q8 (Nat.ne_of_lt H_q6.out.1.lt) (Nat.ne_of_lt H_q8.out.1.lt)
      (try simp only [List.setIfInBounds_toArray, List.set_cons_zero, List.set_cons_succ] at G)
      exact G
    exact AllReadyH.nil
  have g110100 : ∀ (W : World) (q2 : Nat) (q6 : Nat) (q9 : Nat), Below w2.heap.size w2 W → (Blk W q2 [.int .i64 x.kind, str x.text, .slice a0 n0 c0, .slice a1 n1 c1, .int .i64 x2.kind, str x2.text, .slice a2 n2 c2, .slice a3 n3 c3] 25 ∧ w2.heap.size ≤ q2) → (Blk W q6 [.int .i64 x.kind, str x.text, .slice a0 n0 c0, .slice a1 n1 c1, .int .i64 x2.kind, str x2.text, .slice a2 n2 c2, .slice a3 n3 c3] 25 ∧ w2.heap.size ≤ q6) → (Blk W q9 [.int .i64 0, .string ⟨#[]⟩, .slice none 0 0, .slice none 0 0] 25 ∧ w2.heap.size ≤ q9) → q2 ≠ q6 → q2 ≠ q9 → q6 ≠ q9 → wpAnyH Tryd.prog .any O QQ SS 3 #[true, true, true, true, true, true, true, true, false, true, false, false] ⟨(((((T.setIfInBounds 28 (.slice (some ⟨q2, 0, none⟩) 2 2)).setIfInBounds 29 (.agg #[.int .i64 3, .string ⟨#[]⟩, .slice none 0 0, .slice (some ⟨q2, 0, none⟩) 2 2])).setIfInBounds 32 (.slice (some ⟨q6, 0, none⟩) 2 2)).setIfInBounds 33 (.agg #[.int .i64 4, .string ⟨#[]⟩, .slice none 0 0, .slice (some ⟨q6, 0, none⟩) 2 2])).setIfInBounds 10 (.pointer (some ⟨q9, 0, none⟩))), []⟩ W := by
    intro W q2 q6 q9 hB h_q2 h_q6 h_q9 n_q2_q6 n_q2_q9 n_q6_q9
    clear g111111 g111110 g101110 g111000
    subst hO
    subst hT
    have G111100 := hid g111100
    clear g111100 hQQ
    have H_q2 := hid h_q2
    have H_q6 := hid h_q6
    have H_q9 := hid h_q9
    have HB := hid hB
    have hHeld := HS9.out W hB
    clear hB h_q2 h_q6 h_q9
    (try simp only [List.setIfInBounds_toArray, List.set_cons_zero, List.set_cons_succ])
    refine wpAnyH_ready (rs := [8]) (by kernel_rfl) (by simp) ?_
    refine AllReadyH.cons (o := ({ dst := some 9, op := Op.alloc 25, type := 0, pos := "more.go:12", after := #[], guard := none } : Oper)) rfl (fun K hK => ?_) ?_
    · go_simp
      refine hK.out _ _ (HS9.out _ (HB.out.alloc HB.out.size _)) (fun hHeld => ?_)
      clear hK K
      (try simp only [Act.put, List.setIfInBounds_toArray, List.set_cons_zero, List.set_cons_succ])
      have G := G111100.out _ q2 q6 W.heap.size q9 (HB.out.alloc HB.out.size _) ⟨H_q2.out.1.alloc _, H_q2.out.2⟩ ⟨H_q6.out.1.alloc _, H_q6.out.2⟩ ⟨Blk.new' rfl rfl, HB.out.size⟩ ⟨H_q9.out.1.alloc _, H_q9.out.2⟩ n_q2_q6 (Nat.ne_of_lt H_q2.out.1.lt) n_q2_q9 (Nat.ne_of_lt H_q6.out.1.lt) n_q6_q9 (Nat.ne_of_gt H_q9.out.1.lt)
      (try simp only [List.setIfInBounds_toArray, List.set_cons_zero, List.set_cons_succ] at G)
      exact G
    exact AllReadyH.nil
  have g101100 : ∀ (W : World) (q2 : Nat) (q8 : Nat) (q9 : Nat), Below w2.heap.size w2 W → (Blk W q2 [.int .i64 x.kind, str x.text, .slice a0 n0 c0, .slice a1 n1 c1, .int .i64 x2.kind, str x2.text, .slice a2 n2 c2, .slice a3 n3 c3] 25 ∧ w2.heap.size ≤ q2) → (Blk W q8 [.int .i64 0, .string ⟨#[]⟩, .slice none 0 0, .slice none 0 0] 25 ∧ w2.heap.size ≤ q8) → (Blk W q9 [.int .i64 0, .string ⟨#[]⟩, .slice none 0 0, .slice none 0 0] 25 ∧ w2.heap.size ≤ q9) → q2 ≠ q8 → q2 ≠ q9 → q8 ≠ q9 → wpAnyH Tryd.prog .any O QQ SS 4 #[true, true, true, true, true, true, false, false, true, true, false, false] ⟨((((T.setIfInBounds 28 (.slice (some ⟨q2, 0, none⟩) 2 2)).setIfInBounds 29 (.agg #[.int .i64 3, .string ⟨#[]⟩, .slice none 0 0, .slice (some ⟨q2, 0, none⟩) 2 2])).setIfInBounds 9 (.pointer (some ⟨q8, 0, none⟩))).setIfInBounds 10 (.pointer (some ⟨q9, 0, none⟩))), []⟩ W := by
    intro W q2 q8 q9 hB h_q2 h_q8 h_q9 n_q2_q8 n_q2_q9 n_q8_q9
    clear g111111 g111110 g111000 g110100
    subst hO
    subst hT
    have G111100 := hid g111100
    have G101110 := hid g101110
    clear g111100 g101110 hQQ
    have H_q2 := hid h_q2
    have H_q8 := hid h_q8
    have H_q9 := hid h_q9
    have HB := hid hB
    have hHeld := HS9.out W hB
    clear hB h_q2 h_q8 h_q9
    (try simp only [List.setIfInBounds_toArray, List.set_cons_zero, List.set_cons_succ])
    refine wpAnyH_ready (rs := [6, 10]) (by kernel_rfl) (by simp) ?_
    refine AllReadyH.cons (o := ({ dst := some 32, op := Op.buildSlice 23 2 #[(0, Operand.tmp 30), (1, Operand.tmp 31)], type := 23, pos := "more.go:12", after := #[{ on := 4, ground := Ground.data }, { on := 5, ground := Ground.data }, { on := 10, ground := Ground.gcOnly Departure.lateStores }], guard := none } : Oper)) rfl (fun K hK => ?_) ?_
    · go_simp
      refine hK.out _ _ (HS9.out _ (HB.out.alloc HB.out.size _)) (fun hHeld => ?_)
      clear hK K
      (try simp only [Act.put, List.setIfInBounds_toArray, List.set_cons_zero, List.set_cons_succ])
      refine wpAnyH_take (i := 7) (oi := ({ dst := some 33, op := Op.build 25 #[(0, Operand.const (Value.int IntKind.i64 4)), (3, Operand.tmp 32)], type := 25, pos := "more.go:12", after := #[{ on := 6, ground := Ground.data }, { on := 10, ground := Ground.gcOnly Departure.lateStores }], guard := none } : Oper)) (v := ?_) rfl (by kernel_rfl) (by kernel_rfl) (by kernel_rfl) (fun e a w h => HPAN.out e _ _ _ w h) (Or.inl ⟨by rfl, ?_⟩) hHeld ?_
      rotate_left 1
      · intro w9 hw9; skip; go_simp; try with_reducible rfl
      simp only [Act.put, List.setIfInBounds_toArray, List.set_cons_zero, List.set_cons_succ]
      have G := G111100.out _ q2 W.heap.size q8 q9 (HB.out.alloc HB.out.size _) ⟨H_q2.out.1.alloc _, H_q2.out.2⟩ ⟨Blk.new' rfl rfl, HB.out.size⟩ ⟨H_q8.out.1.alloc _, H_q8.out.2⟩ ⟨H_q9.out.1.alloc _, H_q9.out.2⟩ (Nat.ne_of_lt H_q2.out.1.lt) n_q2_q8 n_q2_q9 (Nat.ne_of_gt H_q8.out.1.lt) (Nat.ne_of_gt H_q9.out.1.lt) n_q8_q9
      (try simp only [List.setIfInBounds_toArray, List.set_cons_zero, List.set_cons_succ] at G)
      exact G
    refine AllReadyH.cons (o := ({ dst := none, op := Op.store 25 (Operand.tmp 9) (Operand.tmp 29), type := 0, pos := "more.go:12", after := #[{ on := 8, ground := Ground.data }, { on := 3, ground := Ground.data }, { on := 0, ground := Ground.phase }, { on := 1, ground := Ground.phase }, { on := 2, ground := Ground.phase }, { on := 3, ground := Ground.phase }, { on := 4, ground := Ground.textOnly Departure.lateStores }, { on := 5, ground := Ground.textOnly Departure.lateStores }, { on := 6, ground := Ground.textOnly Departure.lateStores }, { on := 7, ground := Ground.textOnly Departure.lateStores }, { on := 8, ground := Ground.phase }, { on := 9, ground := Ground.phase }], guard := none } : Oper)) rfl (fun K hK => ?_) ?_
    · obtain ⟨u0, u1, u2, u3⟩ : W.cell? ⟨q8, 0, none⟩ = some (.int .i64 0) ∧ W.cell? ⟨q8, 1, none⟩ = some (.string ⟨#[]⟩) ∧ W.cell? ⟨q8, 2, none⟩ = some (.slice none 0 0) ∧ W.cell? ⟨q8, 3, none⟩ = some (.slice none 0 0) := ⟨H_q8.out.1.cell (i := 0) rfl, H_q8.out.1.cell (i := 1) rfl, H_q8.out.1.cell (i := 2) rfl, H_q8.out.1.cell (i := 3) rfl⟩
      have v0 := H_q8.out.1.free 0
      have v1 := H_q8.out.1.free 1
      have v2 := H_q8.out.1.free 2
      have v3 := H_q8.out.1.free 3
      go_simp
      refine hK.out _ _ (HS9.out _ ((((HB.out.setCell (p := ⟨q8, 0, none⟩) H_q8.out.2 (.int .i64 3)).setCell (p := ⟨q8, 1, none⟩) H_q8.out.2 (.string ⟨#[]⟩)).setCell (p := ⟨q8, 2, none⟩) H_q8.out.2 (.slice none 0 0)).setCell (p := ⟨q8, 3, none⟩) H_q8.out.2 (.slice (some ⟨q2, 0, none⟩) 2 2))) (fun hHeld => ?_)
      clear hK K
      (try simp only [Act.put, List.setIfInBounds_toArray, List.set_cons_zero, List.set_cons_succ])
      have G := G101110.out _ q2 q8 q9 ((((HB.out.setCell (p := ⟨q8, 0, none⟩) H_q8.out.2 (.int .i64 3)).setCell (p := ⟨q8, 1, none⟩) H_q8.out.2 (.string ⟨#[]⟩)).setCell (p := ⟨q8, 2, none⟩) H_q8.out.2 (.slice none 0 0)).setCell (p := ⟨q8, 3, none⟩) H_q8.out.2 (.slice (some ⟨q2, 0, none⟩) 2 2)) ⟨((((H_q2.out.1.other n_q2_q8 0 (.int .i64 3)).other n_q2_q8 1 (.string ⟨#[]⟩)).other n_q2_q8 2 (.slice none 0 0)).other n_q2_q8 3 (.slice (some ⟨q2, 0, none⟩) 2 2)), H_q2.out.2⟩ ⟨((((H_q8.out.1.set 0 (.int .i64 3)).set 1 (.string ⟨#[]⟩)).set 2 (.slice none 0 0)).set 3 (.slice (some ⟨q2, 0, none⟩) 2 2)), H_q8.out.2⟩ ⟨((((H_q9.out.1.other n_q8_q9.symm 0 (.int .i64 3)).other n_q8_q9.symm 1 (.string ⟨#[]⟩)).other n_q8_q9.symm 2 (.slice none 0 0)).other n_q8_q9.symm 3 (.slice (some ⟨q2, 0, none⟩) 2 2)), H_q9.out.2⟩ n_q2_q8 n_q2_q9 n_q8_q9
      (try simp only [List.setIfInBounds_toArray, List.set_cons_zero, List.set_cons_succ] at G)
      exact G
    exact AllReadyH.nil
  have g011100 : ∀ (W : World) (q6 : Nat) (q8 : Nat) (q9 : Nat), Below w2.heap.size w2 W → (Blk W q6 [.int .i64 x.kind, str x.text, .slice a0 n0 c0, .slice a1 n1 c1, .int .i64 x2.kind, str x2.text, .slice a2 n2 c2, .slice a3 n3 c3] 25 ∧ w2.heap.size ≤ q6) → (Blk W q8 [.int .i64 0, .string ⟨#[]⟩, .slice none 0 0, .slice none 0 0] 25 ∧ w2.heap.size ≤ q8) → (Blk W q9 [.int .i64 0, .string ⟨#[]⟩, .slice none 0 0, .slice none 0 0] 25 ∧ w2.heap.size ≤ q9) → q6 ≠ q8 → q6 ≠ q9 → q8 ≠ q9 → wpAnyH Tryd.prog .any O QQ SS 4 #[true, true, false, false, true, true, true, true, true, true, false, false] ⟨((((T.setIfInBounds 32 (.slice (some ⟨q6, 0, none⟩) 2 2)).setIfInBounds 33 (.agg #[.int .i64 4, .string ⟨#[]⟩, .slice none 0 0, .slice (some ⟨q6, 0, none⟩) 2 2])).setIfInBounds 9 (.pointer (some ⟨q8, 0, none⟩))).setIfInBounds 10 (.pointer (some ⟨q9, 0, none⟩))), []⟩ W := by
    intro W q6 q8 q9 hB h_q6 h_q8 h_q9 n_q6_q8 n_q6_q9 n_q8_q9
    clear g111111 g111110 g101110 g111000 g110100 g101100
    subst hO
    subst hT
    have G111100 := hid g111100
    clear g111100 hQQ
    have H_q6 := hid h_q6
    have H_q8 := hid h_q8
    have H_q9 := hid h_q9
    have HB := hid hB
    have hHeld := HS9.out W hB
    clear hB h_q6 h_q8 h_q9
    (try simp only [List.setIfInBounds_toArray, List.set_cons_zero, List.set_cons_succ])
    refine wpAnyH_ready (rs := [2]) (by kernel_rfl) (by simp) ?_
    refine AllReadyH.cons (o := ({ dst := some 28, op := Op.buildSlice 23 2 #[(0, Operand.tmp 26), (1, Operand.tmp 27)], type := 23, pos := "more.go:12", after := #[{ on := 0, ground := Ground.data }, { on := 1, ground := Ground.data }], guard := none } : Oper)) rfl (fun K hK => ?_) ?_
    · go_simp
      refine hK.out _ _ (HS9.out _ (HB.out.alloc HB.out.size _)) (fun hHeld => ?_)
      clear hK K
      (try simp only [Act.put, List.setIfInBounds_toArray, List.set_cons_zero, List.set_cons_succ])
      refine wpAnyH_take (i := 3) (oi := ({ dst := some 29, op := Op.build 25 #[(0, Operand.const (Value.int IntKind.i64 3)), (3, Operand.tmp 28)], type := 25, pos := "more.go:12", after := #[{ on := 2, ground := Ground.data }], guard := none } : Oper)) (v := ?_) rfl (by kernel_rfl) (by kernel_rfl) (by kernel_rfl) (fun e a w h => HPAN.out e _ _ _ w h) (Or.inl ⟨by rfl, ?_⟩) hHeld ?_
      rotate_left 1
      · intro w9 hw9; skip; go_simp; try with_reducible rfl
      simp only [Act.put, List.setIfInBounds_toArray, List.set_cons_zero, List.set_cons_succ]
      have G := G111100.out _ W.heap.size q6 q8 q9 (HB.out.alloc HB.out.size _) ⟨Blk.new' rfl rfl, HB.out.size⟩ ⟨H_q6.out.1.alloc _, H_q6.out.2⟩ ⟨H_q8.out.1.alloc _, H_q8.out.2⟩ ⟨H_q9.out.1.alloc _, H_q9.out.2⟩ (Nat.ne_of_gt H_q6.out.1.lt) (Nat.ne_of_gt H_q8.out.1.lt) (Nat.ne_of_gt H_q9.out.1.lt) n_q6_q8 n_q6_q9 n_q8_q9
      (try simp only [List.setIfInBounds_toArray, List.set_cons_zero, List.set_cons_succ] at G)
      exact G
    exact AllReadyH.nil
  have g110000 : ∀ (W : World) (q2 : Nat) (q6 : Nat), Below w2.heap.size w2 W → (Blk W q2 [.int .i64 x.kind, str x.text, .slice a0 n0 c0, .slice a1 n1 c1, .int .i64 x2.kind, str x2.text, .slice a2 n2 c2, .slice a3 n3 c3] 25 ∧ w2.heap.size ≤ q2) → (Blk W q6 [.int .i64 x.kind, str x.text, .slice a0 n0 c0, .slice a1 n1 c1, .int .i64 x2.kind, str x2.text, .slice a2 n2 c2, .slice a3 n3 c3] 25 ∧ w2.heap.size ≤ q6) → q2 ≠ q6 → wpAnyH Tryd.prog .any O QQ SS 4 #[true, true, true, true, true, true, true, true, false, false, false, false] ⟨((((T.setIfInBounds 28 (.slice (some ⟨q2, 0, none⟩) 2 2)).setIfInBounds 29 (.agg #[.int .i64 3, .string ⟨#[]⟩, .slice none 0 0, .slice (some ⟨q2, 0, none⟩) 2 2])).setIfInBounds 32 (.slice (some ⟨q6, 0, none⟩) 2 2)).setIfInBounds 33 (.agg #[.int .i64 4, .string ⟨#[]⟩, .slice none 0 0, .slice (some ⟨q6, 0, none⟩) 2 2])), []⟩ W := by
    intro W q2 q6 hB h_q2 h_q6 n_q2_q6
    clear g111111 g111110 g111100 g101110 g101100 g011100
    subst hO
    subst hT
    have G111000 := hid g111000
    have G110100 := hid g110100
    clear g111000 g110100 hQQ
    have H_q2 := hid h_q2
    have H_q6 := hid h_q6
    have HB := hid hB
    have hHeld := HS9.out W hB
    clear hB h_q2 h_q6
    (try simp only [List.setIfInBounds_toArray, List.set_cons_zero, List.set_cons_succ])
    refine wpAnyH_ready (rs := [8, 9]) (by kernel_rfl) (by simp) ?_
    refine AllReadyH.cons (o := ({ dst := some 9, op := Op.alloc 25, type := 0, pos := "more.go:12", after := #[], guard := none } : Oper)) rfl (fun K hK => ?_) ?_
    · go_simp
      refine hK.out _ _ (HS9.out _ (HB.out.alloc HB.out.size _)) (fun hHeld => ?_)
      clear hK K
      (try simp only [Act.put, List.setIfInBounds_toArray, List.set_cons_zero, List.set_cons_succ])
      have G := G111000.out _ q2 q6 W.heap.size (HB.out.alloc HB.out.size _) ⟨H_q2.out.1.alloc _, H_q2.out.2⟩ ⟨H_q6.out.1.alloc _, H_q6.out.2⟩ ⟨Blk.new' rfl rfl, HB.out.size⟩ n_q2_q6 (Nat.ne_of_lt H_q2.out.1.lt) (Nat.ne_of_lt H_q6.out.1.lt)
      (try simp only [List.setIfInBounds_toArray, List.set_cons_zero, List.set_cons_succ] at G)
      exact G
    refine AllReadyH.cons (o := ({ dst := some 10, op := Op.alloc 25, type := 0, pos := "more.go:12", after := #[], guard := none } : Oper)) rfl (fun K hK => ?_) ?_
    · go_simp
      refine hK.out _ _ (HS9.out _ (HB.out.alloc HB.out.size _)) (fun hHeld => ?_)
      clear hK K
      (try simp only [Act.put, List.setIfInBounds_toArray, List.set_cons_zero, List.set_cons_succ])
      have G := G110100.out _ q2 q6 W.heap.size (HB.out.alloc HB.out.size _) ⟨H_q2.out.1.alloc _, H_q2.out.2⟩ ⟨H_q6.out.1.alloc _, H_q6.out.2⟩ ⟨Blk.new' rfl rfl, HB.out.size⟩ n_q2_q6 (Nat.ne_of_lt H_q2.out.1.lt) (Nat.ne_of_lt H_q6.out.1.lt)
      (try simp only [List.setIfInBounds_toArray, List.set_cons_zero, List.set_cons_succ] at G)
      exact G
    exact AllReadyH.nil
  have g101000 : ∀ (W : World) (q2 : Nat) (q8 : Nat), Below w2.heap.size w2 W → (Blk W q2 [.int .i64 x.kind, str x.text, .slice a0 n0 c0, .slice a1 n1 c1, .int .i64 x2.kind, str x2.text, .slice a2 n2 c2, .slice a3 n3 c3] 25 ∧ w2.heap.size ≤ q2) → (Blk W q8 [.int .i64 0, .string ⟨#[]⟩, .slice none 0 0, .slice none 0 0] 25 ∧ w2.heap.size ≤ q8) → q2 ≠ q8 → wpAnyH Tryd.prog .any O QQ SS 5 #[true, true, true, true, true, true, false, false, true, false, false, false] ⟨(((T.setIfInBounds 28 (.slice (some ⟨q2, 0, none⟩) 2 2)).setIfInBounds 29 (.agg #[.int .i64 3, .string ⟨#[]⟩, .slice none 0 0, .slice (some ⟨q2, 0, none⟩) 2 2])).setIfInBounds 9 (.pointer (some ⟨q8, 0, none⟩))), []⟩ W := by
    intro W q2 q8 hB h_q2 h_q8 n_q2_q8
    clear g111111 g111110 g111100 g101110 g110100 g011100 g110000
    subst hO
    subst hT
    have G111000 := hid g111000
    have G101100 := hid g101100
    clear g111000 g101100 hQQ
    have H_q2 := hid h_q2
    have H_q8 := hid h_q8
    have HB := hid hB
    have hHeld := HS9.out W hB
    clear hB h_q2 h_q8
    (try simp only [List.setIfInBounds_toArray, List.set_cons_zero, List.set_cons_succ])
    refine wpAnyH_ready (rs := [6, 9]) (by kernel_rfl) (by simp) ?_
    refine AllReadyH.cons (o := ({ dst := some 32, op := Op.buildSlice 23 2 #[(0, Operand.tmp 30), (1, Operand.tmp 31)], type := 23, pos := "more.go:12", after := #[{ on := 4, ground := Ground.data }, { on := 5, ground := Ground.data }, { on := 10, ground := Ground.gcOnly Departure.lateStores }], guard := none } : Oper)) rfl (fun K hK => ?_) ?_
    · go_simp
      refine hK.out _ _ (HS9.out _ (HB.out.alloc HB.out.size _)) (fun hHeld => ?_)
      clear hK K
      (try simp only [Act.put, List.setIfInBounds_toArray, List.set_cons_zero, List.set_cons_succ])
      refine wpAnyH_take (i := 7) (oi := ({ dst := some 33, op := Op.build 25 #[(0, Operand.const (Value.int IntKind.i64 4)), (3, Operand.tmp 32)], type := 25, pos := "more.go:12", after := #[{ on := 6, ground := Ground.data }, { on := 10, ground := Ground.gcOnly Departure.lateStores }], guard := none } : Oper)) (v := ?_) rfl (by kernel_rfl) (by kernel_rfl) (by kernel_rfl) (fun e a w h => HPAN.out e _ _ _ w h) (Or.inl ⟨by rfl, ?_⟩) hHeld ?_
      rotate_left 1
      · intro w9 hw9; skip; go_simp; try with_reducible rfl
      simp only [Act.put, List.setIfInBounds_toArray, List.set_cons_zero, List.set_cons_succ]
      have G := G111000.out _ q2 W.heap.size q8 (HB.out.alloc HB.out.size _) ⟨H_q2.out.1.alloc _, H_q2.out.2⟩ ⟨Blk.new' rfl rfl, HB.out.size⟩ ⟨H_q8.out.1.alloc _, H_q8.out.2⟩ (Nat.ne_of_lt H_q2.out.1.lt) n_q2_q8 (Nat.ne_of_gt H_q8.out.1.lt)
      (try simp only [List.setIfInBounds_toArray, List.set_cons_zero, List.set_cons_succ] at G)
      exact G
    refine AllReadyH.cons (o := ({ dst := some 10, op := Op.alloc 25, type := 0, pos := "more.go:12", after := #[], guard := none } : Oper)) rfl (fun K hK => ?_) ?_
    · go_simp
      refine hK.out _ _ (HS9.out _ (HB.out.alloc HB.out.size _)) (fun hHeld => ?_)
      clear hK K
      (try simp only [Act.put, List.setIfInBounds_toArray, List.set_cons_zero, List.set_cons_succ])
      have G := G101100.out _ q2 q8 W.heap.size (HB.out.alloc HB.out.size _) ⟨H_q2.out.1.alloc _, H_q2.out.2⟩ ⟨H_q8.out.1.alloc _, H_q8.out.2⟩ ⟨Blk.new' rfl rfl, HB.out.size⟩ n_q2_q8 (Nat.ne_of_lt H_q2.out.1.lt) (Nat.ne_of_lt H_q8.out.1.lt)
      (try simp only [List.setIfInBounds_toArray, List.set_cons_zero, List.set_cons_succ] at G)
      exact G
    exact AllReadyH.nil
  have g100100 : ∀ (W : World) (q2 : Nat) (q9 : Nat), Below w2.heap.size w2 W → (Blk W q2 [.int .i64 x.kind, str x.text, .slice a0 n0 c0, .slice a1 n1 c1, .int .i64 x2.kind, str x2.text, .slice a2 n2 c2, .slice a3 n3 c3] 25 ∧ w2.heap.size ≤ q2) → (Blk W q9 [.int .i64 0, .string ⟨#[]⟩, .slice none 0 0, .slice none 0 0] 25 ∧ w2.heap.size ≤ q9) → q2 ≠ q9 → wpAnyH Tryd.prog .any O QQ SS 5 #[true, true, true, true, true, true, false, false, false, true, false, false] ⟨(((T.setIfInBounds 28 (.slice (some ⟨q2, 0, none⟩) 2 2)).setIfInBounds 29 (.agg #[.int .i64 3, .string ⟨#[]⟩, .slice none 0 0, .slice (some ⟨q2, 0, none⟩) 2 2])).setIfInBounds 10 (.pointer (some ⟨q9, 0, none⟩))), []⟩ W := by
    intro W q2 q9 hB h_q2 h_q9 n_q2_q9
    clear g111111 g111110 g111100 g101110 g111000 g011100 g110000 g101000
    subst hO
    subst hT
    have G110100 := hid g110100
    have G101100 := hid g101100
    clear g110100 g101100 hQQ
    have H_q2 := hid h_q2
    have H_q9 := hid h_q9
    have HB := hid hB
    have hHeld := HS9.out W hB
    clear hB h_q2 h_q9
    (try simp only [List.setIfInBounds_toArray, List.set_cons_zero, List.set_cons_succ])
    refine wpAnyH_ready (rs := [6, 8]) (by kernel_rfl) (by simp) ?_
    refine AllReadyH.cons (o := ({ dst := some 32, op := Op.buildSlice 23 2 #[(0, Operand.tmp 30), (1, Operand.tmp 31)], type := 23, pos := "more.go:12", after := #[{ on := 4, ground := Ground.data }, { on := 5, ground := Ground.data }, { on := 10, ground := Ground.gcOnly Departure.lateStores }], guard := none } : Oper)) rfl (fun K hK => ?_) ?_
    · go_simp
      refine hK.out _ _ (HS9.out _ (HB.out.alloc HB.out.size _)) (fun hHeld => ?_)
      clear hK K
      (try simp only [Act.put, List.setIfInBounds_toArray, List.set_cons_zero, List.set_cons_succ])
      refine wpAnyH_take (i := 7) (oi := ({ dst := some 33, op := Op.build 25 #[(0, Operand.const (Value.int IntKind.i64 4)), (3, Operand.tmp 32)], type := 25, pos := "more.go:12", after := #[{ on := 6, ground := Ground.data }, { on := 10, ground := Ground.gcOnly Departure.lateStores }], guard := none } : Oper)) (v := ?_) rfl (by kernel_rfl) (by kernel_rfl) (by kernel_rfl) (fun e a w h => HPAN.out e _ _ _ w h) (Or.inl ⟨by rfl, ?_⟩) hHeld ?_
      rotate_left 1
      · intro w9 hw9; skip; go_simp; try with_reducible rfl
      simp only [Act.put, List.setIfInBounds_toArray, List.set_cons_zero, List.set_cons_succ]
      have G := G110100.out _ q2 W.heap.size q9 (HB.out.alloc HB.out.size _) ⟨H_q2.out.1.alloc _, H_q2.out.2⟩ ⟨Blk.new' rfl rfl, HB.out.size⟩ ⟨H_q9.out.1.alloc _, H_q9.out.2⟩ (Nat.ne_of_lt H_q2.out.1.lt) n_q2_q9 (Nat.ne_of_gt H_q9.out.1.lt)
      (try simp only [List.setIfInBounds_toArray, List.set_cons_zero, List.set_cons_succ] at G)
      exact G
    refine AllReadyH.cons (o := ({ dst := some 9, op := Op.alloc 25, type := 0, pos := "more.go:12", after := #[], guard := none } : Oper)) rfl (fun K hK => ?_) ?_
    · go_simp
      refine hK.out _ _ (HS9.out _ (HB.out.alloc HB.out.size _)) (fun hHeld => ?_)
      clear hK K
      (try simp only [Act.put, List.setIfInBounds_toArray, List.set_cons_zero, List.set_cons_succ])
      have G := G101100.out _ q2 W.heap.size q9 (HB.out.alloc HB.out.size _) ⟨H_q2.out.1.alloc _, H_q2.out.2⟩ ⟨Blk.new' rfl rfl, HB.out.size⟩ ⟨H_q9.out.1.alloc _, H_q9.out.2⟩ (Nat.ne_of_lt H_q2.out.1.lt) n_q2_q9 (Nat.ne_of_gt H_q9.out.1.lt)
      (try simp only [List.setIfInBounds_toArray, List.set_cons_zero, List.set_cons_succ] at G)
      exact G
    exact AllReadyH.nil
  have g011000 : ∀ (W : World) (q6 : Nat) (q8 : Nat), Below w2.heap.size w2 W → (Blk W q6 [.int .i64 x.kind, str x.text, .slice a0 n0 c0, .slice a1 n1 c1, .int .i64 x2.kind, str x2.text, .slice a2 n2 c2, .slice a3 n3 c3] 25 ∧ w2.heap.size ≤ q6) → (Blk W q8 [.int .i64 0, .string ⟨#[]⟩, .slice none 0 0, .slice none 0 0] 25 ∧ w2.heap.size ≤ q8) → q6 ≠ q8 → wpAnyH Tryd.prog .any O QQ SS 5 #[true, true, false, false, true, true, true, true, true, false, false, false] ⟨(((T.setIfInBounds 32 (.slice (some ⟨q6, 0, none⟩) 2 2)).setIfInBounds 33 (.agg #[.int .i64 4, .string ⟨#[]⟩, .slice none 0 0, .slice (some ⟨q6, 0, none⟩) 2 2])).setIfInBounds 9 (.pointer (some ⟨q8, 0, none⟩))), []⟩ W := by
    intro W q6 q8 hB h_q6 h_q8 n_q6_q8
    clear g111111 g111110 g111100 g101110 g110100 g101100 g110000 g101000 g100100
    subst hO
    subst hT
    have G111000 := hid g111000
    have G011100 := hid g011100
    clear g111000 g011100 hQQ
    have H_q6 := hid h_q6
    have H_q8 := hid h_q8
    have HB := hid hB
    have hHeld := HS9.out W hB
    clear hB h_q6 h_q8
    (try simp only [List.setIfInBounds_toArray, List.set_cons_zero, List.set_cons_succ])
    refine wpAnyH_ready (rs := [2, 9]) (by kernel_rfl) (by simp) ?_
    refine AllReadyH.cons (o := ({ dst := some 28, op := Op.buildSlice 23 2 #[(0, Operand.tmp 26), (1, Operand.tmp 27)], type := 23, pos := "more.go:12", after := #[{ on := 0, ground := Ground.data }, { on := 1, ground := Ground.data }], guard := none } : Oper)) rfl (fun K hK => ?_) ?_
    · go_simp
      refine hK.out _ _ (HS9.out _ (HB.out.alloc HB.out.size _)) (fun hHeld => ?_)
      clear hK K
      (try simp only [Act.put, List.setIfInBounds_toArray, List.set_cons_zero, List.set_cons_succ])
      refine wpAnyH_take (i := 3) (oi := ({ dst := some 29, op := Op.build 25 #[(0, Operand.const (Value.int IntKind.i64 3)), (3, Operand.tmp 28)], type := 25, pos := "more.go:12", after := #[{ on := 2, ground := Ground.data }], guard := none } : Oper)) (v := ?_) rfl (by kernel_rfl) (by kernel_rfl) (by kernel_rfl) (fun e a w h => HPAN.out e _ _ _ w h) (Or.inl ⟨by rfl, ?_⟩) hHeld ?_
      rotate_left 1
      · intro w9 hw9; skip; go_simp; try with_reducible rfl
      simp only [Act.put, List.setIfInBounds_toArray, List.set_cons_zero, List.set_cons_succ]
      have G := G111000.out _ W.heap.size q6 q8 (HB.out.alloc HB.out.size _) ⟨Blk.new' rfl rfl, HB.out.size⟩ ⟨H_q6.out.1.alloc _, H_q6.out.2⟩ ⟨H_q8.out.1.alloc _, H_q8.out.2⟩ (Nat.ne_of_gt H_q6.out.1.lt) (Nat.ne_of_gt H_q8.out.1.lt) n_q6_q8
      (try simp only [List.setIfInBounds_toArray, List.set_cons_zero, List.set_cons_succ] at G)
      exact G
    refine AllReadyH.cons (o := ({ dst := some 10, op := Op.alloc 25, type := 0, pos := "more.go:12", after := #[], guard := none } : Oper)) rfl (fun K hK => ?_) ?_
    · go_simp
      refine hK.out _ _ (HS9.out _ (HB.out.alloc HB.out.size _)) (fun hHeld => ?_)
      clear hK K
      (try simp only [Act.put, List.setIfInBounds_toArray, List.set_cons_zero, List.set_cons_succ])
      have G := G011100.out _ q6 q8 W.heap.size (HB.out.alloc HB.out.size _) ⟨H_q6.out.1.alloc _, H_q6.out.2⟩ ⟨H_q8.out.1.alloc _, H_q8.out.2⟩ ⟨Blk.new' rfl rfl, HB.out.size⟩ n_q6_q8 (Nat.ne_of_lt H_q6.out.1.lt) (Nat.ne_of_lt H_q8.out.1.lt)
      (try simp only [List.setIfInBounds_toArray, List.set_cons_zero, List.set_cons_succ] at G)
      exact G
    exact AllReadyH.nil
  have g010100 : ∀ (W : World) (q6 : Nat) (q9 : Nat), Below w2.heap.size w2 W → (Blk W q6 [.int .i64 x.kind, str x.text, .slice a0 n0 c0, .slice a1 n1 c1, .int .i64 x2.kind, str x2.text, .slice a2 n2 c2, .slice a3 n3 c3] 25 ∧ w2.heap.size ≤ q6) → (Blk W q9 [.int .i64 0, .string ⟨#[]⟩, .slice none 0 0, .slice none 0 0] 25 ∧ w2.heap.size ≤ q9) → q6 ≠ q9 → wpAnyH Tryd.prog .any O QQ SS 5 #[true, true, false, false, true, true, true, true, false, true, false, false] ⟨(((T.setIfInBounds 32 (.slice (some ⟨q6, 0, none⟩) 2 2)).setIfInBounds 33 (.agg #[.int .i64 4, .string ⟨#[]⟩, .slice none 0 0, .slice (some ⟨q6, 0, none⟩) 2 2])).setIfInBounds 10 (.pointer (some ⟨q9, 0, none⟩))), []⟩ W := by
    intro W q6 q9 hB h_q6 h_q9 n_q6_q9
    clear g111111 g111110 g111100 g101110 g111000 g101100 g110000 g101000 g100100 g011000
    subst hO
    subst hT
    have G110100 := hid g110100
    have G011100 := hid g011100
    clear g110100 g011100 hQQ
    have H_q6 := hid h_q6
    have H_q9 := hid h_q9
    have HB := hid hB
    have hHeld := HS9.out W hB
    clear hB h_q6 h_q9
    (try simp only [List.setIfInBounds_toArray, List.set_cons_zero, List.set_cons_succ])
    refine wpAnyH_ready (rs := [2, 8]) (by kernel_rfl) (by simp) ?_
    refine AllReadyH.cons (o := ({ dst := some 28, op := Op.buildSlice 23 2 #[(0, Operand.tmp 26), (1, Operand.tmp 27)], type := 23, pos := "more.go:12", after := #[{ on := 0, ground := Ground.data }, { on := 1, ground := Ground.data }], guard := none } : Oper)) rfl (fun K hK => ?_) ?_
    · go_simp
      refine hK.out _ _ (HS9.out _ (HB.out.alloc HB.out.size _)) (fun hHeld => ?_)
      clear hK K
      (try simp only [Act.put, List.setIfInBounds_toArray, List.set_cons_zero, List.set_cons_succ])
      refine wpAnyH_take (i := 3) (oi := ({ dst := some 29, op := Op.build 25 #[(0, Operand.const (Value.int IntKind.i64 3)), (3, Operand.tmp 28)], type := 25, pos := "more.go:12", after := #[{ on := 2, ground := Ground.data }], guard := none } : Oper)) (v := ?_) rfl (by kernel_rfl) (by kernel_rfl) (by kernel_rfl) (fun e a w h => HPAN.out e _ _ _ w h) (Or.inl ⟨by rfl, ?_⟩) hHeld ?_
      rotate_left 1
      · intro w9 hw9; skip; go_simp; try with_reducible rfl
      simp only [Act.put, List.setIfInBounds_toArray, List.set_cons_zero, List.set_cons_succ]
      have G := G110100.out _ W.heap.size q6 q9 (HB.out.alloc HB.out.size _) ⟨Blk.new' rfl rfl, HB.out.size⟩ ⟨H_q6.out.1.alloc _, H_q6.out.2⟩ ⟨H_q9.out.1.alloc _, H_q9.out.2⟩ (Nat.ne_of_gt H_q6.out.1.lt) (Nat.ne_of_gt H_q9.out.1.lt) n_q6_q9
      (try simp only [List.setIfInBounds_toArray, List.set_cons_zero, List.set_cons_succ] at G)
      exact G
    refine AllReadyH.cons (o := ({ dst := some 9, op := Op.alloc 25, type := 0, pos := "more.go:12", after := #[], guard := none } : Oper)) rfl (fun K hK => ?_) ?_
    · go_simp
      refine hK.out _ _ (HS9.out _ (HB.out.alloc HB.out.size _)) (fun hHeld => ?_)
      clear hK K
      (try simp only [Act.put, List.setIfInBounds_toArray, List.set_cons_zero, List.set_cons_succ])
      have G := G011100.out _ q6 W.heap.size q9 (HB.out.alloc HB.out.size _) ⟨H_q6.out.1.alloc _, H_q6.out.2⟩ ⟨Blk.new' rfl rfl, HB.out.size⟩ ⟨H_q9.out.1.alloc _, H_q9.out.2⟩ (Nat.ne_of_lt H_q6.out.1.lt) n_q6_q9 (Nat.ne_of_gt H_q9.out.1.lt)
      (try simp only [List.setIfInBounds_toArray, List.set_cons_zero, List.set_cons_succ] at G)
      exact G
    exact AllReadyH.nil
  have g001100 : ∀ (W : World) (q8 : Nat) (q9 : Nat), Below w2.heap.size w2 W → (Blk W q8 [.int .i64 0, .string ⟨#[]⟩, .slice none 0 0, .slice none 0 0] 25 ∧ w2.heap.size ≤ q8) → (Blk W q9 [.int .i64 0, .string ⟨#[]⟩, .slice none 0 0, .slice none 0 0] 25 ∧ w2.heap.size ≤ q9) → q8 ≠ q9 → wpAnyH Tryd.prog .any O QQ SS 6 #[true, true, false, false, true, true, false, false, true, true, false, false] ⟨((T.setIfInBounds 9 (.pointer (some ⟨q8, 0, none⟩))).setIfInBounds 10 (.pointer (some ⟨q9, 0, none⟩))), []⟩ W := by
    intro W q8 q9 hB h_q8 h_q9 n_q8_q9
    clear g111111 g111110 g111100 g101110 g111000 g110100 g110000 g101000 g100100 g011000 g010100
    subst hO
    subst hT
    have G101100 := hid g101100
    have G011100 := hid g011100
    clear g101100 g011100 hQQ
    have H_q8 := hid h_q8
    have H_q9 := hid h_q9
    have HB := hid hB
    have hHeld := HS9.out W hB
    clear hB h_q8 h_q9
    (try simp only [List.setIfInBounds_toArray, List.set_cons_zero, List.set_cons_succ])
    refine wpAnyH_ready (rs := [2, 6]) (by kernel_rfl) (by simp) ?_
    refine AllReadyH.cons (o := ({ dst := some 28, op := Op.buildSlice 23 2 #[(0, Operand.tmp 26), (1, Operand.tmp 27)], type := 23, pos := "more.go:12", after := #[{ on := 0, ground := Ground.data }, { on := 1, ground := Ground.data }], guard := none } : Oper)) rfl (fun K hK => ?_) ?_
    · go_simp
      refine hK.out _ _ (HS9.out _ (HB.out.alloc HB.out.size _)) (fun hHeld => ?_)
      clear hK K
      (try simp only [Act.put, List.setIfInBounds_toArray, List.set_cons_zero, List.set_cons_succ])
      refine wpAnyH_take (i := 3) (oi := ({ dst := some 29, op := Op.build 25 #[(0, Operand.const (Value.int IntKind.i64 3)), (3, Operand.tmp 28)], type := 25, pos := "more.go:12", after := #[{ on := 2, ground := Ground.data }], guard := none } : Oper)) (v := ?_) rfl (by kernel_rfl) (by kernel_rfl) (by kernel_rfl) (fun e a w h => HPAN.out e _ _ _ w h) (Or.inl ⟨by rfl, ?_⟩) hHeld ?_
      rotate_left 1
      · intro w9 hw9; skip; go_simp; try with_reducible rfl
      simp only [Act.put, List.setIfInBounds_toArray, List.set_cons_zero, List.set_cons_succ]
      have G := G101100.out _ W.heap.size q8 q9 (HB.out.alloc HB.out.size _) ⟨Blk.new' rfl rfl, HB.out.size⟩ ⟨H_q8.out.1.alloc _, H_q8.out.2⟩ ⟨H_q9.out.1.alloc _, H_q9.out.2⟩ (Nat.ne_of_gt H_q8.out.1.lt) (Nat.ne_of_gt H_q9.out.1.lt) n_q8_q9
      (try simp only [List.setIfInBounds_toArray, List.set_cons_zero, List.set_cons_succ] at G)
      exact G
    refine AllReadyH.cons (o := ({ dst := some 32, op := Op.buildSlice 23 2 #[(0, Operand.tmp 30), (1, Operand.tmp 31)], type := 23, pos := "more.go:12", after := #[{ on := 4, ground := Ground.data }, { on := 5, ground := Ground.data }, { on := 10, ground := Ground.gcOnly Departure.lateStores }], guard := none } : Oper)) rfl (fun K hK => ?_) ?_
    · go_simp
      refine hK.out _ _ (HS9.out _ (HB.out.alloc HB.out.size _)) (fun hHeld => ?_)
      clear hK K
      (try simp only [Act.put, List.setIfInBounds_toArray, List.set_cons_zero, List.set_cons_succ])
      refine wpAnyH_take (i := 7) (oi := ({ dst := some 33, op := Op.build 25 #[(0, Operand.const (Value.int IntKind.i64 4)), (3, Operand.tmp 32)], type := 25, pos := "more.go:12", after := #[{ on := 6, ground := Ground.data }, { on := 10, ground := Ground.gcOnly Departure.lateStores }], guard := none } : Oper)) (v := ?_) rfl (by kernel_rfl) (by kernel_rfl) (by kernel_rfl) (fun e a w h => HPAN.out e _ _ _ w h) (Or.inl ⟨by rfl, ?_⟩) hHeld ?_
      rotate_left 1
      · intro w9 hw9; skip; go_simp; try with_reducible rfl
      simp only [Act.put, List.setIfInBounds_toArray, List.set_cons_zero, List.set_cons_succ]
      have G := G011100.out _ W.heap.size q8 q9 (HB.out.alloc HB.out.size _) ⟨Blk.new' rfl rfl, HB.out.size⟩ ⟨H_q8.out.1.alloc _, H_q8.out.2⟩ ⟨H_q9.out.1.alloc _, H_q9.out.2⟩ (Nat.ne_of_gt H_q8.out.1.lt) (Nat.ne_of_gt H_q9.out.1.lt) n_q8_q9
      (try simp only [List.setIfInBounds_toArray, List.set_cons_zero, List.set_cons_succ] at G)
      exact G
    exact AllReadyH.nil
  have g100000 : ∀ (W : World) (q2 : Nat), Below w2.heap.size w2 W → (Blk W q2 [.int .i64 x.kind, str x.text, .slice a0 n0 c0, .slice a1 n1 c1, .int .i64 x2.kind, str x2.text, .slice a2 n2 c2, .slice a3 n3 c3] 25 ∧ w2.heap.size ≤ q2) → wpAnyH Tryd.prog .any O QQ SS 6 #[true, true, true, true, true, true, false, false, false, false, false, false] ⟨((T.setIfInBounds 28 (.slice (some ⟨q2, 0, none⟩) 2 2)).setIfInBounds 29 (.agg #[.int .i64 3, .string ⟨#[]⟩, .slice none 0 0, .slice (some ⟨q2, 0, none⟩) 2 2])), []⟩ W := by
    intro W q2 hB h_q2
    clear g111111 g111110 g111100 g101110 g111000 g110100 g101100 g011100 g011000 g010100 g001100
    subst hO
    subst hT
    have G110000 := hid g110000
    have G101000 := hid g101000
    have G100100 := hid g100100
    clear g110000 g101000 g100100 hQQ
    have H_q2 := hid h_q2
    have HB := hid hB
    have hHeld := HS9.out W hB
    clear hB h_q2
    (try simp only [List.setIfInBounds_toArray, List.set_cons_zero, List.set_cons_succ])
    refine wpAnyH_ready (rs := [6, 8, 9]) (by kernel_rfl) (by simp) ?_
    refine AllReadyH.cons (o := ({ dst := some 32, op := Op.buildSlice 23 2 #[(0, Operand.tmp 30), (1, Operand.tmp 31)], type := 23, pos := "more.go:12", after := #[{ on := 4, ground := Ground.data }, { on := 5, ground := Ground.data }, { on := 10, ground := Ground.gcOnly Departure.lateStores }], guard := none } : Oper)) rfl (fun K hK => ?_) ?_
    · go_simp
      refine hK.out _ _ (HS9.out _ (HB.out.alloc HB.out.size _)) (fun hHeld => ?_)
      clear hK K
      (try simp only [Act.put, List.setIfInBounds_toArray, List.set_cons_zero, List.set_cons_succ])
      refine wpAnyH_take (i := 7) (oi := ({ dst := some 33, op := Op.build 25 #[(0, Operand.const (Value.int IntKind.i64 4)), (3, Operand.tmp 32)], type := 25, pos := "more.go:12", after := #[{ on := 6, ground := Ground.data }, { on := 10, ground := Ground.gcOnly Departure.lateStores }], guard := none } : Oper)) (v := ?_) rfl (by kernel_rfl) (by kernel_rfl) (by kernel_rfl) (fun e a w h => HPAN.out e _ _ _ w h) (Or.inl ⟨by rfl, ?_⟩) hHeld ?_
      rotate_left 1
      · intro w9 hw9; skip; go_simp; try with_reducible rfl
      simp only [Act.put, List.setIfInBounds_toArray, List.set_cons_zero, List.set_cons_succ]
      have G := G110000.out _ q2 W.heap.size (HB.out.alloc HB.out.size _) ⟨H_q2.out.1.alloc _, H_q2.out.2⟩ ⟨Blk.new' rfl rfl, HB.out.size⟩ (Nat.ne_of_lt H_q2.out.1.lt)
      (try simp only [List.setIfInBounds_toArray, List.set_cons_zero, List.set_cons_succ] at G)
      exact G
    refine AllReadyH.cons (o := ({ dst := some 9, op := Op.alloc 25, type := 0, pos := "more.go:12", after := #[], guard := none } : Oper)) rfl (fun K hK => ?_) ?_
    · go_simp
      refine hK.out _ _ (HS9.out _ (HB.out.alloc HB.out.size _)) (fun hHeld => ?_)
      clear hK K
      (try simp only [Act.put, List.setIfInBounds_toArray, List.set_cons_zero, List.set_cons_succ])
      have G := G101000.out _ q2 W.heap.size (HB.out.alloc HB.out.size _) ⟨H_q2.out.1.alloc _, H_q2.out.2⟩ ⟨Blk.new' rfl rfl, HB.out.size⟩ (Nat.ne_of_lt H_q2.out.1.lt)
      (try simp only [List.setIfInBounds_toArray, List.set_cons_zero, List.set_cons_succ] at G)
      exact G
    refine AllReadyH.cons (o := ({ dst := some 10, op := Op.alloc 25, type := 0, pos := "more.go:12", after := #[], guard := none } : Oper)) rfl (fun K hK => ?_) ?_
    · go_simp
      refine hK.out _ _ (HS9.out _ (HB.out.alloc HB.out.size _)) (fun hHeld => ?_)
      clear hK K
      (try simp only [Act.put, List.setIfInBounds_toArray, List.set_cons_zero, List.set_cons_succ])
      have G := G100100.out _ q2 W.heap.size (HB.out.alloc HB.out.size _) ⟨H_q2.out.1.alloc _, H_q2.out.2⟩ ⟨Blk.new' rfl rfl, HB.out.size⟩ (Nat.ne_of_lt H_q2.out.1.lt)
      (try simp only [List.setIfInBounds_toArray, List.set_cons_zero, List.set_cons_succ] at G)
      exact G
    exact AllReadyH.nil
  have g010000 : ∀ (W : World) (q6 : Nat), Below w2.heap.size w2 W → (Blk W q6 [.int .i64 x.kind, str x.text, .slice a0 n0 c0, .slice a1 n1 c1, .int .i64 x2.kind, str x2.text, .slice a2 n2 c2, .slice a3 n3 c3] 25 ∧ w2.heap.size ≤ q6) → wpAnyH Tryd.prog .any O QQ SS 6 #[true, true, false, false, true, true, true, true, false, false, false, false] ⟨((T.setIfInBounds 32 (.slice (some ⟨q6, 0, none⟩) 2 2)).setIfInBounds 33 (.agg #[.int .i64 4, .string ⟨#[]⟩, .slice none 0 0, .slice (some ⟨q6, 0, none⟩) 2 2])), []⟩ W := by
    intro W q6 hB h_q6
    clear g111111 g111110 g111100 g101110 g111000 g110100 g101100 g011100 g101000 g100100 g001100 g100000
    subst hO
    subst hT
    have G110000 := hid g110000
    have G011000 := hid g011000
    have G010100 := hid g010100
    clear g110000 g011000 g010100 hQQ
    have H_q6 := hid h_q6
    have HB := hid hB
    have hHeld := HS9.out W hB
    clear hB h_q6
    (try simp only [List.setIfInBounds_toArray, List.set_cons_zero, List.set_cons_succ])
    refine wpAnyH_ready (rs := [2, 8, 9]) (by kernel_rfl) (by simp) ?_
    refine AllReadyH.cons (o := ({ dst := some 28, op := Op.buildSlice 23 2 #[(0, Operand.tmp 26), (1, Operand.tmp 27)], type := 23, pos := "more.go:12", after := #[{ on := 0, ground := Ground.data }, { on := 1, ground := Ground.data }], guard := none } : Oper)) rfl (fun K hK => ?_) ?_
    · go_simp
      refine hK.out _ _ (HS9.out _ (HB.out.alloc HB.out.size _)) (fun hHeld => ?_)
      clear hK K
      (try simp only [Act.put, List.setIfInBounds_toArray, List.set_cons_zero, List.set_cons_succ])
      refine wpAnyH_take (i := 3) (oi := ({ dst := some 29, op := Op.build 25 #[(0, Operand.const (Value.int IntKind.i64 3)), (3, Operand.tmp 28)], type := 25, pos := "more.go:12", after := #[{ on := 2, ground := Ground.data }], guard := none } : Oper)) (v := ?_) rfl (by kernel_rfl) (by kernel_rfl) (by kernel_rfl) (fun e a w h => HPAN.out e _ _ _ w h) (Or.inl ⟨by rfl, ?_⟩) hHeld ?_
      rotate_left 1
      · intro w9 hw9; skip; go_simp; try with_reducible rfl
      simp only [Act.put, List.setIfInBounds_toArray, List.set_cons_zero, List.set_cons_succ]
      have G := G110000.out _ W.heap.size q6 (HB.out.alloc HB.out.size _) ⟨Blk.new' rfl rfl, HB.out.size⟩ ⟨H_q6.out.1.alloc _, H_q6.out.2⟩ (Nat.ne_of_gt H_q6.out.1.lt)
      (try simp only [List.setIfInBounds_toArray, List.set_cons_zero, List.set_cons_succ] at G)
      exact G
    refine AllReadyH.cons (o := ({ dst := some 9, op := Op.alloc 25, type := 0, pos := "more.go:12", after := #[], guard := none } : Oper)) rfl (fun K hK => ?_) ?_
    · go_simp
      refine hK.out _ _ (HS9.out _ (HB.out.alloc HB.out.size _)) (fun hHeld => ?_)
      clear hK K
      (try simp only [Act.put, List.setIfInBounds_toArray, List.set_cons_zero, List.set_cons_succ])
      have G := G011000.out _ q6 W.heap.size (HB.out.alloc HB.out.size _) ⟨H_q6.out.1.alloc _, H_q6.out.2⟩ ⟨Blk.new' rfl rfl, HB.out.size⟩ (Nat.ne_of_lt H_q6.out.1.lt)
      (try simp only [List.setIfInBounds_toArray, List.set_cons_zero, List.set_cons_succ] at G)
      exact G
    refine AllReadyH.cons (o := ({ dst := some 10, op := Op.alloc 25, type := 0, pos := "more.go:12", after := #[], guard := none } : Oper)) rfl (fun K hK => ?_) ?_
    · go_simp
      refine hK.out _ _ (HS9.out _ (HB.out.alloc HB.out.size _)) (fun hHeld => ?_)
      clear hK K
      (try simp only [Act.put, List.setIfInBounds_toArray, List.set_cons_zero, List.set_cons_succ])
      have G := G010100.out _ q6 W.heap.size (HB.out.alloc HB.out.size _) ⟨H_q6.out.1.alloc _, H_q6.out.2⟩ ⟨Blk.new' rfl rfl, HB.out.size⟩ (Nat.ne_of_lt H_q6.out.1.lt)
      (try simp only [List.setIfInBounds_toArray, List.set_cons_zero, List.set_cons_succ] at G)
      exact G
    exact AllReadyH.nil
  have g001000 : ∀ (W : World) (q8 : Nat), Below w2.heap.size w2 W → (Blk W q8 [.int .i64 0, .string ⟨#[]⟩, .slice none 0 0, .slice none 0 0] 25 ∧ w2.heap.size ≤ q8) → wpAnyH Tryd.prog .any O QQ SS 7 #[true, true, false, false, true, true, false, false, true, false, false, false] ⟨(T.setIfInBounds 9 (.pointer (some ⟨q8, 0, none⟩))), []⟩ W := by
    intro W q8 hB h_q8
    clear g111111 g111110 g111100 g101110 g111000 g110100 g101100 g011100 g110000 g100100 g010100 g100000 g010000
    subst hO
    subst hT
    have G101000 := hid g101000
    have G011000 := hid g011000
    have G001100 := hid g001100
    clear g101000 g011000 g001100 hQQ
    have H_q8 := hid h_q8
    have HB := hid hB
    have hHeld := HS9.out W hB
    clear hB h_q8
    (try simp only [List.setIfInBounds_toArray, List.set_cons_zero, List.set_cons_succ])
    refine wpAnyH_ready (rs := [2, 6, 9]) (by kernel_rfl) (by simp) ?_
    refine AllReadyH.cons (o := ({ dst := some 28, op := Op.buildSlice 23 2 #[(0, Operand.tmp 26), (1, Operand.tmp 27)], type := 23, pos := "more.go:12", after := #[{ on := 0, ground := Ground.data }, { on := 1, ground := Ground.data }], guard := none } : Oper)) rfl (fun K hK => ?_) ?_
    · go_simp
      refine hK.out _ _ (HS9.out _ (HB.out.alloc HB.out.size _)) (fun hHeld => ?_)
      clear hK K
      (try simp only [Act.put, List.setIfInBounds_toArray, List.set_cons_zero, List.set_cons_succ])
      refine wpAnyH_take (i := 3) (oi := ({ dst := some 29, op := Op.build 25 #[(0, Operand.const (Value.int IntKind.i64 3)), (3, Operand.tmp 28)], type := 25, pos := "more.go:12", after := #[{ on := 2, ground := Ground.data }], guard := none } : Oper)) (v := ?_) rfl (by kernel_rfl) (by kernel_rfl) (by kernel_rfl) (fun e a w h => HPAN.out e _ _ _ w h) (Or.inl ⟨by rfl, ?_⟩) hHeld ?_
      rotate_left 1
      · intro w9 hw9; skip; go_simp; try with_reducible rfl
      simp only [Act.put, List.setIfInBounds_toArray, List.set_cons_zero, List.set_cons_succ]
      have G := G101000.out _ W.heap.size q8 (HB.out.alloc HB.out.size _) ⟨Blk.new' rfl rfl, HB.out.size⟩ ⟨H_q8.out.1.alloc _, H_q8.out.2⟩ (Nat.ne_of_gt H_q8.out.1.lt)
      (try simp only [List.setIfInBounds_toArray, List.set_cons_zero, List.set_cons_succ] at G)
      exact G
    refine AllReadyH.cons (o := ({ dst := some 32, op := Op.buildSlice 23 2 #[(0, Operand.tmp 30), (1, Operand.tmp 31)], type := 23, pos := "more.go:12", after := #[{ on := 4, ground := Ground.data }, { on := 5, ground := Ground.data }, { on := 10, ground := Ground.gcOnly Departure.lateStores }], guard := none } : Oper)) rfl (fun K hK => ?_) ?_
    · go_simp
      refine hK.out _ _ (HS9.out _ (HB.out.alloc HB.out.size _)) (fun hHeld => ?_)
      clear hK K
      (try simp only [Act.put, List.setIfInBounds_toArray, List.set_cons_zero, List.set_cons_succ])
      refine wpAnyH_take (i := 7) (oi := ({ dst := some 33, op := Op.build 25 #[(0, Operand.const (Value.int IntKind.i64 4)), (3, Operand.tmp 32)], type := 25, pos := "more.go:12", after := #[{ on := 6, ground := Ground.data }, { on := 10, ground := Ground.gcOnly Departure.lateStores }], guard := none } : Oper)) (v := ?_) rfl (by kernel_rfl) (by kernel_rfl) (by kernel_rfl) (fun e a w h => HPAN.out e _ _ _ w h) (Or.inl ⟨by rfl, ?_⟩) hHeld ?_
      rotate_left 1
      · intro w9 hw9; skip; go_simp; try with_reducible rfl
      simp only [Act.put, List.setIfInBounds_toArray, List.set_cons_zero, List.set_cons_succ]
      have G := G011000.out _ W.heap.size q8 (HB.out.alloc HB.out.size _) ⟨Blk.new' rfl rfl, HB.out.size⟩ ⟨H_q8.out.1.alloc _, H_q8.out.2⟩ (Nat.ne_of_gt H_q8.out.1.lt)
      (try simp only [List.setIfInBounds_toArray, List.set_cons_zero, List.set_cons_succ] at G)
      exact G
    refine AllReadyH.cons (o := ({ dst := some 10, op := Op.alloc 25, type := 0, pos := "more.go:12", after := #[], guard := none } : Oper)) rfl (fun K hK => ?_) ?_
    · go_simp
      refine hK.out _ _ (HS9.out _ (HB.out.alloc HB.out.size _)) (fun hHeld => ?_)
      clear hK K
      (try simp only [Act.put, List.setIfInBounds_toArray, List.set_cons_zero, List.set_cons_succ])
      have G := G001100.out _ q8 W.heap.size (HB.out.alloc HB.out.size _) ⟨H_q8.out.1.alloc _, H_q8.out.2⟩ ⟨Blk.new' rfl rfl, HB.out.size⟩ (Nat.ne_of_lt H_q8.out.1.lt)
      (try simp only [List.setIfInBounds_toArray, List.set_cons_zero, List.set_cons_succ] at G)
      exact G
    exact AllReadyH.nil
  have g000100 : ∀ (W : World) (q9 : Nat), Below w2.heap.size w2 W → (Blk W q9 [.int .i64 0, .string ⟨#[]⟩, .slice none 0 0, .slice none 0 0] 25 ∧ w2.heap.size ≤ q9) → wpAnyH Tryd.prog .any O QQ SS 7 #[true, true, false, false, true, true, false, false, false, true, false, false] ⟨(T.setIfInBounds 10 (.pointer (some ⟨q9, 0, none⟩))), []⟩ W := by
    intro W q9 hB h_q9
    clear g111111 g111110 g111100 g101110 g111000 g110100 g101100 g011100 g110000 g101000 g011000 g100000 g010000 g001000
    subst hO
    subst hT
    have G100100 := hid g100100
    have G010100 := hid g010100
    have G001100 := hid g001100
    clear g100100 g010100 g001100 hQQ
    have H_q9 := hid h_q9
    have HB := hid hB
    have hHeld := HS9.out W hB
    clear hB h_q9
    (try simp only [List.setIfInBounds_toArray, List.set_cons_zero, List.set_cons_succ])
    refine wpAnyH_ready (rs := [2, 6, 8]) (by kernel_rfl) (by simp) ?_
    refine AllReadyH.cons (o := ({ dst := some 28, op := Op.buildSlice 23 2 #[(0, Operand.tmp 26), (1, Operand.tmp 27)], type := 23, pos := "more.go:12", after := #[{ on := 0, ground := Ground.data }, { on := 1, ground := Ground.data }], guard := none } : Oper)) rfl (fun K hK => ?_) ?_
    · go_simp
      refine hK.out _ _ (HS9.out _ (HB.out.alloc HB.out.size _)) (fun hHeld => ?_)
      clear hK K
      (try simp only [Act.put, List.setIfInBounds_toArray, List.set_cons_zero, List.set_cons_succ])
      refine wpAnyH_take (i := 3) (oi := ({ dst := some 29, op := Op.build 25 #[(0, Operand.const (Value.int IntKind.i64 3)), (3, Operand.tmp 28)], type := 25, pos := "more.go:12", after := #[{ on := 2, ground := Ground.data }], guard := none } : Oper)) (v := ?_) rfl (by kernel_rfl) (by kernel_rfl) (by kernel_rfl) (fun e a w h => HPAN.out e _ _ _ w h) (Or.inl ⟨by rfl, ?_⟩) hHeld ?_
      rotate_left 1
      · intro w9 hw9; skip; go_simp; try with_reducible rfl
      simp only [Act.put, List.setIfInBounds_toArray, List.set_cons_zero, List.set_cons_succ]
      have G := G100100.out _ W.heap.size q9 (HB.out.alloc HB.out.size _) ⟨Blk.new' rfl rfl, HB.out.size⟩ ⟨H_q9.out.1.alloc _, H_q9.out.2⟩ (Nat.ne_of_gt H_q9.out.1.lt)
      (try simp only [List.setIfInBounds_toArray, List.set_cons_zero, List.set_cons_succ] at G)
      exact G
    refine AllReadyH.cons (o := ({ dst := some 32, op := Op.buildSlice 23 2 #[(0, Operand.tmp 30), (1, Operand.tmp 31)], type := 23, pos := "more.go:12", after := #[{ on := 4, ground := Ground.data }, { on := 5, ground := Ground.data }, { on := 10, ground := Ground.gcOnly Departure.lateStores }], guard := none } : Oper)) rfl (fun K hK => ?_) ?_
    · go_simp
      refine hK.out _ _ (HS9.out _ (HB.out.alloc HB.out.size _)) (fun hHeld => ?_)
      clear hK K
      (try simp only [Act.put, List.setIfInBounds_toArray, List.set_cons_zero, List.set_cons_succ])
      refine wpAnyH_take (i := 7) (oi := ({ dst := some 33, op := Op.build 25 #[(0, Operand.const (Value.int IntKind.i64 4)), (3, Operand.tmp 32)], type := 25, pos := "more.go:12", after := #[{ on := 6, ground := Ground.data }, { on := 10, ground := Ground.gcOnly Departure.lateStores }], guard := none } : Oper)) (v := ?_) rfl (by kernel_rfl) (by kernel_rfl) (by kernel_rfl) (fun e a w h => HPAN.out e _ _ _ w h) (Or.inl ⟨by rfl, ?_⟩) hHeld ?_
      rotate_left 1
      · intro w9 hw9; skip; go_simp; try with_reducible rfl
      simp only [Act.put, List.setIfInBounds_toArray, List.set_cons_zero, List.set_cons_succ]
      have G := G010100.out _ W.heap.size q9 (HB.out.alloc HB.out.size _) ⟨Blk.new' rfl rfl, HB.out.size⟩ ⟨H_q9.out.1.alloc _, H_q9.out.2⟩ (Nat.ne_of_gt H_q9.out.1.lt)
      (try simp only [List.setIfInBounds_toArray, List.set_cons_zero, List.set_cons_succ] at G)
      exact G
    refine AllReadyH.cons (o := ({ dst := some 9, op := Op.alloc 25, type := 0, pos := "more.go:12", after := #[], guard := none } : Oper)) rfl (fun K hK => ?_) ?_
    · go_simp
      refine hK.out _ _ (HS9.out _ (HB.out.alloc HB.out.size _)) (fun hHeld => ?_)
      clear hK K
      (try simp only [Act.put, List.setIfInBounds_toArray, List.set_cons_zero, List.set_cons_succ])
      have G := G001100.out _ W.heap.size q9 (HB.out.alloc HB.out.size _) ⟨Blk.new' rfl rfl, HB.out.size⟩ ⟨H_q9.out.1.alloc _, H_q9.out.2⟩ (Nat.ne_of_gt H_q9.out.1.lt)
      (try simp only [List.setIfInBounds_toArray, List.set_cons_zero, List.set_cons_succ] at G)
      exact G
    exact AllReadyH.nil
  have g000000 : ∀ (W : World), Below w2.heap.size w2 W → wpAnyH Tryd.prog .any O QQ SS 8 #[true, true, false, false, true, true, false, false, false, false, false, false] ⟨T, []⟩ W := by
    intro W hB
    clear g111111 g111110 g111100 g101110 g111000 g110100 g101100 g011100 g110000 g101000 g100100 g011000 g010100 g001100
    subst hO
    subst hT
    have G100000 := hid g100000
    have G010000 := hid g010000
    have G001000 := hid g001000
    have G000100 := hid g000100
    clear g100000 g010000 g001000 g000100 hQQ
    have HB := hid hB
    have hHeld := HS9.out W hB
    clear hB 
    (try simp only [List.setIfInBounds_toArray, List.set_cons_zero, List.set_cons_succ])
    refine wpAnyH_ready (rs := [2, 6, 8, 9]) (by kernel_rfl) (by simp) ?_
    refine AllReadyH.cons (o := ({ dst := some 28, op := Op.buildSlice 23 2 #[(0, Operand.tmp 26), (1, Operand.tmp 27)], type := 23, pos := "more.go:12", after := #[{ on := 0, ground := Ground.data }, { on := 1, ground := Ground.data }], guard := none } : Oper)) rfl (fun K hK => ?_) ?_
    · go_simp
      refine hK.out _ _ (HS9.out _ (HB.out.alloc HB.out.size _)) (fun hHeld => ?_)
      clear hK K
      (try simp only [Act.put, List.setIfInBounds_toArray, List.set_cons_zero, List.set_cons_succ])
      refine wpAnyH_take (i := 3) (oi := ({ dst := some 29, op := Op.build 25 #[(0, Operand.const (Value.int IntKind.i64 3)), (3, Operand.tmp 28)], type := 25, pos := "more.go:12", after := #[{ on := 2, ground := Ground.data }], guard := none } : Oper)) (v := ?_) rfl (by kernel_rfl) (by kernel_rfl) (by kernel_rfl) (fun e a w h => HPAN.out e _ _ _ w h) (Or.inl ⟨by rfl, ?_⟩) hHeld ?_
      rotate_left 1
      · intro w9 hw9; skip; go_simp; try with_reducible rfl
      simp only [Act.put, List.setIfInBounds_toArray, List.set_cons_zero, List.set_cons_succ]
      have G := G100000.out _ W.heap.size (HB.out.alloc HB.out.size _) ⟨Blk.new' rfl rfl, HB.out.size⟩
      (try simp only [List.setIfInBounds_toArray, List.set_cons_zero, List.set_cons_succ] at G)
      exact G
    refine AllReadyH.cons (o := ({ dst := some 32, op := Op.buildSlice 23 2 #[(0, Operand.tmp 30), (1, Operand.tmp 31)], type := 23, pos := "more.go:12", after := #[{ on := 4, ground := Ground.data }, { on := 5, ground := Ground.data }, { on := 10, ground := Ground.gcOnly Departure.lateStores }], guard := none } : Oper)) rfl (fun K hK => ?_) ?_
    · go_simp
      refine hK.out _ _ (HS9.out _ (HB.out.alloc HB.out.size _)) (fun hHeld => ?_)
      clear hK K
      (try simp only [Act.put, List.setIfInBounds_toArray, List.set_cons_zero, List.set_cons_succ])
      refine wpAnyH_take (i := 7) (oi := ({ dst := some 33, op := Op.build 25 #[(0, Operand.const (Value.int IntKind.i64 4)), (3, Operand.tmp 32)], type := 25, pos := "more.go:12", after := #[{ on := 6, ground := Ground.data }, { on := 10, ground := Ground.gcOnly Departure.lateStores }], guard := none } : Oper)) (v := ?_) rfl (by kernel_rfl) (by kernel_rfl) (by kernel_rfl) (fun e a w h => HPAN.out e _ _ _ w h) (Or.inl ⟨by rfl, ?_⟩) hHeld ?_
      rotate_left 1
      · intro w9 hw9; skip; go_simp; try with_reducible rfl
      simp only [Act.put, List.setIfInBounds_toArray, List.set_cons_zero, List.set_cons_succ]
      have G := G010000.out _ W.heap.size (HB.out.alloc HB.out.size _) ⟨Blk.new' rfl rfl, HB.out.size⟩
      (try simp only [List.setIfInBounds_toArray, List.set_cons_zero, List.set_cons_succ] at G)
      exact G
    refine AllReadyH.cons (o := ({ dst := some 9, op := Op.alloc 25, type := 0, pos := "more.go:12", after := #[], guard := none } : Oper)) rfl (fun K hK => ?_) ?_
    · go_simp
      refine hK.out _ _ (HS9.out _ (HB.out.alloc HB.out.size _)) (fun hHeld => ?_)
      clear hK K
      (try simp only [Act.put, List.setIfInBounds_toArray, List.set_cons_zero, List.set_cons_succ])
      have G := G001000.out _ W.heap.size (HB.out.alloc HB.out.size _) ⟨Blk.new' rfl rfl, HB.out.size⟩
      (try simp only [List.setIfInBounds_toArray, List.set_cons_zero, List.set_cons_succ] at G)
      exact G
    refine AllReadyH.cons (o := ({ dst := some 10, op := Op.alloc 25, type := 0, pos := "more.go:12", after := #[], guard := none } : Oper)) rfl (fun K hK => ?_) ?_
    · go_simp
      refine hK.out _ _ (HS9.out _ (HB.out.alloc HB.out.size _)) (fun hHeld => ?_)
      clear hK K
      (try simp only [Act.put, List.setIfInBounds_toArray, List.set_cons_zero, List.set_cons_succ])
      have G := G000100.out _ W.heap.size (HB.out.alloc HB.out.size _) ⟨Blk.new' rfl rfl, HB.out.size⟩
      (try simp only [List.setIfInBounds_toArray, List.set_cons_zero, List.set_cons_succ] at G)
      exact G
    exact AllReadyH.nil
  exact g000000 _ (below_drawn (Below.refl _ _) 1)

theorem autoParts_walk (H : Type) (enc : TypeId × Value → H) (W : World) (base : Nat) (args : Array Value) (ds gs : List (DataW H)) (before : List MemPlace)
    (hval : ∀ (j : Nat) t v, Tryd.f10.params[j]? = some t → args[j]? = some v → Value.okWide Tryd.prog W .any base t v)
    (hW : DataW.Whole enc Tryd.prog Tryd.f10.params.toList Rows.autoPartsSpec.vars false W args.toList ds gs before)
    (hz : (DataW.weightsEach Tryd.prog (Tryd.f10.params.toList ++ Rows.autoPartsSpec.plain.varTypes Tryd.prog) (ds ++ gs)).all (· ≤ reachBytes) = true)
    (hL : laidMetH Tryd.prog Rows.autoPartsRow.laid W) (hsh : W.ShapedOpen Tryd.prog) :
    Calls Tryd.prog 10 args W fun e W' => e = .returned (.bool true) ∧ Below W.heap.size W W' := by
  obtain ⟨p, q, hA, _, _, _, _⟩ := hW
  rw [Tryd.params10] at hA hval
  rw [Tryd.params10] at hz
  obtain ⟨v0, vs0, d0, ds0, p0, q0, hargs, rfl, rfl, h0, r0⟩ := trodAll_cons hA
  obtain ⟨v1, vs1, d1, ds1, p1, q1, rfl, rfl, rfl, h1, r1⟩ := trodAll_cons r0
  obtain ⟨v2, vs2, d2, ds2, p2, q2, rfl, rfl, rfl, h2, r2⟩ := trodAll_cons r1
  obtain ⟨v3, vs3, d3, ds3, p3, q3, rfl, rfl, rfl, h3, r3⟩ := trodAll_cons r2
  obtain ⟨rfl, rfl, rfl⟩ := trodAll_nil r3
  obtain rfl : args = #[v0, v1, v2, v3] := by cases args; simp_all
  obtain ⟨y0, a0, b0, rfl, P0⟩ := arg_pt (hval 0 25 v0 rfl rfl) h0 (sized_arg hz (j := 0) (t := 25) (d := d0) rfl rfl)
  obtain ⟨y1, a1, b1, rfl, P1⟩ := arg_pt (hval 1 25 v1 rfl rfl) h1 (sized_arg hz (j := 1) (t := 25) (d := d1) rfl rfl)
  obtain ⟨l2, L2, b2⟩ := arg_steps (hval 2 36 v2 rfl rfl) h2 (sized_arg hz (j := 2) (t := 36) (d := d2) rfl rfl)
  obtain ⟨l3, L3, b3⟩ := arg_steps (hval 3 36 v3 rfl rfl) h3 (sized_arg hz (j := 3) (t := 36) (d := d3) rfl rfl)
  exact autoParts_any y0 y1 a0 b0 a1 b1 v2 v3 l2 l3 W P0 P1 L2 b2 L3 b3 (t8_of hL hsh)

theorem autoParts_lifted (os : Os) (started : os.Started) (H : Type) (enc : TypeId × Value → H) (F : Stop.Interp) :
    ReturnsInHanded {} Tryd.checked os 10 .any ((OpenSpec.ofChange Rows.autoPartsSpec).preRow enc Tryd.prog Tryd.f10 Rows.autoPartsRow.domain false Rows.autoPartsRow.laid) (((OpenSpec.ofChange Rows.autoPartsSpec).at F).post enc Tryd.prog Tryd.f10 false true false false) := by
  obtain ⟨places, hx⟩ : ∃ places, DataW.whole enc Tryd.prog ((laidWorld os).forCall (fun _ _ => 0) ⟨#[], #[.agg #[.int .i64 0, .string ByteArray.empty, .slice none 0 0, .slice none 0 0], .agg #[.int .i64 0, .string ByteArray.empty, .slice none 0 0, .slice none 0 0], .slice none 0 0, .slice none 0 0], []⟩).memory Tryd.f10.params.toList Rows.autoPartsSpec.vars false (#[.agg #[.int .i64 0, .string ByteArray.empty, .slice none 0 0, .slice none 0 0], .agg #[.int .i64 0, .string ByteArray.empty, .slice none 0 0, .slice none 0 0], .slice none 0 0, .slice none 0 0] : Array Value).toList 8 = some ([.agg [.lit (.int .i64 0), .lit (.string []), .nil, .nil], .agg [.lit (.int .i64 0), .lit (.string []), .nil, .nil], .nil, .nil], [], places) := ⟨[], by kernel_rfl⟩
  refine returnsInHanded_of_row (C := Tryd.checked) (s := OpenSpec.ofChange Rows.autoPartsSpec) own started (by kernel_rfl) Tryd.func10
    (witness_row_at (enc := enc) (C := Tryd.checked) false (laidWorld os) #[.agg #[.int .i64 0, .string ByteArray.empty, .slice none 0 0, .slice none 0 0], .agg #[.int .i64 0, .string ByteArray.empty, .slice none 0 0, .slice none 0 0], .slice none 0 0, .slice none 0 0] rfl (by kernel_rfl) (by kernel_rfl) (by kernel_rfl)
      (OpenSpec.preRow_of_cond 8 hx (by kernel_rfl) (fun k hk => by cases hk) (by kernel_rfl) (laidMet_of_run' 8 (by kernel_rfl) (by kernel_rfl)))) ?_
  intro W base args ds gs before hval hW _ _ hz hL hsh _
  refine (autoParts_walk H enc W base args ds gs before hval hW hz hL hsh).mono fun e W' ⟨he, hb⟩ => ⟨_, he, ?_⟩
  exact law_post (fn := Tryd.f10) (s := Rows.autoPartsSpec) (tb := 4) rfl (fun ds hd => by match ds, hd with | [d0, d1, d2, d3], _ => rfl) rfl Tryd.underlying4 (by kernel_rfl) hW hb

theorem autoParts_said : Rows.AutoPartsSaid :=
  OpenClaim.holds_of_cond 10 Tryd.f10 rfl rfl rfl rfl rfl rfl rfl ⟨rfl, rfl, rfl, rfl, rfl⟩ rfl rfl rfl rfl rfl (by kernel_rfl) Tryd.func10 (by kernel_rfl)
    (of_decide_eq_true (by kernel_rfl)) (by unfold Func.isWrapper; first | (rw [if_pos (by decide +kernel)]; kernel_rfl) | (rw [if_neg (by decide +kernel)]; exact ⟨rfl, rfl⟩))
    (fun os started H enc _ F => by rw [OpenClaim.pre_eq_preRow]; exact autoParts_lifted os started H enc F)

theorem autoParts_plain (f : FuncId) (fn : Func) (hf : Tryd.pinned.checked.prog.funcNamed Rows.autoPartsRow.func = some f) (hfn : Tryd.pinned.checked.prog.funcs[f]? = some fn) :
    false = Tryd.pinned.checked.prog.looks [] ∧ ∀ (j : Nat) t, fn.params[j]? = some t → Tryd.pinned.checked.prog.wantsStandIn t = false := by
  obtain rfl : f = 10 := Option.some.inj ((show Tryd.prog.funcNamed Rows.autoPartsRow.func = some 10 by kernel_rfl).symm.trans hf) |>.symm
  obtain rfl : fn = Tryd.f10 := (Option.some.inj (Tryd.func10.symm.trans hfn)).symm
  refine ⟨by kernel_rfl, fun j t ht => ?_⟩
  have h := Array.mem_of_getElem? ht
  have hall : Tryd.f10.params.all (fun t => !Tryd.prog.wantsStandIn t) = true := by kernel_rfl
  have := Array.all_eq_true_iff_forall_mem.1 hall t h
  show Tryd.prog.wantsStandIn t = false
  simpa using this

/-- THE STATEMENT. -/
theorem autoParts_card : Rows.AutoPartsCardSaid :=
  Claim7.holds_tied_plain_at .later [] _ _ _ _ autoParts_said (fun _ h => by cases h) (by kernel_rfl) (fun _ h => by cases h) autoParts_row_tie rfl ⟨rfl, rfl⟩ (by kernel_rfl) rfl autoParts_plain (by kernel_rfl)
end Go.Proofs.YtobcbaeoedpefaaDoor
