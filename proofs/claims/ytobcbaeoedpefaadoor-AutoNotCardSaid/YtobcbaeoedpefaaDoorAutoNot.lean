/- AutoNot: a negated set has the words of one step along all else, and no others, for every input. -/
import Derived.Test.YtobcbaeoedpefaaDoorAuLaid
import Derived.Test.YtobcbaeoedpefaaDoorAuLaw
import Derived.Test.YtobcbaeoedpefaaDoorBig
import Derived.Test.YtobcbaeoedpefaaDoorRMay
namespace Go.Proofs.YtobcbaeoedpefaaDoor
set_option linter.unusedVariables false
set_option linter.unusedSimpArgs false
set_option maxRecDepth 100000
open Go.ChangeShapes Go.WideShapes Go.ChangeAt Go.RowKit
open Au
theorem has_leaf0 (l : Lb) : (Rx.leaf l).has [] = false := by
  cases h : (Rx.leaf l).has []
  · rfl
  · obtain ⟨s, hs, _⟩ := (Rx.has_lang _ _).1 h; cases hs
theorem has_leaf1 (l : Lb) (s : S) : (Rx.leaf l).has [s] = l.takes s := by
  rw [Bool.eq_iff_iff, Rx.has_lang]
  constructor
  · rintro ⟨s', hs, h⟩; cases hs; exact h
  · intro h; exact ⟨s, rfl, h⟩
theorem has_leaf2 (l : Lb) (s s' : S) : (Rx.leaf l).has [s, s'] = false := by
  cases h : (Rx.leaf l).has [s, s']
  · rfl
  · obtain ⟨q, hs, _⟩ := (Rx.has_lang _ _).1 h; cases hs
theorem text_one {w : World} {b : Nat} {t : T} {ty : TypeId} (h : Blk w b [str t] ty) : TextsAt w (.slice (some ⟨b, 0, none⟩) 1 1) [t] := by
  refine SlAt.blk (f := str) (d := []) (l := [t]) h rfl (fun i hi => ?_) 1 (Nat.le_refl _) (by unfold maxLen; omega)
  obtain rfl : i = 0 := by simp at hi; omega
  rfl
theorem own_one {w : World} {g B : Nat} {x0 x1 x2 x3 x4 : Value} (h : Blk w g [x0, x1, x2, x3, x4] 48) (hB : B ≤ g) : w.ownsRow B 48 5 (.slice (some ⟨g, 0, none⟩) 1 1) 1 [x0, x1, x2, x3, x4] :=
  ⟨rfl, Or.inr ⟨g, 1, _, rfl, hB, h, by simp, by unfold maxLen; omega, rfl, rfl⟩⟩
theorem steps_one {w : World} {g : Nat} {s : Stp} {a : Option Addr} {n c : Nat} (h : Blk w g [.int .i64 s.from_, .int .i64 s.to, .bool s.back, .bool s.not, .slice a n c] 48) (hT : TextsAt w (.slice a n c) s.texts) : StepsAt w (.slice (some ⟨g, 0, none⟩) 1 1) [s] := by
  refine ⟨_, 1, g, 0, fun _ => .slice a n c, rfl, Nat.le_refl _, by unfold maxLen; omega, (fun h => by cases h), fun _ => rfl, fun i hi => ?_, fun i hi => ?_⟩
  · obtain rfl : i = 0 := by simp at hi; omega
    exact ⟨h.cell rfl, h.cell rfl, h.cell rfl, h.cell rfl, h.cell rfl⟩
  · obtain rfl : i = 0 := by simp at hi; omega
    exact hT
theorem steps_two {w : World} {B : Nat} {v : Value} {s : Stp} {a : Option Addr} {n c : Nat} (h : w.ownsRow B 48 5 v 2 ([.int .i64 s.from_, .int .i64 s.to, .bool s.back, .bool s.not, .slice a n c] ++ [.int .i64 s.from_, .int .i64 s.to, .bool s.back, .bool s.not, .slice a n c])) (hT : TextsAt w (.slice a n c) s.texts) : StepsAt w v [s, s] := by
  obtain ⟨g, cap, rfl, _, _⟩ := World.ownsRow.form h (by decide)
  have hb := own_blk h
  refine ⟨_, cap, g, 0, fun _ => .slice a n c, rfl, hb.2.2.1, hb.2.2.2.1, (fun h => by cases h), fun _ => rfl, fun i hi => ?_, fun i hi => ?_⟩
  · have hi2 : i = 0 ∨ i = 1 := by simp at hi; omega
    rcases hi2 with rfl | rfl
    · exact ⟨(own_cell h rfl).1, (own_cell h rfl).1, (own_cell h rfl).1, (own_cell h rfl).1, (own_cell h rfl).1⟩
    · exact ⟨(own_cell h rfl).1, (own_cell h rfl).1, (own_cell h rfl).1, (own_cell h rfl).1, (own_cell h rfl).1⟩
  · have hi2 : i = 0 ∨ i = 1 := by simp at hi; omega
    rcases hi2 with rfl | rfl
    · exact hT
    · exact hT
/-- append at a place that is guarded. -/
theorem wpList_append_want {w : World} {P : Program} {ops : Array Oper} {rest : List Oper} {o : Oper} {a : Act} {Q : Exit → Act → World → Prop} (hw : Region.wanted o (yielded ops a.tmps) = true) (s x : Operand) (t : TypeId)
    (ho : o.op = .call { callee := .builtin .append, args := #[s, x], argTypes := #[t, t] })
    (base : Nat) (e : TypeId) (i : TypeInfo) (z : Value) (size bytes : Nat) (ht : P.underlying t = some (.slice e)) (hi : P.info? e = some i) (hz : i.zero = some z)
    (hsize : i.size = size) (hby : i.bytes = bytes) (hzs : z.cells.size = size) (hsz : 0 < size)
    (v : Value) (n : Nat) (xs : List Value) (hs : a.eval s = v) (hown : w.ownsRow base e size v n xs)
    (ad : Addr) (m c : Nat) (us : List Value) (hx : a.eval x = .slice (some ad) m c) (hm : us.length = m * size) (hc : ∀ j u, us[j]? = some u → w.cell? (ad.add j) = some u) (h1 : ∀ u ∈ us, u.oneCell' = true)
    (h63 : n + m ≤ maxLen) (hbytes : (n + m) * bytes ≤ 140737488355328) (hbase : base ≤ w.heap.size)
    (h : ∀ v' w', w'.ownsRow base e size v' (n + m) (xs ++ us) → w.grownBy w' v.ownBlock → wpList P ops Q rest (a.put o.dst v') w') : wpList P ops Q (o :: rest) a w := by
  refine wpList_step fun K hK => ?_
  rw [if_pos hw]
  obtain ⟨v', w', hr, h2, h3, h4⟩ := run_append_blk (P := P) (w := w) base t o.type e i z size bytes ht hi hz hsize hby hzs hsz v n xs hown ad m c us hm hc h1 h63 hbytes hbase
  unfold Oper.wp execOp
  simp only [ho, resolve, invoke, builtin, Sem.run_bind, Sem.run_pure, Result.andThen_ok, List.map_toArray, List.map_cons, List.map_nil, hs, hx, hr]
  exact hK _ _ (h v' w' h2 h3)
theorem cnt_leaf (l : Lb) : Rx.cnt (.leaf l) = 1 := rfl
theorem pt_not {W : World} {v : Value} {L : List T} (hL : TextsAt W v L) (hl : ∀ i, (L.getD i []).length ≤ 140737488351232) : PtAt W v (.slice none 0 0) (.mk 8 [] L []) :=
  .mk 8 [] L [] _ none 0 0 0 (fun _ => undef) (fun _ => undef) (by omega) (by simp) hL hl (Nat.le_refl _) (by unfold maxLen; omega) (fun _ => rfl) (fun h => absurd h (by simp)) (fun i h => absurd h (by simp)) (fun i h => absurd h (by simp))
theorem not_len {L : List T} (h : (Pt.mk 8 [] L []).may = true) : L.length ≤ 4 := by
  unfold Pt.may at h
  rw [wf_mk] at h
  simp only [Bool.and_eq_true, decide_eq_true_eq] at h
  have h2 := h.1.1.2
  unfold Pt.txt at h2
  rw [if_neg (by decide), if_pos rfl] at h2
  simp only [Bool.and_eq_true, decide_eq_true_eq] at h2
  exact h2.1.2
theorem back_may {L : List T} (h : (Pt.mk 8 [] L []).may = true) : (Pt.mk 2 [] [] [.mk 8 [] L []]).may = true := by
  unfold Pt.may at h ⊢
  rw [wf_mk] at h ⊢
  simp only [Bool.and_eq_true, decide_eq_true_eq] at h
  have e1 : (Pt.mk 8 [] L []).wf 1 = true := by
    rw [wf_mk]
    simp only [Bool.and_eq_true, decide_eq_true_eq]
    exact ⟨⟨⟨by omega, h.1.1.1.2⟩, h.1.1.2⟩, by simp [Pt.wfs]⟩
  simp only [Bool.and_eq_true, decide_eq_true_eq]
  refine ⟨⟨⟨⟨by omega, rfl⟩, rfl⟩, by rw [Pt.wfs_all]; intro x hx; simp at hx; subst hx; exact e1⟩, by rw [size_mk]; simp only [Pt.sizes]; rw [size_mk]; simp [Pt.sizes]⟩
/-- What the law asks of an automaton of one place. -/
theorem not_new {W : World} {x : Pt} {l : Lb} {v u : Value} (hP : PtAt W v u x) (hT : T8 W) (hm : x.may = true) (ha : AddOk x) (hr : x.rx false = .leaf l) :
    Calls Tryd.prog 14 #[pv x v u] W fun e w' => ∃ p, e = .returned (.tuple #[.pointer (some ⟨p, 0, none⟩), .int .i64 0]) ∧ Below W.heap.size W w' ∧ IsAuto W.heap.size w' p (.leaf l) :=
  (new_au x v u W hP hT (fun _ => ha)).mono fun e w' h => by
    obtain ⟨hb, h | h | h⟩ := h
    · rw [hm] at h; exact absurd h.1 (by simp)
    · have h2 := h.2.1; rw [hr, cnt_leaf] at h2; omega
    · obtain ⟨_, _, p, h1, h2⟩ := h; rw [hr] at h2; exact ⟨p, h1, hb, h2⟩
set_option maxHeartbeats 8000000 in
theorem autoNot_false (a : Option Addr) (n c : Nat) (L : List T) (t : T) (w : World) (hL : TextsAt w (.slice a n c) L) (hl : ∀ i, (L.getD i []).length ≤ 140737488351232) (ht : t.length ≤ 9223372036854775807) (hT : T8 w) :
    Calls Tryd.prog 7 #[.slice a n c, str t, .bool false] w fun e w' => e = .returned (.bool true) ∧ Below w.heap.size w w' := by
  obtain ⟨w1, hw1⟩ : ∃ w1, w1 = w.alloc (.cells #[.int .i64 8, .string ⟨#[]⟩, .slice a n c, .slice none 0 0] 25) := ⟨_, rfl⟩
  have hb1 : Below w.heap.size w w1 := by rw [hw1]; exact (Below.refl _ _).alloc (Nat.le_refl _) _
  have hX : Blk w1 w.heap.size [.int .i64 8, .string ⟨#[]⟩, .slice a n c, .slice none 0 0] 25 := by rw [hw1]; exact Blk.new w _ _
  have hP0 := pt_not hL hl
  have BG := big_any _ w1 _ _ 0 (hP0.keep hb1) (by omega)
  have RI := hid fun W (hb : Below w1.heap.size w1 W) => rispath_any _ _ _ W ((hP0.keep hb1).keep hb) ((hT.keep hb1).keep hb)
  unfold pv at BG RI
  simp only [Pt.kind, Pt.text] at BG RI
  have HB1 := hid hb1
  have HX := hid hX
  have HL := hid hL
  have HP0 := hid hP0
  have HT := hid hT
  have HTL := hid ht
  obtain ⟨c0, c1, c2, c3⟩ := blk4 hX
  have hrow := hL.row.1
  obtain ⟨bg, hbg⟩ : ∃ z, z = bigP 0 (.mk 8 [] L []) := ⟨_, rfl⟩
  rw [← hbg] at BG
  have BG := hid BG
  have HROW := hid hrow
  clear hb1 hX hL hP0 hT hl hbg hrow
  cases bg
  case true =>
    go_enter Tryd.func7, Tryd.ntmps7
    go_upto_region 2 with fail
    rw [← hw1]
    clear hw1
    go_wp2_with (go_at_call 13; refine BG.out.mono ?_; rintro e w2 ⟨rfl, hb2⟩)
    go_ret
    exact ⟨rfl, below_then HB1.out hb2⟩
  case false =>
    by_cases h100 : 100 < t.length
    · go_enter Tryd.func7, Tryd.ntmps7
      go_upto_region 2 with fail
      rw [← hw1]
      clear hw1
      go_wp2_with (go_at_call 13; refine BG.out.mono ?_; rintro e w2 ⟨rfl, hb2⟩)
      go_ret
      exact ⟨rfl, below_then HB1.out hb2⟩
    cases hmay : (Pt.mk 8 [] L []).may
    · rw [hmay] at RI
      clear hmay
      go_enter Tryd.func7, Tryd.ntmps7
      go_upto_region 2 with fail
      rw [← hw1]
      clear hw1
      go_wp2_with (first
        | (go_at_call 13; refine BG.out.mono ?_; rintro e w2 ⟨rfl, hb2⟩; have c0 := below_keep hb2 c0; have c1 := below_keep hb2 c1; have c2 := below_keep hb2 c2; have c3 := below_keep hb2 c3; have HB2 := hid hb2; clear hb2)
        | (go_at_call 26; refine (RI.out _ HB2.out).mono ?_; rintro e w3 ⟨rfl, hb3⟩))
      go_ret
      exact ⟨rfl, below_then (below_then HB1.out HB2.out) hb3⟩
    rw [hmay] at RI
    have HM := hid hmay
    clear hmay
    go_enter Tryd.func7, Tryd.ntmps7
    go_upto_region 2 with fail
    rw [← hw1]
    clear hw1
    go_wp2_with fail
    refine BG.out.mono ?_
    rintro e w2 ⟨rfl, hb2⟩
    have c0 := below_keep hb2 c0
    have c1 := below_keep hb2 c1
    have c2 := below_keep hb2 c2
    have c3 := below_keep hb2 c3
    have HB2 := hid hb2
    clear hb2
    go_wp2_with fail
    refine (RI.out _ HB2.out).mono ?_
    rintro e w3 ⟨rfl, hb3⟩
    have HB3 := hid (below_then HB2.out hb3)
    have hX3 := HX.out.keep HB3.out
    obtain ⟨c0, c1, c2, c3⟩ := blk4 hX3
    have HX3 := hid hX3
    clear hb3 hX3
    have NW := not_new (l := ⟨false, true, L⟩) (HP0.out.keep (below_then HB1.out HB3.out)) (HT.out.keep (below_then HB1.out HB3.out)) HM.out (add_not L (not_len HM.out)) (by rw [Pt.rx]; rfl)
    unfold pv at NW
    simp only [Pt.kind, Pt.text] at NW
    have NW := hid NW
    obtain ⟨w5, hw5⟩ : ∃ w5, w5 = w3 := ⟨_, rfl⟩
    have HB5 := hid (below_then HB1.out HB3.out)
    rw [← hw5] at NW HB5 c0 c1 c2 c3 ⊢
    clear hw5
    go_wp2_with fail
    refine NW.out.mono ?_
    rintro e w6 ⟨p, rfl, hb6, hA6⟩
    have HB6 := hid (below_then HB5.out hb6)
    have HA6 := hid hA6
    have PL := hid (place_any (.slice a n c) L t w6 (HL.out.keep HB6.out) (by have := not_len HM.out; omega))
    have hpz := placeZ_nonneg L t
    obtain ⟨z, hz⟩ : ∃ z, z = placeZ L t := ⟨_, rfl⟩
    rw [← hz] at PL hpz
    have HPZ := hid hpz
    clear hb6 hA6 hz hpz
    have HA7 := hid fun W (hb : Below w6.heap.size w6 W) => HA6.out.keep hb
    obtain ⟨w7, hw7⟩ : ∃ w7, w7 = (((w6.alloc (.cells #[str t] 9)).alloc (.cells #[.int .i64 0, .int .i64 0, .bool false, .bool false, .slice (some ⟨w6.heap.size, 0, none⟩) 1 1] 48)).alloc (.cells #[str t] 9)).alloc (.cells #[.int .i64 0, .int .i64 0, .bool true, .bool false, .slice (some ⟨w6.heap.size + 2, 0, none⟩) 1 1] 48) := ⟨_, rfl⟩
    have hb7 : Below w6.heap.size w6 w7 := by rw [hw7]; exact (((((Below.refl _ _).alloc (Nat.le_refl _) _).alloc (by simp) _).alloc (by simp; omega) _).alloc (by simp; omega) _)
    have hz7 : w7.heap.size = w6.heap.size + 4 := by rw [hw7]; simp
    have k0 : Blk w7 w6.heap.size [str t] 9 := by rw [hw7]; exact (((Blk.new w6 _ _).alloc _).alloc _).alloc _
    have k1 : Blk w7 (w6.heap.size + 1) [.int .i64 0, .int .i64 0, .bool false, .bool false, .slice (some ⟨w6.heap.size, 0, none⟩) 1 1] 48 := by rw [hw7]; exact ((Blk.new' (by simp) rfl).alloc _).alloc _
    have k2 : Blk w7 (w6.heap.size + 2) [str t] 9 := by rw [hw7]; exact (Blk.new' (by simp) rfl).alloc _
    have k3 : Blk w7 (w6.heap.size + 3) [.int .i64 0, .int .i64 0, .bool true, .bool false, .slice (some ⟨w6.heap.size + 2, 0, none⟩) 1 1] 48 := by rw [hw7]; exact Blk.new' (by simp) rfl
    have t0 := text_one k0
    have t2 := text_one k2
    have S1 := steps_one (s := ⟨0, 0, false, false, [t]⟩) k1 t0
    have S2 := steps_one (s := ⟨0, 0, true, false, [t]⟩) k3 t2
    have one1 : ∀ b : Bool, ones [(⟨0, 0, b, false, [t]⟩ : Stp)] := fun b i hi => by
      obtain rfl : i = 0 := by simp at hi; omega
      rfl
    have one2 : ∀ b : Bool, ones [(⟨0, 0, b, false, [t]⟩ : Stp), ⟨0, 0, b, false, [t]⟩] := fun b i hi => by
      have hi2 : i = 0 ∨ i = 1 := by simp at hi; omega
      rcases hi2 with rfl | rfl <;> rfl
    have K1 := hid fun W (hb : Below w7.heap.size w7 W) => takes_au _ _ (HA7.out W (hb7.trans (hb.mono hb7.size))) (S1.keep hb) (one1 _)
    have K2 := hid fun W (hb : Below w7.heap.size w7 W) => takes_au _ _ (HA7.out W (hb7.trans (hb.mono hb7.size))) (S2.keep hb) (one1 _)
    have K3 := hid fun W (hb : Below w7.heap.size w7 W) => takes_au _ _ (HA7.out W (hb7.trans (hb.mono hb7.size))) (StepsAt.nil W) (fun i hi => absurd hi (by simp))
    have K4 := hid fun v W (hb : Below w6.heap.size w6 W) (hS : StepsAt W v [(⟨0, 0, false, false, [t]⟩ : Stp), ⟨0, 0, false, false, [t]⟩]) => takes_au _ _ (HA7.out W hb) hS (one2 _)
    have K5 := hid fun W (hb : Below w6.heap.size w6 W) => isauto_places (HA7.out W hb)
    have K6 := hid fun W (hb : Below w6.heap.size w6 W) => known_any W (HT.out.keep (HB6.out.trans (hb.mono HB6.out.size)))
    simp only [wordOf, List.map_cons, List.map_nil, has_leaf0, has_leaf1, has_leaf2, List.getD_cons_zero] at K1 K2 K3 K4
    rw [show ((1 + (Rx.leaf ⟨false, true, L⟩).n : Nat) : Int) = 2 from rfl] at K5
    have hk1 : (⟨false, true, L⟩ : Lb).takes (false, t) = !(decide (t ∈ L)) := by
      unfold Lb.takes
      have : L.contains t = decide (t ∈ L) := by rw [Bool.eq_iff_iff, decide_eq_true_iff, List.contains_iff_mem]
      simp only [this]
      cases decide (t ∈ L) <;> rfl
    have hk2 : (⟨false, true, L⟩ : Lb).takes (true, t) = false := rfl
    rw [hk1] at K1
    rw [hk2] at K2
    have HB7 := hid hb7
    have HZ7 := hid hz7
    have HK1 := hid k1
    have HK0 := hid k0
    have HMZ := hid (show (0 ≤ z → decide (t ∈ L) = true) ∧ (¬ 0 ≤ z → decide (t ∈ L) = false) from ⟨fun h => decide_eq_true (HPZ.out.1 h), fun h => decide_eq_false (fun hm => h (HPZ.out.2 hm))⟩)
    obtain ⟨iS, hiS, hzS, hsS, hbS⟩ := info_two Tryd.infoStep
    clear hb7 hz7 k0 k1 k2 k3 t0 t2 S1 S2 one1 one2 hk1 hk2
    go_wp2_with (go_at_call 27; refine PL.out.mono ?_; rintro e wq ⟨rfl, hw⟩; rw [hw]; clear hw wq)
    rw [← hw7]
    clear hw7
    by_cases hz : 0 ≤ z
    · rw [HMZ.out.1 hz] at K1
      have d0 : decide (0 ≤ z) = true := by simp; omega
      go_wp2_with fail
      refine (K1.out _ (Below.refl _ _)).mono ?_
      rintro e w8 ⟨rfl, hb8⟩
      have HB8 := hid hb8
      clear hb8
      go_wp2_with fail
      refine (K2.out _ HB8.out).mono ?_
      rintro e w9 ⟨rfl, hb9⟩
      have HB9 := hid (below_then HB8.out hb9)
      clear hb9
      go_wp2_with fail
      refine (K3.out _ HB9.out).mono ?_
      rintro e w10 ⟨rfl, hb10⟩
      have HB10 := hid (below_then HB9.out hb10)
      have HO := hid (own_one (B := w6.heap.size) (HK1.out.keep HB10.out) (by omega))
      have HW10 := hid (HB7.out.trans (HB10.out.mono HB7.out.size))
      clear hb10
      go_wp2_with (at_builtin; refine wpList_append_want (by rfl) (.tmp 76) (.tmp 77) 36 (by rfl) w6.heap.size 48 iS _ 5 48 Tryd.underlying36 hiS hzS hsS hbS rfl (by decide) (.slice (some ⟨w6.heap.size + 1, 0, none⟩) 1 1) 1 _ (by rfl) HO.out ⟨w6.heap.size + 1, 0, none⟩ 1 1 [.int .i64 0, .int .i64 0, .bool false, .bool false, .slice (some ⟨w6.heap.size, 0, none⟩) 1 1] (by rfl) (by rfl) (World.news_of_block (cs := #[.int .i64 0, .int .i64 0, .bool false, .bool false, .slice (some ⟨w6.heap.size, 0, none⟩) 1 1]) (t := 48) (fr := (0, 0)) (HK1.out.keep HB10.out)) (by simp [Value.oneCell']) (by unfold maxLen; omega) (by omega) HW10.out.size ?_; intro v' w11 hown hgr; have hb11 : Below w6.heap.size w6 w11 := HW10.out.grown hgr HW10.out.size (fun q hq => by simp only [Value.ownBlock, Option.some.injEq] at hq; omega); have hS := steps_two (s := ⟨0, 0, false, false, [t]⟩) hown (text_one ((HK0.out.keep HB10.out).frm (frm_grown hgr) (by simp [Value.ownBlock]))); have K4 := hid (K4.out v' w11 hb11 hS); have HB11 := hid hb11; clear hown hgr hS hb11)
      refine K4.out.mono ?_
      rintro e w12 ⟨rfl, hb12⟩
      have HB12 := hid (HB11.out.trans (hb12.mono HB11.out.size))
      clear hb12
      go_wp2_with (first
        | (go_at_call 17; refine (K5.out _ HB12.out).mono ?_; rintro e wq ⟨rfl, hw⟩; rw [hw]; clear hw wq)
        | (go_at_call 16; refine (K6.out _ HB12.out).mono ?_; rintro e w13 ⟨rfl, hb13⟩))
      go_ret
      exact ⟨rfl, HB6.out.trans ((HB12.out.trans (hb13.mono HB12.out.size)).mono HB6.out.size)⟩
    · rw [HMZ.out.2 (by omega)] at K1
      have hz' : z < 0 := by omega
      have d0 : decide (0 ≤ z) = false := by simp; omega
      go_wp2_with fail
      refine (K1.out _ (Below.refl _ _)).mono ?_
      rintro e w8 ⟨rfl, hb8⟩
      have HB8 := hid hb8
      clear hb8
      go_wp2_with fail
      refine (K2.out _ HB8.out).mono ?_
      rintro e w9 ⟨rfl, hb9⟩
      have HB9 := hid (below_then HB8.out hb9)
      clear hb9
      go_wp2_with fail
      refine (K3.out _ HB9.out).mono ?_
      rintro e w10 ⟨rfl, hb10⟩
      have HB10 := hid (below_then HB9.out hb10)
      have HO := hid (own_one (B := w6.heap.size) (HK1.out.keep HB10.out) (by omega))
      have HW10 := hid (HB7.out.trans (HB10.out.mono HB7.out.size))
      clear hb10
      go_wp2_with (at_builtin; refine wpList_append_want (by rfl) (.tmp 76) (.tmp 77) 36 (by rfl) w6.heap.size 48 iS _ 5 48 Tryd.underlying36 hiS hzS hsS hbS rfl (by decide) (.slice (some ⟨w6.heap.size + 1, 0, none⟩) 1 1) 1 _ (by rfl) HO.out ⟨w6.heap.size + 1, 0, none⟩ 1 1 [.int .i64 0, .int .i64 0, .bool false, .bool false, .slice (some ⟨w6.heap.size, 0, none⟩) 1 1] (by rfl) (by rfl) (World.news_of_block (cs := #[.int .i64 0, .int .i64 0, .bool false, .bool false, .slice (some ⟨w6.heap.size, 0, none⟩) 1 1]) (t := 48) (fr := (0, 0)) (HK1.out.keep HB10.out)) (by simp [Value.oneCell']) (by unfold maxLen; omega) (by omega) HW10.out.size ?_; intro v' w11 hown hgr; have hb11 : Below w6.heap.size w6 w11 := HW10.out.grown hgr HW10.out.size (fun q hq => by simp only [Value.ownBlock, Option.some.injEq] at hq; omega); have hS := steps_two (s := ⟨0, 0, false, false, [t]⟩) hown (text_one ((HK0.out.keep HB10.out).frm (frm_grown hgr) (by simp [Value.ownBlock]))); have K4 := hid (K4.out v' w11 hb11 hS); have HB11 := hid hb11; clear hown hgr hS hb11)
      refine K4.out.mono ?_
      rintro e w12 ⟨rfl, hb12⟩
      have HB12 := hid (HB11.out.trans (hb12.mono HB11.out.size))
      clear hb12
      go_wp2_with (first
        | (go_at_call 17; refine (K5.out _ HB12.out).mono ?_; rintro e wq ⟨rfl, hw⟩; rw [hw]; clear hw wq)
        | (go_at_call 16; refine (K6.out _ HB12.out).mono ?_; rintro e w13 ⟨rfl, hb13⟩))
      go_ret
      exact ⟨rfl, HB6.out.trans ((HB12.out.trans (hb13.mono HB12.out.size)).mono HB6.out.size)⟩
set_option maxHeartbeats 8000000 in
theorem autoNot_true (a : Option Addr) (n c : Nat) (L : List T) (t : T) (w : World) (hL : TextsAt w (.slice a n c) L) (hl : ∀ i, (L.getD i []).length ≤ 140737488351232) (ht : t.length ≤ 9223372036854775807) (hT : T8 w) :
    Calls Tryd.prog 7 #[.slice a n c, str t, .bool true] w fun e w' => e = .returned (.bool true) ∧ Below w.heap.size w w' := by
  obtain ⟨w1, hw1⟩ : ∃ w1, w1 = w.alloc (.cells #[.int .i64 8, .string ⟨#[]⟩, .slice a n c, .slice none 0 0] 25) := ⟨_, rfl⟩
  have hb1 : Below w.heap.size w w1 := by rw [hw1]; exact (Below.refl _ _).alloc (Nat.le_refl _) _
  have hX : Blk w1 w.heap.size [.int .i64 8, .string ⟨#[]⟩, .slice a n c, .slice none 0 0] 25 := by rw [hw1]; exact Blk.new w _ _
  have hP0 := pt_not hL hl
  have BG := big_any _ w1 _ _ 0 (hP0.keep hb1) (by omega)
  have RI := hid fun W (hb : Below w1.heap.size w1 W) => rispath_any _ _ _ W ((hP0.keep hb1).keep hb) ((hT.keep hb1).keep hb)
  unfold pv at BG RI
  simp only [Pt.kind, Pt.text] at BG RI
  have HB1 := hid hb1
  have HX := hid hX
  have HL := hid hL
  have HP0 := hid hP0
  have HT := hid hT
  have HTL := hid ht
  obtain ⟨c0, c1, c2, c3⟩ := blk4 hX
  have hrow := hL.row.1
  obtain ⟨bg, hbg⟩ : ∃ z, z = bigP 0 (.mk 8 [] L []) := ⟨_, rfl⟩
  rw [← hbg] at BG
  have BG := hid BG
  have HROW := hid hrow
  clear hb1 hX hL hP0 hT hl hbg hrow
  cases bg
  case true =>
    go_enter Tryd.func7, Tryd.ntmps7
    go_upto_region 2 with fail
    rw [← hw1]
    clear hw1
    go_wp2_with (go_at_call 13; refine BG.out.mono ?_; rintro e w2 ⟨rfl, hb2⟩)
    go_ret
    exact ⟨rfl, below_then HB1.out hb2⟩
  case false =>
    by_cases h100 : 100 < t.length
    · go_enter Tryd.func7, Tryd.ntmps7
      go_upto_region 2 with fail
      rw [← hw1]
      clear hw1
      go_wp2_with (go_at_call 13; refine BG.out.mono ?_; rintro e w2 ⟨rfl, hb2⟩)
      go_ret
      exact ⟨rfl, below_then HB1.out hb2⟩
    cases hmay : (Pt.mk 8 [] L []).may
    · rw [hmay] at RI
      clear hmay
      go_enter Tryd.func7, Tryd.ntmps7
      go_upto_region 2 with fail
      rw [← hw1]
      clear hw1
      go_wp2_with (first
        | (go_at_call 13; refine BG.out.mono ?_; rintro e w2 ⟨rfl, hb2⟩; have c0 := below_keep hb2 c0; have c1 := below_keep hb2 c1; have c2 := below_keep hb2 c2; have c3 := below_keep hb2 c3; have HB2 := hid hb2; clear hb2)
        | (go_at_call 26; refine (RI.out _ HB2.out).mono ?_; rintro e w3 ⟨rfl, hb3⟩))
      go_ret
      exact ⟨rfl, below_then (below_then HB1.out HB2.out) hb3⟩
    rw [hmay] at RI
    have HM := hid hmay
    clear hmay
    go_enter Tryd.func7, Tryd.ntmps7
    go_upto_region 2 with fail
    rw [← hw1]
    clear hw1
    go_wp2_with fail
    refine BG.out.mono ?_
    rintro e w2 ⟨rfl, hb2⟩
    have c0 := below_keep hb2 c0
    have c1 := below_keep hb2 c1
    have c2 := below_keep hb2 c2
    have c3 := below_keep hb2 c3
    have HB2 := hid hb2
    clear hb2
    go_wp2_with fail
    refine (RI.out _ HB2.out).mono ?_
    rintro e w3 ⟨rfl, hb3⟩
    have HB3 := hid (below_then HB2.out hb3)
    have hX3 := HX.out.keep HB3.out
    obtain ⟨c0, c1, c2, c3⟩ := blk4 hX3
    have HX3 := hid hX3
    clear hb3 hX3
    have i0 := fun o => (HX3.out.alloc o).free 0
    have i1 := fun o => (HX3.out.alloc o).free 1
    have i2 := fun o => (HX3.out.alloc o).free 2
    have i3 := fun o => (HX3.out.alloc o).free 3
    have j0 := fun o => (HX3.out.alloc o).cell (i := 0) rfl
    have j1 := fun o => (HX3.out.alloc o).cell (i := 1) rfl
    have j2 := fun o => (HX3.out.alloc o).cell (i := 2) rfl
    have j3 := fun o => (HX3.out.alloc o).cell (i := 3) rfl
    obtain ⟨w5, hw5⟩ : ∃ w5, w5 = ((((w3.alloc (.cells #[.int .i64 8, .string ⟨#[]⟩, .slice a n c, .slice none 0 0] 25)).setCell ⟨w.heap.size, 0, none⟩ (.int .i64 2)).setCell ⟨w.heap.size, 1, none⟩ (.string ⟨#[]⟩)).setCell ⟨w.heap.size, 2, none⟩ (.slice none 0 0)).setCell ⟨w.heap.size, 3, none⟩ (.slice (some ⟨w3.heap.size, 0, none⟩) 1 1) := ⟨_, rfl⟩
    have hlt3 := HX3.out.lt
    have hX5 : Blk w5 w.heap.size [.int .i64 2, .string ⟨#[]⟩, .slice none 0 0, .slice (some ⟨w3.heap.size, 0, none⟩) 1 1] 25 := by
      rw [hw5]
      have := ((((HX3.out.alloc (.cells #[.int .i64 8, .string ⟨#[]⟩, .slice a n c, .slice none 0 0] 25)).set 0 (.int .i64 2)).set 1 (.string ⟨#[]⟩)).set 2 (.slice none 0 0)).set 3 (.slice (some ⟨w3.heap.size, 0, none⟩) 1 1)
      simpa using this
    have hK5 : Blk w5 w3.heap.size [.int .i64 8, .string ⟨#[]⟩, .slice a n c, .slice none 0 0] 25 := by
      rw [hw5]
      exact ((((Blk.new w3 _ _).other (by omega) 0 _).other (by omega) 1 _).other (by omega) 2 _).other (by omega) 3 _
    have hB5 : Below w.heap.size w w5 := by
      rw [hw5]
      have h3 := below_then HB1.out HB3.out
      exact ((((h3.alloc h3.size _).setCell (by exact Nat.le_refl _) _).setCell (by exact Nat.le_refl _) _).setCell (by exact Nat.le_refl _) _).setCell (by exact Nat.le_refl _) _
    have hP5 : PtAt w5 (.slice none 0 0) (.slice (some ⟨w3.heap.size, 0, none⟩) 1 1) (.mk 2 [] [] [.mk 8 [] L []]) := by
      refine .mk 2 [] [] [.mk 8 [] L []] _ _ 1 w3.heap.size 0 (fun _ => .slice a n c) (fun _ => .slice none 0 0) (by omega) (by simp) (SlAt.nil _) (fun i => by simp) (Nat.le_refl _) (by unfold maxLen; omega) (fun h => by cases h) (fun _ => rfl) (fun i h => ?_) (fun i h => ?_)
      · obtain rfl : i = 0 := by simp at h; omega
        exact ⟨hK5.cell rfl, hK5.cell rfl, hK5.cell rfl, hK5.cell rfl⟩
      · obtain rfl : i = 0 := by simp at h; omega
        exact HP0.out.keep hB5
    have NW := not_new (l := ⟨true, true, L⟩) hP5 (HT.out.keep hB5) (back_may HM.out) (add_back _ (add_not L (not_len HM.out))) (by rw [Pt.rx, Pt.rx]; rfl)
    unfold pv at NW
    simp only [Pt.kind, Pt.text] at NW
    have NW := hid NW
    have HB5 := hid hB5
    have hlt3' := hid hlt3
    obtain ⟨e0, e1, e2, e3⟩ := blk4 hX5
    clear hX5 hK5 hB5 hP5 hlt3
    go_upto_region 6 with fail
    rw [← hw5]
    clear hw5
    go_wp2_with fail
    refine NW.out.mono ?_
    rintro e w6 ⟨p, rfl, hb6, hA6⟩
    have HB6 := hid (below_then HB5.out hb6)
    have HA6 := hid hA6
    have PL := hid (place_any (.slice a n c) L t w6 (HL.out.keep HB6.out) (by have := not_len HM.out; omega))
    have hpz := placeZ_nonneg L t
    obtain ⟨z, hz⟩ : ∃ z, z = placeZ L t := ⟨_, rfl⟩
    rw [← hz] at PL hpz
    have HPZ := hid hpz
    clear hb6 hA6 hz hpz
    have HA7 := hid fun W (hb : Below w6.heap.size w6 W) => HA6.out.keep hb
    obtain ⟨w7, hw7⟩ : ∃ w7, w7 = (((w6.alloc (.cells #[str t] 9)).alloc (.cells #[.int .i64 0, .int .i64 0, .bool true, .bool false, .slice (some ⟨w6.heap.size, 0, none⟩) 1 1] 48)).alloc (.cells #[str t] 9)).alloc (.cells #[.int .i64 0, .int .i64 0, .bool false, .bool false, .slice (some ⟨w6.heap.size + 2, 0, none⟩) 1 1] 48) := ⟨_, rfl⟩
    have hb7 : Below w6.heap.size w6 w7 := by rw [hw7]; exact (((((Below.refl _ _).alloc (Nat.le_refl _) _).alloc (by simp) _).alloc (by simp; omega) _).alloc (by simp; omega) _)
    have hz7 : w7.heap.size = w6.heap.size + 4 := by rw [hw7]; simp
    have k0 : Blk w7 w6.heap.size [str t] 9 := by rw [hw7]; exact (((Blk.new w6 _ _).alloc _).alloc _).alloc _
    have k1 : Blk w7 (w6.heap.size + 1) [.int .i64 0, .int .i64 0, .bool true, .bool false, .slice (some ⟨w6.heap.size, 0, none⟩) 1 1] 48 := by rw [hw7]; exact ((Blk.new' (by simp) rfl).alloc _).alloc _
    have k2 : Blk w7 (w6.heap.size + 2) [str t] 9 := by rw [hw7]; exact (Blk.new' (by simp) rfl).alloc _
    have k3 : Blk w7 (w6.heap.size + 3) [.int .i64 0, .int .i64 0, .bool false, .bool false, .slice (some ⟨w6.heap.size + 2, 0, none⟩) 1 1] 48 := by rw [hw7]; exact Blk.new' (by simp) rfl
    have t0 := text_one k0
    have t2 := text_one k2
    have S1 := steps_one (s := ⟨0, 0, true, false, [t]⟩) k1 t0
    have S2 := steps_one (s := ⟨0, 0, false, false, [t]⟩) k3 t2
    have one1 : ∀ b : Bool, ones [(⟨0, 0, b, false, [t]⟩ : Stp)] := fun b i hi => by
      obtain rfl : i = 0 := by simp at hi; omega
      rfl
    have one2 : ∀ b : Bool, ones [(⟨0, 0, b, false, [t]⟩ : Stp), ⟨0, 0, b, false, [t]⟩] := fun b i hi => by
      have hi2 : i = 0 ∨ i = 1 := by simp at hi; omega
      rcases hi2 with rfl | rfl <;> rfl
    have K1 := hid fun W (hb : Below w7.heap.size w7 W) => takes_au _ _ (HA7.out W (hb7.trans (hb.mono hb7.size))) (S1.keep hb) (one1 _)
    have K2 := hid fun W (hb : Below w7.heap.size w7 W) => takes_au _ _ (HA7.out W (hb7.trans (hb.mono hb7.size))) (S2.keep hb) (one1 _)
    have K3 := hid fun W (hb : Below w7.heap.size w7 W) => takes_au _ _ (HA7.out W (hb7.trans (hb.mono hb7.size))) (StepsAt.nil W) (fun i hi => absurd hi (by simp))
    have K4 := hid fun v W (hb : Below w6.heap.size w6 W) (hS : StepsAt W v [(⟨0, 0, true, false, [t]⟩ : Stp), ⟨0, 0, true, false, [t]⟩]) => takes_au _ _ (HA7.out W hb) hS (one2 _)
    have K5 := hid fun W (hb : Below w6.heap.size w6 W) => isauto_places (HA7.out W hb)
    have K6 := hid fun W (hb : Below w6.heap.size w6 W) => known_any W (HT.out.keep (HB6.out.trans (hb.mono HB6.out.size)))
    simp only [wordOf, List.map_cons, List.map_nil, has_leaf0, has_leaf1, has_leaf2, List.getD_cons_zero] at K1 K2 K3 K4
    rw [show ((1 + (Rx.leaf ⟨true, true, L⟩).n : Nat) : Int) = 2 from rfl] at K5
    have hk1 : (⟨true, true, L⟩ : Lb).takes (true, t) = !(decide (t ∈ L)) := by
      unfold Lb.takes
      have : L.contains t = decide (t ∈ L) := by rw [Bool.eq_iff_iff, decide_eq_true_iff, List.contains_iff_mem]
      simp only [this]
      cases decide (t ∈ L) <;> rfl
    have hk2 : (⟨true, true, L⟩ : Lb).takes (false, t) = false := rfl
    rw [hk1] at K1
    rw [hk2] at K2
    have HB7 := hid hb7
    have HZ7 := hid hz7
    have HK1 := hid k1
    have HK0 := hid k0
    have HMZ := hid (show (0 ≤ z → decide (t ∈ L) = true) ∧ (¬ 0 ≤ z → decide (t ∈ L) = false) from ⟨fun h => decide_eq_true (HPZ.out.1 h), fun h => decide_eq_false (fun hm => h (HPZ.out.2 hm))⟩)
    obtain ⟨iS, hiS, hzS, hsS, hbS⟩ := info_two Tryd.infoStep
    clear hb7 hz7 k0 k1 k2 k3 t0 t2 S1 S2 one1 one2 hk1 hk2
    go_wp2_with (go_at_call 27; refine PL.out.mono ?_; rintro e wq ⟨rfl, hw⟩; rw [hw]; clear hw wq)
    rw [← hw7]
    clear hw7
    by_cases hz : 0 ≤ z
    · rw [HMZ.out.1 hz] at K1
      have d0 : decide (0 ≤ z) = true := by simp; omega
      go_wp2_with fail
      refine (K1.out _ (Below.refl _ _)).mono ?_
      rintro e w8 ⟨rfl, hb8⟩
      have HB8 := hid hb8
      clear hb8
      go_wp2_with fail
      refine (K2.out _ HB8.out).mono ?_
      rintro e w9 ⟨rfl, hb9⟩
      have HB9 := hid (below_then HB8.out hb9)
      clear hb9
      go_wp2_with fail
      refine (K3.out _ HB9.out).mono ?_
      rintro e w10 ⟨rfl, hb10⟩
      have HB10 := hid (below_then HB9.out hb10)
      have HO := hid (own_one (B := w6.heap.size) (HK1.out.keep HB10.out) (by omega))
      have HW10 := hid (HB7.out.trans (HB10.out.mono HB7.out.size))
      clear hb10
      go_wp2_with (at_builtin; refine wpList_append_want (by rfl) (.tmp 76) (.tmp 77) 36 (by rfl) w6.heap.size 48 iS _ 5 48 Tryd.underlying36 hiS hzS hsS hbS rfl (by decide) (.slice (some ⟨w6.heap.size + 1, 0, none⟩) 1 1) 1 _ (by rfl) HO.out ⟨w6.heap.size + 1, 0, none⟩ 1 1 [.int .i64 0, .int .i64 0, .bool true, .bool false, .slice (some ⟨w6.heap.size, 0, none⟩) 1 1] (by rfl) (by rfl) (World.news_of_block (cs := #[.int .i64 0, .int .i64 0, .bool true, .bool false, .slice (some ⟨w6.heap.size, 0, none⟩) 1 1]) (t := 48) (fr := (0, 0)) (HK1.out.keep HB10.out)) (by simp [Value.oneCell']) (by unfold maxLen; omega) (by omega) HW10.out.size ?_; intro v' w11 hown hgr; have hb11 : Below w6.heap.size w6 w11 := HW10.out.grown hgr HW10.out.size (fun q hq => by simp only [Value.ownBlock, Option.some.injEq] at hq; omega); have hS := steps_two (s := ⟨0, 0, true, false, [t]⟩) hown (text_one ((HK0.out.keep HB10.out).frm (frm_grown hgr) (by simp [Value.ownBlock]))); have K4 := hid (K4.out v' w11 hb11 hS); have HB11 := hid hb11; clear hown hgr hS hb11)
      refine K4.out.mono ?_
      rintro e w12 ⟨rfl, hb12⟩
      have HB12 := hid (HB11.out.trans (hb12.mono HB11.out.size))
      clear hb12
      go_wp2_with (first
        | (go_at_call 17; refine (K5.out _ HB12.out).mono ?_; rintro e wq ⟨rfl, hw⟩; rw [hw]; clear hw wq)
        | (go_at_call 16; refine (K6.out _ HB12.out).mono ?_; rintro e w13 ⟨rfl, hb13⟩))
      go_ret
      exact ⟨rfl, HB6.out.trans ((HB12.out.trans (hb13.mono HB12.out.size)).mono HB6.out.size)⟩
    · rw [HMZ.out.2 (by omega)] at K1
      have hz' : z < 0 := by omega
      have d0 : decide (0 ≤ z) = false := by simp; omega
      go_wp2_with fail
      refine (K1.out _ (Below.refl _ _)).mono ?_
      rintro e w8 ⟨rfl, hb8⟩
      have HB8 := hid hb8
      clear hb8
      go_wp2_with fail
      refine (K2.out _ HB8.out).mono ?_
      rintro e w9 ⟨rfl, hb9⟩
      have HB9 := hid (below_then HB8.out hb9)
      clear hb9
      go_wp2_with fail
      refine (K3.out _ HB9.out).mono ?_
      rintro e w10 ⟨rfl, hb10⟩
      have HB10 := hid (below_then HB9.out hb10)
      have HO := hid (own_one (B := w6.heap.size) (HK1.out.keep HB10.out) (by omega))
      have HW10 := hid (HB7.out.trans (HB10.out.mono HB7.out.size))
      clear hb10
      go_wp2_with (at_builtin; refine wpList_append_want (by rfl) (.tmp 76) (.tmp 77) 36 (by rfl) w6.heap.size 48 iS _ 5 48 Tryd.underlying36 hiS hzS hsS hbS rfl (by decide) (.slice (some ⟨w6.heap.size + 1, 0, none⟩) 1 1) 1 _ (by rfl) HO.out ⟨w6.heap.size + 1, 0, none⟩ 1 1 [.int .i64 0, .int .i64 0, .bool true, .bool false, .slice (some ⟨w6.heap.size, 0, none⟩) 1 1] (by rfl) (by rfl) (World.news_of_block (cs := #[.int .i64 0, .int .i64 0, .bool true, .bool false, .slice (some ⟨w6.heap.size, 0, none⟩) 1 1]) (t := 48) (fr := (0, 0)) (HK1.out.keep HB10.out)) (by simp [Value.oneCell']) (by unfold maxLen; omega) (by omega) HW10.out.size ?_; intro v' w11 hown hgr; have hb11 : Below w6.heap.size w6 w11 := HW10.out.grown hgr HW10.out.size (fun q hq => by simp only [Value.ownBlock, Option.some.injEq] at hq; omega); have hS := steps_two (s := ⟨0, 0, true, false, [t]⟩) hown (text_one ((HK0.out.keep HB10.out).frm (frm_grown hgr) (by simp [Value.ownBlock]))); have K4 := hid (K4.out v' w11 hb11 hS); have HB11 := hid hb11; clear hown hgr hS hb11)
      refine K4.out.mono ?_
      rintro e w12 ⟨rfl, hb12⟩
      have HB12 := hid (HB11.out.trans (hb12.mono HB11.out.size))
      clear hb12
      go_wp2_with (first
        | (go_at_call 17; refine (K5.out _ HB12.out).mono ?_; rintro e wq ⟨rfl, hw⟩; rw [hw]; clear hw wq)
        | (go_at_call 16; refine (K6.out _ HB12.out).mono ?_; rintro e w13 ⟨rfl, hb13⟩))
      go_ret
      exact ⟨rfl, HB6.out.trans ((HB12.out.trans (hb13.mono HB12.out.size)).mono HB6.out.size)⟩
theorem autoNot_any (v : Value) (L : List T) (t : T) (bk : Bool) (w : World) (hL : TextsAt w v L) (hl : ∀ i, (L.getD i []).length ≤ 140737488351232) (hn : L.length * 16 ≤ 140737488351232) (ht : t.length ≤ 9223372036854775807) (hT : T8 w) :
    Calls Tryd.prog 7 #[v, str t, .bool bk] w fun e w' => e = .returned (.bool true) ∧ Below w.heap.size w w' := by
  obtain ⟨a, c, rfl, _⟩ := hL.open
  cases bk
  · exact autoNot_false a _ c L t w hL hl ht hT
  · exact autoNot_true a _ c L t w hL hl ht hT

theorem autoNot_walk (H : Type) (enc : TypeId × Value → H) (W : World) (base : Nat) (args : Array Value) (ds gs : List (DataW H)) (before : List MemPlace)
    (hval : ∀ (j : Nat) t v, Tryd.f7.params[j]? = some t → args[j]? = some v → Value.okWide Tryd.prog W .any base t v)
    (hW : DataW.Whole enc Tryd.prog Tryd.f7.params.toList Rows.autoNotSpec.vars false W args.toList ds gs before)
    (hz : (DataW.weightsEach Tryd.prog (Tryd.f7.params.toList ++ Rows.autoNotSpec.plain.varTypes Tryd.prog) (ds ++ gs)).all (· ≤ reachBytes) = true)
    (hL : laidMetH Tryd.prog Rows.autoNotRow.laid W) (hsh : W.ShapedOpen Tryd.prog) :
    Calls Tryd.prog 7 args W fun e W' => e = .returned (.bool true) ∧ Below W.heap.size W W' := by
  obtain ⟨p, q, hA, _, _, _, _⟩ := hW
  rw [Tryd.params7] at hA hval
  rw [Tryd.params7] at hz
  obtain ⟨v0, vs0, d0, ds0, p0, q0, hargs, rfl, rfl, h0, r0⟩ := trodAll_cons hA
  obtain ⟨v1, vs1, d1, ds1, p1, q1, rfl, rfl, rfl, h1, r1⟩ := trodAll_cons r0
  obtain ⟨v2, vs2, d2, ds2, p2, q2, rfl, rfl, rfl, h2, r2⟩ := trodAll_cons r1
  obtain ⟨rfl, rfl, rfl⟩ := trodAll_nil r2
  obtain rfl : args = #[v0, v1, v2] := by cases args; simp_all
  obtain ⟨l0, L0, b0, z0⟩ := arg_strs Tryd.underlying22 Tryd.underlying9 (show Tryd.prog.cellsOf 9 = 1 ∧ Tryd.prog.bytesOf 9 = 16 by exact ⟨by kernel_rfl, by kernel_rfl⟩) (hval 0 22 v0 rfl rfl) h0 (sized_arg hz (j := 0) (t := 22) (d := d0) rfl rfl)
  obtain ⟨x1, rfl, rfl, rfl, w1⟩ := Go.ChangeMaps.open_string Tryd.underlying9 (hval 1 9 v1 rfl rfl) h1
  obtain ⟨x2, rfl, rfl, rfl⟩ := Go.RowKit.open_bool Tryd.underlying4 (hval 2 4 v2 rfl rfl) h2
  rw [str_of x1]
  exact autoNot_any v0 l0 x1.data.toList x2 W L0 b0 z0 (by rw [show x1.data.toList.length = x1.size from Array.length_toList]; unfold maxLen at w1; omega) (t8_of hL hsh)

theorem autoNot_lifted (os : Os) (started : os.Started) (H : Type) (enc : TypeId × Value → H) (F : Stop.Interp) :
    ReturnsInHanded {} Tryd.checked os 7 .any ((OpenSpec.ofChange Rows.autoNotSpec).preRow enc Tryd.prog Tryd.f7 Rows.autoNotRow.domain false Rows.autoNotRow.laid) (((OpenSpec.ofChange Rows.autoNotSpec).at F).post enc Tryd.prog Tryd.f7 false true false false) := by
  obtain ⟨places, hx⟩ : ∃ places, DataW.whole enc Tryd.prog ((laidWorld os).forCall (fun _ _ => 0) ⟨#[], #[.slice none 0 0, .string ByteArray.empty, .bool false], []⟩).memory Tryd.f7.params.toList Rows.autoNotSpec.vars false (#[.slice none 0 0, .string ByteArray.empty, .bool false] : Array Value).toList 8 = some ([.nil, .lit (.string []), .lit (.bool false)], [], places) := ⟨[], by kernel_rfl⟩
  refine returnsInHanded_of_row (C := Tryd.checked) (s := OpenSpec.ofChange Rows.autoNotSpec) own started (by kernel_rfl) Tryd.func7
    (witness_row_at (enc := enc) (C := Tryd.checked) false (laidWorld os) #[.slice none 0 0, .string ByteArray.empty, .bool false] rfl (by kernel_rfl) (by kernel_rfl) (by kernel_rfl)
      (OpenSpec.preRow_of_cond 8 hx (by kernel_rfl) (fun k hk => by cases hk) (by kernel_rfl) (laidMet_of_run' 8 (by kernel_rfl) (by kernel_rfl)))) ?_
  intro W base args ds gs before hval hW _ _ hz hL hsh _
  refine (autoNot_walk H enc W base args ds gs before hval hW hz hL hsh).mono fun e W' ⟨he, hb⟩ => ⟨_, he, ?_⟩
  exact law_post (fn := Tryd.f7) (s := Rows.autoNotSpec) (tb := 4) rfl (fun ds hd => by match ds, hd with | [d0, d1, d2], _ => rfl) rfl Tryd.underlying4 (by kernel_rfl) hW hb

theorem autoNot_said : Rows.AutoNotSaid :=
  OpenClaim.holds_of_cond 7 Tryd.f7 rfl rfl rfl rfl rfl rfl rfl ⟨rfl, rfl, rfl, rfl, rfl⟩ rfl rfl rfl rfl rfl (by kernel_rfl) Tryd.func7 (by kernel_rfl)
    (of_decide_eq_true (by kernel_rfl)) (by unfold Func.isWrapper; first | (rw [if_pos (by decide +kernel)]; kernel_rfl) | (rw [if_neg (by decide +kernel)]; exact ⟨rfl, rfl⟩))
    (fun os started H enc _ F => by rw [OpenClaim.pre_eq_preRow]; exact autoNot_lifted os started H enc F)

theorem autoNot_plain (f : FuncId) (fn : Func) (hf : Tryd.pinned.checked.prog.funcNamed Rows.autoNotRow.func = some f) (hfn : Tryd.pinned.checked.prog.funcs[f]? = some fn) :
    false = Tryd.pinned.checked.prog.looks [] ∧ ∀ (j : Nat) t, fn.params[j]? = some t → Tryd.pinned.checked.prog.wantsStandIn t = false := by
  obtain rfl : f = 7 := Option.some.inj ((show Tryd.prog.funcNamed Rows.autoNotRow.func = some 7 by kernel_rfl).symm.trans hf) |>.symm
  obtain rfl : fn = Tryd.f7 := (Option.some.inj (Tryd.func7.symm.trans hfn)).symm
  refine ⟨by kernel_rfl, fun j t ht => ?_⟩
  have h := Array.mem_of_getElem? ht
  have hall : Tryd.f7.params.all (fun t => !Tryd.prog.wantsStandIn t) = true := by kernel_rfl
  have := Array.all_eq_true_iff_forall_mem.1 hall t h
  show Tryd.prog.wantsStandIn t = false
  simpa using this

/-- THE STATEMENT. -/
theorem autoNot_card : Rows.AutoNotCardSaid :=
  Claim7.holds_tied_plain_at .later [] _ _ _ _ autoNot_said (fun _ h => by cases h) (by kernel_rfl) (fun _ h => by cases h) autoNot_row_tie rfl ⟨rfl, rfl⟩ (by kernel_rfl) rfl autoNot_plain (by kernel_rfl)
end Go.Proofs.YtobcbaeoedpefaaDoor
