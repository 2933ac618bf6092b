/- RgRef, RgRef2, RgRef3, RgArg. -/
import Derived.Test.YtjaebndajhppgaaGreatDoorGRg6
import Derived.Test.YtjaebndajhppgaaGreatDoorGRg5
import Derived.Test.YtjaebndajhppgaaGreatDoorGB
import Derived.Deep.SlicePairs
namespace Go.Proofs.YtjaebndajhppgaaGreatDoor
set_option linter.unusedVariables false
set_option maxRecDepth 100000
set_option linter.unusedSimpArgs false
open Go Go.ChangeShapes Go.WideShapes Go.ChangeAt Go.RowKit
theorem eqIn_ids (a b c d e f : Int) (w : World) : (Op.equalIn 10000 77 (.agg #[.int .i64 a, .int .i64 b, .int .i64 c]) (.agg #[.int .i64 d, .int .i64 e, .int .i64 f])).run Tryz.prog w = .ok (decide (((a, b, c) : Rg.T) = (d, e, f))) w := by
  have u3 := Tryz.underlying3
  have a3 := Tryz.isAgg3
  have z3 := Tryz.sizeOf3
  rw [show (10000 : Nat) = 9999 + 1 from rfl, Op.equalIn]
  simp only [Sem.run_bind, run_underlying Tryz.underlying77, Result.andThen_ok]
  simp only [Std.Legacy.Range.forIn_eq_forIn_range', Std.Legacy.Range.size, Nat.sub_zero, Nat.add_sub_cancel, Nat.div_one, List.range'_succ, List.range'_zero, List.forIn_cons, List.forIn_nil]
  go_simp
  by_cases h1 : a = d <;> by_cases h2 : b = e <;> by_cases h3 : c = f <;> simp [h1, h2, h3]
theorem neq_ids (a b c d e f : Int) (w : World) : (binOp .neq 77 (.agg #[.int .i64 a, .int .i64 b, .int .i64 c]) (.agg #[.int .i64 d, .int .i64 e, .int .i64 f])).run Tryz.prog w = .ok (.bool (!decide (((a, b, c) : Rg.T) = (d, e, f)))) w := by
  rw [run_neq_struct, eqIn_ids]; rfl
end Go.Proofs.YtjaebndajhppgaaGreatDoor
namespace Go.Proofs.YtjaebndajhppgaaGreatDoor
set_option linter.unusedVariables false
set_option linter.unusedSimpArgs false
set_option maxRecDepth 100000
open Go.ChangeShapes Go.WideShapes Go.ChangeAt Go.RowKit
end Go.Proofs.YtjaebndajhppgaaGreatDoor
namespace Go.Proofs.YtjaebndajhppgaaGreatDoor
set_option linter.unusedVariables false
set_option linter.unusedSimpArgs false
set_option maxRecDepth 100000
open Go.ChangeShapes Go.WideShapes Go.ChangeAt Go.RowKit
theorem mt_iff (p t : Rg.T) : Rg.mt p t = true ↔ ∀ c, c < 3 → Rg.at' p c = 0 ∨ Rg.at' p c = Rg.at' t c := by
  unfold Rg.mt
  simp only [Bool.and_eq_true, Bool.or_eq_true, decide_eq_true_eq]
  constructor
  · rintro ⟨⟨h1, h2⟩, h3⟩ c hc
    rcases Rg.c3 hc with rfl | rfl | rfl
    · exact h1
    · exact h2
    · exact h3
  · exact fun h => ⟨⟨h 0 (by omega), h 1 (by omega)⟩, h 2 (by omega)⟩
theorem rmatch_any (x y : Rg.T) (w : World) : Calls Tryz.prog 82 #[tv x, tv y] w fun e w' => e = .returned (.bool (Rg.mt x y)) ∧ Below w.heap.size w w' := by
  unfold tv
  go_enter Tryz.func82, Tryz.ntmps82
  go_upto_region 1 with fail
  obtain ⟨w1, hw1, HX, HY, HB, HD⟩ := two_box w x y
  rw [← hw1]
  clear hw1
  go_wp2
  go_loopw [5] (fun s5 wr => ∃ i : Nat, i ≤ 3 ∧ s5 = .int .i64 i ∧ Hid (∃ q, wr = w1.drewN q) ∧ Hid (∀ j, j < i → Rg.at' x j = 0 ∨ Rg.at' x j = Rg.at' y j)) (fun s5 _ => 3 - (intOf s5).toNat)
  case atStart => exact ⟨0, by omega, rfl, hid ⟨0, rfl⟩, fun j hj => absurd hj (Nat.not_lt_zero _)⟩
  case round =>
    obtain ⟨i, hi, rfl, HQ, HE⟩ := hrel
    obtain ⟨q, hq⟩ := HQ.out
    have hX : Blk wr w.heap.size (tl x) 77 := by rw [hq]; exact HX.out.drewN q
    have hY : Blk wr (w.heap.size + 1) (tl y) 77 := by rw [hq]; exact HY.out.drewN q
    by_cases hlt : i < 3
    · have c1 := hX.cell (tl_get x i hlt)
      have c2 := hY.cell (tl_get y i hlt)
      by_cases hc : Rg.at' x i = 0
      · rw [hc] at c1
        have HC := hid hc
        clear hc hX hY hq
        go_upto_region 4 with fail
        go_quiet (fail)
        go_wp2
        go_roundw
        case rel =>
          obtain ⟨q, hq⟩ := HQ.out
          refine ⟨i + 1, by omega, by go_num, hid ⟨_, by rw [hq, World.drewN_drewN]⟩, fun j hj => ?_⟩
          by_cases hji : j < i
          · exact HE.out j hji
          · obtain rfl : j = i := by omega
            exact Or.inl HC.out
        case measure => simp [intOf]; omega
      · by_cases hc2 : Rg.at' x i = Rg.at' y i
        · have HC := hid hc2
          rw [← hc2] at c2
          obtain ⟨u, hu⟩ : ∃ u, u = Rg.at' x i := ⟨_, rfl⟩
          rw [← hu] at c1 c2 hc
          have hb : (u == 0) = false := by rw [beq_eq_false_iff_ne]; exact hc
          clear hc2 hu hX hY hq
          go_upto_region 4 with fail
          go_quiet (fail)
          go_wp2
          go_roundw
          case rel =>
            obtain ⟨q, hq⟩ := HQ.out
            refine ⟨i + 1, by omega, by go_num, hid ⟨_, by rw [hq, World.drewN_drewN]⟩, fun j hj => ?_⟩
            by_cases hji : j < i
            · exact HE.out j hji
            · obtain rfl : j = i := by omega
              exact Or.inr HC.out
          case measure => simp [intOf]; omega
        · have hr : Rg.mt x y = false := by
            cases h : Rg.mt x y
            · rfl
            · rcases (mt_iff x y).1 h i hlt with h | h
              · exact absurd h hc
              · exact absurd h hc2
          have HR := hid hr
          obtain ⟨u, hu⟩ : ∃ u, u = Rg.at' x i := ⟨_, rfl⟩
          obtain ⟨v, hv⟩ : ∃ v, v = Rg.at' y i := ⟨_, rfl⟩
          rw [← hu] at c1 hc hc2
          rw [← hv] at c2 hc2
          have hb : (u == 0) = false := by rw [beq_eq_false_iff_ne]; exact hc
          have hb2 : (u == v) = false := by rw [beq_eq_false_iff_ne]; exact hc2
          have hb3 : (u != 0) = true := by simp [hc]
          have hb4 : (u != v) = true := by simp [hc2]
          clear hr hu hv hX hY hq
          go_upto_region 4 with fail
          go_quiet (fail)
          go_wp2
          go_ret
          obtain ⟨q, hq⟩ := HQ.out
          refine ⟨by rw [HR.out]; rfl, ?_⟩
          rw [hq]
          exact below_drawn (below_drawn HB.out _) _
    · obtain rfl : i = 3 := by omega
      have hr : Rg.mt x y = true := (mt_iff x y).2 HE.out
      have HR := hid hr
      clear hr hX hY
      go_wp2
      go_ret
      refine ⟨by rw [HR.out]; rfl, ?_⟩
      first | (rw [hq]; exact below_drawn HB.out _) | exact below_drawn HB.out _
theorem rgrsame_any (v1 v2 : Value) (k l : List Rg.T) (w : World) (h1 : IdsAt w v1 k) (h2 : IdsAt w v2 l) (hk : k.length ≤ 140737488351232) (hl : l.length ≤ 140737488351232) :
    Calls Tryz.prog 38 #[v1, v2] w fun e w' => e = .returned (.bool (decide (k = l))) ∧ Below w.heap.size w w' := by
  obtain ⟨a1, cap1, e1, p1, p2, p3⟩ := h1.open
  obtain ⟨a2, cap2, e2, q1, q2, q3⟩ := h2.open
  subst e1
  subst e2
  have H1 := hid h1
  have H2 := hid h2
  have EQ := fun (a b c d e f : Int) w => neq_ids a b c d e f w
  clear h1 h2
  by_cases hne : k.length = l.length
  · obtain ⟨n, hn⟩ : ∃ n, n = k.length := ⟨_, rfl⟩
    have hn2 : n = l.length := by omega
    have HN := hid hn
    have HN2 := hid hn2
    rw [← hn] at p1 hk ⊢
    rw [← hn2] at q1 hl ⊢
    clear hne hn hn2
    go_enter Tryz.func38, Tryz.ntmps38
    go_wp2
    go_loopw [5] (fun s5 wr => ∃ i : Nat, i ≤ n ∧ s5 = .int .i64 i ∧ Hid (Below w.heap.size w wr) ∧ Hid (k.take i = l.take i)) (fun s5 _ => n - (intOf s5).toNat)
    case atStart => exact ⟨0, by omega, rfl, Below.refl _ _, rfl⟩
    case round =>
      obtain ⟨i, hi, rfl, HB, HE⟩ := hrel
      by_cases hlt : i < n
      · have hik : i < k.length := by rw [← HN.out]; exact hlt
        have hil : i < l.length := by rw [← HN2.out]; exact hlt
        obtain ⟨b1, o1, rfl, x1⟩ := (H1.out.keep HB.out).get hik
        obtain ⟨b2, o2, rfl, x2⟩ := (H2.out.keep HB.out).get hil
        obtain ⟨x, hx⟩ : ∃ x, x = k[i] := ⟨_, rfl⟩
        obtain ⟨y, hy⟩ : ∃ y, y = l[i] := ⟨_, rfl⟩
        have c0 := x1 i hik 0 (by omega)
        have c1 := x1 i hik 1 (by omega)
        have c2 := x1 i hik 2 (by omega)
        have d0 := x2 i hil 0 (by omega)
        have d1 := x2 i hil 1 (by omega)
        have d2 := x2 i hil 2 (by omega)
        rw [← hx] at c0 c1 c2
        rw [← hy] at d0 d1 d2
        have a0 : ∀ t : Rg.T, Rg.at' t 0 = t.1 := fun t => rfl
        have a1 : ∀ t : Rg.T, Rg.at' t 1 = t.2.1 := fun t => rfl
        have a2 : ∀ t : Rg.T, Rg.at' t 2 = t.2.2 := fun t => rfl
        rw [a0, Nat.add_zero] at c0 d0
        rw [a1] at c1 d1
        rw [a2] at c2 d2
        have EQ1 := fun w => EQ x.1 x.2.1 x.2.2 y.1 y.2.1 y.2.2 w
        have hltI : (i : Int) < n := by omega
        have HX := hid hx
        have HY := hid hy
        clear x1 x2 a0 a1 a2 EQ hx hy
        by_cases hxy : x = y
        · have hd : decide (((x.1, x.2.1, x.2.2) : Rg.T) = (y.1, y.2.1, y.2.2)) = true := decide_eq_true hxy
          rw [hd] at EQ1
          have HXY := hid hxy
          clear hd hxy
          go_upto_region 6 with fail
          go_quiet (fail)
          go_wp2
          go_roundw
          case rel =>
            refine ⟨i + 1, by omega, by go_num, hid (below_drawn HB.out _), ?_⟩
            show k.take (i + 1) = l.take (i + 1)
            rw [List.take_add_one, List.take_add_one, HE.out, List.getElem?_eq_getElem hik, List.getElem?_eq_getElem hil, ← HX.out, ← HY.out, HXY.out]
          case measure => simp [intOf]; omega
        · have hd : decide (((x.1, x.2.1, x.2.2) : Rg.T) = (y.1, y.2.1, y.2.2)) = false := decide_eq_false hxy
          rw [hd] at EQ1
          have hr : decide (k = l) = false := by
            rw [decide_eq_false_iff_not]
            intro e
            subst e
            exact hxy (HX.out.trans HY.out.symm)
          have HR := hid hr
          clear hd hxy hr
          go_upto_region 6 with fail
          go_quiet (fail)
          go_wp2
          go_ret
          exact ⟨by rw [HR.out]; rfl, below_drawn HB.out _⟩
      · obtain rfl : i = n := by omega
        have hr : decide (k = l) = true := by
          have := HE.out
          rw [List.take_of_length_le (by rw [← HN.out]; exact Nat.le_refl _), List.take_of_length_le (by rw [← HN2.out]; exact Nat.le_refl _)] at this
          exact decide_eq_true this
        have HR := hid hr
        clear hr
        go_wp2
        go_ret
        exact ⟨by rw [HR.out]; rfl, HB.out⟩
  · have hr : decide (k = l) = false := by rw [decide_eq_false_iff_not]; intro e; exact hne (by rw [e])
    have hb : (((k.length : Nat) : Int) == ((l.length : Nat) : Int)) = false := by rw [beq_eq_false_iff_ne]; omega
    have HR := hid hr
    clear hr
    go_enter Tryz.func38, Tryz.ntmps38
    go_wp2
    go_ret
    exact ⟨by rw [HR.out]; rfl, Below.refl _ _⟩
end Go.Proofs.YtjaebndajhppgaaGreatDoor
namespace Go.Proofs.YtjaebndajhppgaaGreatDoor
set_option linter.unusedVariables false
set_option linter.unusedSimpArgs false
set_option maxRecDepth 100000
open Go.ChangeShapes Go.WideShapes Go.ChangeAt Go.RowKit
theorem ids_get {W : World} {a : Option Addr} {n cap : Nat} {L : List Rg.T} (h : IdsAt W (.slice a n cap) L) {i : Nat} (hi : i < L.length) : ∃ b off, a = some ⟨b, off, none⟩ ∧ ∀ i (h : i < L.length), W.cell? ⟨b, off + i * 3, none⟩ = some (.int .i64 L[i].1) ∧ W.cell? ⟨b, off + i * 3 + 1, none⟩ = some (.int .i64 L[i].2.1) ∧ W.cell? ⟨b, off + i * 3 + 2, none⟩ = some (.int .i64 L[i].2.2) := by
  obtain ⟨b, off, rfl, hx⟩ := h.get hi
  exact ⟨b, off, rfl, fun i hi => ⟨hx i hi 0 (by omega), hx i hi 1 (by omega), hx i hi 2 (by omega)⟩⟩
theorem tl_one (x : Rg.T) : ∀ u ∈ tl x, u.oneCell' = true := by
  intro u hu; simp [tl] at hu; rcases hu with rfl | rfl | rfl <;> rfl
theorem news3 (W : World) (x : Rg.T) : ∀ ad, some (⟨W.heap.size, 0, none⟩ : Addr) = some ad → ∀ j u, (tl x)[j]? = some u → (W.alloc (.cells #[.int .i64 x.1, .int .i64 x.2.1, .int .i64 x.2.2] 77)).cell? (ad.add j) = some u := by
  intro ad had k u hu
  cases had
  match k with
  | 0 => simp [tl] at hu; subst hu; simp [go_sem]
  | 1 => simp [tl] at hu; subst hu; simp [go_sem]
  | 2 => simp [tl] at hu; subst hu; simp [go_sem]
  | k + 3 => simp [tl] at hu
set_option maxHeartbeats 1000000 in
theorem refall_any (v0 : Value) (l : List Rg.T) (t : Rg.T) (w : World) (h : IdsAt w v0 l) (hl : l.length ≤ 1000) :
    Calls Tryz.prog 40 #[v0, tv t] w fun e w' => ∃ v, e = .returned v ∧ NewIds w.heap.size w' v (l.filter (Rg.mt t)) ∧ Below w.heap.size w w' := by
  obtain ⟨i0, hi, hz0, hz1, hz2⟩ := info_parts Tryz.rainfo77
  obtain ⟨a, cap, e1, p1, p2, p3⟩ := h.open
  subst e1
  have HI := hid h
  obtain ⟨n, hn⟩ : ∃ n, n = l.length := ⟨_, rfl⟩
  have HN := hid hn
  rw [← hn] at p1 hl ⊢
  clear h hn
  unfold tv
  go_enter Tryz.func40, Tryz.ntmps40
  go_upto_region 1 with fail
  obtain ⟨w1, hw1, HX, HB, HD, hz⟩ := ids_box w t
  rw [← hw1]
  clear hw1
  go_wp2
  go_loopw [5, 6] (fun s5 s6 wr => ∃ (i : Nat) (lv : Value) (m : Nat), i ≤ n ∧ s6 = .int .i64 i ∧ s5 = lv ∧ m ≤ i ∧ Hid (m = ((l.take i).filter (Rg.mt t)).length) ∧ Hid (Below w.heap.size w wr) ∧ Hid (Blk wr w.heap.size (tl t) 77) ∧ Hid (wr.ownsRow (w.heap.size + 1) 77 3 lv m (fl ((l.take i).filter (Rg.mt t))))) (fun s5 s6 _ => n - (intOf s6).toNat)
  case atStart => exact ⟨0, .slice none 0 0, 0, by omega, rfl, rfl, by omega, rfl, HB.out, HX.out, by rw [List.take_zero, List.filter_nil, fl_nil]; exact hid (World.ownsRow_nil _ _ _ _)⟩
  case round =>
    obtain ⟨i, lv, m, hin, rfl, hlv, hmi, HM, HBr, HXr, HO⟩ := hrel
    have hlv2 := hlv.symm
    subst hlv2
    by_cases hlt : i < n
    · have hil : i < l.length := by rw [← HN.out]; exact hlt
      have hI2 := HI.out.keep HBr.out
      rw [← HN.out] at hI2
      obtain ⟨b, off, rfl, hx⟩ := ids_get hI2 hil
      obtain ⟨x, hxx⟩ : ∃ x, x = l[i] := ⟨_, rfl⟩
      have c := hx i hil
      rw [← hxx] at c
      have HXX := hid hxx
      obtain ⟨t0, t1, t2⟩ := ids_cells HXr.out
      have g0 := fun q : Later wr.heap.size wr => q.keep c.1
      have g1 := fun q : Later wr.heap.size wr => q.keep c.2.1
      have g2 := fun q : Later wr.heap.size wr => q.keep c.2.2
      have g3 := fun q : Later wr.heap.size wr => q.keep t0
      have g4 := fun q : Later wr.heap.size wr => q.keep t1
      have g5 := fun q : Later wr.heap.size wr => q.keep t2
      have MM := hid fun q : Later wr.heap.size wr => rmatch_any t x q.it
      unfold tv at MM
      have hltI : (i : Int) < n := by omega
      have htake : l.take (i + 1) = l.take i ++ [x] := by rw [List.take_add_one, List.getElem?_eq_getElem hil, ← hxx]; rfl
      have HTK := hid htake
      have HHX := hid hx
      clear hx hxx hI2 htake c t0 t1 t2
      cases hm : Rg.mt t x
      · rw [hm] at MM
        have hf : (l.take (i + 1)).filter (Rg.mt t) = (l.take i).filter (Rg.mt t) := by rw [HTK.out, List.filter_append]; simp [hm]
        have HF := hid hf
        clear hm hf
        go_upto_region 5 with fail
        refine wp_region_later wr.heap.size (by kernel_rfl) (by kernel_rfl) ?_
        repeat (go_big_quiet_step ((go_at_call 82; with_reducible exact Later.call (Nat.le_refl _) (MM.out _))))
        refine wpQuiet_nil ?_
        rintro w5 ⟨q, hq5⟩
        have hb5 : Below wr.heap.size wr w5 := by rw [hq5]; exact q.low
        have HB5 := hid (below_then HBr.out hb5)
        have HX5 := hid (HXr.out.keep hb5)
        have HO5 := hid (rgown_below HO.out hb5)
        clear hq5 q g0 g1 g2 g3 g4 g5 hb5 HO
        go_wp2
        go_roundw
        case rel => exact ⟨i + 1, lv, m, by omega, by go_num, rfl, by omega, hid (by rw [HF.out]; exact HM.out), HB5.out, HX5.out, hid (by rw [HF.out]; exact HO5.out)⟩
        case measure => simp [intOf]; omega
      · rw [hm] at MM
        have hf : (l.take (i + 1)).filter (Rg.mt t) = (l.take i).filter (Rg.mt t) ++ [x] := by rw [HTK.out, List.filter_append]; simp [hm]
        have hfl : fl ((l.take i).filter (Rg.mt t)) ++ tl x = fl ((l.take (i + 1)).filter (Rg.mt t)) := by rw [hf, fl_snoc]
        have hml : m + 1 = ((l.take (i + 1)).filter (Rg.mt t)).length := by rw [hf, List.length_append, ← HM.out]; rfl
        have HFL := hid hfl
        have HML := hid hml
        clear hm hf hfl hml
        go_upto_region 5 with fail
        refine wp_region_later wr.heap.size (by kernel_rfl) (by kernel_rfl) ?_
        repeat (go_big_quiet_step ((go_at_call 82; with_reducible exact Later.call (Nat.le_refl _) (MM.out _))))
        refine wpQuiet_nil ?_
        rintro w5 ⟨q, hq5⟩
        have hb5 : Below wr.heap.size wr w5 := by rw [hq5]; exact q.low
        have HB5 := hid (below_then HBr.out hb5)
        have HX5 := hid (HXr.out.keep hb5)
        have HO5 := hid (rgown_below HO.out hb5)
        have k0 := below_keep hb5 (HHX.out i hil).1
        have k1 := below_keep hb5 (HHX.out i hil).2.1
        have k2 := below_keep hb5 (HHX.out i hil).2.2
        rw [← HXX.out] at k0 k1 k2
        clear hq5 q g0 g1 g2 g3 g4 g5 hb5 HO
        have hz5 := HB5.out.size
        have hlt5 := HX5.out.lt
        have hob : ∀ k, lv.ownBlock = some k → w.heap.size + 1 ≤ k := fun k hk => (HO5.out.lt k hk).1
        go_wp2_with (at_builtin; refine wpList_append_blk rfl (.tmp 19) (.tmp 24) 79 rfl (w.heap.size + 1) 77 i0 _ 3 24 Tryz.underlying79 hi hz0 hz1 hz2 rfl (by decide) _ _ _ rfl (HO5.out.alloc _) (some ⟨w5.heap.size, 0, none⟩) 1 1 (tl x) rfl (fun h => by cases h) rfl (news3 w5 x) (tl_one x) (by unfold maxLen; omega) (by omega) (by simp; omega) ?_)
        intro lv' w6 hown hgr hmv
        rw [HFL.out] at hown
        have hgr5 : w5.grownBy w6 lv.ownBlock := ⟨hgr.os, hgr.tape, hgr.output, by have := hgr.size; simp at this; omega, fun k hk hne => by
          rw [hgr.block k (by simp; omega) hne, RowKit.Below.heap_alloc _ _ _ hk]⟩
        have HX6 : Blk w6 w.heap.size (tl t) 77 := by
          have h := HX5.out
          unfold Blk at *
          rw [hgr5.block w.heap.size (by omega) (fun e => by have := hob _ e.symm; omega)]; exact h
        have HB6 : RowKit.Below w.heap.size w w6 := HB5.out.grown hgr5 hz5 (fun k hk => by have := hob k hk; omega)
        have HOWN := hid hown
        have HHX6 := hid HX6
        have HHB6 := hid HB6
        clear hown hgr hmv hgr5 hob HX6 HB6 HO5 k0 k1 k2
        go_wp2
        go_roundw
        case rel => exact ⟨i + 1, _, m + 1, by omega, by go_num, rfl, by omega, HML.out, HHB6.out, HHX6.out, HOWN.out⟩
        case measure => simp [intOf]; omega
    · obtain rfl : i = n := by omega
      have hO := HO.out
      have hl2 : l.take i = l := List.take_of_length_le (by rw [← HN.out]; exact Nat.le_refl _)
      rw [hl2] at hO
      have hm2 := HM.out
      rw [hl2] at hm2
      obtain ⟨a', cap', hv, h3, h4⟩ := newIds_own hO hm2
      have H34 := hid (And.intro h3 h4)
      have HV := hid hv
      clear hO HO hm2 h3 h4 HM hl2 hv
      go_wp2
      go_ret
      refine ⟨_, rfl, ⟨a', cap', HV.out, H34.out.1, ?_⟩, HBr.out⟩
      rcases H34.out.2 with h4 | ⟨g, e1, e2, e3, e4⟩
      · exact Or.inl h4
      · exact Or.inr ⟨g, e1, by omega, e3, e4⟩
end Go.Proofs.YtjaebndajhppgaaGreatDoor
namespace Go.Proofs.YtjaebndajhppgaaGreatDoor
set_option linter.unusedVariables false
set_option linter.unusedSimpArgs false
set_option maxRecDepth 100000
open Go.ChangeShapes Go.WideShapes Go.ChangeAt Go.RowKit
def Fits (t : Rg.T) : Prop := ∀ c, c < 3 → -9223372036854775808 ≤ Rg.at' t c ∧ Rg.at' t c ≤ 9223372036854775807
section
variable {H : Type} {enc : TypeId × Value → H} {W : World} {base : Nat} {v : Value} {d : DataW H} {p : List MemPlace}
theorem ids_trod {sp : Nat → Bool} {held : Bool} {n : Nat} {cs : List Value} {x : DataW H × List MemPlace} (h : DataW.trod enc Tryz.prog W base sp held n 77 cs = some x) : ∃ t : Rg.T, cs = tl t ∧ Fits t := by
  obtain ⟨xs, m, _, _, hcl, hxl, hf⟩ := DataW.trod_array Tryz.underlying77 h
  have hc3 : cs.length = 3 := by rw [hcl]; kernel_rfl
  have h1 : Tryz.prog.cellsOf 3 = 1 := by kernel_rfl
  match cs, hc3 with
  | [c0, c1, c2], _ =>
    have e0 := hf 0 (by omega)
    have e1 := hf 1 (by omega)
    have e2 := hf 2 (by omega)
    rw [List.getElem?_eq_getElem (by omega)] at e0 e1 e2
    simp only [h1, Nat.mul_one, List.drop_zero, List.drop_succ_cons, List.take_succ_cons, List.take_zero] at e0 e1 e2
    obtain ⟨a, q0, _, w0⟩ := DataW.trod_int Tryz.underlying3 e0
    obtain ⟨b, q1, _, w1⟩ := DataW.trod_int Tryz.underlying3 e1
    obtain ⟨c, q2, _, w2⟩ := DataW.trod_int Tryz.underlying3 e2
    simp only [List.cons.injEq, and_true] at q0 q1 q2
    refine ⟨(a, b, c), by rw [q0, q1, q2]; rfl, fun k hk => ?_⟩
    rcases Rg.c3 hk with rfl | rfl | rfl
    · exact bounds_i64 w0
    · exact bounds_i64 w1
    · exact bounds_i64 w2
theorem arg_id (h : DataW.Trod enc Tryz.prog W 0 (fun _ => true) true 77 v d p) : ∃ t : Rg.T, v = tv t ∧ Fits t := by
  obtain ⟨fuel, hf⟩ := h
  obtain ⟨t, e, hb⟩ := ids_trod hf
  refine ⟨t, ?_, hb⟩
  cases v with
  | agg xs =>
    simp only [Value.cells] at e
    have : xs = (tl t).toArray := by rw [← e]
    rw [this]; rfl
  | _ => simp [Value.cells, tl] at e
end
end Go.Proofs.YtjaebndajhppgaaGreatDoor
