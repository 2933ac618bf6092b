/- auto's add: negated sets, Backs, stars. -/
import Derived.Test.YtobcbaeoedpefaaDoorAuAdd
namespace Go.Proofs.YtobcbaeoedpefaaDoor
set_option linter.unusedVariables false
set_option linter.unusedSimpArgs false
set_option maxRecDepth 100000
open Go.ChangeShapes Go.WideShapes Go.ChangeAt Go.RowKit
open Au
set_option maxHeartbeats 4000000 in
theorem add_not (L : List T) (hL4 : L.length ≤ 4) : AddOk (.mk 8 [] L []) := by
  intro W0 w v u bk Y p lb cl nb cn lxs ls nx last hP hB h hY hn h32 hx
  have hrx : (Pt.mk 8 [] L []).rx bk = .leaf ⟨bk, true, L⟩ := by rw [Pt.rx]; rfl
  rw [hrx] at h32 ⊢
  obtain ⟨_, _, hLt, hLl, ak, capk, bb, off, f, g, hgi, q1, q2, q3, q4, hrow, hkid⟩ := hP.open
  obtain ⟨ta, tc, hfi, t1, t2, t3, htr⟩ := hLt.open
  subst hfi
  rw [hgi]
  unfold pv
  simp only [Pt.kind, Pt.text, Pt.kids, Pt.texts, List.length_nil, List.length_cons, Nat.zero_add] at hLt hLl q1 q3 q4 hrow hkid t1 t3 htr hgi ⊢
  obtain ⟨w1, hw1⟩ : ∃ w1, w1 = (w.alloc (.cells #[.int .i64 8, .string ⟨#[]⟩, .slice ta L.length tc, .slice ak 0 capk] 25)).alloc (.cells #[.int .u32 0, .int .u32 0, .bool false] 63) := ⟨_, rfl⟩
  have hz1 : w1.heap.size = w.heap.size + 2 := by rw [hw1]; simp
  have hb1 : Below w.heap.size w w1 := by rw [hw1]; exact ((Below.refl _ _).alloc (Nat.le_refl _) _).alloc (by simp) _
  have hX : Blk w1 w.heap.size [.int .i64 8, .string ⟨#[]⟩, .slice ta L.length tc, .slice ak 0 capk] 25 := by rw [hw1]; exact (Blk.new w _ _).alloc _
  have hR : Blk w1 (w.heap.size + 1) [.int .u32 0, .int .u32 0, .bool false] 63 := by rw [hw1]; exact Blk.new' (by simp) rfl
  have h1 := ((h.more (Z := fun k => Y k ∨ k = w.heap.size ∨ k = w.heap.size + 1) (fun k e => e.elim Or.inl (fun e => Or.inr (by omega)))).keep hb1)
  have hY1 : ∀ k, (Y k ∨ k = w.heap.size ∨ k = w.heap.size + 1) → k < w1.heap.size := fun k e => by rcases e with e | e | e; (have := hY k e; omega); omega; omega
  have hBw : Below W0.heap.size W0 w1 := hB.trans (hb1.mono hB.size)
  obtain ⟨c0, c1, c2, c3⟩ := blk4 hX
  rw [Rx.n_leaf] at h32
  have CL := hid (clone_any _ L w1 (hLt.keep (hBw.trans (Below.refl _ _) |> fun h => (show Below W0.heap.size W0 w1 from h))) (by omega))
  have HB1 := hid hb1
  have H1 := hid h1
  have HR := hid hR
  have HXb := hid hX
  have HN := hid hn
  have HX := hid hx
  have HZ := hid hz1
  have H32 := hid h32
  have HY1 := hid hY1
  have HBw := hid hBw
  obtain ⟨n, hnn⟩ : ∃ n, n = L.length := ⟨_, rfl⟩
  rw [← hnn] at CL c2 hw1 ⊢
  clear hnn hz1 hb1 hX h1 hR hY1 h hY hn hx hP hB hLt hgi hrx hLl htr hrow hkid h32 hBw HXb q1 q3 q4 t1 t3
  go_enter Tryd.func29, Tryd.ntmps29
  go_upto_region 1 with fail
  rw [← hw1]
  clear hw1
  go_wp2_with (go_at_call 35; refine CL.out.mono ?_; rintro e w2 ⟨v2, rfl, hb2, ht2, hf2⟩; obtain ⟨a2, cap2, rfl, _⟩ := ht2.open; have C := place_au (l := ⟨bk, true, L⟩) a2 L.length cap2 (H1.out.keep hb2) (fun k e => Nat.lt_of_lt_of_le (HY1.out k e) hb2.size) (asd_from hf2 (aub_lt H1.out HY1.out)) (by have := H32.out; omega) (by have := H32.out; have := HN.out; omega) (by have := HBw.out.size; have := hb2.size; omega); have C := hid C; unfold placePost u32v at C; have HB2 := hid hb2; clear hb2 ht2 hf2)
  go_wp2_with (go_at_call 41; refine C.out.mono ?_; rintro e w3 ⟨rfl, hp⟩; have HP := hid (AuPost.from HB2.out hp (fun _ h => h)); clear hp; have hbl := AuPost.blk H1.out HP.out (Or.inr (Or.inr rfl)) HR.out; have r0 := hbl.cell (i := 0) rfl; have r1 := hbl.cell (i := 1) rfl; have r2 := hbl.cell (i := 2) rfl; have s0 := hbl.free 0; have s1 := hbl.free 1; have s2 := hbl.free 2; have HBL := hid hbl; clear hbl)
  have hz1 := HZ.out
  obtain ⟨e1, e2⟩ := add_end (Y := Y) HBL.out (Or.inr (Or.inr rfl)) HB1.out (Or.inr (by omega)) (fun k e => Or.inl e) HP.out (.int .u32 ((2 ^ ls.length : Nat))) (.int .u32 ((2 ^ ls.length : Nat))) (.bool false)
  have h32 := H32.out
  refine bodyPost_ret (part_ret (s := 6) rfl e1 Tryd.results29) rfl ⟨2 ^ ls.length, 2 ^ ls.length, nx ++ [0], rfl, Set.one (by omega), Set.one (by omega), rows_leaf _ HN.out HX.out, e2⟩
set_option maxHeartbeats 4000000 in
theorem add_back (x : Pt) (IH : AddOk x) : AddOk (.mk 2 [] [] [x]) := by
  intro W0 w v u bk Y p lb cl nb cn lxs ls nx last hP hB h hY hn h32 hx
  have hrx : (Pt.mk 2 [] [] [x]).rx bk = x.rx (!bk) := by rw [Pt.rx]; rfl
  rw [hrx] at h32 ⊢
  obtain ⟨_, _, hLt, hLl, ak, capk, bb, off, f, g, hgi, q1, q2, q3, q4, hrow, hkid⟩ := hP.open
  obtain ⟨ta, tc, hfi, t1, t2, t3, htr⟩ := hLt.open
  subst hfi
  rw [hgi]
  unfold pv
  simp only [Pt.kind, Pt.text, Pt.kids, Pt.texts, List.length_nil, List.length_cons, Nat.zero_add] at hLt hLl q1 q3 q4 hrow hkid t1 t3 htr hgi ⊢
  obtain ⟨w1, hw1⟩ : ∃ w1, w1 = (w.alloc (.cells #[.int .i64 2, .string ⟨#[]⟩, .slice ta 0 tc, .slice ak 1 capk] 25)).alloc (.cells #[.int .u32 0, .int .u32 0, .bool false] 63) := ⟨_, rfl⟩
  have hz1 : w1.heap.size = w.heap.size + 2 := by rw [hw1]; simp
  have hb1 : Below w.heap.size w w1 := by rw [hw1]; exact ((Below.refl _ _).alloc (Nat.le_refl _) _).alloc (by simp) _
  have hX : Blk w1 w.heap.size [.int .i64 2, .string ⟨#[]⟩, .slice ta 0 tc, .slice ak 1 capk] 25 := by rw [hw1]; exact (Blk.new w _ _).alloc _
  have hR : Blk w1 (w.heap.size + 1) [.int .u32 0, .int .u32 0, .bool false] 63 := by rw [hw1]; exact Blk.new' (by simp) rfl
  have h1 := ((h.more (Z := fun k => Y k ∨ k = w.heap.size ∨ k = w.heap.size + 1) (fun k e => e.elim Or.inl (fun e => Or.inr (by omega)))).keep hb1)
  have hY1 : ∀ k, (Y k ∨ k = w.heap.size ∨ k = w.heap.size + 1) → k < w1.heap.size := fun k e => by rcases e with e | e | e; (have := hY k e; omega); omega; omega
  have hBw : Below W0.heap.size W0 w1 := hB.trans (hb1.mono hB.size)
  obtain ⟨c0, c1, c2, c3⟩ := blk4 hX
  have hr4 := (hrow 0 (by simp)).keep hBw
  have hkp := hkid 0 (by simp)
  simp only [List.getElem_cons_zero, Nat.zero_mul, Nat.add_zero] at hr4 hkp
  obtain rfl := q4 (by omega)
  obtain ⟨_, _, hLk, _, ak', capk', _, _, _, _, hgi', _⟩ := hkp.open
  obtain ⟨ta', tc', hfi', _⟩ := hLk.open
  rw [hfi', hgi'] at hr4 hkp
  obtain ⟨n1, hn1⟩ : ∃ n1, n1 = x.texts.length := ⟨_, rfl⟩
  obtain ⟨n2, hn2⟩ : ∃ n2, n2 = x.kids.length := ⟨_, rfl⟩
  rw [← hn1, ← hn2] at hr4 hkp
  obtain ⟨z0, z1, z2, z3⟩ := hr4
  have C := IH W0 w1 _ _ (!bk) _ p lb cl nb cn lxs ls nx last hkp hBw h1 hY1 hn h32 hx
  have C := hid C
  unfold pv AddPost u32v at C
  have HB1 := hid hb1
  have H1 := hid h1
  have HR := hid hR
  have HXb := hid hX
  have HN := hid hn
  have HX := hid hx
  have HZ := hid hz1
  have H32 := hid h32
  have HY1 := hid hY1
  have HBw := hid hBw
  clear hn1 hn2 hfi' hgi' hLk hkp hz1 hb1 hX h1 hR hY1 h hY hn hx hP hB hLt hgi hrx hLl htr hrow hkid h32 hBw q1 t1 t3 IH
  go_enter Tryd.func29, Tryd.ntmps29
  go_upto_region 1 with fail
  rw [← hw1]
  clear hw1
  go_wp2_with (go_at_call 29; refine C.out.mono ?_; rintro e w3 ⟨F, L, nx', rfl, hF, hL, hRo, hp⟩; have HP := hid hp; have HF := hid hF; have HL := hid hL; have HRo := hid hRo; clear hF hL hRo hp; have hbl := AuPost.blk H1.out HP.out (Or.inr (Or.inr rfl)) HR.out; have r0 := hbl.cell (i := 0) rfl; have r1 := hbl.cell (i := 1) rfl; have r2 := hbl.cell (i := 2) rfl; have s0 := hbl.free 0; have s1 := hbl.free 1; have s2 := hbl.free 2; have HBL := hid hbl; clear hbl)
  have hz1 := HZ.out
  obtain ⟨e1, e2⟩ := add_end (Y := Y) HBL.out (Or.inr (Or.inr rfl)) HB1.out (Or.inr (by omega)) (fun k e => Or.inl e) HP.out (.int .u32 F) (.int .u32 L) (.bool (x.rx (!bk)).emp)
  refine bodyPost_ret (part_ret (s := 6) rfl e1 Tryd.results29) rfl ⟨F, L, nx', rfl, HF.out, HL.out, HRo.out, e2⟩
theorem AuPost.follow {B : Nat} {Y : Nat → Prop} {w w4 w5 : World} {p lb nb lb4 cl4 nb4 cn4 : Nat} {lxs4 : List Value} {ls' : List Lb} {nx'' : List Nat} {last : Nat} (F4 : Frm (AuB p lb nb fun _ => False) w w4) (g4 : lb4 = lb ∨ w.heap.size ≤ lb4) (h4 : nb4 = nb ∨ w.heap.size ≤ nb4)
    (A5 : AuAt B Y w5 p lb4 cl4 nb4 cn4 lxs4 ls' nx'' last) (F5 : Frm (fun k => k = nb4) w4 w5) : AuPost B Y w p lb nb ls' nx'' last w5 :=
  ⟨lb4, cl4, nb4, cn4, lxs4, A5, F4.trans F5 (fun k hk e => by rcases h4 with h4 | h4; exact Or.inr (Or.inr (Or.inl (by omega))); omega), g4, h4⟩
set_option maxHeartbeats 8000000 in
theorem add_star (x : Pt) (IH : AddOk x) : AddOk (.mk 5 [] [] [x]) := by
  intro W0 w v u bk Y p lb cl nb cn lxs ls nx last hP hB h hY hn h32 hx
  have hrx : (Pt.mk 5 [] [] [x]).rx bk = .star (x.rx bk) := by rw [Pt.rx]; rfl
  rw [hrx] at h32 ⊢
  obtain ⟨_, _, hLt, hLl, ak, capk, bb, off, f, g, hgi, q1, q2, q3, q4, hrow, hkid⟩ := hP.open
  obtain ⟨ta, tc, hfi, t1, t2, t3, htr⟩ := hLt.open
  subst hfi
  rw [hgi]
  unfold pv
  simp only [Pt.kind, Pt.text, Pt.kids, Pt.texts, List.length_nil, List.length_cons, Nat.zero_add] at hLt hLl q1 q3 q4 hrow hkid t1 t3 htr hgi ⊢
  obtain ⟨w1, hw1⟩ : ∃ w1, w1 = (w.alloc (.cells #[.int .i64 5, .string ⟨#[]⟩, .slice ta 0 tc, .slice ak 1 capk] 25)).alloc (.cells #[.int .u32 0, .int .u32 0, .bool false] 63) := ⟨_, rfl⟩
  have hz1 : w1.heap.size = w.heap.size + 2 := by rw [hw1]; simp
  have hb1 : Below w.heap.size w w1 := by rw [hw1]; exact ((Below.refl _ _).alloc (Nat.le_refl _) _).alloc (by simp) _
  have hX : Blk w1 w.heap.size [.int .i64 5, .string ⟨#[]⟩, .slice ta 0 tc, .slice ak 1 capk] 25 := by rw [hw1]; exact (Blk.new w _ _).alloc _
  have hR : Blk w1 (w.heap.size + 1) [.int .u32 0, .int .u32 0, .bool false] 63 := by rw [hw1]; exact Blk.new' (by simp) rfl
  have h1 := ((h.more (Z := fun k => Y k ∨ k = w.heap.size ∨ k = w.heap.size + 1) (fun k e => e.elim Or.inl (fun e => Or.inr (by omega)))).keep hb1)
  have hY1 : ∀ k, (Y k ∨ k = w.heap.size ∨ k = w.heap.size + 1) → k < w1.heap.size := fun k e => by rcases e with e | e | e; (have := hY k e; omega); omega; omega
  have hBw : Below W0.heap.size W0 w1 := hB.trans (hb1.mono hB.size)
  obtain ⟨c0, c1, c2, c3⟩ := blk4 hX
  have hr4 := (hrow 0 (by simp)).keep hBw
  have hkp := hkid 0 (by simp)
  simp only [List.getElem_cons_zero, Nat.zero_mul, Nat.add_zero] at hr4 hkp
  obtain rfl := q4 (by omega)
  obtain ⟨_, _, hLk, _, ak', capk', _, _, _, _, hgi', _⟩ := hkp.open
  obtain ⟨ta', tc', hfi', _⟩ := hLk.open
  rw [hfi', hgi'] at hr4 hkp
  obtain ⟨n1, hn1⟩ : ∃ n1, n1 = x.texts.length := ⟨_, rfl⟩
  obtain ⟨n2, hn2⟩ : ∃ n2, n2 = x.kids.length := ⟨_, rfl⟩
  rw [← hn1, ← hn2] at hr4 hkp
  obtain ⟨z0, z1, z2, z3⟩ := hr4
  rw [Rx.n_star] at h32
  have C := IH W0 w1 _ _ bk _ p lb cl nb cn lxs ls nx last hkp hBw h1 hY1 hn h32 hx
  obtain ⟨em, hem⟩ : ∃ em, em = (x.rx bk).emp := ⟨_, rfl⟩
  unfold pv AddPost u32v at C
  rw [← hem] at C
  have C := hid C
  have HEM := hid hem
  have HB1 := hid hb1
  have H1 := hid h1
  have HR := hid hR
  have HXb := hid hX
  have HN := hid hn
  have HX := hid hx
  have HZ := hid hz1
  have H32 := hid h32
  have HY1 := hid hY1
  have HBw := hid hBw
  clear hem hn1 hn2 hfi' hgi' hLk hkp hz1 hb1 hX h1 hR hY1 h hY hn hx hP hB hLt hgi hrx hLl htr hrow hkid h32 hBw q1 t1 t3 IH
  cases em
  case false =>
    go_enter Tryd.func29, Tryd.ntmps29
    go_upto_region 1 with fail
    rw [← hw1]
    clear hw1
    go_wp2_with fail
    refine C.out.mono ?_
    rintro e w3 ⟨F, L, nx', rfl, hF, hL, hRo, hp⟩
    have HF := hid hF
    have HL := hid hL
    have HRo := hid hRo
    have hR3 := AuPost.blk H1.out hp (Or.inr (Or.inr rfl)) HR.out
    have hX3 := AuPost.blk H1.out hp (Or.inr (Or.inl rfl)) HXb.out
    have HBZ := hid (AuPost.size hp)
    obtain ⟨w4, hw4⟩ : ∃ w4, w4 = w3.alloc (.cells #[.int .u32 F, .int .u32 L, .bool false] 63) := ⟨_, rfl⟩
    have hR4 := hR3.alloc (.cells #[.int .u32 F, .int .u32 L, .bool false] 63)
    have hX4 := hX3.alloc (.cells #[.int .u32 F, .int .u32 L, .bool false] 63)
    rw [← hw4] at hR4 hX4
    have hN4 : Blk w4 w3.heap.size [.int .u32 F, .int .u32 L, .bool false] 63 := by rw [hw4]; exact Blk.new w3 _ _
    have hp4 := AuPost.alloc hp (.cells #[.int .u32 F, .int .u32 L, .bool false] 63)
    rw [← hw4] at hp4
    clear hp hR3 hX3 hF hL hRo
    obtain ⟨k0, k1, k2, k3⟩ := blk4 hX4
    have n0 := hN4.cell (i := 0) rfl
    have n1' := hN4.cell (i := 1) rfl
    have n2' := hN4.cell (i := 2) rfl
    obtain ⟨lb4, cl4, nb4, cn4, lxs4, A4, F4, g4, h4⟩ := hp4
    have FO := follow_au L F A4 (by have := HRo.out.len; have := H32.out; omega) HL.out.1 HF.out.1 HRo.out.lt
    unfold u32v at FO
    have FO := hid FO
    have HA4 := hid A4
    have HF4 := hid F4
    have HG4 := hid g4
    have HH4 := hid h4
    have HR4 := hid hR4
    have HN4 := hid hN4
    have HX4 := hid hX4
    clear A4 F4 g4 h4 hR4 hN4 hX4
    go_upto_region 14 with fail
    rw [← hw4]
    clear hw4
    go_wp2_with fail
    refine FO.out.mono ?_
    rintro e w5 ⟨rfl, A5, F5⟩
    have hR5 := HR4.out.frm F5 (fun e => HA4.out.yn (e ▸ Or.inl (Or.inr (Or.inr rfl))))
    have hN5 := HN4.out.frm F5 (fun e => HA4.out.yn (e ▸ Or.inr rfl))
    have hX5 := HX4.out.frm F5 (fun e => HA4.out.yn (e ▸ Or.inl (Or.inr (Or.inl rfl))))
    have HP5 := hid (AuPost.follow HF4.out HG4.out HH4.out A5 F5)
    clear A5 F5
    have HBL := hid hR5
    have HN5 := hid hN5
    have r0 := hR5.cell (i := 0) rfl
    have r1 := hR5.cell (i := 1) rfl
    have r2 := hR5.cell (i := 2) rfl
    have s0 := hR5.free 0
    have s1 := hR5.free 1
    have s2 := hR5.free 2
    have m0 := hN5.cell (i := 0) rfl
    have m1 := hN5.cell (i := 1) rfl
    have m2 := hN5.cell (i := 2) rfl
    have l2 := hN5.free 2
    have y0 := hX5.cell (i := 0) rfl
    have hz1 := HBZ.out
    have hz2 := HZ.out
    have hne : w3.heap.size ≠ w.heap.size + 1 := by omega
    have hne2 : w.heap.size + 1 ≠ w3.heap.size := by omega
    have HNE := hid hne
    have HNE2 := hid hne2
    clear hz1 hz2 hR5 hN5
    go_wp2
    have hz1 := HBZ.out
    have hz2 := HZ.out
    have hp6 := (HP5.out).set (b := w3.heap.size) (Or.inr rfl) (by omega) 2 (.bool true)
    have hR6 := HBL.out.other HNE2.out 2 (.bool true)
    obtain ⟨e1, e2⟩ := add_end (Y := Y) hR6 (Or.inl (Or.inr (Or.inr rfl))) HB1.out (Or.inr (by omega)) (fun k e => Or.inl (Or.inl e)) hp6 (.int .u32 F) (.int .u32 L) (.bool true)
    have hrr : Rows (.star (x.rx bk)) ls.length nx (ufol nx' L F nx'.length) := rows_many (.star (x.rx bk)) HRo.out HF.out HL.out rfl (fun _ _ => rfl)
    refine bodyPost_ret (part_ret (s := 6) rfl e1 Tryd.results29) rfl ⟨F, L, ufol nx' L F nx'.length, rfl, HF.out, HL.out, hrr, e2⟩
  case true =>
    go_enter Tryd.func29, Tryd.ntmps29
    go_upto_region 1 with fail
    rw [← hw1]
    clear hw1
    go_wp2_with fail
    refine C.out.mono ?_
    rintro e w3 ⟨F, L, nx', rfl, hF, hL, hRo, hp⟩
    have HF := hid hF
    have HL := hid hL
    have HRo := hid hRo
    have hR3 := AuPost.blk H1.out hp (Or.inr (Or.inr rfl)) HR.out
    have hX3 := AuPost.blk H1.out hp (Or.inr (Or.inl rfl)) HXb.out
    have HBZ := hid (AuPost.size hp)
    obtain ⟨w4, hw4⟩ : ∃ w4, w4 = w3.alloc (.cells #[.int .u32 F, .int .u32 L, .bool true] 63) := ⟨_, rfl⟩
    have hR4 := hR3.alloc (.cells #[.int .u32 F, .int .u32 L, .bool true] 63)
    have hX4 := hX3.alloc (.cells #[.int .u32 F, .int .u32 L, .bool true] 63)
    rw [← hw4] at hR4 hX4
    have hN4 : Blk w4 w3.heap.size [.int .u32 F, .int .u32 L, .bool true] 63 := by rw [hw4]; exact Blk.new w3 _ _
    have hp4 := AuPost.alloc hp (.cells #[.int .u32 F, .int .u32 L, .bool true] 63)
    rw [← hw4] at hp4
    clear hp hR3 hX3 hF hL hRo
    obtain ⟨k0, k1, k2, k3⟩ := blk4 hX4
    have n0 := hN4.cell (i := 0) rfl
    have n1' := hN4.cell (i := 1) rfl
    have n2' := hN4.cell (i := 2) rfl
    obtain ⟨lb4, cl4, nb4, cn4, lxs4, A4, F4, g4, h4⟩ := hp4
    have FO := follow_au L F A4 (by have := HRo.out.len; have := H32.out; omega) HL.out.1 HF.out.1 HRo.out.lt
    unfold u32v at FO
    have FO := hid FO
    have HA4 := hid A4
    have HF4 := hid F4
    have HG4 := hid g4
    have HH4 := hid h4
    have HR4 := hid hR4
    have HN4 := hid hN4
    have HX4 := hid hX4
    clear A4 F4 g4 h4 hR4 hN4 hX4
    go_upto_region 14 with fail
    rw [← hw4]
    clear hw4
    go_wp2_with fail
    refine FO.out.mono ?_
    rintro e w5 ⟨rfl, A5, F5⟩
    have hR5 := HR4.out.frm F5 (fun e => HA4.out.yn (e ▸ Or.inl (Or.inr (Or.inr rfl))))
    have hN5 := HN4.out.frm F5 (fun e => HA4.out.yn (e ▸ Or.inr rfl))
    have hX5 := HX4.out.frm F5 (fun e => HA4.out.yn (e ▸ Or.inl (Or.inr (Or.inl rfl))))
    have HP5 := hid (AuPost.follow HF4.out HG4.out HH4.out A5 F5)
    clear A5 F5
    have HBL := hid hR5
    have HN5 := hid hN5
    have r0 := hR5.cell (i := 0) rfl
    have r1 := hR5.cell (i := 1) rfl
    have r2 := hR5.cell (i := 2) rfl
    have s0 := hR5.free 0
    have s1 := hR5.free 1
    have s2 := hR5.free 2
    have m0 := hN5.cell (i := 0) rfl
    have m1 := hN5.cell (i := 1) rfl
    have m2 := hN5.cell (i := 2) rfl
    have l2 := hN5.free 2
    have y0 := hX5.cell (i := 0) rfl
    have hz1 := HBZ.out
    have hz2 := HZ.out
    have hne : w3.heap.size ≠ w.heap.size + 1 := by omega
    have hne2 : w.heap.size + 1 ≠ w3.heap.size := by omega
    have HNE := hid hne
    have HNE2 := hid hne2
    clear hz1 hz2 hR5 hN5
    go_wp2
    have hz1 := HBZ.out
    have hz2 := HZ.out
    have hp6 := (HP5.out).set (b := w3.heap.size) (Or.inr rfl) (by omega) 2 (.bool true)
    have hR6 := HBL.out.other HNE2.out 2 (.bool true)
    obtain ⟨e1, e2⟩ := add_end (Y := Y) hR6 (Or.inl (Or.inr (Or.inr rfl))) HB1.out (Or.inr (by omega)) (fun k e => Or.inl (Or.inl e)) hp6 (.int .u32 F) (.int .u32 L) (.bool true)
    have hrr : Rows (.star (x.rx bk)) ls.length nx (ufol nx' L F nx'.length) := rows_many (.star (x.rx bk)) HRo.out HF.out HL.out rfl (fun _ _ => rfl)
    refine bodyPost_ret (part_ret (s := 6) rfl e1 Tryd.results29) rfl ⟨F, L, ufol nx' L F nx'.length, rfl, HF.out, HL.out, hrr, e2⟩
set_option maxHeartbeats 8000000 in
theorem add_plus (x : Pt) (IH : AddOk x) : AddOk (.mk 6 [] [] [x]) := by
  intro W0 w v u bk Y p lb cl nb cn lxs ls nx last hP hB h hY hn h32 hx
  have hrx : (Pt.mk 6 [] [] [x]).rx bk = .plus (x.rx bk) := by rw [Pt.rx]; rfl
  rw [hrx] at h32 ⊢
  obtain ⟨_, _, hLt, hLl, ak, capk, bb, off, f, g, hgi, q1, q2, q3, q4, hrow, hkid⟩ := hP.open
  obtain ⟨ta, tc, hfi, t1, t2, t3, htr⟩ := hLt.open
  subst hfi
  rw [hgi]
  unfold pv
  simp only [Pt.kind, Pt.text, Pt.kids, Pt.texts, List.length_nil, List.length_cons, Nat.zero_add] at hLt hLl q1 q3 q4 hrow hkid t1 t3 htr hgi ⊢
  obtain ⟨w1, hw1⟩ : ∃ w1, w1 = (w.alloc (.cells #[.int .i64 6, .string ⟨#[]⟩, .slice ta 0 tc, .slice ak 1 capk] 25)).alloc (.cells #[.int .u32 0, .int .u32 0, .bool false] 63) := ⟨_, rfl⟩
  have hz1 : w1.heap.size = w.heap.size + 2 := by rw [hw1]; simp
  have hb1 : Below w.heap.size w w1 := by rw [hw1]; exact ((Below.refl _ _).alloc (Nat.le_refl _) _).alloc (by simp) _
  have hX : Blk w1 w.heap.size [.int .i64 6, .string ⟨#[]⟩, .slice ta 0 tc, .slice ak 1 capk] 25 := by rw [hw1]; exact (Blk.new w _ _).alloc _
  have hR : Blk w1 (w.heap.size + 1) [.int .u32 0, .int .u32 0, .bool false] 63 := by rw [hw1]; exact Blk.new' (by simp) rfl
  have h1 := ((h.more (Z := fun k => Y k ∨ k = w.heap.size ∨ k = w.heap.size + 1) (fun k e => e.elim Or.inl (fun e => Or.inr (by omega)))).keep hb1)
  have hY1 : ∀ k, (Y k ∨ k = w.heap.size ∨ k = w.heap.size + 1) → k < w1.heap.size := fun k e => by rcases e with e | e | e; (have := hY k e; omega); omega; omega
  have hBw : Below W0.heap.size W0 w1 := hB.trans (hb1.mono hB.size)
  obtain ⟨c0, c1, c2, c3⟩ := blk4 hX
  have hr4 := (hrow 0 (by simp)).keep hBw
  have hkp := hkid 0 (by simp)
  simp only [List.getElem_cons_zero, Nat.zero_mul, Nat.add_zero] at hr4 hkp
  obtain rfl := q4 (by omega)
  obtain ⟨_, _, hLk, _, ak', capk', _, _, _, _, hgi', _⟩ := hkp.open
  obtain ⟨ta', tc', hfi', _⟩ := hLk.open
  rw [hfi', hgi'] at hr4 hkp
  obtain ⟨n1, hn1⟩ : ∃ n1, n1 = x.texts.length := ⟨_, rfl⟩
  obtain ⟨n2, hn2⟩ : ∃ n2, n2 = x.kids.length := ⟨_, rfl⟩
  rw [← hn1, ← hn2] at hr4 hkp
  obtain ⟨z0, z1, z2, z3⟩ := hr4
  rw [Rx.n_plus] at h32
  have C := IH W0 w1 _ _ bk _ p lb cl nb cn lxs ls nx last hkp hBw h1 hY1 hn h32 hx
  obtain ⟨em, hem⟩ : ∃ em, em = (x.rx bk).emp := ⟨_, rfl⟩
  unfold pv AddPost u32v at C
  rw [← hem] at C
  have C := hid C
  have HEM := hid hem
  have HB1 := hid hb1
  have H1 := hid h1
  have HR := hid hR
  have HXb := hid hX
  have HN := hid hn
  have HX := hid hx
  have HZ := hid hz1
  have H32 := hid h32
  have HY1 := hid hY1
  have HBw := hid hBw
  clear hem hn1 hn2 hfi' hgi' hLk hkp hz1 hb1 hX h1 hR hY1 h hY hn hx hP hB hLt hgi hrx hLl htr hrow hkid h32 hBw q1 t1 t3 IH
  cases em
  case false =>
    go_enter Tryd.func29, Tryd.ntmps29
    go_upto_region 1 with fail
    rw [← hw1]
    clear hw1
    go_wp2_with fail
    refine C.out.mono ?_
    rintro e w3 ⟨F, L, nx', rfl, hF, hL, hRo, hp⟩
    have HF := hid hF
    have HL := hid hL
    have HRo := hid hRo
    have hR3 := AuPost.blk H1.out hp (Or.inr (Or.inr rfl)) HR.out
    have hX3 := AuPost.blk H1.out hp (Or.inr (Or.inl rfl)) HXb.out
    have HBZ := hid (AuPost.size hp)
    obtain ⟨w4, hw4⟩ : ∃ w4, w4 = w3.alloc (.cells #[.int .u32 F, .int .u32 L, .bool false] 63) := ⟨_, rfl⟩
    have hR4 := hR3.alloc (.cells #[.int .u32 F, .int .u32 L, .bool false] 63)
    have hX4 := hX3.alloc (.cells #[.int .u32 F, .int .u32 L, .bool false] 63)
    rw [← hw4] at hR4 hX4
    have hN4 : Blk w4 w3.heap.size [.int .u32 F, .int .u32 L, .bool false] 63 := by rw [hw4]; exact Blk.new w3 _ _
    have hp4 := AuPost.alloc hp (.cells #[.int .u32 F, .int .u32 L, .bool false] 63)
    rw [← hw4] at hp4
    clear hp hR3 hX3 hF hL hRo
    obtain ⟨k0, k1, k2, k3⟩ := blk4 hX4
    have n0 := hN4.cell (i := 0) rfl
    have n1' := hN4.cell (i := 1) rfl
    have n2' := hN4.cell (i := 2) rfl
    obtain ⟨lb4, cl4, nb4, cn4, lxs4, A4, F4, g4, h4⟩ := hp4
    have FO := follow_au L F A4 (by have := HRo.out.len; have := H32.out; omega) HL.out.1 HF.out.1 HRo.out.lt
    unfold u32v at FO
    have FO := hid FO
    have HA4 := hid A4
    have HF4 := hid F4
    have HG4 := hid g4
    have HH4 := hid h4
    have HR4 := hid hR4
    have HN4 := hid hN4
    have HX4 := hid hX4
    clear A4 F4 g4 h4 hR4 hN4 hX4
    go_upto_region 14 with fail
    rw [← hw4]
    clear hw4
    go_wp2_with fail
    refine FO.out.mono ?_
    rintro e w5 ⟨rfl, A5, F5⟩
    have hR5 := HR4.out.frm F5 (fun e => HA4.out.yn (e ▸ Or.inl (Or.inr (Or.inr rfl))))
    have hN5 := HN4.out.frm F5 (fun e => HA4.out.yn (e ▸ Or.inr rfl))
    have hX5 := HX4.out.frm F5 (fun e => HA4.out.yn (e ▸ Or.inl (Or.inr (Or.inl rfl))))
    have HP5 := hid (AuPost.follow HF4.out HG4.out HH4.out A5 F5)
    clear A5 F5
    have HBL := hid hR5
    have HN5 := hid hN5
    have r0 := hR5.cell (i := 0) rfl
    have r1 := hR5.cell (i := 1) rfl
    have r2 := hR5.cell (i := 2) rfl
    have s0 := hR5.free 0
    have s1 := hR5.free 1
    have s2 := hR5.free 2
    have m0 := hN5.cell (i := 0) rfl
    have m1 := hN5.cell (i := 1) rfl
    have m2 := hN5.cell (i := 2) rfl
    have l2 := hN5.free 2
    have y0 := hX5.cell (i := 0) rfl
    have hz1 := HBZ.out
    have hz2 := HZ.out
    have hne : w3.heap.size ≠ w.heap.size + 1 := by omega
    have hne2 : w.heap.size + 1 ≠ w3.heap.size := by omega
    have HNE := hid hne
    have HNE2 := hid hne2
    clear hz1 hz2 hR5 hN5
    go_wp2
    have hz1 := HBZ.out
    have hz2 := HZ.out
    have hp6 := (HP5.out).set (b := w3.heap.size) (Or.inr rfl) (by omega) 2 (.bool false)
    have hR6 := HBL.out.other HNE2.out 2 (.bool false)
    obtain ⟨e1, e2⟩ := add_end (Y := Y) hR6 (Or.inl (Or.inr (Or.inr rfl))) HB1.out (Or.inr (by omega)) (fun k e => Or.inl (Or.inl e)) hp6 (.int .u32 F) (.int .u32 L) (.bool false)
    have hrr : Rows (.plus (x.rx bk)) ls.length nx (ufol nx' L F nx'.length) := rows_many (.plus (x.rx bk)) HRo.out HF.out HL.out rfl (fun _ _ => rfl)
    refine bodyPost_ret (part_ret (s := 6) rfl e1 Tryd.results29) rfl ⟨F, L, ufol nx' L F nx'.length, (by show _ = Ending.returned (.agg #[.int .u32 F, .int .u32 L, .bool (x.rx bk).emp]); rw [← HEM.out]), HF.out, HL.out, hrr, e2⟩
  case true =>
    go_enter Tryd.func29, Tryd.ntmps29
    go_upto_region 1 with fail
    rw [← hw1]
    clear hw1
    go_wp2_with fail
    refine C.out.mono ?_
    rintro e w3 ⟨F, L, nx', rfl, hF, hL, hRo, hp⟩
    have HF := hid hF
    have HL := hid hL
    have HRo := hid hRo
    have hR3 := AuPost.blk H1.out hp (Or.inr (Or.inr rfl)) HR.out
    have hX3 := AuPost.blk H1.out hp (Or.inr (Or.inl rfl)) HXb.out
    have HBZ := hid (AuPost.size hp)
    obtain ⟨w4, hw4⟩ : ∃ w4, w4 = w3.alloc (.cells #[.int .u32 F, .int .u32 L, .bool true] 63) := ⟨_, rfl⟩
    have hR4 := hR3.alloc (.cells #[.int .u32 F, .int .u32 L, .bool true] 63)
    have hX4 := hX3.alloc (.cells #[.int .u32 F, .int .u32 L, .bool true] 63)
    rw [← hw4] at hR4 hX4
    have hN4 : Blk w4 w3.heap.size [.int .u32 F, .int .u32 L, .bool true] 63 := by rw [hw4]; exact Blk.new w3 _ _
    have hp4 := AuPost.alloc hp (.cells #[.int .u32 F, .int .u32 L, .bool true] 63)
    rw [← hw4] at hp4
    clear hp hR3 hX3 hF hL hRo
    obtain ⟨k0, k1, k2, k3⟩ := blk4 hX4
    have n0 := hN4.cell (i := 0) rfl
    have n1' := hN4.cell (i := 1) rfl
    have n2' := hN4.cell (i := 2) rfl
    obtain ⟨lb4, cl4, nb4, cn4, lxs4, A4, F4, g4, h4⟩ := hp4
    have FO := follow_au L F A4 (by have := HRo.out.len; have := H32.out; omega) HL.out.1 HF.out.1 HRo.out.lt
    unfold u32v at FO
    have FO := hid FO
    have HA4 := hid A4
    have HF4 := hid F4
    have HG4 := hid g4
    have HH4 := hid h4
    have HR4 := hid hR4
    have HN4 := hid hN4
    have HX4 := hid hX4
    clear A4 F4 g4 h4 hR4 hN4 hX4
    go_upto_region 14 with fail
    rw [← hw4]
    clear hw4
    go_wp2_with fail
    refine FO.out.mono ?_
    rintro e w5 ⟨rfl, A5, F5⟩
    have hR5 := HR4.out.frm F5 (fun e => HA4.out.yn (e ▸ Or.inl (Or.inr (Or.inr rfl))))
    have hN5 := HN4.out.frm F5 (fun e => HA4.out.yn (e ▸ Or.inr rfl))
    have hX5 := HX4.out.frm F5 (fun e => HA4.out.yn (e ▸ Or.inl (Or.inr (Or.inl rfl))))
    have HP5 := hid (AuPost.follow HF4.out HG4.out HH4.out A5 F5)
    clear A5 F5
    have HBL := hid hR5
    have HN5 := hid hN5
    have r0 := hR5.cell (i := 0) rfl
    have r1 := hR5.cell (i := 1) rfl
    have r2 := hR5.cell (i := 2) rfl
    have s0 := hR5.free 0
    have s1 := hR5.free 1
    have s2 := hR5.free 2
    have m0 := hN5.cell (i := 0) rfl
    have m1 := hN5.cell (i := 1) rfl
    have m2 := hN5.cell (i := 2) rfl
    have l2 := hN5.free 2
    have y0 := hX5.cell (i := 0) rfl
    have hz1 := HBZ.out
    have hz2 := HZ.out
    have hne : w3.heap.size ≠ w.heap.size + 1 := by omega
    have hne2 : w.heap.size + 1 ≠ w3.heap.size := by omega
    have HNE := hid hne
    have HNE2 := hid hne2
    clear hz1 hz2 hR5 hN5
    go_wp2
    have hz1 := HBZ.out
    have hz2 := HZ.out
    have hp6 := (HP5.out).set (b := w3.heap.size) (Or.inr rfl) (by omega) 2 (.bool true)
    have hR6 := HBL.out.other HNE2.out 2 (.bool true)
    obtain ⟨e1, e2⟩ := add_end (Y := Y) hR6 (Or.inl (Or.inr (Or.inr rfl))) HB1.out (Or.inr (by omega)) (fun k e => Or.inl (Or.inl e)) hp6 (.int .u32 F) (.int .u32 L) (.bool true)
    have hrr : Rows (.plus (x.rx bk)) ls.length nx (ufol nx' L F nx'.length) := rows_many (.plus (x.rx bk)) HRo.out HF.out HL.out rfl (fun _ _ => rfl)
    refine bodyPost_ret (part_ret (s := 6) rfl e1 Tryd.results29) rfl ⟨F, L, ufol nx' L F nx'.length, (by show _ = Ending.returned (.agg #[.int .u32 F, .int .u32 L, .bool (x.rx bk).emp]); rw [← HEM.out]), HF.out, HL.out, hrr, e2⟩
set_option maxHeartbeats 8000000 in
theorem add_maybe (x : Pt) (IH : AddOk x) : AddOk (.mk 7 [] [] [x]) := by
  intro W0 w v u bk Y p lb cl nb cn lxs ls nx last hP hB h hY hn h32 hx
  have hrx : (Pt.mk 7 [] [] [x]).rx bk = .maybe (x.rx bk) := by rw [Pt.rx]; rfl
  rw [hrx] at h32 ⊢
  obtain ⟨_, _, hLt, hLl, ak, capk, bb, off, f, g, hgi, q1, q2, q3, q4, hrow, hkid⟩ := hP.open
  obtain ⟨ta, tc, hfi, t1, t2, t3, htr⟩ := hLt.open
  subst hfi
  rw [hgi]
  unfold pv
  simp only [Pt.kind, Pt.text, Pt.kids, Pt.texts, List.length_nil, List.length_cons, Nat.zero_add] at hLt hLl q1 q3 q4 hrow hkid t1 t3 htr hgi ⊢
  obtain ⟨w1, hw1⟩ : ∃ w1, w1 = (w.alloc (.cells #[.int .i64 7, .string ⟨#[]⟩, .slice ta 0 tc, .slice ak 1 capk] 25)).alloc (.cells #[.int .u32 0, .int .u32 0, .bool false] 63) := ⟨_, rfl⟩
  have hz1 : w1.heap.size = w.heap.size + 2 := by rw [hw1]; simp
  have hb1 : Below w.heap.size w w1 := by rw [hw1]; exact ((Below.refl _ _).alloc (Nat.le_refl _) _).alloc (by simp) _
  have hX : Blk w1 w.heap.size [.int .i64 7, .string ⟨#[]⟩, .slice ta 0 tc, .slice ak 1 capk] 25 := by rw [hw1]; exact (Blk.new w _ _).alloc _
  have hR : Blk w1 (w.heap.size + 1) [.int .u32 0, .int .u32 0, .bool false] 63 := by rw [hw1]; exact Blk.new' (by simp) rfl
  have h1 := ((h.more (Z := fun k => Y k ∨ k = w.heap.size ∨ k = w.heap.size + 1) (fun k e => e.elim Or.inl (fun e => Or.inr (by omega)))).keep hb1)
  have hY1 : ∀ k, (Y k ∨ k = w.heap.size ∨ k = w.heap.size + 1) → k < w1.heap.size := fun k e => by rcases e with e | e | e; (have := hY k e; omega); omega; omega
  have hBw : Below W0.heap.size W0 w1 := hB.trans (hb1.mono hB.size)
  obtain ⟨c0, c1, c2, c3⟩ := blk4 hX
  have hr4 := (hrow 0 (by simp)).keep hBw
  have hkp := hkid 0 (by simp)
  simp only [List.getElem_cons_zero, Nat.zero_mul, Nat.add_zero] at hr4 hkp
  obtain rfl := q4 (by omega)
  obtain ⟨_, _, hLk, _, ak', capk', _, _, _, _, hgi', _⟩ := hkp.open
  obtain ⟨ta', tc', hfi', _⟩ := hLk.open
  rw [hfi', hgi'] at hr4 hkp
  obtain ⟨n1, hn1⟩ : ∃ n1, n1 = x.texts.length := ⟨_, rfl⟩
  obtain ⟨n2, hn2⟩ : ∃ n2, n2 = x.kids.length := ⟨_, rfl⟩
  rw [← hn1, ← hn2] at hr4 hkp
  obtain ⟨z0, z1, z2, z3⟩ := hr4
  rw [Rx.n_maybe] at h32
  have C := IH W0 w1 _ _ bk _ p lb cl nb cn lxs ls nx last hkp hBw h1 hY1 hn h32 hx
  obtain ⟨em, hem⟩ : ∃ em, em = (x.rx bk).emp := ⟨_, rfl⟩
  unfold pv AddPost u32v at C
  rw [← hem] at C
  have C := hid C
  have HEM := hid hem
  have HB1 := hid hb1
  have H1 := hid h1
  have HR := hid hR
  have HXb := hid hX
  have HN := hid hn
  have HX := hid hx
  have HZ := hid hz1
  have H32 := hid h32
  have HY1 := hid hY1
  have HBw := hid hBw
  clear hem hn1 hn2 hfi' hgi' hLk hkp hz1 hb1 hX h1 hR hY1 h hY hn hx hP hB hLt hgi hrx hLl htr hrow hkid h32 hBw q1 t1 t3 IH
  cases em
  case false =>
    go_enter Tryd.func29, Tryd.ntmps29
    go_upto_region 1 with fail
    rw [← hw1]
    clear hw1
    go_wp2_with fail
    refine C.out.mono ?_
    rintro e w3 ⟨F, L, nx', rfl, hF, hL, hRo, hp⟩
    have HF := hid hF
    have HL := hid hL
    have HRo := hid hRo
    have hR3 := AuPost.blk H1.out hp (Or.inr (Or.inr rfl)) HR.out
    have hX3 := AuPost.blk H1.out hp (Or.inr (Or.inl rfl)) HXb.out
    have HBZ := hid (AuPost.size hp)
    obtain ⟨w4, hw4⟩ : ∃ w4, w4 = w3.alloc (.cells #[.int .u32 F, .int .u32 L, .bool false] 63) := ⟨_, rfl⟩
    have hR4 := hR3.alloc (.cells #[.int .u32 F, .int .u32 L, .bool false] 63)
    have hX4 := hX3.alloc (.cells #[.int .u32 F, .int .u32 L, .bool false] 63)
    rw [← hw4] at hR4 hX4
    have hN4 : Blk w4 w3.heap.size [.int .u32 F, .int .u32 L, .bool false] 63 := by rw [hw4]; exact Blk.new w3 _ _
    have hp4 := AuPost.alloc hp (.cells #[.int .u32 F, .int .u32 L, .bool false] 63)
    rw [← hw4] at hp4
    clear hp hR3 hX3 hF hL hRo
    obtain ⟨k0, k1, k2, k3⟩ := blk4 hX4
    have n0 := hN4.cell (i := 0) rfl
    have n1' := hN4.cell (i := 1) rfl
    have n2' := hN4.cell (i := 2) rfl
    have HP5 := hid hp4
    go_upto_region 14 with fail
    rw [← hw4]
    obtain ⟨w5, hw5⟩ : ∃ w5, w5 = w4 := ⟨_, rfl⟩
    rw [← hw5] at hR4 hN4 hX4 HP5 k0 k1 k2 k3 n0 n1' n2' ⊢
    clear hw4 hp4 hw5
    have hR5 := hR4
    have hN5 := hN4
    have hX5 := hX4
    clear hR4 hN4 hX4
    have HBL := hid hR5
    have HN5 := hid hN5
    have r0 := hR5.cell (i := 0) rfl
    have r1 := hR5.cell (i := 1) rfl
    have r2 := hR5.cell (i := 2) rfl
    have s0 := hR5.free 0
    have s1 := hR5.free 1
    have s2 := hR5.free 2
    have m0 := hN5.cell (i := 0) rfl
    have m1 := hN5.cell (i := 1) rfl
    have m2 := hN5.cell (i := 2) rfl
    have l2 := hN5.free 2
    have y0 := hX5.cell (i := 0) rfl
    have hz1 := HBZ.out
    have hz2 := HZ.out
    have hne : w3.heap.size ≠ w.heap.size + 1 := by omega
    have hne2 : w.heap.size + 1 ≠ w3.heap.size := by omega
    have HNE := hid hne
    have HNE2 := hid hne2
    clear hz1 hz2 hR5 hN5
    go_wp2
    have hz1 := HBZ.out
    have hz2 := HZ.out
    have hp6 := (HP5.out).set (b := w3.heap.size) (Or.inr rfl) (by omega) 2 (.bool true)
    have hR6 := HBL.out.other HNE2.out 2 (.bool true)
    obtain ⟨e1, e2⟩ := add_end (Y := Y) hR6 (Or.inl (Or.inr (Or.inr rfl))) HB1.out (Or.inr (by omega)) (fun k e => Or.inl (Or.inl e)) hp6 (.int .u32 F) (.int .u32 L) (.bool true)
    have hrr : Rows (.maybe (x.rx bk)) ls.length nx (nx') := ⟨HRo.out.len, HRo.out.old, HRo.out.new, HRo.out.lt⟩
    refine bodyPost_ret (part_ret (s := 6) rfl e1 Tryd.results29) rfl ⟨F, L, nx', rfl, HF.out, HL.out, hrr, e2⟩
  case true =>
    go_enter Tryd.func29, Tryd.ntmps29
    go_upto_region 1 with fail
    rw [← hw1]
    clear hw1
    go_wp2_with fail
    refine C.out.mono ?_
    rintro e w3 ⟨F, L, nx', rfl, hF, hL, hRo, hp⟩
    have HF := hid hF
    have HL := hid hL
    have HRo := hid hRo
    have hR3 := AuPost.blk H1.out hp (Or.inr (Or.inr rfl)) HR.out
    have hX3 := AuPost.blk H1.out hp (Or.inr (Or.inl rfl)) HXb.out
    have HBZ := hid (AuPost.size hp)
    obtain ⟨w4, hw4⟩ : ∃ w4, w4 = w3.alloc (.cells #[.int .u32 F, .int .u32 L, .bool true] 63) := ⟨_, rfl⟩
    have hR4 := hR3.alloc (.cells #[.int .u32 F, .int .u32 L, .bool true] 63)
    have hX4 := hX3.alloc (.cells #[.int .u32 F, .int .u32 L, .bool true] 63)
    rw [← hw4] at hR4 hX4
    have hN4 : Blk w4 w3.heap.size [.int .u32 F, .int .u32 L, .bool true] 63 := by rw [hw4]; exact Blk.new w3 _ _
    have hp4 := AuPost.alloc hp (.cells #[.int .u32 F, .int .u32 L, .bool true] 63)
    rw [← hw4] at hp4
    clear hp hR3 hX3 hF hL hRo
    obtain ⟨k0, k1, k2, k3⟩ := blk4 hX4
    have n0 := hN4.cell (i := 0) rfl
    have n1' := hN4.cell (i := 1) rfl
    have n2' := hN4.cell (i := 2) rfl
    have HP5 := hid hp4
    go_upto_region 14 with fail
    rw [← hw4]
    obtain ⟨w5, hw5⟩ : ∃ w5, w5 = w4 := ⟨_, rfl⟩
    rw [← hw5] at hR4 hN4 hX4 HP5 k0 k1 k2 k3 n0 n1' n2' ⊢
    clear hw4 hp4 hw5
    have hR5 := hR4
    have hN5 := hN4
    have hX5 := hX4
    clear hR4 hN4 hX4
    have HBL := hid hR5
    have HN5 := hid hN5
    have r0 := hR5.cell (i := 0) rfl
    have r1 := hR5.cell (i := 1) rfl
    have r2 := hR5.cell (i := 2) rfl
    have s0 := hR5.free 0
    have s1 := hR5.free 1
    have s2 := hR5.free 2
    have m0 := hN5.cell (i := 0) rfl
    have m1 := hN5.cell (i := 1) rfl
    have m2 := hN5.cell (i := 2) rfl
    have l2 := hN5.free 2
    have y0 := hX5.cell (i := 0) rfl
    have hz1 := HBZ.out
    have hz2 := HZ.out
    have hne : w3.heap.size ≠ w.heap.size + 1 := by omega
    have hne2 : w.heap.size + 1 ≠ w3.heap.size := by omega
    have HNE := hid hne
    have HNE2 := hid hne2
    clear hz1 hz2 hR5 hN5
    go_wp2
    have hz1 := HBZ.out
    have hz2 := HZ.out
    have hp6 := (HP5.out).set (b := w3.heap.size) (Or.inr rfl) (by omega) 2 (.bool true)
    have hR6 := HBL.out.other HNE2.out 2 (.bool true)
    obtain ⟨e1, e2⟩ := add_end (Y := Y) hR6 (Or.inl (Or.inr (Or.inr rfl))) HB1.out (Or.inr (by omega)) (fun k e => Or.inl (Or.inl e)) hp6 (.int .u32 F) (.int .u32 L) (.bool true)
    have hrr : Rows (.maybe (x.rx bk)) ls.length nx (nx') := ⟨HRo.out.len, HRo.out.old, HRo.out.new, HRo.out.lt⟩
    refine bodyPost_ret (part_ret (s := 6) rfl e1 Tryd.results29) rfl ⟨F, L, nx', rfl, HF.out, HL.out, hrr, e2⟩
end Go.Proofs.YtobcbaeoedpefaaDoor
