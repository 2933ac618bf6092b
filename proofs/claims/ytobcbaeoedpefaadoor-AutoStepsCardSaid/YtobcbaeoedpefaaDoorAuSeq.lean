/- auto's sequence. -/
import Derived.Test.YtobcbaeoedpefaaDoorAuAdd2
namespace Go.Proofs.YtobcbaeoedpefaaDoor
set_option linter.unusedVariables false
set_option linter.unusedSimpArgs false
set_option maxRecDepth 100000
open Go.ChangeShapes Go.WideShapes Go.ChangeAt Go.RowKit
open Au
/-- A path's value, with its slices written out. -/
theorem pv_open {W : World} {v u : Value} {x : Pt} (h : PtAt W v u x) : ∃ a n c a' n' c', v = .slice a n c ∧ u = .slice a' n' c' := by
  obtain ⟨_, _, hL, _, a', c', _, _, _, _, hg, _⟩ := h.open
  obtain ⟨a, c, hf, _⟩ := hL.open
  exact ⟨a, _, c, a', _, c', hf, hg⟩
/-- sequence lays out x, then y. -/
def SeqOk (x y : Pt) (bk : Bool) (r : Rx) : Prop := ∀ (W0 w : World) (v u v' u' : Value) (Y : Nat → Prop) (p lb cl nb cn : Nat) (lxs : List Value) (ls : List Lb) (nx : List Nat) (last : Nat),
  PtAt W0 v u x → PtAt W0 v' u' y → Below W0.heap.size W0 w → AuAt W0.heap.size Y w p lb cl nb cn lxs ls nx last → (∀ k, Y k → k < w.heap.size) → nx.length = ls.length → ls.length + r.n ≤ 32 → (∀ j, nx.getD j 0 < 2 ^ 32) →
    Calls Tryd.prog 42 #[.pointer (some ⟨p, 0, none⟩), pv x v u, pv y v' u', .bool bk] w (AddPost W0.heap.size Y w p lb nb ls nx last r)
set_option maxHeartbeats 16000000 in
theorem seq_false (x y : Pt) (IHx : AddOk x) (IHy : AddOk y) : SeqOk x y false (.seq (x.rx false) (y.rx false)) := by
  intro W0 w v u v' u' Y p lb cl nb cn lxs ls nx last hPx hPy hB h hY hn h32 hx
  obtain ⟨ax, nxx, cx, ax', nxx', cx', rfl, rfl⟩ := pv_open hPx
  obtain ⟨ay, nyy, cy, ay', nyy', cy', rfl, rfl⟩ := pv_open hPy
  rw [Rx.n_seq] at h32
  unfold pv
  obtain ⟨w1, hw1⟩ : ∃ w1, w1 = ((w.alloc (.cells #[.int .i64 x.kind, str x.text, .slice ax nxx cx, .slice ax' nxx' cx'] 25)).alloc (.cells #[.int .i64 y.kind, str y.text, .slice ay nyy cy, .slice ay' nyy' cy'] 25)).alloc (.cells #[.int .u32 0, .int .u32 0, .bool false] 63) := ⟨_, rfl⟩
  have hz1 : w1.heap.size = w.heap.size + 3 := by rw [hw1]; simp
  have hb1 : Below w.heap.size w w1 := by rw [hw1]; exact (((Below.refl _ _).alloc (Nat.le_refl _) _).alloc (by simp) _).alloc (by simp; omega) _
  have hX : Blk w1 w.heap.size [.int .i64 x.kind, str x.text, .slice ax nxx cx, .slice ax' nxx' cx'] 25 := by rw [hw1]; exact ((Blk.new w _ _).alloc _).alloc _
  have hYb : Blk w1 (w.heap.size + 1) [.int .i64 y.kind, str y.text, .slice ay nyy cy, .slice ay' nyy' cy'] 25 := by rw [hw1]; exact (Blk.new' (by simp) rfl).alloc _
  have hR : Blk w1 (w.heap.size + 2) [.int .u32 0, .int .u32 0, .bool false] 63 := by rw [hw1]; exact Blk.new' (by simp) rfl
  have h1 := ((h.more (Z := fun k => Y k ∨ (w.heap.size ≤ k ∧ k < w.heap.size + 3)) (fun k e => e.elim Or.inl (fun e => Or.inr (by omega)))).keep hb1)
  have hY1 : ∀ k, (Y k ∨ (w.heap.size ≤ k ∧ k < w.heap.size + 3)) → k < w1.heap.size := fun k e => by rcases e with e | e; (have := hY k e; omega); omega
  have hBw : Below W0.heap.size W0 w1 := hB.trans (hb1.mono hB.size)
  obtain ⟨c0, c1, c2, c3⟩ := blk4 hX
  obtain ⟨d0, d1, d2, d3⟩ := blk4 hYb
  obtain ⟨wS, hwS⟩ : ∃ wS, wS = w1 := ⟨_, rfl⟩
  have hXS := hX
  have hYS := hYb
  have hRS := hR
  have hS := h1
  have hYS1 := hY1
  have hbS := hb1
  have hBS := hBw
  rw [← hwS] at hXS hYS hRS hS hYS1 hbS hBS
  have C1 := IHx W0 wS _ _ false _ p lb cl nb cn lxs ls nx last hPx hBS hS hYS1 hn (by omega) hx
  have C2 := IHy W0
  obtain ⟨ea, hea⟩ : ∃ ea, ea = (x.rx false).emp := ⟨_, rfl⟩
  obtain ⟨eb, heb⟩ : ∃ eb, eb = (y.rx false).emp := ⟨_, rfl⟩
  have HN := hid hn
  have H32 := hid h32
  have HBS := hid hBS
  have HbS := hid hbS
  have HS := hid hS
  have HYS1 := hid hYS1
  have HRS := hid hRS
  have HYS := hid hYS
  have HXS := hid hXS
  have HEA := hid hea
  have HEB := hid heb
  have HPb := hid hPy
  have HZS := hid (show w1.heap.size = w.heap.size + 3 from hz1)
  have HSZ := hid (show w1.heap.size ≤ wS.heap.size from by rw [hwS]; exact Nat.le_refl _)
  unfold pv AddPost u32v at C1
  rw [← hea] at C1
  have C1 := hid C1
  have C2 := hid C2
  obtain ⟨x0, x1, x2, x3⟩ := blk4 hXS
  clear hz1 hb1 hX hYb hR h1 hY1 hBw h hY hn hx hPx hPy hB h32 hXS hYS hRS hS hYS1 hbS hBS hea heb IHx IHy c0 c1 c2 c3 d0 d1 d2 d3
  cases ea <;> cases eb
  case false.false =>
    go_enter Tryd.func42, Tryd.ntmps42
    go_upto_region 1 with fail
    rw [← hw1, ← hwS]
    clear hw1 hwS
    go_wp2_with fail
    refine C1.out.mono ?_
    rintro e w3 ⟨Fa, La, nx1, rfl, hF, hL, hRo, hp⟩
    have HFa := hid hF
    have HLa := hid hL
    have HRa := hid hRo
    have hY3 := AuPost.blk HS.out hp (Or.inr ⟨by omega, by omega⟩) HYS.out
    have hR3 := AuPost.blk HS.out hp (Or.inr ⟨by omega, by omega⟩) HRS.out
    have hB3 := HBS.out.trans (AuPost.below HS.out hp)
    have HW3 := hid (AuPost.size hp)
    obtain ⟨w4, hw4⟩ : ∃ w4, w4 = w3.alloc (.cells #[.int .u32 Fa, .int .u32 La, .bool false] 63) := ⟨_, rfl⟩
    have hY4 := hY3.alloc (.cells #[.int .u32 Fa, .int .u32 La, .bool false] 63)
    have hR4 := hR3.alloc (.cells #[.int .u32 Fa, .int .u32 La, .bool false] 63)
    have hB4 := hB3.alloc hB3.size (.cells #[.int .u32 Fa, .int .u32 La, .bool false] 63)
    have hM4 := Blk.new w3 [.int .u32 Fa, .int .u32 La, .bool false] 63
    have hp4 := AuPost.alloc hp (.cells #[.int .u32 Fa, .int .u32 La, .bool false] 63)
    have hs4 : (w3.alloc (.cells #[.int .u32 Fa, .int .u32 La, .bool false] 63)).heap.size = w3.heap.size + 1 := by simp
    have hM4 : Blk (w3.alloc (.cells #[.int .u32 Fa, .int .u32 La, .bool false] 63)) w3.heap.size [.int .u32 Fa, .int .u32 La, .bool false] 63 := hM4
    rw [← hw4] at hY4 hR4 hB4 hM4 hp4 hs4
    obtain ⟨lb4, cl4, nb4, cn4, lxs4, A4, F4, g4, h4⟩ := hp4
    have hln := HN.out
    have h32 := H32.out
    have hrl := hRo.len
    have C2b := C2.out w4 _ _ false _ p lb4 cl4 nb4 cn4 lxs4 (ls ++ (x.rx false).labs) nx1 last HPb.out hB4 A4 (fun k e => by
      rcases e with e | e
      · have := HYS1.out k e; have := HW3.out; omega
      · omega) (by rw [hrl, List.length_append]; rfl) (by rw [List.length_append]; have : (x.rx false).labs.length = (x.rx false).n := rfl; omega) hRo.lt
    have hll : (ls ++ (x.rx false).labs).length = ls.length + (x.rx false).n := by rw [List.length_append]; rfl
    unfold pv AddPost u32v at C2b
    rw [← HEB.out, hll] at C2b
    have C2b := hid C2b
    have HA4 := hid A4
    have HF4 := hid F4
    have HG4 := hid g4
    have HH4 := hid h4
    have HY4 := hid hY4
    have HR4 := hid hR4
    have HM4 := hid hM4
    have HS4 := hid hs4
    obtain ⟨y0, y1, y2, y3⟩ := blk4 hY4
    clear hF hL hRo hp hY3 hR3 hB3 hY4 hR4 hB4 hM4 A4 F4 g4 h4 hln h32 hrl hll hs4
    go_upto_region 4 with fail
    rw [← hw4]
    clear hw4
    go_wp2_with fail
    refine C2b.out.mono ?_
    rintro e w5 ⟨Fb, Lb, nx2, rfl, hF, hL, hRo, hp⟩
    have HFb := hid hF
    have HLb := hid hL
    have HRb := hid hRo
    have hR5 := AuPost.blk HA4.out hp (Or.inl (Or.inr ⟨by omega, by omega⟩)) HR4.out
    have hM5 := AuPost.blk HA4.out hp (Or.inr rfl) HM4.out
    have HW5 := hid (AuPost.size hp)
    obtain ⟨w6, hw6⟩ : ∃ w6, w6 = w5.alloc (.cells #[.int .u32 Fb, .int .u32 Lb, .bool false] 63) := ⟨_, rfl⟩
    have hR6 := hR5.alloc (.cells #[.int .u32 Fb, .int .u32 Lb, .bool false] 63)
    have hM6 := hM5.alloc (.cells #[.int .u32 Fb, .int .u32 Lb, .bool false] 63)
    have hN6 : Blk (w5.alloc (.cells #[.int .u32 Fb, .int .u32 Lb, .bool false] 63)) w5.heap.size [.int .u32 Fb, .int .u32 Lb, .bool false] 63 := Blk.new w5 _ _
    have hp6 := AuPost.alloc hp (.cells #[.int .u32 Fb, .int .u32 Lb, .bool false] 63)
    have hs6 : (w5.alloc (.cells #[.int .u32 Fb, .int .u32 Lb, .bool false] 63)).heap.size = w5.heap.size + 1 := by simp
    rw [← hw6] at hR6 hM6 hN6 hp6 hs6
    obtain ⟨lb6, cl6, nb6, cn6, lxs6, A6, F6, g6, h6⟩ := hp6
    have FO := follow_au La Fb A6 (by have := hRo.len; have := H32.out; omega) HLa.out.1 hF.1 hRo.lt
    unfold u32v at FO
    have FO := hid FO
    have HA6 := hid A6
    have HF6 := hid F6
    have HG6 := hid g6
    have HH6 := hid h6
    have HR6 := hid hR6
    have HM6 := hid hM6
    have HN6 := hid hN6
    have HS6 := hid hs6
    have m0 := hM6.cell (i := 0) rfl
    have m1 := hM6.cell (i := 1) rfl
    have m2 := hM6.cell (i := 2) rfl
    have n0 := hN6.cell (i := 0) rfl
    have n1 := hN6.cell (i := 1) rfl
    have n2 := hN6.cell (i := 2) rfl
    clear hF hL hRo hp hR5 hM5 hR6 hM6 hN6 A6 F6 g6 h6 hs6 y0 y1 y2 y3
    go_upto_region 5 with fail
    rw [← hw6]
    clear hw6
    go_wp2_with fail
    refine FO.out.mono ?_
    rintro e w7 ⟨rfl, A7, F7⟩
    have hR7 := HR6.out.frm F7 (fun e => HA6.out.yn (e ▸ Or.inl (Or.inl (Or.inr ⟨by omega, by omega⟩))))
    have hM7 := HM6.out.frm F7 (fun e => HA6.out.yn (e ▸ Or.inl (Or.inr rfl)))
    have hN7 := HN6.out.frm F7 (fun e => HA6.out.yn (e ▸ Or.inr rfl))
    have hp7 := AuPost.follow HF6.out HG6.out HH6.out A7 F7
    have HW7 := hid F7.size
    obtain ⟨w8, hw8⟩ : ∃ w8, w8 = w7.alloc (.cells #[.int .u32 Fa, .int .u32 Lb, .bool false] 63) := ⟨_, rfl⟩
    have hR8 := hR7.alloc (.cells #[.int .u32 Fa, .int .u32 Lb, .bool false] 63)
    have hM8 := hM7.alloc (.cells #[.int .u32 Fa, .int .u32 Lb, .bool false] 63)
    have hN8 := hN7.alloc (.cells #[.int .u32 Fa, .int .u32 Lb, .bool false] 63)
    have hO8 : Blk (w7.alloc (.cells #[.int .u32 Fa, .int .u32 Lb, .bool false] 63)) w7.heap.size [.int .u32 Fa, .int .u32 Lb, .bool false] 63 := Blk.new w7 _ _
    have hp8 := AuPost.alloc (AuPost.then HF4.out HG4.out HH4.out hp7) (.cells #[.int .u32 Fa, .int .u32 Lb, .bool false] 63)
    rw [← hw8] at hR8 hM8 hN8 hO8 hp8
    have HP8 := hid hp8
    have HR8 := hid hR8
    have HO8 := hid hO8
    have m0 := hM7.cell (i := 0) rfl
    have m1 := hM7.cell (i := 1) rfl
    have m2 := hM7.cell (i := 2) rfl
    have n0 := hN7.cell (i := 0) rfl
    have n1 := hN7.cell (i := 1) rfl
    have n2 := hN7.cell (i := 2) rfl
    have mm0 := hM8.cell (i := 0) rfl
    have mm1 := hM8.cell (i := 1) rfl
    have mm2 := hM8.cell (i := 2) rfl
    have nn0 := hN8.cell (i := 0) rfl
    have nn1 := hN8.cell (i := 1) rfl
    have nn2 := hN8.cell (i := 2) rfl
    have o0 := hO8.cell (i := 0) rfl
    have o1 := hO8.cell (i := 1) rfl
    have o2 := hO8.cell (i := 2) rfl
    have of0 := hO8.free 0
    have of1 := hO8.free 1
    have r0 := hR8.cell (i := 0) rfl
    have r1 := hR8.cell (i := 1) rfl
    have r2 := hR8.cell (i := 2) rfl
    have s0 := hR8.free 0
    have s1 := hR8.free 1
    have s2 := hR8.free 2
    have z4 := HS4.out
    have z6 := HS6.out
    have zS := HZS.out
    have zz := HSZ.out
    have zw3 := HW3.out
    have zw5 := HW5.out
    have zw7 := HW7.out
    have e1 : w7.heap.size ≠ w.heap.size + 2 := by omega
    have e2 : w.heap.size + 2 ≠ w7.heap.size := by omega
    have e3 : w7.heap.size ≠ w5.heap.size := by omega
    have e4 : w5.heap.size ≠ w7.heap.size := by omega
    have e5 : w7.heap.size ≠ w3.heap.size := by omega
    have e6 : w3.heap.size ≠ w7.heap.size := by omega
    have ho1 := or_u32 Fa Fb HFa.out.1 HFb.out.1
    have ho2 := or_u32 Lb La HLb.out.1 HLa.out.1
    have HLE := hid (show wS.heap.size ≤ w7.heap.size by omega)
    have HLE2 := hid (show w.heap.size ≤ w7.heap.size by omega)
    have E1 := hid e1
    have E2 := hid e2
    clear A7 F7 hR7 hM7 hN7 hp7 hR8 hM8 hN8 hO8 hp8 z4 z6 zS zz zw3 zw5 zw7
    go_upto_region 7 with fail
    rw [← hw8]
    clear hw8
    go_wp2
    have hp9 := HP8.out
    have hO9 := HO8.out
    have hR9 := HR8.out
    obtain ⟨q1, q2⟩ := add_end (Y := Y) hR9 (Or.inl (Or.inl (Or.inl (Or.inr ⟨by omega, by omega⟩)))) HbS.out (Or.inr (by omega)) (fun k e => Or.inl (Or.inl (Or.inl (Or.inl e)))) hp9 (.int .u32 ((Fa : Nat))) (.int .u32 ((Lb : Nat))) (.bool false)
    have hrr : Rows (.seq (x.rx false) (y.rx false)) ls.length nx (ufol nx2 La Fb nx2.length) := rows_seq HRa.out HRb.out HFb.out HLa.out
    have hsf : Set (Fa) ((Rx.seq (x.rx false) (y.rx false)).fst ls.length) := Set.congr HFa.out (fun j => by simp only [Rx.fst]; rw [← HEA.out]; simp)
    have hsl : Set (Lb) ((Rx.seq (x.rx false) (y.rx false)).lst ls.length) := Set.congr HLb.out (fun j => by simp only [Rx.lst]; rw [← HEB.out]; simp)
    have hem : (Rx.seq (x.rx false) (y.rx false)).emp = false := by simp only [Rx.emp]; rw [← HEA.out, ← HEB.out]; rfl
    rw [List.append_assoc] at q2
    refine bodyPost_ret (part_ret (s := 8) rfl q1 Tryd.results42) rfl ⟨Fa, Lb, _, (by rw [hem]; rfl), hsf, hsl, hrr, q2⟩
  case false.true =>
    go_enter Tryd.func42, Tryd.ntmps42
    go_upto_region 1 with fail
    rw [← hw1, ← hwS]
    clear hw1 hwS
    go_wp2_with fail
    refine C1.out.mono ?_
    rintro e w3 ⟨Fa, La, nx1, rfl, hF, hL, hRo, hp⟩
    have HFa := hid hF
    have HLa := hid hL
    have HRa := hid hRo
    have hY3 := AuPost.blk HS.out hp (Or.inr ⟨by omega, by omega⟩) HYS.out
    have hR3 := AuPost.blk HS.out hp (Or.inr ⟨by omega, by omega⟩) HRS.out
    have hB3 := HBS.out.trans (AuPost.below HS.out hp)
    have HW3 := hid (AuPost.size hp)
    obtain ⟨w4, hw4⟩ : ∃ w4, w4 = w3.alloc (.cells #[.int .u32 Fa, .int .u32 La, .bool false] 63) := ⟨_, rfl⟩
    have hY4 := hY3.alloc (.cells #[.int .u32 Fa, .int .u32 La, .bool false] 63)
    have hR4 := hR3.alloc (.cells #[.int .u32 Fa, .int .u32 La, .bool false] 63)
    have hB4 := hB3.alloc hB3.size (.cells #[.int .u32 Fa, .int .u32 La, .bool false] 63)
    have hM4 := Blk.new w3 [.int .u32 Fa, .int .u32 La, .bool false] 63
    have hp4 := AuPost.alloc hp (.cells #[.int .u32 Fa, .int .u32 La, .bool false] 63)
    have hs4 : (w3.alloc (.cells #[.int .u32 Fa, .int .u32 La, .bool false] 63)).heap.size = w3.heap.size + 1 := by simp
    have hM4 : Blk (w3.alloc (.cells #[.int .u32 Fa, .int .u32 La, .bool false] 63)) w3.heap.size [.int .u32 Fa, .int .u32 La, .bool false] 63 := hM4
    rw [← hw4] at hY4 hR4 hB4 hM4 hp4 hs4
    obtain ⟨lb4, cl4, nb4, cn4, lxs4, A4, F4, g4, h4⟩ := hp4
    have hln := HN.out
    have h32 := H32.out
    have hrl := hRo.len
    have C2b := C2.out w4 _ _ false _ p lb4 cl4 nb4 cn4 lxs4 (ls ++ (x.rx false).labs) nx1 last HPb.out hB4 A4 (fun k e => by
      rcases e with e | e
      · have := HYS1.out k e; have := HW3.out; omega
      · omega) (by rw [hrl, List.length_append]; rfl) (by rw [List.length_append]; have : (x.rx false).labs.length = (x.rx false).n := rfl; omega) hRo.lt
    have hll : (ls ++ (x.rx false).labs).length = ls.length + (x.rx false).n := by rw [List.length_append]; rfl
    unfold pv AddPost u32v at C2b
    rw [← HEB.out, hll] at C2b
    have C2b := hid C2b
    have HA4 := hid A4
    have HF4 := hid F4
    have HG4 := hid g4
    have HH4 := hid h4
    have HY4 := hid hY4
    have HR4 := hid hR4
    have HM4 := hid hM4
    have HS4 := hid hs4
    obtain ⟨y0, y1, y2, y3⟩ := blk4 hY4
    clear hF hL hRo hp hY3 hR3 hB3 hY4 hR4 hB4 hM4 A4 F4 g4 h4 hln h32 hrl hll hs4
    go_upto_region 4 with fail
    rw [← hw4]
    clear hw4
    go_wp2_with fail
    refine C2b.out.mono ?_
    rintro e w5 ⟨Fb, Lb, nx2, rfl, hF, hL, hRo, hp⟩
    have HFb := hid hF
    have HLb := hid hL
    have HRb := hid hRo
    have hR5 := AuPost.blk HA4.out hp (Or.inl (Or.inr ⟨by omega, by omega⟩)) HR4.out
    have hM5 := AuPost.blk HA4.out hp (Or.inr rfl) HM4.out
    have HW5 := hid (AuPost.size hp)
    obtain ⟨w6, hw6⟩ : ∃ w6, w6 = w5.alloc (.cells #[.int .u32 Fb, .int .u32 Lb, .bool true] 63) := ⟨_, rfl⟩
    have hR6 := hR5.alloc (.cells #[.int .u32 Fb, .int .u32 Lb, .bool true] 63)
    have hM6 := hM5.alloc (.cells #[.int .u32 Fb, .int .u32 Lb, .bool true] 63)
    have hN6 : Blk (w5.alloc (.cells #[.int .u32 Fb, .int .u32 Lb, .bool true] 63)) w5.heap.size [.int .u32 Fb, .int .u32 Lb, .bool true] 63 := Blk.new w5 _ _
    have hp6 := AuPost.alloc hp (.cells #[.int .u32 Fb, .int .u32 Lb, .bool true] 63)
    have hs6 : (w5.alloc (.cells #[.int .u32 Fb, .int .u32 Lb, .bool true] 63)).heap.size = w5.heap.size + 1 := by simp
    rw [← hw6] at hR6 hM6 hN6 hp6 hs6
    obtain ⟨lb6, cl6, nb6, cn6, lxs6, A6, F6, g6, h6⟩ := hp6
    have FO := follow_au La Fb A6 (by have := hRo.len; have := H32.out; omega) HLa.out.1 hF.1 hRo.lt
    unfold u32v at FO
    have FO := hid FO
    have HA6 := hid A6
    have HF6 := hid F6
    have HG6 := hid g6
    have HH6 := hid h6
    have HR6 := hid hR6
    have HM6 := hid hM6
    have HN6 := hid hN6
    have HS6 := hid hs6
    have m0 := hM6.cell (i := 0) rfl
    have m1 := hM6.cell (i := 1) rfl
    have m2 := hM6.cell (i := 2) rfl
    have n0 := hN6.cell (i := 0) rfl
    have n1 := hN6.cell (i := 1) rfl
    have n2 := hN6.cell (i := 2) rfl
    clear hF hL hRo hp hR5 hM5 hR6 hM6 hN6 A6 F6 g6 h6 hs6 y0 y1 y2 y3
    go_upto_region 5 with fail
    rw [← hw6]
    clear hw6
    go_wp2_with fail
    refine FO.out.mono ?_
    rintro e w7 ⟨rfl, A7, F7⟩
    have hR7 := HR6.out.frm F7 (fun e => HA6.out.yn (e ▸ Or.inl (Or.inl (Or.inr ⟨by omega, by omega⟩))))
    have hM7 := HM6.out.frm F7 (fun e => HA6.out.yn (e ▸ Or.inl (Or.inr rfl)))
    have hN7 := HN6.out.frm F7 (fun e => HA6.out.yn (e ▸ Or.inr rfl))
    have hp7 := AuPost.follow HF6.out HG6.out HH6.out A7 F7
    have HW7 := hid F7.size
    obtain ⟨w8, hw8⟩ : ∃ w8, w8 = w7.alloc (.cells #[.int .u32 Fa, .int .u32 Lb, .bool false] 63) := ⟨_, rfl⟩
    have hR8 := hR7.alloc (.cells #[.int .u32 Fa, .int .u32 Lb, .bool false] 63)
    have hM8 := hM7.alloc (.cells #[.int .u32 Fa, .int .u32 Lb, .bool false] 63)
    have hN8 := hN7.alloc (.cells #[.int .u32 Fa, .int .u32 Lb, .bool false] 63)
    have hO8 : Blk (w7.alloc (.cells #[.int .u32 Fa, .int .u32 Lb, .bool false] 63)) w7.heap.size [.int .u32 Fa, .int .u32 Lb, .bool false] 63 := Blk.new w7 _ _
    have hp8 := AuPost.alloc (AuPost.then HF4.out HG4.out HH4.out hp7) (.cells #[.int .u32 Fa, .int .u32 Lb, .bool false] 63)
    rw [← hw8] at hR8 hM8 hN8 hO8 hp8
    have HP8 := hid hp8
    have HR8 := hid hR8
    have HO8 := hid hO8
    have m0 := hM7.cell (i := 0) rfl
    have m1 := hM7.cell (i := 1) rfl
    have m2 := hM7.cell (i := 2) rfl
    have n0 := hN7.cell (i := 0) rfl
    have n1 := hN7.cell (i := 1) rfl
    have n2 := hN7.cell (i := 2) rfl
    have mm0 := hM8.cell (i := 0) rfl
    have mm1 := hM8.cell (i := 1) rfl
    have mm2 := hM8.cell (i := 2) rfl
    have nn0 := hN8.cell (i := 0) rfl
    have nn1 := hN8.cell (i := 1) rfl
    have nn2 := hN8.cell (i := 2) rfl
    have o0 := hO8.cell (i := 0) rfl
    have o1 := hO8.cell (i := 1) rfl
    have o2 := hO8.cell (i := 2) rfl
    have of0 := hO8.free 0
    have of1 := hO8.free 1
    have r0 := hR8.cell (i := 0) rfl
    have r1 := hR8.cell (i := 1) rfl
    have r2 := hR8.cell (i := 2) rfl
    have s0 := hR8.free 0
    have s1 := hR8.free 1
    have s2 := hR8.free 2
    have z4 := HS4.out
    have z6 := HS6.out
    have zS := HZS.out
    have zz := HSZ.out
    have zw3 := HW3.out
    have zw5 := HW5.out
    have zw7 := HW7.out
    have e1 : w7.heap.size ≠ w.heap.size + 2 := by omega
    have e2 : w.heap.size + 2 ≠ w7.heap.size := by omega
    have e3 : w7.heap.size ≠ w5.heap.size := by omega
    have e4 : w5.heap.size ≠ w7.heap.size := by omega
    have e5 : w7.heap.size ≠ w3.heap.size := by omega
    have e6 : w3.heap.size ≠ w7.heap.size := by omega
    have ho1 := or_u32 Fa Fb HFa.out.1 HFb.out.1
    have ho2 := or_u32 Lb La HLb.out.1 HLa.out.1
    have HLE := hid (show wS.heap.size ≤ w7.heap.size by omega)
    have HLE2 := hid (show w.heap.size ≤ w7.heap.size by omega)
    have E1 := hid e1
    have E2 := hid e2
    clear A7 F7 hR7 hM7 hN7 hp7 hR8 hM8 hN8 hO8 hp8 z4 z6 zS zz zw3 zw5 zw7
    go_upto_region 7 with fail
    rw [← hw8]
    clear hw8
    go_wp2
    have hp9 := HP8.out
    have hO9 := HO8.out
    have hR9 := HR8.out
    have hp9 := hp9.set (b := w7.heap.size) (Or.inr rfl) HLE.out 1 (.int .u32 ((Lb ||| La : Nat)))
    have hR9 := hR9.other E2.out 1 (.int .u32 ((Lb ||| La : Nat)))
    obtain ⟨q1, q2⟩ := add_end (Y := Y) hR9 (Or.inl (Or.inl (Or.inl (Or.inr ⟨by omega, by omega⟩)))) HbS.out (Or.inr (by omega)) (fun k e => Or.inl (Or.inl (Or.inl (Or.inl e)))) hp9 (.int .u32 ((Fa : Nat))) (.int .u32 ((Lb ||| La : Nat))) (.bool false)
    have hrr : Rows (.seq (x.rx false) (y.rx false)) ls.length nx (ufol nx2 La Fb nx2.length) := rows_seq HRa.out HRb.out HFb.out HLa.out
    have hsf : Set (Fa) ((Rx.seq (x.rx false) (y.rx false)).fst ls.length) := Set.congr HFa.out (fun j => by simp only [Rx.fst]; rw [← HEA.out]; simp)
    have hsl : Set (Lb ||| La) ((Rx.seq (x.rx false) (y.rx false)).lst ls.length) := Set.congr (HLb.out.or HLa.out) (fun j => by simp only [Rx.lst]; rw [← HEB.out]; simp)
    have hem : (Rx.seq (x.rx false) (y.rx false)).emp = false := by simp only [Rx.emp]; rw [← HEA.out, ← HEB.out]; rfl
    rw [List.append_assoc] at q2
    refine bodyPost_ret (part_ret (s := 8) rfl q1 Tryd.results42) rfl ⟨Fa, Lb ||| La, _, (by rw [hem]; rfl), hsf, hsl, hrr, q2⟩
  case true.false =>
    go_enter Tryd.func42, Tryd.ntmps42
    go_upto_region 1 with fail
    rw [← hw1, ← hwS]
    clear hw1 hwS
    go_wp2_with fail
    refine C1.out.mono ?_
    rintro e w3 ⟨Fa, La, nx1, rfl, hF, hL, hRo, hp⟩
    have HFa := hid hF
    have HLa := hid hL
    have HRa := hid hRo
    have hY3 := AuPost.blk HS.out hp (Or.inr ⟨by omega, by omega⟩) HYS.out
    have hR3 := AuPost.blk HS.out hp (Or.inr ⟨by omega, by omega⟩) HRS.out
    have hB3 := HBS.out.trans (AuPost.below HS.out hp)
    have HW3 := hid (AuPost.size hp)
    obtain ⟨w4, hw4⟩ : ∃ w4, w4 = w3.alloc (.cells #[.int .u32 Fa, .int .u32 La, .bool true] 63) := ⟨_, rfl⟩
    have hY4 := hY3.alloc (.cells #[.int .u32 Fa, .int .u32 La, .bool true] 63)
    have hR4 := hR3.alloc (.cells #[.int .u32 Fa, .int .u32 La, .bool true] 63)
    have hB4 := hB3.alloc hB3.size (.cells #[.int .u32 Fa, .int .u32 La, .bool true] 63)
    have hM4 := Blk.new w3 [.int .u32 Fa, .int .u32 La, .bool true] 63
    have hp4 := AuPost.alloc hp (.cells #[.int .u32 Fa, .int .u32 La, .bool true] 63)
    have hs4 : (w3.alloc (.cells #[.int .u32 Fa, .int .u32 La, .bool true] 63)).heap.size = w3.heap.size + 1 := by simp
    have hM4 : Blk (w3.alloc (.cells #[.int .u32 Fa, .int .u32 La, .bool true] 63)) w3.heap.size [.int .u32 Fa, .int .u32 La, .bool true] 63 := hM4
    rw [← hw4] at hY4 hR4 hB4 hM4 hp4 hs4
    obtain ⟨lb4, cl4, nb4, cn4, lxs4, A4, F4, g4, h4⟩ := hp4
    have hln := HN.out
    have h32 := H32.out
    have hrl := hRo.len
    have C2b := C2.out w4 _ _ false _ p lb4 cl4 nb4 cn4 lxs4 (ls ++ (x.rx false).labs) nx1 last HPb.out hB4 A4 (fun k e => by
      rcases e with e | e
      · have := HYS1.out k e; have := HW3.out; omega
      · omega) (by rw [hrl, List.length_append]; rfl) (by rw [List.length_append]; have : (x.rx false).labs.length = (x.rx false).n := rfl; omega) hRo.lt
    have hll : (ls ++ (x.rx false).labs).length = ls.length + (x.rx false).n := by rw [List.length_append]; rfl
    unfold pv AddPost u32v at C2b
    rw [← HEB.out, hll] at C2b
    have C2b := hid C2b
    have HA4 := hid A4
    have HF4 := hid F4
    have HG4 := hid g4
    have HH4 := hid h4
    have HY4 := hid hY4
    have HR4 := hid hR4
    have HM4 := hid hM4
    have HS4 := hid hs4
    obtain ⟨y0, y1, y2, y3⟩ := blk4 hY4
    clear hF hL hRo hp hY3 hR3 hB3 hY4 hR4 hB4 hM4 A4 F4 g4 h4 hln h32 hrl hll hs4
    go_upto_region 4 with fail
    rw [← hw4]
    clear hw4
    go_wp2_with fail
    refine C2b.out.mono ?_
    rintro e w5 ⟨Fb, Lb, nx2, rfl, hF, hL, hRo, hp⟩
    have HFb := hid hF
    have HLb := hid hL
    have HRb := hid hRo
    have hR5 := AuPost.blk HA4.out hp (Or.inl (Or.inr ⟨by omega, by omega⟩)) HR4.out
    have hM5 := AuPost.blk HA4.out hp (Or.inr rfl) HM4.out
    have HW5 := hid (AuPost.size hp)
    obtain ⟨w6, hw6⟩ : ∃ w6, w6 = w5.alloc (.cells #[.int .u32 Fb, .int .u32 Lb, .bool false] 63) := ⟨_, rfl⟩
    have hR6 := hR5.alloc (.cells #[.int .u32 Fb, .int .u32 Lb, .bool false] 63)
    have hM6 := hM5.alloc (.cells #[.int .u32 Fb, .int .u32 Lb, .bool false] 63)
    have hN6 : Blk (w5.alloc (.cells #[.int .u32 Fb, .int .u32 Lb, .bool false] 63)) w5.heap.size [.int .u32 Fb, .int .u32 Lb, .bool false] 63 := Blk.new w5 _ _
    have hp6 := AuPost.alloc hp (.cells #[.int .u32 Fb, .int .u32 Lb, .bool false] 63)
    have hs6 : (w5.alloc (.cells #[.int .u32 Fb, .int .u32 Lb, .bool false] 63)).heap.size = w5.heap.size + 1 := by simp
    rw [← hw6] at hR6 hM6 hN6 hp6 hs6
    obtain ⟨lb6, cl6, nb6, cn6, lxs6, A6, F6, g6, h6⟩ := hp6
    have FO := follow_au La Fb A6 (by have := hRo.len; have := H32.out; omega) HLa.out.1 hF.1 hRo.lt
    unfold u32v at FO
    have FO := hid FO
    have HA6 := hid A6
    have HF6 := hid F6
    have HG6 := hid g6
    have HH6 := hid h6
    have HR6 := hid hR6
    have HM6 := hid hM6
    have HN6 := hid hN6
    have HS6 := hid hs6
    have m0 := hM6.cell (i := 0) rfl
    have m1 := hM6.cell (i := 1) rfl
    have m2 := hM6.cell (i := 2) rfl
    have n0 := hN6.cell (i := 0) rfl
    have n1 := hN6.cell (i := 1) rfl
    have n2 := hN6.cell (i := 2) rfl
    clear hF hL hRo hp hR5 hM5 hR6 hM6 hN6 A6 F6 g6 h6 hs6 y0 y1 y2 y3
    go_upto_region 5 with fail
    rw [← hw6]
    clear hw6
    go_wp2_with fail
    refine FO.out.mono ?_
    rintro e w7 ⟨rfl, A7, F7⟩
    have hR7 := HR6.out.frm F7 (fun e => HA6.out.yn (e ▸ Or.inl (Or.inl (Or.inr ⟨by omega, by omega⟩))))
    have hM7 := HM6.out.frm F7 (fun e => HA6.out.yn (e ▸ Or.inl (Or.inr rfl)))
    have hN7 := HN6.out.frm F7 (fun e => HA6.out.yn (e ▸ Or.inr rfl))
    have hp7 := AuPost.follow HF6.out HG6.out HH6.out A7 F7
    have HW7 := hid F7.size
    obtain ⟨w8, hw8⟩ : ∃ w8, w8 = w7.alloc (.cells #[.int .u32 Fa, .int .u32 Lb, .bool false] 63) := ⟨_, rfl⟩
    have hR8 := hR7.alloc (.cells #[.int .u32 Fa, .int .u32 Lb, .bool false] 63)
    have hM8 := hM7.alloc (.cells #[.int .u32 Fa, .int .u32 Lb, .bool false] 63)
    have hN8 := hN7.alloc (.cells #[.int .u32 Fa, .int .u32 Lb, .bool false] 63)
    have hO8 : Blk (w7.alloc (.cells #[.int .u32 Fa, .int .u32 Lb, .bool false] 63)) w7.heap.size [.int .u32 Fa, .int .u32 Lb, .bool false] 63 := Blk.new w7 _ _
    have hp8 := AuPost.alloc (AuPost.then HF4.out HG4.out HH4.out hp7) (.cells #[.int .u32 Fa, .int .u32 Lb, .bool false] 63)
    rw [← hw8] at hR8 hM8 hN8 hO8 hp8
    have HP8 := hid hp8
    have HR8 := hid hR8
    have HO8 := hid hO8
    have m0 := hM7.cell (i := 0) rfl
    have m1 := hM7.cell (i := 1) rfl
    have m2 := hM7.cell (i := 2) rfl
    have n0 := hN7.cell (i := 0) rfl
    have n1 := hN7.cell (i := 1) rfl
    have n2 := hN7.cell (i := 2) rfl
    have mm0 := hM8.cell (i := 0) rfl
    have mm1 := hM8.cell (i := 1) rfl
    have mm2 := hM8.cell (i := 2) rfl
    have nn0 := hN8.cell (i := 0) rfl
    have nn1 := hN8.cell (i := 1) rfl
    have nn2 := hN8.cell (i := 2) rfl
    have o0 := hO8.cell (i := 0) rfl
    have o1 := hO8.cell (i := 1) rfl
    have o2 := hO8.cell (i := 2) rfl
    have of0 := hO8.free 0
    have of1 := hO8.free 1
    have r0 := hR8.cell (i := 0) rfl
    have r1 := hR8.cell (i := 1) rfl
    have r2 := hR8.cell (i := 2) rfl
    have s0 := hR8.free 0
    have s1 := hR8.free 1
    have s2 := hR8.free 2
    have z4 := HS4.out
    have z6 := HS6.out
    have zS := HZS.out
    have zz := HSZ.out
    have zw3 := HW3.out
    have zw5 := HW5.out
    have zw7 := HW7.out
    have e1 : w7.heap.size ≠ w.heap.size + 2 := by omega
    have e2 : w.heap.size + 2 ≠ w7.heap.size := by omega
    have e3 : w7.heap.size ≠ w5.heap.size := by omega
    have e4 : w5.heap.size ≠ w7.heap.size := by omega
    have e5 : w7.heap.size ≠ w3.heap.size := by omega
    have e6 : w3.heap.size ≠ w7.heap.size := by omega
    have ho1 := or_u32 Fa Fb HFa.out.1 HFb.out.1
    have ho2 := or_u32 Lb La HLb.out.1 HLa.out.1
    have HLE := hid (show wS.heap.size ≤ w7.heap.size by omega)
    have HLE2 := hid (show w.heap.size ≤ w7.heap.size by omega)
    have E1 := hid e1
    have E2 := hid e2
    clear A7 F7 hR7 hM7 hN7 hp7 hR8 hM8 hN8 hO8 hp8 z4 z6 zS zz zw3 zw5 zw7
    go_upto_region 7 with fail
    rw [← hw8]
    clear hw8
    go_wp2
    have hp9 := HP8.out
    have hO9 := HO8.out
    have hR9 := HR8.out
    have hp9 := hp9.set (b := w7.heap.size) (Or.inr rfl) HLE.out 0 (.int .u32 ((Fa ||| Fb : Nat)))
    have hR9 := hR9.other E2.out 0 (.int .u32 ((Fa ||| Fb : Nat)))
    obtain ⟨q1, q2⟩ := add_end (Y := Y) hR9 (Or.inl (Or.inl (Or.inl (Or.inr ⟨by omega, by omega⟩)))) HbS.out (Or.inr (by omega)) (fun k e => Or.inl (Or.inl (Or.inl (Or.inl e)))) hp9 (.int .u32 ((Fa ||| Fb : Nat))) (.int .u32 ((Lb : Nat))) (.bool false)
    have hrr : Rows (.seq (x.rx false) (y.rx false)) ls.length nx (ufol nx2 La Fb nx2.length) := rows_seq HRa.out HRb.out HFb.out HLa.out
    have hsf : Set (Fa ||| Fb) ((Rx.seq (x.rx false) (y.rx false)).fst ls.length) := Set.congr (HFa.out.or HFb.out) (fun j => by simp only [Rx.fst]; rw [← HEA.out]; simp)
    have hsl : Set (Lb) ((Rx.seq (x.rx false) (y.rx false)).lst ls.length) := Set.congr HLb.out (fun j => by simp only [Rx.lst]; rw [← HEB.out]; simp)
    have hem : (Rx.seq (x.rx false) (y.rx false)).emp = false := by simp only [Rx.emp]; rw [← HEA.out, ← HEB.out]; rfl
    rw [List.append_assoc] at q2
    refine bodyPost_ret (part_ret (s := 8) rfl q1 Tryd.results42) rfl ⟨Fa ||| Fb, Lb, _, (by rw [hem]; rfl), hsf, hsl, hrr, q2⟩
  case true.true =>
    go_enter Tryd.func42, Tryd.ntmps42
    go_upto_region 1 with fail
    rw [← hw1, ← hwS]
    clear hw1 hwS
    go_wp2_with fail
    refine C1.out.mono ?_
    rintro e w3 ⟨Fa, La, nx1, rfl, hF, hL, hRo, hp⟩
    have HFa := hid hF
    have HLa := hid hL
    have HRa := hid hRo
    have hY3 := AuPost.blk HS.out hp (Or.inr ⟨by omega, by omega⟩) HYS.out
    have hR3 := AuPost.blk HS.out hp (Or.inr ⟨by omega, by omega⟩) HRS.out
    have hB3 := HBS.out.trans (AuPost.below HS.out hp)
    have HW3 := hid (AuPost.size hp)
    obtain ⟨w4, hw4⟩ : ∃ w4, w4 = w3.alloc (.cells #[.int .u32 Fa, .int .u32 La, .bool true] 63) := ⟨_, rfl⟩
    have hY4 := hY3.alloc (.cells #[.int .u32 Fa, .int .u32 La, .bool true] 63)
    have hR4 := hR3.alloc (.cells #[.int .u32 Fa, .int .u32 La, .bool true] 63)
    have hB4 := hB3.alloc hB3.size (.cells #[.int .u32 Fa, .int .u32 La, .bool true] 63)
    have hM4 := Blk.new w3 [.int .u32 Fa, .int .u32 La, .bool true] 63
    have hp4 := AuPost.alloc hp (.cells #[.int .u32 Fa, .int .u32 La, .bool true] 63)
    have hs4 : (w3.alloc (.cells #[.int .u32 Fa, .int .u32 La, .bool true] 63)).heap.size = w3.heap.size + 1 := by simp
    have hM4 : Blk (w3.alloc (.cells #[.int .u32 Fa, .int .u32 La, .bool true] 63)) w3.heap.size [.int .u32 Fa, .int .u32 La, .bool true] 63 := hM4
    rw [← hw4] at hY4 hR4 hB4 hM4 hp4 hs4
    obtain ⟨lb4, cl4, nb4, cn4, lxs4, A4, F4, g4, h4⟩ := hp4
    have hln := HN.out
    have h32 := H32.out
    have hrl := hRo.len
    have C2b := C2.out w4 _ _ false _ p lb4 cl4 nb4 cn4 lxs4 (ls ++ (x.rx false).labs) nx1 last HPb.out hB4 A4 (fun k e => by
      rcases e with e | e
      · have := HYS1.out k e; have := HW3.out; omega
      · omega) (by rw [hrl, List.length_append]; rfl) (by rw [List.length_append]; have : (x.rx false).labs.length = (x.rx false).n := rfl; omega) hRo.lt
    have hll : (ls ++ (x.rx false).labs).length = ls.length + (x.rx false).n := by rw [List.length_append]; rfl
    unfold pv AddPost u32v at C2b
    rw [← HEB.out, hll] at C2b
    have C2b := hid C2b
    have HA4 := hid A4
    have HF4 := hid F4
    have HG4 := hid g4
    have HH4 := hid h4
    have HY4 := hid hY4
    have HR4 := hid hR4
    have HM4 := hid hM4
    have HS4 := hid hs4
    obtain ⟨y0, y1, y2, y3⟩ := blk4 hY4
    clear hF hL hRo hp hY3 hR3 hB3 hY4 hR4 hB4 hM4 A4 F4 g4 h4 hln h32 hrl hll hs4
    go_upto_region 4 with fail
    rw [← hw4]
    clear hw4
    go_wp2_with fail
    refine C2b.out.mono ?_
    rintro e w5 ⟨Fb, Lb, nx2, rfl, hF, hL, hRo, hp⟩
    have HFb := hid hF
    have HLb := hid hL
    have HRb := hid hRo
    have hR5 := AuPost.blk HA4.out hp (Or.inl (Or.inr ⟨by omega, by omega⟩)) HR4.out
    have hM5 := AuPost.blk HA4.out hp (Or.inr rfl) HM4.out
    have HW5 := hid (AuPost.size hp)
    obtain ⟨w6, hw6⟩ : ∃ w6, w6 = w5.alloc (.cells #[.int .u32 Fb, .int .u32 Lb, .bool true] 63) := ⟨_, rfl⟩
    have hR6 := hR5.alloc (.cells #[.int .u32 Fb, .int .u32 Lb, .bool true] 63)
    have hM6 := hM5.alloc (.cells #[.int .u32 Fb, .int .u32 Lb, .bool true] 63)
    have hN6 : Blk (w5.alloc (.cells #[.int .u32 Fb, .int .u32 Lb, .bool true] 63)) w5.heap.size [.int .u32 Fb, .int .u32 Lb, .bool true] 63 := Blk.new w5 _ _
    have hp6 := AuPost.alloc hp (.cells #[.int .u32 Fb, .int .u32 Lb, .bool true] 63)
    have hs6 : (w5.alloc (.cells #[.int .u32 Fb, .int .u32 Lb, .bool true] 63)).heap.size = w5.heap.size + 1 := by simp
    rw [← hw6] at hR6 hM6 hN6 hp6 hs6
    obtain ⟨lb6, cl6, nb6, cn6, lxs6, A6, F6, g6, h6⟩ := hp6
    have FO := follow_au La Fb A6 (by have := hRo.len; have := H32.out; omega) HLa.out.1 hF.1 hRo.lt
    unfold u32v at FO
    have FO := hid FO
    have HA6 := hid A6
    have HF6 := hid F6
    have HG6 := hid g6
    have HH6 := hid h6
    have HR6 := hid hR6
    have HM6 := hid hM6
    have HN6 := hid hN6
    have HS6 := hid hs6
    have m0 := hM6.cell (i := 0) rfl
    have m1 := hM6.cell (i := 1) rfl
    have m2 := hM6.cell (i := 2) rfl
    have n0 := hN6.cell (i := 0) rfl
    have n1 := hN6.cell (i := 1) rfl
    have n2 := hN6.cell (i := 2) rfl
    clear hF hL hRo hp hR5 hM5 hR6 hM6 hN6 A6 F6 g6 h6 hs6 y0 y1 y2 y3
    go_upto_region 5 with fail
    rw [← hw6]
    clear hw6
    go_wp2_with fail
    refine FO.out.mono ?_
    rintro e w7 ⟨rfl, A7, F7⟩
    have hR7 := HR6.out.frm F7 (fun e => HA6.out.yn (e ▸ Or.inl (Or.inl (Or.inr ⟨by omega, by omega⟩))))
    have hM7 := HM6.out.frm F7 (fun e => HA6.out.yn (e ▸ Or.inl (Or.inr rfl)))
    have hN7 := HN6.out.frm F7 (fun e => HA6.out.yn (e ▸ Or.inr rfl))
    have hp7 := AuPost.follow HF6.out HG6.out HH6.out A7 F7
    have HW7 := hid F7.size
    obtain ⟨w8, hw8⟩ : ∃ w8, w8 = w7.alloc (.cells #[.int .u32 Fa, .int .u32 Lb, .bool true] 63) := ⟨_, rfl⟩
    have hR8 := hR7.alloc (.cells #[.int .u32 Fa, .int .u32 Lb, .bool true] 63)
    have hM8 := hM7.alloc (.cells #[.int .u32 Fa, .int .u32 Lb, .bool true] 63)
    have hN8 := hN7.alloc (.cells #[.int .u32 Fa, .int .u32 Lb, .bool true] 63)
    have hO8 : Blk (w7.alloc (.cells #[.int .u32 Fa, .int .u32 Lb, .bool true] 63)) w7.heap.size [.int .u32 Fa, .int .u32 Lb, .bool true] 63 := Blk.new w7 _ _
    have hp8 := AuPost.alloc (AuPost.then HF4.out HG4.out HH4.out hp7) (.cells #[.int .u32 Fa, .int .u32 Lb, .bool true] 63)
    rw [← hw8] at hR8 hM8 hN8 hO8 hp8
    have HP8 := hid hp8
    have HR8 := hid hR8
    have HO8 := hid hO8
    have m0 := hM7.cell (i := 0) rfl
    have m1 := hM7.cell (i := 1) rfl
    have m2 := hM7.cell (i := 2) rfl
    have n0 := hN7.cell (i := 0) rfl
    have n1 := hN7.cell (i := 1) rfl
    have n2 := hN7.cell (i := 2) rfl
    have mm0 := hM8.cell (i := 0) rfl
    have mm1 := hM8.cell (i := 1) rfl
    have mm2 := hM8.cell (i := 2) rfl
    have nn0 := hN8.cell (i := 0) rfl
    have nn1 := hN8.cell (i := 1) rfl
    have nn2 := hN8.cell (i := 2) rfl
    have o0 := hO8.cell (i := 0) rfl
    have o1 := hO8.cell (i := 1) rfl
    have o2 := hO8.cell (i := 2) rfl
    have of0 := hO8.free 0
    have of1 := hO8.free 1
    have r0 := hR8.cell (i := 0) rfl
    have r1 := hR8.cell (i := 1) rfl
    have r2 := hR8.cell (i := 2) rfl
    have s0 := hR8.free 0
    have s1 := hR8.free 1
    have s2 := hR8.free 2
    have z4 := HS4.out
    have z6 := HS6.out
    have zS := HZS.out
    have zz := HSZ.out
    have zw3 := HW3.out
    have zw5 := HW5.out
    have zw7 := HW7.out
    have e1 : w7.heap.size ≠ w.heap.size + 2 := by omega
    have e2 : w.heap.size + 2 ≠ w7.heap.size := by omega
    have e3 : w7.heap.size ≠ w5.heap.size := by omega
    have e4 : w5.heap.size ≠ w7.heap.size := by omega
    have e5 : w7.heap.size ≠ w3.heap.size := by omega
    have e6 : w3.heap.size ≠ w7.heap.size := by omega
    have ho1 := or_u32 Fa Fb HFa.out.1 HFb.out.1
    have ho2 := or_u32 Lb La HLb.out.1 HLa.out.1
    have HLE := hid (show wS.heap.size ≤ w7.heap.size by omega)
    have HLE2 := hid (show w.heap.size ≤ w7.heap.size by omega)
    have E1 := hid e1
    have E2 := hid e2
    clear A7 F7 hR7 hM7 hN7 hp7 hR8 hM8 hN8 hO8 hp8 z4 z6 zS zz zw3 zw5 zw7
    go_upto_region 7 with fail
    rw [← hw8]
    clear hw8
    go_wp2
    have hp9 := HP8.out
    have hO9 := HO8.out
    have hR9 := HR8.out
    have hp9 := hp9.set (b := w7.heap.size) (Or.inr rfl) HLE.out 0 (.int .u32 ((Fa ||| Fb : Nat)))
    have hR9 := hR9.other E2.out 0 (.int .u32 ((Fa ||| Fb : Nat)))
    have hp9 := hp9.set (b := w7.heap.size) (Or.inr rfl) HLE.out 1 (.int .u32 ((Lb ||| La : Nat)))
    have hR9 := hR9.other E2.out 1 (.int .u32 ((Lb ||| La : Nat)))
    obtain ⟨q1, q2⟩ := add_end (Y := Y) hR9 (Or.inl (Or.inl (Or.inl (Or.inr ⟨by omega, by omega⟩)))) HbS.out (Or.inr (by omega)) (fun k e => Or.inl (Or.inl (Or.inl (Or.inl e)))) hp9 (.int .u32 ((Fa ||| Fb : Nat))) (.int .u32 ((Lb ||| La : Nat))) (.bool true)
    have hrr : Rows (.seq (x.rx false) (y.rx false)) ls.length nx (ufol nx2 La Fb nx2.length) := rows_seq HRa.out HRb.out HFb.out HLa.out
    have hsf : Set (Fa ||| Fb) ((Rx.seq (x.rx false) (y.rx false)).fst ls.length) := Set.congr (HFa.out.or HFb.out) (fun j => by simp only [Rx.fst]; rw [← HEA.out]; simp)
    have hsl : Set (Lb ||| La) ((Rx.seq (x.rx false) (y.rx false)).lst ls.length) := Set.congr (HLb.out.or HLa.out) (fun j => by simp only [Rx.lst]; rw [← HEB.out]; simp)
    have hem : (Rx.seq (x.rx false) (y.rx false)).emp = true := by simp only [Rx.emp]; rw [← HEA.out, ← HEB.out]; rfl
    rw [List.append_assoc] at q2
    refine bodyPost_ret (part_ret (s := 8) rfl q1 Tryd.results42) rfl ⟨Fa ||| Fb, Lb ||| La, _, (by rw [hem]; rfl), hsf, hsl, hrr, q2⟩
set_option maxHeartbeats 16000000 in
theorem seq_true (x y : Pt) (IHx : AddOk x) (IHy : AddOk y) : SeqOk x y true (.seq (y.rx true) (x.rx true)) := by
  intro W0 w v u v' u' Y p lb cl nb cn lxs ls nx last hPx hPy hB h hY hn h32 hx
  obtain ⟨ax, nxx, cx, ax', nxx', cx', rfl, rfl⟩ := pv_open hPx
  obtain ⟨ay, nyy, cy, ay', nyy', cy', rfl, rfl⟩ := pv_open hPy
  rw [Rx.n_seq] at h32
  unfold pv
  obtain ⟨w1, hw1⟩ : ∃ w1, w1 = ((w.alloc (.cells #[.int .i64 x.kind, str x.text, .slice ax nxx cx, .slice ax' nxx' cx'] 25)).alloc (.cells #[.int .i64 y.kind, str y.text, .slice ay nyy cy, .slice ay' nyy' cy'] 25)).alloc (.cells #[.int .u32 0, .int .u32 0, .bool false] 63) := ⟨_, rfl⟩
  have hz1 : w1.heap.size = w.heap.size + 3 := by rw [hw1]; simp
  have hb1 : Below w.heap.size w w1 := by rw [hw1]; exact (((Below.refl _ _).alloc (Nat.le_refl _) _).alloc (by simp) _).alloc (by simp; omega) _
  have hX : Blk w1 w.heap.size [.int .i64 x.kind, str x.text, .slice ax nxx cx, .slice ax' nxx' cx'] 25 := by rw [hw1]; exact ((Blk.new w _ _).alloc _).alloc _
  have hYb : Blk w1 (w.heap.size + 1) [.int .i64 y.kind, str y.text, .slice ay nyy cy, .slice ay' nyy' cy'] 25 := by rw [hw1]; exact (Blk.new' (by simp) rfl).alloc _
  have hR : Blk w1 (w.heap.size + 2) [.int .u32 0, .int .u32 0, .bool false] 63 := by rw [hw1]; exact Blk.new' (by simp) rfl
  have h1 := ((h.more (Z := fun k => Y k ∨ (w.heap.size ≤ k ∧ k < w.heap.size + 3)) (fun k e => e.elim Or.inl (fun e => Or.inr (by omega)))).keep hb1)
  have hY1 : ∀ k, (Y k ∨ (w.heap.size ≤ k ∧ k < w.heap.size + 3)) → k < w1.heap.size := fun k e => by rcases e with e | e; (have := hY k e; omega); omega
  have hBw : Below W0.heap.size W0 w1 := hB.trans (hb1.mono hB.size)
  obtain ⟨c0, c1, c2, c3⟩ := blk4 hX
  obtain ⟨d0, d1, d2, d3⟩ := blk4 hYb
  have i0 := hX.free 0
  have i1 := hX.free 1
  have i2 := hX.free 2
  have i3 := hX.free 3
  have j0 := hYb.free 0
  have j1 := hYb.free 1
  have j2 := hYb.free 2
  have j3 := hYb.free 3
  obtain ⟨wS, hwS⟩ : ∃ wS, wS = (((((((w1.setCell ⟨w.heap.size, 0, none⟩ (.int .i64 y.kind)).setCell ⟨w.heap.size, 1, none⟩ (str y.text)).setCell ⟨w.heap.size, 2, none⟩ (.slice ay nyy cy)).setCell ⟨w.heap.size, 3, none⟩ (.slice ay' nyy' cy')).setCell ⟨w.heap.size + 1, 0, none⟩ (.int .i64 x.kind)).setCell ⟨w.heap.size + 1, 1, none⟩ (str x.text)).setCell ⟨w.heap.size + 1, 2, none⟩ (.slice ax nxx cx)).setCell ⟨w.heap.size + 1, 3, none⟩ (.slice ax' nxx' cx') := ⟨_, rfl⟩
  have fS : Frm (fun k => w.heap.size ≤ k ∧ k < w.heap.size + 2) w1 wS := by
    rw [hwS]
    refine Frm.set (Frm.set (Frm.set (Frm.set (Frm.set (Frm.set (Frm.set (Frm.set (Frm.refl _ _) (Or.inl ?_) _ _) (Or.inl ?_) _ _) (Or.inl ?_) _ _) (Or.inl ?_) _ _) (Or.inl ?_) _ _) (Or.inl ?_) _ _) (Or.inl ?_) _ _) (Or.inl ?_) _ _ <;> omega
  have hXS : Blk wS w.heap.size [.int .i64 y.kind, str y.text, .slice ay nyy cy, .slice ay' nyy' cy'] 25 := by
    rw [hwS]
    have := ((((((((hX.set 0 (.int .i64 y.kind)).set 1 (str y.text)).set 2 (.slice ay nyy cy)).set 3 (.slice ay' nyy' cy')).other (c := w.heap.size + 1) (by omega) 0 (.int .i64 x.kind)).other (c := w.heap.size + 1) (by omega) 1 (str x.text)).other (c := w.heap.size + 1) (by omega) 2 (.slice ax nxx cx)).other (c := w.heap.size + 1) (by omega) 3 (.slice ax' nxx' cx'))
    simpa using this
  have hYS : Blk wS (w.heap.size + 1) [.int .i64 x.kind, str x.text, .slice ax nxx cx, .slice ax' nxx' cx'] 25 := by
    rw [hwS]
    have := ((((((((hYb.other (c := w.heap.size) (by omega) 0 (.int .i64 y.kind)).other (c := w.heap.size) (by omega) 1 (str y.text)).other (c := w.heap.size) (by omega) 2 (.slice ay nyy cy)).other (c := w.heap.size) (by omega) 3 (.slice ay' nyy' cy')).set 0 (.int .i64 x.kind)).set 1 (str x.text)).set 2 (.slice ax nxx cx)).set 3 (.slice ax' nxx' cx'))
    simpa using this
  have hRS := hR.frm fS (fun e => by omega)
  have hS := h1.frm fS (fun k _ e => Or.inr (by omega))
  have hYS1 : ∀ k, (Y k ∨ (w.heap.size ≤ k ∧ k < w.heap.size + 3)) → k < wS.heap.size := fun k e => Nat.lt_of_lt_of_le (hY1 k e) fS.size
  have hbS : Below w.heap.size w wS := hb1.trans (fS.below hb1.size (fun k hk e => by omega))
  have hBS : Below W0.heap.size W0 wS := hB.trans (hbS.mono hB.size)
  have C1 := IHy W0 wS _ _ true _ p lb cl nb cn lxs ls nx last hPy hBS hS hYS1 hn (by omega) hx
  have C2 := IHx W0
  obtain ⟨ea, hea⟩ : ∃ ea, ea = (y.rx true).emp := ⟨_, rfl⟩
  obtain ⟨eb, heb⟩ : ∃ eb, eb = (x.rx true).emp := ⟨_, rfl⟩
  have HN := hid hn
  have H32 := hid h32
  have HBS := hid hBS
  have HbS := hid hbS
  have HS := hid hS
  have HYS1 := hid hYS1
  have HRS := hid hRS
  have HYS := hid hYS
  have HXS := hid hXS
  have HEA := hid hea
  have HEB := hid heb
  have HPb := hid hPx
  have HZS := hid (show w1.heap.size = w.heap.size + 3 from hz1)
  have HSZ := hid (show w1.heap.size ≤ wS.heap.size from by exact fS.size)
  unfold pv AddPost u32v at C1
  rw [← hea] at C1
  have C1 := hid C1
  have C2 := hid C2
  obtain ⟨x0, x1, x2, x3⟩ := blk4 hXS
  clear hz1 hb1 hX hYb hR h1 hY1 hBw h hY hn hx hPx hPy hB h32 hXS hYS hRS hS hYS1 hbS hBS hea heb IHx IHy fS
  cases ea <;> cases eb
  case false.false =>
    go_enter Tryd.func42, Tryd.ntmps42
    go_upto_region 1 with fail
    rw [← hw1]
    clear hw1
    go_upto_region 3 with fail
    rw [← hwS]
    clear hwS
    go_wp2_with fail
    refine C1.out.mono ?_
    rintro e w3 ⟨Fa, La, nx1, rfl, hF, hL, hRo, hp⟩
    have HFa := hid hF
    have HLa := hid hL
    have HRa := hid hRo
    have hY3 := AuPost.blk HS.out hp (Or.inr ⟨by omega, by omega⟩) HYS.out
    have hR3 := AuPost.blk HS.out hp (Or.inr ⟨by omega, by omega⟩) HRS.out
    have hB3 := HBS.out.trans (AuPost.below HS.out hp)
    have HW3 := hid (AuPost.size hp)
    obtain ⟨w4, hw4⟩ : ∃ w4, w4 = w3.alloc (.cells #[.int .u32 Fa, .int .u32 La, .bool false] 63) := ⟨_, rfl⟩
    have hY4 := hY3.alloc (.cells #[.int .u32 Fa, .int .u32 La, .bool false] 63)
    have hR4 := hR3.alloc (.cells #[.int .u32 Fa, .int .u32 La, .bool false] 63)
    have hB4 := hB3.alloc hB3.size (.cells #[.int .u32 Fa, .int .u32 La, .bool false] 63)
    have hM4 := Blk.new w3 [.int .u32 Fa, .int .u32 La, .bool false] 63
    have hp4 := AuPost.alloc hp (.cells #[.int .u32 Fa, .int .u32 La, .bool false] 63)
    have hs4 : (w3.alloc (.cells #[.int .u32 Fa, .int .u32 La, .bool false] 63)).heap.size = w3.heap.size + 1 := by simp
    have hM4 : Blk (w3.alloc (.cells #[.int .u32 Fa, .int .u32 La, .bool false] 63)) w3.heap.size [.int .u32 Fa, .int .u32 La, .bool false] 63 := hM4
    rw [← hw4] at hY4 hR4 hB4 hM4 hp4 hs4
    obtain ⟨lb4, cl4, nb4, cn4, lxs4, A4, F4, g4, h4⟩ := hp4
    have hln := HN.out
    have h32 := H32.out
    have hrl := hRo.len
    have C2b := C2.out w4 _ _ true _ p lb4 cl4 nb4 cn4 lxs4 (ls ++ (y.rx true).labs) nx1 last HPb.out hB4 A4 (fun k e => by
      rcases e with e | e
      · have := HYS1.out k e; have := HW3.out; omega
      · omega) (by rw [hrl, List.length_append]; rfl) (by rw [List.length_append]; have : (y.rx true).labs.length = (y.rx true).n := rfl; omega) hRo.lt
    have hll : (ls ++ (y.rx true).labs).length = ls.length + (y.rx true).n := by rw [List.length_append]; rfl
    unfold pv AddPost u32v at C2b
    rw [← HEB.out, hll] at C2b
    have C2b := hid C2b
    have HA4 := hid A4
    have HF4 := hid F4
    have HG4 := hid g4
    have HH4 := hid h4
    have HY4 := hid hY4
    have HR4 := hid hR4
    have HM4 := hid hM4
    have HS4 := hid hs4
    obtain ⟨y0, y1, y2, y3⟩ := blk4 hY4
    clear hF hL hRo hp hY3 hR3 hB3 hY4 hR4 hB4 hM4 A4 F4 g4 h4 hln h32 hrl hll hs4
    go_upto_region 4 with fail
    rw [← hw4]
    clear hw4
    go_wp2_with fail
    refine C2b.out.mono ?_
    rintro e w5 ⟨Fb, Lb, nx2, rfl, hF, hL, hRo, hp⟩
    have HFb := hid hF
    have HLb := hid hL
    have HRb := hid hRo
    have hR5 := AuPost.blk HA4.out hp (Or.inl (Or.inr ⟨by omega, by omega⟩)) HR4.out
    have hM5 := AuPost.blk HA4.out hp (Or.inr rfl) HM4.out
    have HW5 := hid (AuPost.size hp)
    obtain ⟨w6, hw6⟩ : ∃ w6, w6 = w5.alloc (.cells #[.int .u32 Fb, .int .u32 Lb, .bool false] 63) := ⟨_, rfl⟩
    have hR6 := hR5.alloc (.cells #[.int .u32 Fb, .int .u32 Lb, .bool false] 63)
    have hM6 := hM5.alloc (.cells #[.int .u32 Fb, .int .u32 Lb, .bool false] 63)
    have hN6 : Blk (w5.alloc (.cells #[.int .u32 Fb, .int .u32 Lb, .bool false] 63)) w5.heap.size [.int .u32 Fb, .int .u32 Lb, .bool false] 63 := Blk.new w5 _ _
    have hp6 := AuPost.alloc hp (.cells #[.int .u32 Fb, .int .u32 Lb, .bool false] 63)
    have hs6 : (w5.alloc (.cells #[.int .u32 Fb, .int .u32 Lb, .bool false] 63)).heap.size = w5.heap.size + 1 := by simp
    rw [← hw6] at hR6 hM6 hN6 hp6 hs6
    obtain ⟨lb6, cl6, nb6, cn6, lxs6, A6, F6, g6, h6⟩ := hp6
    have FO := follow_au La Fb A6 (by have := hRo.len; have := H32.out; omega) HLa.out.1 hF.1 hRo.lt
    unfold u32v at FO
    have FO := hid FO
    have HA6 := hid A6
    have HF6 := hid F6
    have HG6 := hid g6
    have HH6 := hid h6
    have HR6 := hid hR6
    have HM6 := hid hM6
    have HN6 := hid hN6
    have HS6 := hid hs6
    have m0 := hM6.cell (i := 0) rfl
    have m1 := hM6.cell (i := 1) rfl
    have m2 := hM6.cell (i := 2) rfl
    have n0 := hN6.cell (i := 0) rfl
    have n1 := hN6.cell (i := 1) rfl
    have n2 := hN6.cell (i := 2) rfl
    clear hF hL hRo hp hR5 hM5 hR6 hM6 hN6 A6 F6 g6 h6 hs6 y0 y1 y2 y3
    go_upto_region 5 with fail
    rw [← hw6]
    clear hw6
    go_wp2_with fail
    refine FO.out.mono ?_
    rintro e w7 ⟨rfl, A7, F7⟩
    have hR7 := HR6.out.frm F7 (fun e => HA6.out.yn (e ▸ Or.inl (Or.inl (Or.inr ⟨by omega, by omega⟩))))
    have hM7 := HM6.out.frm F7 (fun e => HA6.out.yn (e ▸ Or.inl (Or.inr rfl)))
    have hN7 := HN6.out.frm F7 (fun e => HA6.out.yn (e ▸ Or.inr rfl))
    have hp7 := AuPost.follow HF6.out HG6.out HH6.out A7 F7
    have HW7 := hid F7.size
    obtain ⟨w8, hw8⟩ : ∃ w8, w8 = w7.alloc (.cells #[.int .u32 Fa, .int .u32 Lb, .bool false] 63) := ⟨_, rfl⟩
    have hR8 := hR7.alloc (.cells #[.int .u32 Fa, .int .u32 Lb, .bool false] 63)
    have hM8 := hM7.alloc (.cells #[.int .u32 Fa, .int .u32 Lb, .bool false] 63)
    have hN8 := hN7.alloc (.cells #[.int .u32 Fa, .int .u32 Lb, .bool false] 63)
    have hO8 : Blk (w7.alloc (.cells #[.int .u32 Fa, .int .u32 Lb, .bool false] 63)) w7.heap.size [.int .u32 Fa, .int .u32 Lb, .bool false] 63 := Blk.new w7 _ _
    have hp8 := AuPost.alloc (AuPost.then HF4.out HG4.out HH4.out hp7) (.cells #[.int .u32 Fa, .int .u32 Lb, .bool false] 63)
    rw [← hw8] at hR8 hM8 hN8 hO8 hp8
    have HP8 := hid hp8
    have HR8 := hid hR8
    have HO8 := hid hO8
    have m0 := hM7.cell (i := 0) rfl
    have m1 := hM7.cell (i := 1) rfl
    have m2 := hM7.cell (i := 2) rfl
    have n0 := hN7.cell (i := 0) rfl
    have n1 := hN7.cell (i := 1) rfl
    have n2 := hN7.cell (i := 2) rfl
    have mm0 := hM8.cell (i := 0) rfl
    have mm1 := hM8.cell (i := 1) rfl
    have mm2 := hM8.cell (i := 2) rfl
    have nn0 := hN8.cell (i := 0) rfl
    have nn1 := hN8.cell (i := 1) rfl
    have nn2 := hN8.cell (i := 2) rfl
    have o0 := hO8.cell (i := 0) rfl
    have o1 := hO8.cell (i := 1) rfl
    have o2 := hO8.cell (i := 2) rfl
    have of0 := hO8.free 0
    have of1 := hO8.free 1
    have r0 := hR8.cell (i := 0) rfl
    have r1 := hR8.cell (i := 1) rfl
    have r2 := hR8.cell (i := 2) rfl
    have s0 := hR8.free 0
    have s1 := hR8.free 1
    have s2 := hR8.free 2
    have z4 := HS4.out
    have z6 := HS6.out
    have zS := HZS.out
    have zz := HSZ.out
    have zw3 := HW3.out
    have zw5 := HW5.out
    have zw7 := HW7.out
    have e1 : w7.heap.size ≠ w.heap.size + 2 := by omega
    have e2 : w.heap.size + 2 ≠ w7.heap.size := by omega
    have e3 : w7.heap.size ≠ w5.heap.size := by omega
    have e4 : w5.heap.size ≠ w7.heap.size := by omega
    have e5 : w7.heap.size ≠ w3.heap.size := by omega
    have e6 : w3.heap.size ≠ w7.heap.size := by omega
    have ho1 := or_u32 Fa Fb HFa.out.1 HFb.out.1
    have ho2 := or_u32 Lb La HLb.out.1 HLa.out.1
    have HLE := hid (show wS.heap.size ≤ w7.heap.size by omega)
    have HLE2 := hid (show w.heap.size ≤ w7.heap.size by omega)
    have E1 := hid e1
    have E2 := hid e2
    clear A7 F7 hR7 hM7 hN7 hp7 hR8 hM8 hN8 hO8 hp8 z4 z6 zS zz zw3 zw5 zw7
    go_upto_region 7 with fail
    rw [← hw8]
    clear hw8
    go_wp2
    have hp9 := HP8.out
    have hO9 := HO8.out
    have hR9 := HR8.out
    obtain ⟨q1, q2⟩ := add_end (Y := Y) hR9 (Or.inl (Or.inl (Or.inl (Or.inr ⟨by omega, by omega⟩)))) HbS.out (Or.inr (by omega)) (fun k e => Or.inl (Or.inl (Or.inl (Or.inl e)))) hp9 (.int .u32 ((Fa : Nat))) (.int .u32 ((Lb : Nat))) (.bool false)
    have hrr : Rows (.seq (y.rx true) (x.rx true)) ls.length nx (ufol nx2 La Fb nx2.length) := rows_seq HRa.out HRb.out HFb.out HLa.out
    have hsf : Set (Fa) ((Rx.seq (y.rx true) (x.rx true)).fst ls.length) := Set.congr HFa.out (fun j => by simp only [Rx.fst]; rw [← HEA.out]; simp)
    have hsl : Set (Lb) ((Rx.seq (y.rx true) (x.rx true)).lst ls.length) := Set.congr HLb.out (fun j => by simp only [Rx.lst]; rw [← HEB.out]; simp)
    have hem : (Rx.seq (y.rx true) (x.rx true)).emp = false := by simp only [Rx.emp]; rw [← HEA.out, ← HEB.out]; rfl
    rw [List.append_assoc] at q2
    refine bodyPost_ret (part_ret (s := 8) rfl q1 Tryd.results42) rfl ⟨Fa, Lb, _, (by rw [hem]; rfl), hsf, hsl, hrr, q2⟩
  case false.true =>
    go_enter Tryd.func42, Tryd.ntmps42
    go_upto_region 1 with fail
    rw [← hw1]
    clear hw1
    go_upto_region 3 with fail
    rw [← hwS]
    clear hwS
    go_wp2_with fail
    refine C1.out.mono ?_
    rintro e w3 ⟨Fa, La, nx1, rfl, hF, hL, hRo, hp⟩
    have HFa := hid hF
    have HLa := hid hL
    have HRa := hid hRo
    have hY3 := AuPost.blk HS.out hp (Or.inr ⟨by omega, by omega⟩) HYS.out
    have hR3 := AuPost.blk HS.out hp (Or.inr ⟨by omega, by omega⟩) HRS.out
    have hB3 := HBS.out.trans (AuPost.below HS.out hp)
    have HW3 := hid (AuPost.size hp)
    obtain ⟨w4, hw4⟩ : ∃ w4, w4 = w3.alloc (.cells #[.int .u32 Fa, .int .u32 La, .bool false] 63) := ⟨_, rfl⟩
    have hY4 := hY3.alloc (.cells #[.int .u32 Fa, .int .u32 La, .bool false] 63)
    have hR4 := hR3.alloc (.cells #[.int .u32 Fa, .int .u32 La, .bool false] 63)
    have hB4 := hB3.alloc hB3.size (.cells #[.int .u32 Fa, .int .u32 La, .bool false] 63)
    have hM4 := Blk.new w3 [.int .u32 Fa, .int .u32 La, .bool false] 63
    have hp4 := AuPost.alloc hp (.cells #[.int .u32 Fa, .int .u32 La, .bool false] 63)
    have hs4 : (w3.alloc (.cells #[.int .u32 Fa, .int .u32 La, .bool false] 63)).heap.size = w3.heap.size + 1 := by simp
    have hM4 : Blk (w3.alloc (.cells #[.int .u32 Fa, .int .u32 La, .bool false] 63)) w3.heap.size [.int .u32 Fa, .int .u32 La, .bool false] 63 := hM4
    rw [← hw4] at hY4 hR4 hB4 hM4 hp4 hs4
    obtain ⟨lb4, cl4, nb4, cn4, lxs4, A4, F4, g4, h4⟩ := hp4
    have hln := HN.out
    have h32 := H32.out
    have hrl := hRo.len
    have C2b := C2.out w4 _ _ true _ p lb4 cl4 nb4 cn4 lxs4 (ls ++ (y.rx true).labs) nx1 last HPb.out hB4 A4 (fun k e => by
      rcases e with e | e
      · have := HYS1.out k e; have := HW3.out; omega
      · omega) (by rw [hrl, List.length_append]; rfl) (by rw [List.length_append]; have : (y.rx true).labs.length = (y.rx true).n := rfl; omega) hRo.lt
    have hll : (ls ++ (y.rx true).labs).length = ls.length + (y.rx true).n := by rw [List.length_append]; rfl
    unfold pv AddPost u32v at C2b
    rw [← HEB.out, hll] at C2b
    have C2b := hid C2b
    have HA4 := hid A4
    have HF4 := hid F4
    have HG4 := hid g4
    have HH4 := hid h4
    have HY4 := hid hY4
    have HR4 := hid hR4
    have HM4 := hid hM4
    have HS4 := hid hs4
    obtain ⟨y0, y1, y2, y3⟩ := blk4 hY4
    clear hF hL hRo hp hY3 hR3 hB3 hY4 hR4 hB4 hM4 A4 F4 g4 h4 hln h32 hrl hll hs4
    go_upto_region 4 with fail
    rw [← hw4]
    clear hw4
    go_wp2_with fail
    refine C2b.out.mono ?_
    rintro e w5 ⟨Fb, Lb, nx2, rfl, hF, hL, hRo, hp⟩
    have HFb := hid hF
    have HLb := hid hL
    have HRb := hid hRo
    have hR5 := AuPost.blk HA4.out hp (Or.inl (Or.inr ⟨by omega, by omega⟩)) HR4.out
    have hM5 := AuPost.blk HA4.out hp (Or.inr rfl) HM4.out
    have HW5 := hid (AuPost.size hp)
    obtain ⟨w6, hw6⟩ : ∃ w6, w6 = w5.alloc (.cells #[.int .u32 Fb, .int .u32 Lb, .bool true] 63) := ⟨_, rfl⟩
    have hR6 := hR5.alloc (.cells #[.int .u32 Fb, .int .u32 Lb, .bool true] 63)
    have hM6 := hM5.alloc (.cells #[.int .u32 Fb, .int .u32 Lb, .bool true] 63)
    have hN6 : Blk (w5.alloc (.cells #[.int .u32 Fb, .int .u32 Lb, .bool true] 63)) w5.heap.size [.int .u32 Fb, .int .u32 Lb, .bool true] 63 := Blk.new w5 _ _
    have hp6 := AuPost.alloc hp (.cells #[.int .u32 Fb, .int .u32 Lb, .bool true] 63)
    have hs6 : (w5.alloc (.cells #[.int .u32 Fb, .int .u32 Lb, .bool true] 63)).heap.size = w5.heap.size + 1 := by simp
    rw [← hw6] at hR6 hM6 hN6 hp6 hs6
    obtain ⟨lb6, cl6, nb6, cn6, lxs6, A6, F6, g6, h6⟩ := hp6
    have FO := follow_au La Fb A6 (by have := hRo.len; have := H32.out; omega) HLa.out.1 hF.1 hRo.lt
    unfold u32v at FO
    have FO := hid FO
    have HA6 := hid A6
    have HF6 := hid F6
    have HG6 := hid g6
    have HH6 := hid h6
    have HR6 := hid hR6
    have HM6 := hid hM6
    have HN6 := hid hN6
    have HS6 := hid hs6
    have m0 := hM6.cell (i := 0) rfl
    have m1 := hM6.cell (i := 1) rfl
    have m2 := hM6.cell (i := 2) rfl
    have n0 := hN6.cell (i := 0) rfl
    have n1 := hN6.cell (i := 1) rfl
    have n2 := hN6.cell (i := 2) rfl
    clear hF hL hRo hp hR5 hM5 hR6 hM6 hN6 A6 F6 g6 h6 hs6 y0 y1 y2 y3
    go_upto_region 5 with fail
    rw [← hw6]
    clear hw6
    go_wp2_with fail
    refine FO.out.mono ?_
    rintro e w7 ⟨rfl, A7, F7⟩
    have hR7 := HR6.out.frm F7 (fun e => HA6.out.yn (e ▸ Or.inl (Or.inl (Or.inr ⟨by omega, by omega⟩))))
    have hM7 := HM6.out.frm F7 (fun e => HA6.out.yn (e ▸ Or.inl (Or.inr rfl)))
    have hN7 := HN6.out.frm F7 (fun e => HA6.out.yn (e ▸ Or.inr rfl))
    have hp7 := AuPost.follow HF6.out HG6.out HH6.out A7 F7
    have HW7 := hid F7.size
    obtain ⟨w8, hw8⟩ : ∃ w8, w8 = w7.alloc (.cells #[.int .u32 Fa, .int .u32 Lb, .bool false] 63) := ⟨_, rfl⟩
    have hR8 := hR7.alloc (.cells #[.int .u32 Fa, .int .u32 Lb, .bool false] 63)
    have hM8 := hM7.alloc (.cells #[.int .u32 Fa, .int .u32 Lb, .bool false] 63)
    have hN8 := hN7.alloc (.cells #[.int .u32 Fa, .int .u32 Lb, .bool false] 63)
    have hO8 : Blk (w7.alloc (.cells #[.int .u32 Fa, .int .u32 Lb, .bool false] 63)) w7.heap.size [.int .u32 Fa, .int .u32 Lb, .bool false] 63 := Blk.new w7 _ _
    have hp8 := AuPost.alloc (AuPost.then HF4.out HG4.out HH4.out hp7) (.cells #[.int .u32 Fa, .int .u32 Lb, .bool false] 63)
    rw [← hw8] at hR8 hM8 hN8 hO8 hp8
    have HP8 := hid hp8
    have HR8 := hid hR8
    have HO8 := hid hO8
    have m0 := hM7.cell (i := 0) rfl
    have m1 := hM7.cell (i := 1) rfl
    have m2 := hM7.cell (i := 2) rfl
    have n0 := hN7.cell (i := 0) rfl
    have n1 := hN7.cell (i := 1) rfl
    have n2 := hN7.cell (i := 2) rfl
    have mm0 := hM8.cell (i := 0) rfl
    have mm1 := hM8.cell (i := 1) rfl
    have mm2 := hM8.cell (i := 2) rfl
    have nn0 := hN8.cell (i := 0) rfl
    have nn1 := hN8.cell (i := 1) rfl
    have nn2 := hN8.cell (i := 2) rfl
    have o0 := hO8.cell (i := 0) rfl
    have o1 := hO8.cell (i := 1) rfl
    have o2 := hO8.cell (i := 2) rfl
    have of0 := hO8.free 0
    have of1 := hO8.free 1
    have r0 := hR8.cell (i := 0) rfl
    have r1 := hR8.cell (i := 1) rfl
    have r2 := hR8.cell (i := 2) rfl
    have s0 := hR8.free 0
    have s1 := hR8.free 1
    have s2 := hR8.free 2
    have z4 := HS4.out
    have z6 := HS6.out
    have zS := HZS.out
    have zz := HSZ.out
    have zw3 := HW3.out
    have zw5 := HW5.out
    have zw7 := HW7.out
    have e1 : w7.heap.size ≠ w.heap.size + 2 := by omega
    have e2 : w.heap.size + 2 ≠ w7.heap.size := by omega
    have e3 : w7.heap.size ≠ w5.heap.size := by omega
    have e4 : w5.heap.size ≠ w7.heap.size := by omega
    have e5 : w7.heap.size ≠ w3.heap.size := by omega
    have e6 : w3.heap.size ≠ w7.heap.size := by omega
    have ho1 := or_u32 Fa Fb HFa.out.1 HFb.out.1
    have ho2 := or_u32 Lb La HLb.out.1 HLa.out.1
    have HLE := hid (show wS.heap.size ≤ w7.heap.size by omega)
    have HLE2 := hid (show w.heap.size ≤ w7.heap.size by omega)
    have E1 := hid e1
    have E2 := hid e2
    clear A7 F7 hR7 hM7 hN7 hp7 hR8 hM8 hN8 hO8 hp8 z4 z6 zS zz zw3 zw5 zw7
    go_upto_region 7 with fail
    rw [← hw8]
    clear hw8
    go_wp2
    have hp9 := HP8.out
    have hO9 := HO8.out
    have hR9 := HR8.out
    have hp9 := hp9.set (b := w7.heap.size) (Or.inr rfl) HLE.out 1 (.int .u32 ((Lb ||| La : Nat)))
    have hR9 := hR9.other E2.out 1 (.int .u32 ((Lb ||| La : Nat)))
    obtain ⟨q1, q2⟩ := add_end (Y := Y) hR9 (Or.inl (Or.inl (Or.inl (Or.inr ⟨by omega, by omega⟩)))) HbS.out (Or.inr (by omega)) (fun k e => Or.inl (Or.inl (Or.inl (Or.inl e)))) hp9 (.int .u32 ((Fa : Nat))) (.int .u32 ((Lb ||| La : Nat))) (.bool false)
    have hrr : Rows (.seq (y.rx true) (x.rx true)) ls.length nx (ufol nx2 La Fb nx2.length) := rows_seq HRa.out HRb.out HFb.out HLa.out
    have hsf : Set (Fa) ((Rx.seq (y.rx true) (x.rx true)).fst ls.length) := Set.congr HFa.out (fun j => by simp only [Rx.fst]; rw [← HEA.out]; simp)
    have hsl : Set (Lb ||| La) ((Rx.seq (y.rx true) (x.rx true)).lst ls.length) := Set.congr (HLb.out.or HLa.out) (fun j => by simp only [Rx.lst]; rw [← HEB.out]; simp)
    have hem : (Rx.seq (y.rx true) (x.rx true)).emp = false := by simp only [Rx.emp]; rw [← HEA.out, ← HEB.out]; rfl
    rw [List.append_assoc] at q2
    refine bodyPost_ret (part_ret (s := 8) rfl q1 Tryd.results42) rfl ⟨Fa, Lb ||| La, _, (by rw [hem]; rfl), hsf, hsl, hrr, q2⟩
  case true.false =>
    go_enter Tryd.func42, Tryd.ntmps42
    go_upto_region 1 with fail
    rw [← hw1]
    clear hw1
    go_upto_region 3 with fail
    rw [← hwS]
    clear hwS
    go_wp2_with fail
    refine C1.out.mono ?_
    rintro e w3 ⟨Fa, La, nx1, rfl, hF, hL, hRo, hp⟩
    have HFa := hid hF
    have HLa := hid hL
    have HRa := hid hRo
    have hY3 := AuPost.blk HS.out hp (Or.inr ⟨by omega, by omega⟩) HYS.out
    have hR3 := AuPost.blk HS.out hp (Or.inr ⟨by omega, by omega⟩) HRS.out
    have hB3 := HBS.out.trans (AuPost.below HS.out hp)
    have HW3 := hid (AuPost.size hp)
    obtain ⟨w4, hw4⟩ : ∃ w4, w4 = w3.alloc (.cells #[.int .u32 Fa, .int .u32 La, .bool true] 63) := ⟨_, rfl⟩
    have hY4 := hY3.alloc (.cells #[.int .u32 Fa, .int .u32 La, .bool true] 63)
    have hR4 := hR3.alloc (.cells #[.int .u32 Fa, .int .u32 La, .bool true] 63)
    have hB4 := hB3.alloc hB3.size (.cells #[.int .u32 Fa, .int .u32 La, .bool true] 63)
    have hM4 := Blk.new w3 [.int .u32 Fa, .int .u32 La, .bool true] 63
    have hp4 := AuPost.alloc hp (.cells #[.int .u32 Fa, .int .u32 La, .bool true] 63)
    have hs4 : (w3.alloc (.cells #[.int .u32 Fa, .int .u32 La, .bool true] 63)).heap.size = w3.heap.size + 1 := by simp
    have hM4 : Blk (w3.alloc (.cells #[.int .u32 Fa, .int .u32 La, .bool true] 63)) w3.heap.size [.int .u32 Fa, .int .u32 La, .bool true] 63 := hM4
    rw [← hw4] at hY4 hR4 hB4 hM4 hp4 hs4
    obtain ⟨lb4, cl4, nb4, cn4, lxs4, A4, F4, g4, h4⟩ := hp4
    have hln := HN.out
    have h32 := H32.out
    have hrl := hRo.len
    have C2b := C2.out w4 _ _ true _ p lb4 cl4 nb4 cn4 lxs4 (ls ++ (y.rx true).labs) nx1 last HPb.out hB4 A4 (fun k e => by
      rcases e with e | e
      · have := HYS1.out k e; have := HW3.out; omega
      · omega) (by rw [hrl, List.length_append]; rfl) (by rw [List.length_append]; have : (y.rx true).labs.length = (y.rx true).n := rfl; omega) hRo.lt
    have hll : (ls ++ (y.rx true).labs).length = ls.length + (y.rx true).n := by rw [List.length_append]; rfl
    unfold pv AddPost u32v at C2b
    rw [← HEB.out, hll] at C2b
    have C2b := hid C2b
    have HA4 := hid A4
    have HF4 := hid F4
    have HG4 := hid g4
    have HH4 := hid h4
    have HY4 := hid hY4
    have HR4 := hid hR4
    have HM4 := hid hM4
    have HS4 := hid hs4
    obtain ⟨y0, y1, y2, y3⟩ := blk4 hY4
    clear hF hL hRo hp hY3 hR3 hB3 hY4 hR4 hB4 hM4 A4 F4 g4 h4 hln h32 hrl hll hs4
    go_upto_region 4 with fail
    rw [← hw4]
    clear hw4
    go_wp2_with fail
    refine C2b.out.mono ?_
    rintro e w5 ⟨Fb, Lb, nx2, rfl, hF, hL, hRo, hp⟩
    have HFb := hid hF
    have HLb := hid hL
    have HRb := hid hRo
    have hR5 := AuPost.blk HA4.out hp (Or.inl (Or.inr ⟨by omega, by omega⟩)) HR4.out
    have hM5 := AuPost.blk HA4.out hp (Or.inr rfl) HM4.out
    have HW5 := hid (AuPost.size hp)
    obtain ⟨w6, hw6⟩ : ∃ w6, w6 = w5.alloc (.cells #[.int .u32 Fb, .int .u32 Lb, .bool false] 63) := ⟨_, rfl⟩
    have hR6 := hR5.alloc (.cells #[.int .u32 Fb, .int .u32 Lb, .bool false] 63)
    have hM6 := hM5.alloc (.cells #[.int .u32 Fb, .int .u32 Lb, .bool false] 63)
    have hN6 : Blk (w5.alloc (.cells #[.int .u32 Fb, .int .u32 Lb, .bool false] 63)) w5.heap.size [.int .u32 Fb, .int .u32 Lb, .bool false] 63 := Blk.new w5 _ _
    have hp6 := AuPost.alloc hp (.cells #[.int .u32 Fb, .int .u32 Lb, .bool false] 63)
    have hs6 : (w5.alloc (.cells #[.int .u32 Fb, .int .u32 Lb, .bool false] 63)).heap.size = w5.heap.size + 1 := by simp
    rw [← hw6] at hR6 hM6 hN6 hp6 hs6
    obtain ⟨lb6, cl6, nb6, cn6, lxs6, A6, F6, g6, h6⟩ := hp6
    have FO := follow_au La Fb A6 (by have := hRo.len; have := H32.out; omega) HLa.out.1 hF.1 hRo.lt
    unfold u32v at FO
    have FO := hid FO
    have HA6 := hid A6
    have HF6 := hid F6
    have HG6 := hid g6
    have HH6 := hid h6
    have HR6 := hid hR6
    have HM6 := hid hM6
    have HN6 := hid hN6
    have HS6 := hid hs6
    have m0 := hM6.cell (i := 0) rfl
    have m1 := hM6.cell (i := 1) rfl
    have m2 := hM6.cell (i := 2) rfl
    have n0 := hN6.cell (i := 0) rfl
    have n1 := hN6.cell (i := 1) rfl
    have n2 := hN6.cell (i := 2) rfl
    clear hF hL hRo hp hR5 hM5 hR6 hM6 hN6 A6 F6 g6 h6 hs6 y0 y1 y2 y3
    go_upto_region 5 with fail
    rw [← hw6]
    clear hw6
    go_wp2_with fail
    refine FO.out.mono ?_
    rintro e w7 ⟨rfl, A7, F7⟩
    have hR7 := HR6.out.frm F7 (fun e => HA6.out.yn (e ▸ Or.inl (Or.inl (Or.inr ⟨by omega, by omega⟩))))
    have hM7 := HM6.out.frm F7 (fun e => HA6.out.yn (e ▸ Or.inl (Or.inr rfl)))
    have hN7 := HN6.out.frm F7 (fun e => HA6.out.yn (e ▸ Or.inr rfl))
    have hp7 := AuPost.follow HF6.out HG6.out HH6.out A7 F7
    have HW7 := hid F7.size
    obtain ⟨w8, hw8⟩ : ∃ w8, w8 = w7.alloc (.cells #[.int .u32 Fa, .int .u32 Lb, .bool false] 63) := ⟨_, rfl⟩
    have hR8 := hR7.alloc (.cells #[.int .u32 Fa, .int .u32 Lb, .bool false] 63)
    have hM8 := hM7.alloc (.cells #[.int .u32 Fa, .int .u32 Lb, .bool false] 63)
    have hN8 := hN7.alloc (.cells #[.int .u32 Fa, .int .u32 Lb, .bool false] 63)
    have hO8 : Blk (w7.alloc (.cells #[.int .u32 Fa, .int .u32 Lb, .bool false] 63)) w7.heap.size [.int .u32 Fa, .int .u32 Lb, .bool false] 63 := Blk.new w7 _ _
    have hp8 := AuPost.alloc (AuPost.then HF4.out HG4.out HH4.out hp7) (.cells #[.int .u32 Fa, .int .u32 Lb, .bool false] 63)
    rw [← hw8] at hR8 hM8 hN8 hO8 hp8
    have HP8 := hid hp8
    have HR8 := hid hR8
    have HO8 := hid hO8
    have m0 := hM7.cell (i := 0) rfl
    have m1 := hM7.cell (i := 1) rfl
    have m2 := hM7.cell (i := 2) rfl
    have n0 := hN7.cell (i := 0) rfl
    have n1 := hN7.cell (i := 1) rfl
    have n2 := hN7.cell (i := 2) rfl
    have mm0 := hM8.cell (i := 0) rfl
    have mm1 := hM8.cell (i := 1) rfl
    have mm2 := hM8.cell (i := 2) rfl
    have nn0 := hN8.cell (i := 0) rfl
    have nn1 := hN8.cell (i := 1) rfl
    have nn2 := hN8.cell (i := 2) rfl
    have o0 := hO8.cell (i := 0) rfl
    have o1 := hO8.cell (i := 1) rfl
    have o2 := hO8.cell (i := 2) rfl
    have of0 := hO8.free 0
    have of1 := hO8.free 1
    have r0 := hR8.cell (i := 0) rfl
    have r1 := hR8.cell (i := 1) rfl
    have r2 := hR8.cell (i := 2) rfl
    have s0 := hR8.free 0
    have s1 := hR8.free 1
    have s2 := hR8.free 2
    have z4 := HS4.out
    have z6 := HS6.out
    have zS := HZS.out
    have zz := HSZ.out
    have zw3 := HW3.out
    have zw5 := HW5.out
    have zw7 := HW7.out
    have e1 : w7.heap.size ≠ w.heap.size + 2 := by omega
    have e2 : w.heap.size + 2 ≠ w7.heap.size := by omega
    have e3 : w7.heap.size ≠ w5.heap.size := by omega
    have e4 : w5.heap.size ≠ w7.heap.size := by omega
    have e5 : w7.heap.size ≠ w3.heap.size := by omega
    have e6 : w3.heap.size ≠ w7.heap.size := by omega
    have ho1 := or_u32 Fa Fb HFa.out.1 HFb.out.1
    have ho2 := or_u32 Lb La HLb.out.1 HLa.out.1
    have HLE := hid (show wS.heap.size ≤ w7.heap.size by omega)
    have HLE2 := hid (show w.heap.size ≤ w7.heap.size by omega)
    have E1 := hid e1
    have E2 := hid e2
    clear A7 F7 hR7 hM7 hN7 hp7 hR8 hM8 hN8 hO8 hp8 z4 z6 zS zz zw3 zw5 zw7
    go_upto_region 7 with fail
    rw [← hw8]
    clear hw8
    go_wp2
    have hp9 := HP8.out
    have hO9 := HO8.out
    have hR9 := HR8.out
    have hp9 := hp9.set (b := w7.heap.size) (Or.inr rfl) HLE.out 0 (.int .u32 ((Fa ||| Fb : Nat)))
    have hR9 := hR9.other E2.out 0 (.int .u32 ((Fa ||| Fb : Nat)))
    obtain ⟨q1, q2⟩ := add_end (Y := Y) hR9 (Or.inl (Or.inl (Or.inl (Or.inr ⟨by omega, by omega⟩)))) HbS.out (Or.inr (by omega)) (fun k e => Or.inl (Or.inl (Or.inl (Or.inl e)))) hp9 (.int .u32 ((Fa ||| Fb : Nat))) (.int .u32 ((Lb : Nat))) (.bool false)
    have hrr : Rows (.seq (y.rx true) (x.rx true)) ls.length nx (ufol nx2 La Fb nx2.length) := rows_seq HRa.out HRb.out HFb.out HLa.out
    have hsf : Set (Fa ||| Fb) ((Rx.seq (y.rx true) (x.rx true)).fst ls.length) := Set.congr (HFa.out.or HFb.out) (fun j => by simp only [Rx.fst]; rw [← HEA.out]; simp)
    have hsl : Set (Lb) ((Rx.seq (y.rx true) (x.rx true)).lst ls.length) := Set.congr HLb.out (fun j => by simp only [Rx.lst]; rw [← HEB.out]; simp)
    have hem : (Rx.seq (y.rx true) (x.rx true)).emp = false := by simp only [Rx.emp]; rw [← HEA.out, ← HEB.out]; rfl
    rw [List.append_assoc] at q2
    refine bodyPost_ret (part_ret (s := 8) rfl q1 Tryd.results42) rfl ⟨Fa ||| Fb, Lb, _, (by rw [hem]; rfl), hsf, hsl, hrr, q2⟩
  case true.true =>
    go_enter Tryd.func42, Tryd.ntmps42
    go_upto_region 1 with fail
    rw [← hw1]
    clear hw1
    go_upto_region 3 with fail
    rw [← hwS]
    clear hwS
    go_wp2_with fail
    refine C1.out.mono ?_
    rintro e w3 ⟨Fa, La, nx1, rfl, hF, hL, hRo, hp⟩
    have HFa := hid hF
    have HLa := hid hL
    have HRa := hid hRo
    have hY3 := AuPost.blk HS.out hp (Or.inr ⟨by omega, by omega⟩) HYS.out
    have hR3 := AuPost.blk HS.out hp (Or.inr ⟨by omega, by omega⟩) HRS.out
    have hB3 := HBS.out.trans (AuPost.below HS.out hp)
    have HW3 := hid (AuPost.size hp)
    obtain ⟨w4, hw4⟩ : ∃ w4, w4 = w3.alloc (.cells #[.int .u32 Fa, .int .u32 La, .bool true] 63) := ⟨_, rfl⟩
    have hY4 := hY3.alloc (.cells #[.int .u32 Fa, .int .u32 La, .bool true] 63)
    have hR4 := hR3.alloc (.cells #[.int .u32 Fa, .int .u32 La, .bool true] 63)
    have hB4 := hB3.alloc hB3.size (.cells #[.int .u32 Fa, .int .u32 La, .bool true] 63)
    have hM4 := Blk.new w3 [.int .u32 Fa, .int .u32 La, .bool true] 63
    have hp4 := AuPost.alloc hp (.cells #[.int .u32 Fa, .int .u32 La, .bool true] 63)
    have hs4 : (w3.alloc (.cells #[.int .u32 Fa, .int .u32 La, .bool true] 63)).heap.size = w3.heap.size + 1 := by simp
    have hM4 : Blk (w3.alloc (.cells #[.int .u32 Fa, .int .u32 La, .bool true] 63)) w3.heap.size [.int .u32 Fa, .int .u32 La, .bool true] 63 := hM4
    rw [← hw4] at hY4 hR4 hB4 hM4 hp4 hs4
    obtain ⟨lb4, cl4, nb4, cn4, lxs4, A4, F4, g4, h4⟩ := hp4
    have hln := HN.out
    have h32 := H32.out
    have hrl := hRo.len
    have C2b := C2.out w4 _ _ true _ p lb4 cl4 nb4 cn4 lxs4 (ls ++ (y.rx true).labs) nx1 last HPb.out hB4 A4 (fun k e => by
      rcases e with e | e
      · have := HYS1.out k e; have := HW3.out; omega
      · omega) (by rw [hrl, List.length_append]; rfl) (by rw [List.length_append]; have : (y.rx true).labs.length = (y.rx true).n := rfl; omega) hRo.lt
    have hll : (ls ++ (y.rx true).labs).length = ls.length + (y.rx true).n := by rw [List.length_append]; rfl
    unfold pv AddPost u32v at C2b
    rw [← HEB.out, hll] at C2b
    have C2b := hid C2b
    have HA4 := hid A4
    have HF4 := hid F4
    have HG4 := hid g4
    have HH4 := hid h4
    have HY4 := hid hY4
    have HR4 := hid hR4
    have HM4 := hid hM4
    have HS4 := hid hs4
    obtain ⟨y0, y1, y2, y3⟩ := blk4 hY4
    clear hF hL hRo hp hY3 hR3 hB3 hY4 hR4 hB4 hM4 A4 F4 g4 h4 hln h32 hrl hll hs4
    go_upto_region 4 with fail
    rw [← hw4]
    clear hw4
    go_wp2_with fail
    refine C2b.out.mono ?_
    rintro e w5 ⟨Fb, Lb, nx2, rfl, hF, hL, hRo, hp⟩
    have HFb := hid hF
    have HLb := hid hL
    have HRb := hid hRo
    have hR5 := AuPost.blk HA4.out hp (Or.inl (Or.inr ⟨by omega, by omega⟩)) HR4.out
    have hM5 := AuPost.blk HA4.out hp (Or.inr rfl) HM4.out
    have HW5 := hid (AuPost.size hp)
    obtain ⟨w6, hw6⟩ : ∃ w6, w6 = w5.alloc (.cells #[.int .u32 Fb, .int .u32 Lb, .bool true] 63) := ⟨_, rfl⟩
    have hR6 := hR5.alloc (.cells #[.int .u32 Fb, .int .u32 Lb, .bool true] 63)
    have hM6 := hM5.alloc (.cells #[.int .u32 Fb, .int .u32 Lb, .bool true] 63)
    have hN6 : Blk (w5.alloc (.cells #[.int .u32 Fb, .int .u32 Lb, .bool true] 63)) w5.heap.size [.int .u32 Fb, .int .u32 Lb, .bool true] 63 := Blk.new w5 _ _
    have hp6 := AuPost.alloc hp (.cells #[.int .u32 Fb, .int .u32 Lb, .bool true] 63)
    have hs6 : (w5.alloc (.cells #[.int .u32 Fb, .int .u32 Lb, .bool true] 63)).heap.size = w5.heap.size + 1 := by simp
    rw [← hw6] at hR6 hM6 hN6 hp6 hs6
    obtain ⟨lb6, cl6, nb6, cn6, lxs6, A6, F6, g6, h6⟩ := hp6
    have FO := follow_au La Fb A6 (by have := hRo.len; have := H32.out; omega) HLa.out.1 hF.1 hRo.lt
    unfold u32v at FO
    have FO := hid FO
    have HA6 := hid A6
    have HF6 := hid F6
    have HG6 := hid g6
    have HH6 := hid h6
    have HR6 := hid hR6
    have HM6 := hid hM6
    have HN6 := hid hN6
    have HS6 := hid hs6
    have m0 := hM6.cell (i := 0) rfl
    have m1 := hM6.cell (i := 1) rfl
    have m2 := hM6.cell (i := 2) rfl
    have n0 := hN6.cell (i := 0) rfl
    have n1 := hN6.cell (i := 1) rfl
    have n2 := hN6.cell (i := 2) rfl
    clear hF hL hRo hp hR5 hM5 hR6 hM6 hN6 A6 F6 g6 h6 hs6 y0 y1 y2 y3
    go_upto_region 5 with fail
    rw [← hw6]
    clear hw6
    go_wp2_with fail
    refine FO.out.mono ?_
    rintro e w7 ⟨rfl, A7, F7⟩
    have hR7 := HR6.out.frm F7 (fun e => HA6.out.yn (e ▸ Or.inl (Or.inl (Or.inr ⟨by omega, by omega⟩))))
    have hM7 := HM6.out.frm F7 (fun e => HA6.out.yn (e ▸ Or.inl (Or.inr rfl)))
    have hN7 := HN6.out.frm F7 (fun e => HA6.out.yn (e ▸ Or.inr rfl))
    have hp7 := AuPost.follow HF6.out HG6.out HH6.out A7 F7
    have HW7 := hid F7.size
    obtain ⟨w8, hw8⟩ : ∃ w8, w8 = w7.alloc (.cells #[.int .u32 Fa, .int .u32 Lb, .bool true] 63) := ⟨_, rfl⟩
    have hR8 := hR7.alloc (.cells #[.int .u32 Fa, .int .u32 Lb, .bool true] 63)
    have hM8 := hM7.alloc (.cells #[.int .u32 Fa, .int .u32 Lb, .bool true] 63)
    have hN8 := hN7.alloc (.cells #[.int .u32 Fa, .int .u32 Lb, .bool true] 63)
    have hO8 : Blk (w7.alloc (.cells #[.int .u32 Fa, .int .u32 Lb, .bool true] 63)) w7.heap.size [.int .u32 Fa, .int .u32 Lb, .bool true] 63 := Blk.new w7 _ _
    have hp8 := AuPost.alloc (AuPost.then HF4.out HG4.out HH4.out hp7) (.cells #[.int .u32 Fa, .int .u32 Lb, .bool true] 63)
    rw [← hw8] at hR8 hM8 hN8 hO8 hp8
    have HP8 := hid hp8
    have HR8 := hid hR8
    have HO8 := hid hO8
    have m0 := hM7.cell (i := 0) rfl
    have m1 := hM7.cell (i := 1) rfl
    have m2 := hM7.cell (i := 2) rfl
    have n0 := hN7.cell (i := 0) rfl
    have n1 := hN7.cell (i := 1) rfl
    have n2 := hN7.cell (i := 2) rfl
    have mm0 := hM8.cell (i := 0) rfl
    have mm1 := hM8.cell (i := 1) rfl
    have mm2 := hM8.cell (i := 2) rfl
    have nn0 := hN8.cell (i := 0) rfl
    have nn1 := hN8.cell (i := 1) rfl
    have nn2 := hN8.cell (i := 2) rfl
    have o0 := hO8.cell (i := 0) rfl
    have o1 := hO8.cell (i := 1) rfl
    have o2 := hO8.cell (i := 2) rfl
    have of0 := hO8.free 0
    have of1 := hO8.free 1
    have r0 := hR8.cell (i := 0) rfl
    have r1 := hR8.cell (i := 1) rfl
    have r2 := hR8.cell (i := 2) rfl
    have s0 := hR8.free 0
    have s1 := hR8.free 1
    have s2 := hR8.free 2
    have z4 := HS4.out
    have z6 := HS6.out
    have zS := HZS.out
    have zz := HSZ.out
    have zw3 := HW3.out
    have zw5 := HW5.out
    have zw7 := HW7.out
    have e1 : w7.heap.size ≠ w.heap.size + 2 := by omega
    have e2 : w.heap.size + 2 ≠ w7.heap.size := by omega
    have e3 : w7.heap.size ≠ w5.heap.size := by omega
    have e4 : w5.heap.size ≠ w7.heap.size := by omega
    have e5 : w7.heap.size ≠ w3.heap.size := by omega
    have e6 : w3.heap.size ≠ w7.heap.size := by omega
    have ho1 := or_u32 Fa Fb HFa.out.1 HFb.out.1
    have ho2 := or_u32 Lb La HLb.out.1 HLa.out.1
    have HLE := hid (show wS.heap.size ≤ w7.heap.size by omega)
    have HLE2 := hid (show w.heap.size ≤ w7.heap.size by omega)
    have E1 := hid e1
    have E2 := hid e2
    clear A7 F7 hR7 hM7 hN7 hp7 hR8 hM8 hN8 hO8 hp8 z4 z6 zS zz zw3 zw5 zw7
    go_upto_region 7 with fail
    rw [← hw8]
    clear hw8
    go_wp2
    have hp9 := HP8.out
    have hO9 := HO8.out
    have hR9 := HR8.out
    have hp9 := hp9.set (b := w7.heap.size) (Or.inr rfl) HLE.out 0 (.int .u32 ((Fa ||| Fb : Nat)))
    have hR9 := hR9.other E2.out 0 (.int .u32 ((Fa ||| Fb : Nat)))
    have hp9 := hp9.set (b := w7.heap.size) (Or.inr rfl) HLE.out 1 (.int .u32 ((Lb ||| La : Nat)))
    have hR9 := hR9.other E2.out 1 (.int .u32 ((Lb ||| La : Nat)))
    obtain ⟨q1, q2⟩ := add_end (Y := Y) hR9 (Or.inl (Or.inl (Or.inl (Or.inr ⟨by omega, by omega⟩)))) HbS.out (Or.inr (by omega)) (fun k e => Or.inl (Or.inl (Or.inl (Or.inl e)))) hp9 (.int .u32 ((Fa ||| Fb : Nat))) (.int .u32 ((Lb ||| La : Nat))) (.bool true)
    have hrr : Rows (.seq (y.rx true) (x.rx true)) ls.length nx (ufol nx2 La Fb nx2.length) := rows_seq HRa.out HRb.out HFb.out HLa.out
    have hsf : Set (Fa ||| Fb) ((Rx.seq (y.rx true) (x.rx true)).fst ls.length) := Set.congr (HFa.out.or HFb.out) (fun j => by simp only [Rx.fst]; rw [← HEA.out]; simp)
    have hsl : Set (Lb ||| La) ((Rx.seq (y.rx true) (x.rx true)).lst ls.length) := Set.congr (HLb.out.or HLa.out) (fun j => by simp only [Rx.lst]; rw [← HEB.out]; simp)
    have hem : (Rx.seq (y.rx true) (x.rx true)).emp = true := by simp only [Rx.emp]; rw [← HEA.out, ← HEB.out]; rfl
    rw [List.append_assoc] at q2
    refine bodyPost_ret (part_ret (s := 8) rfl q1 Tryd.results42) rfl ⟨Fa ||| Fb, Lb ||| La, _, (by rw [hem]; rfl), hsf, hsl, hrr, q2⟩
end Go.Proofs.YtobcbaeoedpefaaDoor
