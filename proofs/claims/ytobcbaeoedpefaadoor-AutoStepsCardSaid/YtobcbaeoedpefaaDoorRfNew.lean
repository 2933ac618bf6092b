/- The document's automaton: New. -/
import Derived.Test.YtobcbaeoedpefaaDoorRfPart2
import Derived.Test.YtobcbaeoedpefaaDoorRfSteps
namespace Go.Proofs.YtobcbaeoedpefaaDoor
set_option linter.unusedVariables false
set_option linter.unusedSimpArgs false
set_option maxRecDepth 100000
open Go.ChangeShapes Go.WideShapes Go.ChangeAt Go.RowKit
open Au
theorem Tryd.infoBool1 : (Tryd.prog.info? 4).map (fun i => (i.zero, i.size, i.bytes)) = some (some (.bool false), 1, 1) := by kernel_rfl
theorem Tryd.infoLBool1 : (Tryd.prog.info? 38).map (fun i => (i.zero, i.size, i.bytes)) = some (some (.slice none 0 0), 1, 24) := by kernel_rfl
def rowB (n : Nat) (f : Nat → Bool) : List Value := (List.range n).map fun k => .bool (f k)
theorem rowB_get {n : Nat} {f : Nat → Bool} {k : Nat} (h : k < n) : (rowB n f)[k]? = some (.bool (f k)) := by simp [rowB, h]
theorem rowB_set {n : Nat} {f : Nat → Bool} {k : Nat} {v : Bool} (h : k < n) : (rowB n f).set k (.bool v) = rowB n (fun b => if b = k then v else f b) := by
  refine List.ext_getElem? fun i => ?_
  by_cases hi : i < n
  · by_cases hk : k = i
    · subst hk
      rw [List.getElem?_set_self (by simpa [rowB] using h), rowB_get hi]; simp
    · rw [List.getElem?_set_ne hk, rowB_get hi, rowB_get hi]
      simp [show ¬ i = k from fun e => hk e.symm]
  · rw [List.getElem?_eq_none (by simp [rowB]; omega), List.getElem?_eq_none (by simp [rowB]; omega)]
theorem madeB (n : Nat) : (madeCells #[.bool false] n).toList = rowB n (fun _ => false) := by
  refine List.ext_getElem? fun i => ?_
  simp only [madeCells, Array.toList_map, Array.toList_range, List.getElem?_map, rowB]
  by_cases hi : i < n
  · rw [List.getElem?_range hi]; simp [Nat.mod_one]
  · rw [List.getElem?_eq_none (by simpa using hi)]; rfl
/-- The matrix in memory: I rows in blocks of their own, i of them in fv; p's fields. -/
structure MatAt (Bm : Nat) (w : World) (p : Nat) (av fv ev : Value) (n i I : Nat) (xs : List Value) (rb : Nat → Nat) (M : Nat → Nat → Bool) : Prop where
  blk : Blk w p [av, fv, ev] 40
  fown : w.ownsRow Bm 38 1 fv i xs
  pl : p < Bm
  iI : i ≤ I
  cel : ∀ j, j < i → xs[j]? = some (.slice (some ⟨rb j, 0, none⟩) n n)
  row : ∀ j, j < I → Blk w (rb j) (rowB n (M j)) 4
  ge : ∀ j, j < I → Bm ≤ rb j
  inj : ∀ j k, j < I → k < I → rb j = rb k → j = k
  fr : ∀ j, j < I → fv.ownBlock ≠ some (rb j)
section
variable {Bm : Nat} {w w' : World} {p : Nat} {av fv ev : Value} {n i I : Nat} {xs : List Value} {rb : Nat → Nat} {M : Nat → Nat → Bool}
theorem MatAt.keep (h : MatAt Bm w p av fv ev n i I xs rb M) (hb : Below w.heap.size w w') : MatAt Bm w' p av fv ev n i I xs rb M where
  blk := h.blk.keep hb
  fown := own_frmg (X := fun _ => False) h.fown (Frm.of_below hb) (fun _ _ e => e)
  pl := h.pl
  iI := h.iI
  cel := h.cel
  row := fun j hj => (h.row j hj).keep hb
  ge := h.ge
  inj := h.inj
  fr := h.fr
/-- A new row. -/
theorem MatAt.newRow (h : MatAt Bm w p av fv ev n i I xs rb M) (hB : Bm ≤ w.heap.size) : MatAt Bm (w.alloc (.cells (madeCells #[.bool false] n) 4)) p av fv ev n i (I + 1) xs (fun j => if j = I then w.heap.size else rb j) (fun a b => if a = I then false else M a b) where
  blk := h.blk.alloc _
  fown := h.fown.alloc _
  pl := h.pl
  iI := Nat.le_succ_of_le h.iI
  cel := fun j hj => by
    have := h.iI
    rw [if_neg (by omega)]; exact h.cel j hj
  row := fun j hj => by
    by_cases hji : j = I
    · subst hji
      simp only [if_pos]
      exact Blk.new' rfl (madeB n)
    · simp only [if_neg hji]
      exact (h.row j (by omega)).alloc _
  ge := fun j hj => by
    by_cases hji : j = I
    · simp only [if_pos hji]; exact hB
    · simp only [if_neg hji]; exact h.ge j (by omega)
  inj := fun j k hj hk e => by
    by_cases hji : j = I
    · by_cases hki : k = I
      · omega
      · simp only [if_pos hji, if_neg hki] at e
        have := (h.row k (by omega)).lt
        omega
    · by_cases hki : k = I
      · simp only [if_neg hji, if_pos hki] at e
        have := (h.row j (by omega)).lt
        omega
      · simp only [if_neg hji, if_neg hki] at e
        exact h.inj j k (by omega) (by omega) e
  fr := fun j hj e => by
    by_cases hji : j = I
    · simp only [if_pos hji] at e
      have := (h.fown.lt _ e).2
      omega
    · simp only [if_neg hji] at e
      exact h.fr j (by omega) e
/-- The newest row is put into the list. -/
theorem MatAt.put {fv' : Value} {w2 : World} (h : MatAt Bm w p av fv ev n i (i + 1) xs rb M) (hB : Bm ≤ w.heap.size) (hown : w2.ownsRow Bm 38 1 fv' (i + 1) (xs ++ [.slice (some ⟨rb i, 0, none⟩) n n])) (hgr : w.grownBy w2 fv.ownBlock) (hmv : Moved w fv fv') :
    MatAt Bm (w2.setCell ⟨p, 1, none⟩ fv') p av fv' ev n (i + 1) (i + 1) (xs ++ [.slice (some ⟨rb i, 0, none⟩) n n]) rb M := by
  have hf1 := frm_grown hgr
  have hpf : fv.ownBlock ≠ some p := fun e => by have := (h.fown.lt p e).1; have := h.pl; omega
  have hpf' : fv'.ownBlock ≠ some p := fun e => by have := (hown.lt p e).1; have := h.pl; omega
  have hset : Frm (fun k => k = p) w2 (w2.setCell ⟨p, 1, none⟩ fv') := Frm.set (X := fun k => k = p) (Frm.refl _ _) (Or.inl rfl) 1 fv'
  have hxl : xs.length = i := by have := h.fown.1; omega
  exact {
    blk := (h.blk.frm hf1 hpf).set 1 fv'
    fown := own_frmg hown hset (fun k e x => hpf' (by rw [← x]; exact e))
    pl := h.pl
    iI := Nat.le_refl _
    cel := fun j hj => by
      by_cases hji : j < i
      · rw [List.getElem?_append_left (by omega)]; exact h.cel j hji
      · obtain rfl : j = i := by omega
        rw [List.getElem?_append_right (by omega), hxl]; simp
    row := fun j hj => ((h.row j hj).frm hf1 (fun e => h.fr j hj e)).frm hset (fun e => by have := h.ge j hj; have := h.pl; omega)
    ge := h.ge
    inj := h.inj
    fr := fun j hj e => by
      rcases hmv with hm | ⟨q, hm, hq⟩
      · exact h.fr j hj (by rw [← hm]; exact e)
      · rw [hm] at e
        have h1 := Option.some.inj e
        have h2 := (h.row j hj).lt
        omega }
/-- A bit is stored. -/
theorem MatAt.set (h : MatAt Bm w p av fv ev n i I xs rb M) {j k : Nat} (v : Bool) (hj : j < I) (hk : k < n) : MatAt Bm (w.setCell ⟨rb j, k, none⟩ (.bool v)) p av fv ev n i I xs rb (fun a b => if a = j ∧ b = k then v else M a b) := by
  have hset : Frm (fun q => q = rb j) w (w.setCell ⟨rb j, k, none⟩ (.bool v)) := Frm.set (X := fun q => q = rb j) (Frm.refl _ _) (Or.inl rfl) k _
  exact {
    blk := h.blk.frm hset (fun e => by have := h.ge j hj; have := h.pl; omega)
    fown := own_frmg h.fown hset (fun q e x => h.fr j hj (by rw [← x]; exact e))
    pl := h.pl
    iI := h.iI
    cel := h.cel
    row := fun a ha => by
      by_cases haj : a = j
      · subst haj
        have := (h.row a ha).set k (.bool v)
        rw [rowB_set hk] at this
        simpa using this
      · have := (h.row a ha).other (c := rb j) (fun e => haj (h.inj a j ha hj e)) k (.bool v)
        simpa [haj] using this
    ge := h.ge
    inj := h.inj
    fr := h.fr }
/-- End is stored. -/
theorem MatAt.fin {ev' : Value} (h : MatAt Bm w p av fv ev n i I xs rb M) : MatAt Bm (w.setCell ⟨p, 2, none⟩ ev') p av fv ev' n i I xs rb M := by
  have hset : Frm (fun k => k = p) w (w.setCell ⟨p, 2, none⟩ ev') := Frm.set (X := fun k => k = p) (Frm.refl _ _) (Or.inl rfl) 2 ev'
  exact {
    blk := h.blk.set 2 ev'
    fown := own_frmg h.fown hset (fun k e x => by have := (h.fown.lt k e).1; have := h.pl; omega)
    pl := h.pl
    iI := h.iI
    cel := h.cel
    row := fun j hj => (h.row j hj).frm hset (fun e => by have := h.ge j hj; have := h.pl; omega)
    ge := h.ge
    inj := h.inj
    fr := h.fr }
end
theorem held_start {w : World} {p : Nat} {v u : Value} {x : Pt} {X : Nat → Prop} (h : Asd X w (fun W => PtAt W v u x)) (hX : X p) : ∃ WB, PtAt WB v u x ∧ Held WB NoY p (.slice none 0 0) (.slice none 0 0) w := by
  refine ⟨{ w with heap := w.heap.setIfInBounds p (.cells #[] 0 (0, 0)) }, h _ (fun k hk hx => ?_), fun b o y e => ?_⟩
  · show (w.heap.setIfInBounds p (.cells #[] 0 (0, 0)))[k]? = w.heap[k]?
    rw [Array.getElem?_setIfInBounds_ne (fun e : p = k => hx (by rw [← e]; exact hX))]
  · by_cases hb : b = p
    · subst hb
      exfalso
      unfold World.cell? at e
      simp only [Array.getElem?_setIfInBounds] at e
      by_cases hl : b < w.heap.size
      · simp [hl] at e
      · simp [hl] at e
    · refine ⟨?_, fun m => ?_⟩
      · rw [← e]
        refine (cell_heap ?_).symm
        show (w.heap.setIfInBounds p (.cells #[] 0 (0, 0)))[b]? = w.heap[b]?
        rw [Array.getElem?_setIfInBounds_ne (Ne.symm hb)]
      · rcases m with m | m | m | m
        · exact hb m
        · cases m
        · cases m
        · exact m
theorem mtx3 {i a b x : Nat} {em : Bool} {F T : List Nat} (hi : i ≠ 0) : (if a = i ∧ b = x then true else if a = 0 then decide (b ∈ F) else if a = i then ((decide (b = 0) && em) || decide (b ∈ T)) else false) = (if a = 0 then decide (b ∈ F) else if a = i then ((decide (b = 0) && em) || decide (b ∈ T ++ [x])) else false) := by
  by_cases h0 : a = 0
  · subst h0
    rw [if_neg (fun h => hi h.1.symm)]; rfl
  · by_cases ha : a = i
    · subst ha; by_cases hb : b = x <;> simp [h0, hb]
    · simp [h0, ha]
theorem mtx4 {i a b : Nat} {X : Bool} {F : List Nat} {P : List (Nat × Nat)} (hi : i ≠ 0) : (if a = 0 then decide (b ∈ F) else if a = i then X else false) = (if a = i then X else ((decide (a = 0) && decide (b ∈ F)) || decide ((a, b) ∈ P.take 0))) := by
  by_cases h0 : a = 0
  · subst h0
    rw [if_pos rfl, if_neg (fun h => hi h.symm)]; simp
  · by_cases ha : a = i
    · subst ha; simp [h0]
    · simp [h0, ha]
theorem rf_of {B Bm : Nat} {w6 wr : World} {p ag ac m fg fcap eb i : Nat} {lv : Value} {lxs xs : List Value} {LB : List Lb} {PP : List (Nat × Nat)} {FL LL : List Nat} {em : Bool} {rb : Nat → Nat} {M : Nat → Nat → Bool} {r : Rx}
    (hA : RsAt B NoY w6 p (.slice (some ⟨ag, 0, none⟩) m ac) lv lxs LB PP) (hLB : LB = r.labs) (hm : m = r.n) (hF : Frm (fun k => k = p) w6 wr)
    (hM : MatAt Bm wr p (.slice (some ⟨ag, 0, none⟩) m ac) (.slice (some ⟨fg, 0, none⟩) i fcap) (.slice (some ⟨eb, 0, none⟩) i i) i i (i + 1) xs rb M) (hi : i = m + 1) (heb : rb i = eb)
    (hMv : ∀ a b, M a b = (if a = i then ((decide (b = 0) && em) || decide (b ∈ LL)) else ((decide (a = 0) && decide (b ∈ FL)) || decide ((a, b) ∈ PP))))
    (hFL : FL = r.firstL 1) (hLL : LL = r.lastL 1) (hPP : PP = r.pairsL 1) (hem : em = r.emp) : RfAt wr p r := by
  have hiN : i = 1 + r.n := by omega
  subst hLB
  have hl : r.labs.length = m := hm.symm
  have hao := hA.aown
  rw [hl] at hao
  have hpa : ag ≠ p := fun e => hA.pa (by rw [e]; rfl)
  have hob := own_blk hao
  refine ⟨_, fg, fcap, eb, rb, hiN ▸ hM.blk, by have := (own_blk hM.fown).2.2.1; omega, (own_blk hM.fown).2.2.2.1, ?_, fun j hj => ?_, fun j k hj hk => ?_, fun k hk => ?_⟩
  · obtain ⟨f, hf⟩ : ∃ f : Nat → Value, ∀ j, j < m → lxs[j * 5 + 4]? = some (f j) := ⟨fun j => lxs.getD (j * 5 + 4) undef, fun j hj => by
      obtain ⟨a, n, c, _, _, _, _, h5, _⟩ := hA.labs j (by omega)
      rw [h5]; simp [List.getD, h5]⟩
    refine ⟨some ⟨ag, 0, none⟩, ac, ag, 0, f, by rw [List.length_map, hl], by rw [List.length_map, hl]; exact hob.2.2.1, hob.2.2.2.1, (fun h => by cases h), fun _ => rfl, fun j hj => ?_, fun j hj => ?_⟩
    · rw [List.length_map, hl] at hj
      obtain ⟨a, n, c, h1, h2, h3, h4, h5, h6⟩ := hA.labs j (by omega)
      rw [List.getElem_map, Nat.zero_add]
      exact ⟨hF.cell hpa (own_cell hao h1).1, hF.cell hpa (own_cell hao h2).1, hF.cell hpa (own_cell hao h3).1, hF.cell hpa (own_cell hao h4).1, hF.cell hpa (own_cell hao (hf j hj)).1⟩
    · rw [List.length_map, hl] at hj
      obtain ⟨a, n, c, h1, h2, h3, h4, h5, h6⟩ := hA.labs j (by omega)
      have := hf j hj
      rw [h5] at this
      rw [List.getElem_map, ← Option.some.inj this]
      exact Asd.here (Asd.frm h6 hF (fun k _ e => Or.inl e) (fun _ _ e => e))
  · have := (own_cell hM.fown (hM.cel j (by omega))).1
    rw [hiN] at this; exact this
  · rw [(hM.row j (by omega)).cell (rowB_get (show k < i by omega)), hMv, if_neg (by omega)]
    congr 2
    rw [hFL, hPP, Bool.eq_iff_iff]
    simp only [Bool.or_eq_true, Bool.and_eq_true, decide_eq_true_eq, Rx.mem_firstL, Rx.mem_pairsL]
    unfold Rx.nxt
    by_cases h0 : j = 0
    · subst h0
      rw [if_pos rfl]
      refine ⟨fun h => h.elim (fun h => h.2) (fun h => ?_), fun h => Or.inl ⟨rfl, h⟩⟩
      have := (Rx.fol_range r 1 0 k h).1; omega
    · rw [if_neg h0]
      exact ⟨fun h => h.elim (fun h => absurd h.1 h0) id, Or.inr⟩
  · have hr := hM.row i (by omega)
    rw [heb] at hr
    rw [hr.cell (rowB_get (show k < i by omega)), hMv, if_pos rfl]
    congr 2
    rw [hLL, hem, Bool.eq_iff_iff]
    simp only [Bool.or_eq_true, Bool.and_eq_true, decide_eq_true_eq, Rx.mem_lastL]
    unfold Rx.endd
    by_cases h0 : k = 0
    · subst h0
      rw [if_pos rfl]
      refine ⟨fun h => h.elim (fun h => h.2) (fun h => ?_), fun h => Or.inl ⟨rfl, h⟩⟩
      have := Rx.lst_range r 1 0 h; omega
    · rw [if_neg h0]
      exact ⟨fun h => h.elim (fun h => absurd h.1 h0) id, Or.inr⟩
def RNewPost (x : Pt) (w : World) (e : Ending) (w' : World) : Prop :=
  Below w.heap.size w w' ∧ ((x.may = false ∧ e = .returned (.tuple #[.pointer none, .int .i64 1])) ∨
    (x.may = true ∧ 200 < Rx.cnt (x.rx false) ∧ e = .returned (.tuple #[.pointer none, .int .i64 3])) ∨
    (x.may = true ∧ Rx.cnt (x.rx false) ≤ 200 ∧ ∃ p, e = .returned (.tuple #[.pointer (some ⟨p, 0, none⟩), .int .i64 0]) ∧ RfAt w' p (x.rx false)))
set_option maxHeartbeats 16000000 in
theorem rnew_any (x : Pt) (v u : Value) (w : World) (hP : PtAt w v u x) (hT : T8 w) : Calls Tryd.prog 15 #[pv x v u] w (RNewPost x w) := by
  obtain ⟨a, n, c, a', n', c', rfl, rfl⟩ := pv_open hP
  obtain ⟨w1, hw1, hz1, HXb, HP1, HB1⟩ := pt_box w x _ _ hP
  have HT1 := hT.keep HB1.out
  have IP := rispath_any x _ _ w1 HP1.out HT1
  unfold pv at IP ⊢
  obtain ⟨c0, c1, c2, c3⟩ := blk4 HXb.out
  cases hm : x.may
  · rw [hm] at IP
    have IP := hid IP
    have HM := hid hm
    clear hm hz1 hP hT HT1
    go_enter Tryd.func15, Tryd.ntmps15
    go_upto_region 1 with fail
    rw [← hw1]
    clear hw1
    go_wp2_with (go_at_call 26; refine IP.out.mono ?_; rintro e w2 ⟨rfl, hb2⟩)
    go_ret2
    exact ⟨below_then HB1.out hb2, Or.inl ⟨HM.out, rfl⟩⟩
  rw [hm] at IP
  have IP := hid IP
  have HM := hid hm
  obtain ⟨r, hr⟩ : ∃ r, r = x.rx false := ⟨_, rfl⟩
  have HR := hid hr
  have hsz : x.size ≤ 30 := by
    have h := hm
    unfold Pt.may at h
    simp only [Bool.and_eq_true, decide_eq_true_eq] at h
    exact h.2
  have hn30 : r.n ≤ 30 := by rw [hr]; have := (Pt.rx_n x false).2; omega
  have hn1 : 1 ≤ r.n := by rw [hr]; exact (Pt.rx_n x false).1
  have hs30 : r.sz ≤ 30 := by rw [hr]; have := Pt.rx_sz x false; omega
  have HPO := hid (show PartOk r from part_any r (by rw [hr]; exact Pt.rx_fine x false))
  have HLO := hid (show LaidOk x false from laid_any x 0 false (may_wf hm))
  have HN30 := hid hn30
  have HN1 := hid hn1
  have HS30 := hid hs30
  have HSZ1 := hid hz1
  clear hm hz1 hP hT HT1 hr hsz hn30 hn1 hs30
  go_enter Tryd.func15, Tryd.ntmps15
  go_upto_region 1 with fail
  rw [← hw1]
  clear hw1
  go_upto_region 3 with (go_at_call 26; refine IP.out.mono ?_; rintro e w2 ⟨rfl, hb2⟩; have c0 := below_keep hb2 c0; have c1 := below_keep hb2 c1; have c2 := below_keep hb2 c2; have c3 := below_keep hb2 c3; have HB2 := hid hb2; clear hb2)
  obtain ⟨w3, hw3⟩ : ∃ w3, w3 = w2.alloc (.cells #[.slice none 0 0, .slice none 0 0, .slice none 0 0] 40) := ⟨_, rfl⟩
  have hb3 : Below w2.heap.size w2 w3 := by rw [hw3]; exact (Below.refl _ _).alloc (Nat.le_refl _) _
  have hz3 : w3.heap.size = w2.heap.size + 1 := by rw [hw3]; simp
  have hA3 : Blk w3 w2.heap.size [.slice none 0 0, .slice none 0 0, .slice none 0 0] 40 := by rw [hw3]; exact Blk.new w2 _ _
  obtain ⟨p, hp⟩ : ∃ p, p = w2.heap.size := ⟨_, rfl⟩
  rw [← hp] at hz3 hA3
  have LD := HLO.out w2 w3 _ _ (HP1.out.keep HB2.out) hb3
  unfold LaidPost pv at LD
  rw [← HR.out] at LD
  have LD := hid LD
  have c0 := below_keep hb3 c0
  have c1 := below_keep hb3 c1
  have c2 := below_keep hb3 c2
  have c3 := below_keep hb3 c3
  have HB3 := hid hb3
  have HZ3 := hid hz3
  have HA3 := hid hA3
  have HPP := hid hp
  clear hz3 hA3 hb3
  go_upto_region 4 with fail
  rw [← hw3, ← hp]
  clear hw3 hp
  go_wp2_with fail
  refine LD.out.mono ?_
  rintro e w4 ⟨⟨v', u', rfl, hA⟩, hb4⟩
  obtain ⟨a1, n1, e1, a2, n2, e2, rfl, rfl⟩ := pv_open (hA w4 (fun _ _ _ => rfl))
  obtain ⟨WB, hWB, hHB⟩ := held_start (p := p) hA (by have := HPP.out; have := HZ3.out; omega)
  have hRS : RsAt w2.heap.size NoY w4 p (.slice none 0 0) (.slice none 0 0) [] [] [] := {
    blk := HA3.out.keep hb4
    aown := World.ownsRow_nil _ _ _ _
    lown := World.ownsRow_nil _ _ _ _
    pB := by have := HPP.out; omega
    pa := fun e => by cases e
    pl := fun e => by cases e
    al := fun k e => by cases e
    yp := fun e => e
    ya := fun k e => by cases e
    yl := fun k e => by cases e
    labs := fun j hj => absurd hj (by simp) }
  have PA := HPO.out w2.heap.size WB w4 NoY p _ _ _ _ [] [] [] hWB hHB hRS (fun k e => e.elim) (by have := hb4.size; have := HZ3.out; have := HPP.out; omega) HN30.out (by have := HN30.out; simp; omega) (by have := HS30.out; simp; omega)
  unfold PartPost pv at PA
  simp only [List.length_nil, Nat.zero_add, List.nil_append] at PA
  have PA := hid PA
  have HB4 := hid hb4
  clear hA hb4 hWB hHB hRS
  go_wp2_with fail
  refine PA.out.mono ?_
  rintro e w5 ⟨fv, lsv, av, lv, lxs, rfl, hA, hS, hF, hL⟩
  obtain ⟨fa, fc, rfl, hf1, hf2⟩ := NsX.lenx hF
  obtain ⟨la, lc, rfl, hl1, hl2⟩ := NsX.lenx hL
  obtain ⟨FL, hFL⟩ : ∃ FL, FL = r.firstL 1 := ⟨_, rfl⟩
  obtain ⟨LL, hLL⟩ : ∃ LL, LL = r.lastL 1 := ⟨_, rfl⟩
  obtain ⟨PP, hPP⟩ : ∃ PP, PP = r.pairsL 1 := ⟨_, rfl⟩
  obtain ⟨LB, hLB⟩ : ∃ LB, LB = r.labs := ⟨_, rfl⟩
  obtain ⟨em, hem⟩ : ∃ em, em = r.emp := ⟨_, rfl⟩
  rw [← hFL] at hF hf1 ⊢
  rw [← hLL] at hL hl1 ⊢
  rw [← hPP, ← hLB] at hA
  rw [← hem]
  have HFL := hid hFL
  have HLL := hid hLL
  have HPP2 := hid hPP
  have HLB := hid hLB
  have HEM := hid hem
  obtain ⟨m, hm⟩ : ∃ m, m = r.n := ⟨_, rfl⟩
  have HMM := hid hm
  have hlbl : LB.length = m := by rw [hLB, hm]; rfl
  obtain ⟨ag, ac, rfl, _, _⟩ := World.ownsRow.form hA.aown (by rw [hlbl, hm]; exact HN1.out)
  rw [hlbl] at hA
  obtain ⟨w6, hw6⟩ : ∃ w6, w6 = w5.alloc (.cells #[.bool em, .slice fa FL.length fc, .slice la LL.length lc] 68) := ⟨_, rfl⟩
  have hb6 : Below w5.heap.size w5 w6 := by rw [hw6]; exact (Below.refl _ _).alloc (Nat.le_refl _) _
  have hN6 : Blk w6 w5.heap.size [.bool em, .slice fa FL.length fc, .slice la LL.length lc] 68 := by rw [hw6]; exact Blk.new w5 _ _
  have hA6 := hA.keep hb6
  have hst6 := Stpd.below p (.slice (some ⟨ag, 0, none⟩) m ac) lv hb6
  have hF6 := Asd.stpd hF hst6
  have hL6 := Asd.stpd hL hst6
  have hB06 : Below w.heap.size w w6 := by
    have e1 := HB1.out
    have e2 := below_then e1 HB2.out
    have e3 := below_then e2 HB3.out
    have e4 := below_then e3 HB4.out
    have hz := HSZ1.out
    have h2 := HB2.out.size
    have e5 : Below w.heap.size w w5 := e4.trans (hS.1.below (by have := e4.size; omega) (fun k hk e => by
      rcases e with e | e | e | e
      · have := HPP.out; omega
      · cases e
      · cases e
      · exact e))
    exact e5.trans (hb6.mono e5.size)
  have HLV := hid (show ∃ la' lc', lv = .slice la' PP.length lc' ∧ PP.length ≤ lc' ∧ lc' ≤ maxLen from by
    obtain ⟨_, h1 | ⟨g, cap, cur, rfl, _, _, hn, hm, _⟩⟩ := hA.lown
    · exact ⟨none, 0, by rw [h1.1, h1.2], by omega, by unfold maxLen; omega⟩
    · exact ⟨_, cap, rfl, hn, hm⟩)
  have HPR := hid (show ∀ t, t < PP.length → ∃ g, (∃ cap, lv = .slice (some ⟨g, 0, none⟩) PP.length cap) ∧ ∀ w', Frm (fun k => k = p) w6 w' → w'.cell? ⟨g, t * 2, none⟩ = some (natv (PP.getD t (0, 0)).1) ∧ w'.cell? ⟨g, t * 2 + 1, none⟩ = some (natv (PP.getD t (0, 0)).2) from fun t ht => by
    have hlo := hA6.lown
    have hpl := hA6.pl
    obtain ⟨g, cap, hgl, _, _⟩ := World.ownsRow.form hlo (by omega)
    rw [hgl] at hlo hpl
    have hgp : g ≠ p := fun e => hpl (by rw [e]; rfl)
    obtain ⟨k1, k2⟩ := fl2_get PP t ht
    have hg : PP.getD t (0, 0) = PP[t] := by simp [List.getD, ht]
    rw [hg]
    exact ⟨g, ⟨cap, hgl⟩, fun w' hf => ⟨hf.cell hgp (own_cell hlo k1).1, hf.cell hgp (own_cell hlo k2).1⟩⟩)
  have HA6 := hid hA6
  have HF6 := hid hF6
  have HL6 := hid hL6
  have HN6 := hid hN6
  have HB06 := hid hB06
  have HPL := hid (show p < w6.heap.size from hA6.blk.lt)
  have HPB := hid (show p < w5.heap.size from hA.blk.lt)
  have p0 := hA6.blk.cell (i := 0) rfl
  have hbs := hid (show Blk w6 p [.slice (some ⟨ag, 0, none⟩) m ac, .slice none 0 0, .slice none 0 0] 40 from hA6.blk)
  have hm30 : m ≤ 30 := by rw [hm]; exact HN30.out
  obtain ⟨la', lc', rfl, hp1, hp2⟩ := HLV.out
  have hfl30 : FL.length ≤ 30 := by rw [hFL]; have := Rx.firstL_len r 1; have := HN30.out; omega
  have hll30 : LL.length ≤ 30 := by rw [hLL]; have := Rx.lastL_len r 1; have := HN30.out; omega
  have hpp30 : PP.length ≤ 27000 := by rw [hPP]; have := Rx.pairsL_len (N := 30) r 1 HN30.out; have := HS30.out; omega
  clear hA hS hF hL hA6 hF6 hL6 hN6 hB06 hFL hLL hPP hLB hem hm hb6 hst6 c0 c1 c2 c3
  obtain ⟨b5, hb5⟩ : ∃ b5, b5 = w5.heap.size := ⟨_, rfl⟩
  have HB5 := hid (show b5 < w6.heap.size from by rw [hb5]; exact HN6.out.lt)
  have HB5P := hid (show b5 ≠ p from by rw [hb5]; have := HPB.out; omega)
  rw [← hb5] at HN6
  go_upto_region 5 with fail
  rw [← hw6, ← hb5]
  clear hw6 hb5
  obtain ⟨N, hN⟩ : ∃ N : Nat, N = m + 1 := ⟨_, rfl⟩
  have hNz : (m : Int) + 1 = (N : Nat) := by omega
  have HNM := hid hN
  have hN31 : N ≤ 31 := by omega
  have hN0 : 1 ≤ N := by omega
  clear hN
  obtain ⟨iB, hiB, hzB, hsB, hbB⟩ := info_two Tryd.infoBool1
  obtain ⟨iL, hiL, hzL, hsL, hbL⟩ := info_two Tryd.infoLBool1
  have mk1 : ∀ W : World, (Instr.makeSlice 38 (.int .i64 (N : Int)) (.int .i64 (N : Int))).run Tryd.prog W = .ok (.slice (some ⟨W.heap.size, 0, none⟩) N N) (W.alloc (.cells (madeCells #[.bool false] N) 4)) := fun W => by
    have h := run_make W 38 4 iB _ Tryd.underlying38 hiB hzB .i64 .i64 N N (by omega) (by omega) (by rw [hbB]; omega) (by omega)
    rw [hsB, show (Value.bool false).cells = #[.bool false] from rfl] at h
    simpa using h
  have HM0 := hid (show MatAt w6.heap.size w6 p (.slice (some ⟨ag, 0, none⟩) m ac) (.slice none 0 0) (.slice none 0 0) N 0 0 [] (fun _ => 0) (fun _ _ => false) from {
    blk := hbs.out
    fown := World.ownsRow_nil _ _ _ _
    pl := HPL.out
    iI := Nat.le_refl _
    cel := fun j hj => absurd hj (Nat.not_lt_zero j)
    row := fun j hj => absurd hj (Nat.not_lt_zero j)
    ge := fun j hj => absurd hj (Nat.not_lt_zero j)
    inj := fun j k hj => absurd hj (Nat.not_lt_zero j)
    fr := fun j hj => absurd hj (Nat.not_lt_zero j) })
  go_wp2
  go_loopw [8] (fun s8 wr => ∃ (i : Nat) (fv : Value) (xs : List Value) (rb : Nat → Nat), i ≤ N ∧ s8 = .int .i64 i ∧ Hid (Frm (fun k => k = p) w6 wr) ∧ Hid (MatAt w6.heap.size wr p (.slice (some ⟨ag, 0, none⟩) m ac) fv (.slice none 0 0) N i i xs rb (fun _ _ => false))) (fun s8 _ => N - (intOf s8).toNat)
  case atStart => exact ⟨0, _, _, _, by omega, rfl, Frm.refl _ _, HM0.out⟩
  case round =>
    obtain ⟨i, fv, xs, rb, hi, rfl, HF, HMT⟩ := hrel
    have q0 := HMT.out.blk.cell (i := 0) rfl
    have q1 := HMT.out.blk.cell (i := 1) rfl
    have q2 := HMT.out.blk.cell (i := 2) rfl
    have g1 := HMT.out.blk.free 1
    have g2 := HMT.out.blk.free 2
    have hpl := HMT.out.blk.lt
    by_cases hlt : i < N
    case pos =>
      have HW := hid (show w6.heap.size ≤ wr.heap.size from HF.out.size)
      have HOW := hid fun o o' => (HMT.out.fown.alloc o).alloc (w := wr.alloc o) o'
      have B1 := hid (show i + 1 ≤ maxLen by unfold maxLen; omega)
      have B2 := hid (show (i + 1) * 24 ≤ 140737488355328 by omega)
      have B4 := hid (show ∀ (o o' : Obj), w6.heap.size ≤ ((wr.alloc o).alloc o').heap.size from fun o o' => by have := HW.out; simp; omega)
      have hp1 : p < wr.heap.size + 1 := by omega
      have hne1 : p ≠ wr.heap.size := by omega
      have hne2 : p ≠ wr.heap.size + 1 := by omega
      go_upto_region 9 with fail
      go_region_law ((refine step_append_lies _ (by rfl) (.tmp 39) (.tmp 42) 37 (by rfl) w6.heap.size 38 iL _ 1 24 Tryd.underlying37 hiL hzL hsL hbL rfl (by decide) fv i xs (by rfl) (HOW.out _ _) ⟨wr.heap.size + 1, 0, none⟩ 1 1 [.slice (some ⟨wr.heap.size, 0, none⟩) N N] (by rfl) (by rfl) (World.news_of_block (cs := #[.slice (some ⟨wr.heap.size, 0, none⟩) N N]) (t := 38) (fr := (0, 0)) (Blk.drew (Blk.new' (w := wr.alloc (.cells (madeCells #[.bool false] N) 4)) (n := wr.heap.size + 1) (A := [.slice (some ⟨wr.heap.size, 0, none⟩) N N]) (c := #[.slice (some ⟨wr.heap.size, 0, none⟩) N N]) (t := 38) (by simp) rfl))) (by simp [Value.oneCell']) (by decide) B1.out B2.out (B4.out _ _) (wr.heap.size + 2) (by simp) ?_; intro g cap w5 hown hgr hg hgl; have hK := ((HMT.out.newRow HW.out).keep ((Below.refl _ _).alloc (Nat.le_refl _) (.cells #[.slice (some ⟨wr.heap.size, 0, none⟩) N N] 38))).keep (below_drawn (Below.refl _ _) 1); have hfr : Frm (fun k => k = p) w6 (w5.setCell ⟨p, 1, none⟩ (.slice (some ⟨g, 0, none⟩) (i + 1) cap)) := Frm.set (X := fun k => k = p) ((((HF.out.alloc _).alloc _).drewN 1).trans (frm_grown hgr) (fun k hk e => by have := (HMT.out.fown.lt k e).1; omega)) (Or.inl rfl) 1 _; have z1 := (hK.blk.frm (frm_grown hgr) (fun e => by have := (HMT.out.fown.lt p e).1; have := HPL.out; omega)).cell (i := 1) rfl; have z2 := (hK.blk.frm (frm_grown hgr) (fun e => by have := (HMT.out.fown.lt p e).1; have := HPL.out; omega)).free 1; have HMN := hid (MatAt.put (fv' := .slice (some ⟨g, 0, none⟩) (i + 1) cap) hK (by have := HW.out; simp; omega) (by have h := hown; simp only [if_pos]; exact h) hgr (hg.elim (fun e => Or.inl (by rw [e]; rfl)) (fun e => Or.inr ⟨g, rfl, by rw [e]; simp⟩))); have HFR := hid hfr; clear hown hgr hg hgl hK hfr))
      all_goals
        obtain ⟨wn, hwn⟩ : ∃ wn, wn = w5.setCell ⟨p, 1, none⟩ (.slice (some ⟨g, 0, none⟩) (i + 1) cap) := ⟨_, rfl⟩
        rw [← hwn] at HMN HFR ⊢
        clear hwn z1 z2
        go_wp2
        go_roundw
        case rel => exact ⟨i + 1, _, _, _, by omega, by go_num, HFR.out, hid (by have h := HMN.out; simpa using h)⟩
        case measure => simp [intOf]; omega
    obtain rfl : i = N := by omega
    obtain ⟨fg, fcap, rfl, _, _⟩ := World.ownsRow.form HMT.out.fown (by omega)
    have HB6 := hid (show w6.heap.size ≤ wr.heap.size from HF.out.size)
    clear HM0 mk1
    obtain ⟨wA, hwA⟩ : ∃ wA, wA = (wr.setCell ⟨p, 2, none⟩ (.slice (some ⟨wr.heap.size, 0, none⟩) i i)).alloc (.cells (madeCells #[.bool false] i) 4) := ⟨_, rfl⟩
    obtain ⟨eb, heb⟩ : ∃ eb, eb = wr.heap.size := ⟨_, rfl⟩
    have hMA := (HMT.out.fin (ev' := .slice (some ⟨eb, 0, none⟩) i i)).newRow (by have := HB6.out; simpa using this)
    have hFA : Frm (fun k => k = p) w6 wA := by rw [hwA]; exact (Frm.set (X := fun k => k = p) HF.out (Or.inl rfl) 2 _).alloc _
    have mkA := run_make wr 38 4 iB _ Tryd.underlying38 hiB hzB .i64 .i64 i i (by omega) (by omega) (by rw [hbB]; omega) (by omega)
    rw [hsB, show (Value.bool false).cells = #[.bool false] from rfl] at mkA
    have mk1 : (Instr.makeSlice 38 (.int .i64 (i : Int)) (.int .i64 (i : Int))).run Tryd.prog wr = .ok (.slice (some ⟨wr.heap.size, 0, none⟩) i i) (wr.alloc (.cells (madeCells #[.bool false] i) 4)) := by simpa using mkA
    clear mkA
    have HRB := hid (show ∃ rb' : Nat → Nat, ∃ M' : Nat → Nat → Bool, MatAt w6.heap.size wA p (.slice (some ⟨ag, 0, none⟩) m ac) (.slice (some ⟨fg, 0, none⟩) i fcap) (.slice (some ⟨eb, 0, none⟩) i i) i i (i + 1) xs rb' M' ∧ rb' i = eb ∧ ∀ a b, M' a b = false from ⟨_, _, by rw [hwA, ← heb]; exact hMA, by simp [heb], fun a b => by simp⟩)
    have hne1 : p ≠ wr.heap.size := by omega
    clear hMA
    have HFA := hid hFA
    have HLTE := hid (show i ≤ 31 from hN31)
    clear hFA
    go_upto_region 11 with fail
    rw [← hwA, ← heb]
    clear hwA heb mk1 hne1 q0 q1 q2 g1 g2 hpl HMT HF
    obtain ⟨rb, M0, hMA, hrb, hM0⟩ := HRB.out
    have HEB := hid hrb
    have HM0 := hid hM0
    have HMA := hid hMA
    have hN5 := HN6.out.frm HFA.out (fun e => by have := HB5.out; have := HPL.out; exact HB5P.out e)
    obtain ⟨b0, b1, b2, _, _, _⟩ := blk3v hN5
    have q2 := hMA.blk.cell (i := 2) rfl
    clear hMA hrb hM0 hN5 HRB
    refine wp_region_drawn_tail 7 (by kernel_rfl) (by kernel_rfl) ?_
    simp only [List.take_succ_cons, List.take_zero, List.drop_succ_cons, List.drop_zero]
    repeat (go_big_quiet_step (fail))
    refine wpQuiet_nil ?_
    rintro _ ⟨nq, rfl⟩
    obtain ⟨wb, hwb⟩ : ∃ wb, wb = wA.drewN nq := ⟨_, rfl⟩
    have hbb : Below wA.heap.size wA wb := by rw [hwb]; exact below_drawn (Below.refl _ _) nq
    rw [← hwb]
    have hMb := HMA.out.keep hbb
    have HFb := hid (show Frm (fun k => k = p) w6 wb from HFA.out.trans (Frm.of_below (X := fun _ => False) hbb) (fun _ _ e => e.elim))
    have hRw := hMb.row i (by omega)
    rw [HEB.out] at hRw
    have e0 := hRw.cell (rowB_get (show 0 < i by omega))
    have e1 := hRw.free 0
    have hS1 := hMb.set (j := i) (k := 0) em (by omega) (by omega)
    rw [HEB.out] at hS1
    have HS1 := hid hS1
    clear hwb hbb hMb hRw hS1 q2 b0 b1 b2
    obtain ⟨wC, hwC⟩ : ∃ wC, wC = wb.setCell ⟨eb, 0, none⟩ (.bool em) := ⟨_, rfl⟩
    have HSG := hid (show ∀ j, j < i + 1 → w6.heap.size ≤ rb j from fun j hj => HMA.out.ge j hj)
    have hFC : Frm (fun k => k = p) w6 wC := by
      rw [hwC]
      exact Frm.set (X := fun k => k = p) HFb.out (Or.inr (by have h := HSG.out i (by omega); rw [HEB.out] at h; exact h)) _ _
    rw [← hwC] at HS1
    have HFC := hid hFC
    have HSC := HS1
    have HMC := hid (show ∀ a b, (if a = i ∧ b = 0 then em else M0 a b) = (if a = 0 then decide (b ∈ FL.take 0) else if a = i then (decide (b = 0) && em) else false) from fun a b => by
      rw [HM0.out]
      by_cases h0 : a = 0
      · subst h0; rw [if_neg (by omega), if_pos rfl]; simp
      · rw [if_neg h0]
        by_cases hi : a = i
        · subst hi; by_cases hb : b = 0 <;> simp [hb]
        · rw [if_neg (by omega), if_neg hi])
    clear hFC HS1 HFb HFA HMA
    go_upto_region 12 with fail
    rw [← hwC]
    clear hwC e0 e1
    go_wp2
    go_loopw [9] (fun s9 wr => ∃ (t : Nat) (M : Nat → Nat → Bool), t ≤ FL.length ∧ s9 = .int .i64 t ∧ Hid (Frm (fun k => k = p) w6 wr) ∧ Hid (MatAt w6.heap.size wr p (.slice (some ⟨ag, 0, none⟩) m ac) (.slice (some ⟨fg, 0, none⟩) i fcap) (.slice (some ⟨eb, 0, none⟩) i i) i i (i + 1) xs rb M) ∧ Hid (∀ a b, M a b = (if a = 0 then decide (b ∈ FL.take t) else if a = i then (decide (b = 0) && em) else false))) (fun s9 _ => FL.length - (intOf s9).toNat)
    case atStart => exact ⟨0, _, by omega, rfl, HFC.out, HSC.out, HMC.out⟩
    case round =>
      clear HFC HSC HMC
      obtain ⟨t, M, ht, rfl, HF, HMT, HMv⟩ := hrel
      have q1 := HMT.out.blk.cell (i := 1) rfl
      have q2 := HMT.out.blk.cell (i := 2) rfl
      obtain ⟨b0, b1, b2, _, _, _⟩ := blk3v (HN6.out.frm HF.out HB5P.out)
      by_cases htl : t < FL.length
      case pos =>
        obtain ⟨_, hrow⟩ := (Asd.here (Asd.frm HF6.out HF.out (fun k _ e => Or.inl e) (fun _ _ e => e))).row
        obtain ⟨fb, fo, rfl, hfc⟩ := hrow.get htl
        have d0 := hfc t htl
        have hmem : FL.getD t 0 ∈ FL := by rw [show FL.getD t 0 = FL[t] by simp [List.getD, htl]]; exact List.getElem_mem _
        have hx1 : 1 ≤ FL.getD t 0 ∧ FL.getD t 0 < i := by
          have h := (Rx.mem_firstL r 1 (FL.getD t 0)).1 (by rw [← HFL.out]; exact hmem)
          have := Rx.fst_range r 1 _ h
          have := HNM.out
          have := HMM.out
          omega
        have HTK := hid (show FL.take (t + 1) = FL.take t ++ [FL.getD t 0] from by rw [List.take_add_one, List.getElem?_eq_getElem htl]; simp [List.getD, htl])
        obtain ⟨x9, hx9⟩ : ∃ x9, x9 = FL.getD t 0 := ⟨_, rfl⟩
        rw [← hx9] at d0 hx1 HTK
        unfold natv at d0
        have c0 := (own_cell HMT.out.fown (HMT.out.cel 0 (by omega))).1
        have hi0 : 0 < i := by omega
        obtain ⟨hx1, hx2⟩ := hx1
        clear hrow hfc hmem hx9
        go_upto_region 15 with fail
        refine wp_region_drawn_tail 12 (by kernel_rfl) (by kernel_rfl) ?_
        simp only [List.take_succ_cons, List.take_zero, List.drop_succ_cons, List.drop_zero]
        repeat (go_big_quiet_step (fail))
        refine wpQuiet_nil ?_
        rintro _ ⟨nq, rfl⟩
        obtain ⟨wq, hwq⟩ : ∃ wq, wq = wr.drewN nq := ⟨_, rfl⟩
        have hbq : Below wr.heap.size wr wq := by rw [hwq]; exact below_drawn (Below.refl _ _) nq
        rw [← hwq]
        have hMq := HMT.out.keep hbq
        have hRw := hMq.row 0 (by omega)
        have k0 := hRw.cell (rowB_get (show x9 < i by omega))
        have k1 := hRw.free x9
        have hS1 := hMq.set (j := 0) (k := x9) true (by omega) (by omega)
        have hFq : Frm (fun k => k = p) w6 (wq.setCell ⟨rb 0, x9, none⟩ (.bool true)) := Frm.set (X := fun k => k = p) (HF.out.trans (Frm.of_below (X := fun _ => False) hbq) (fun _ _ e => e.elim)) (Or.inr (by have h := HSG.out 0 (by omega); exact h)) _ _
        have HS1 := hid hS1
        have HFq := hid hFq
        clear hwq hbq hMq hRw hS1 hFq q1 q2 b0 b1 b2 c0
        go_wp2
        go_roundw
        case rel => exact ⟨t + 1, _, by omega, by go_num, HFq.out, HS1.out, hid (fun a b => by rw [HMv.out, HTK.out]; by_cases h0 : a = 0 <;> by_cases hb : b = x9 <;> simp [h0, hb])⟩
        case measure => simp [intOf]; omega
      obtain rfl : t = FL.length := by omega
      have HFC := hid HF.out
      have HSC := hid HMT.out
      have HMC := hid HMv.out
      clear HF HMT HMv
      go_wp2
      go_loopw [10] (fun s10 wr => ∃ (t : Nat) (M : Nat → Nat → Bool), t ≤ LL.length ∧ s10 = .int .i64 t ∧ Hid (Frm (fun k => k = p) w6 wr) ∧ Hid (MatAt w6.heap.size wr p (.slice (some ⟨ag, 0, none⟩) m ac) (.slice (some ⟨fg, 0, none⟩) i fcap) (.slice (some ⟨eb, 0, none⟩) i i) i i (i + 1) xs rb M) ∧ Hid (∀ a b, M a b = (if a = 0 then decide (b ∈ FL) else if a = i then ((decide (b = 0) && em) || decide (b ∈ LL.take t)) else false))) (fun s10 _ => LL.length - (intOf s10).toNat)
      case atStart => exact ⟨0, _, by omega, rfl, HFC.out, HSC.out, hid (fun a b => by rw [HMC.out, List.take_length]; simp)⟩
      case round =>
        clear HFC HSC HMC
        obtain ⟨t, M, ht, rfl, HF, HMT, HMv⟩ := hrel
        have q1 := HMT.out.blk.cell (i := 1) rfl
        have q2 := HMT.out.blk.cell (i := 2) rfl
        obtain ⟨b0, b1, b2, _, _, _⟩ := blk3v (HN6.out.frm HF.out HB5P.out)
        by_cases htl : t < LL.length
        case pos =>
          obtain ⟨_, hrow⟩ := (Asd.here (Asd.frm HL6.out HF.out (fun k _ e => Or.inl e) (fun _ _ e => e))).row
          obtain ⟨fb, fo, rfl, hfc⟩ := hrow.get htl
          have d0 := hfc t htl
          have hmem : LL.getD t 0 ∈ LL := by rw [show LL.getD t 0 = LL[t] by simp [List.getD, htl]]; exact List.getElem_mem _
          have hx1 : 1 ≤ LL.getD t 0 ∧ LL.getD t 0 < i := by
            have h := (Rx.mem_lastL r 1 (LL.getD t 0)).1 (by rw [← HLL.out]; exact hmem)
            have := Rx.lst_range r 1 _ h
            have := HNM.out
            have := HMM.out
            omega
          have HTK := hid (show LL.take (t + 1) = LL.take t ++ [LL.getD t 0] from by rw [List.take_add_one, List.getElem?_eq_getElem htl]; simp [List.getD, htl])
          obtain ⟨x9, hx9⟩ : ∃ x9, x9 = LL.getD t 0 := ⟨_, rfl⟩
          rw [← hx9] at d0 hx1 HTK
          unfold natv at d0
          have hi0 : 0 < i := by omega
          obtain ⟨hx1, hx2⟩ := hx1
          clear hrow hfc hmem hx9
          go_upto_region 19 with fail
          refine wp_region_drawn_tail 10 (by kernel_rfl) (by kernel_rfl) ?_
          simp only [List.take_succ_cons, List.take_zero, List.drop_succ_cons, List.drop_zero]
          repeat (go_big_quiet_step (fail))
          refine wpQuiet_nil ?_
          rintro _ ⟨nq, rfl⟩
          obtain ⟨wq, hwq⟩ : ∃ wq, wq = wr.drewN nq := ⟨_, rfl⟩
          have hbq : Below wr.heap.size wr wq := by rw [hwq]; exact below_drawn (Below.refl _ _) nq
          rw [← hwq]
          have hMq := HMT.out.keep hbq
          have hRw := hMq.row i (by omega)
          rw [HEB.out] at hRw
          have k0 := hRw.cell (rowB_get (show x9 < i by omega))
          have k1 := hRw.free x9
          have hS1 := hMq.set (j := i) (k := x9) true (by omega) (by omega)
          rw [HEB.out] at hS1
          have hFq : Frm (fun k => k = p) w6 (wq.setCell ⟨eb, x9, none⟩ (.bool true)) := Frm.set (X := fun k => k = p) (HF.out.trans (Frm.of_below (X := fun _ => False) hbq) (fun _ _ e => e.elim)) (Or.inr (by have h := HSG.out i (by omega); rw [HEB.out] at h; exact h)) _ _
          have HS1 := hid hS1
          have HFq := hid hFq
          clear hwq hbq hMq hRw hS1 hFq q1 q2 b0 b1 b2 
          go_wp2
          go_roundw
          case rel => exact ⟨t + 1, _, by omega, by go_num, HFq.out, HS1.out, hid (fun a b => by rw [HMv.out, HTK.out]; exact mtx3 (by omega))⟩
          case measure => simp [intOf]; omega
        obtain rfl : t = LL.length := by omega
        have HFC := hid HF.out
        have HSC := hid HMT.out
        have HMC := hid HMv.out
        clear HF HMT HMv
        go_wp2
        go_loopw [11] (fun s11 wr => ∃ (t : Nat) (M : Nat → Nat → Bool), t ≤ PP.length ∧ s11 = .int .i64 t ∧ Hid (Frm (fun k => k = p) w6 wr) ∧ Hid (MatAt w6.heap.size wr p (.slice (some ⟨ag, 0, none⟩) m ac) (.slice (some ⟨fg, 0, none⟩) i fcap) (.slice (some ⟨eb, 0, none⟩) i i) i i (i + 1) xs rb M) ∧ Hid (∀ a b, M a b = (if a = i then ((decide (b = 0) && em) || decide (b ∈ LL)) else ((decide (a = 0) && decide (b ∈ FL)) || decide ((a, b) ∈ PP.take t))))) (fun s11 _ => PP.length - (intOf s11).toNat)
        case atStart => exact ⟨0, _, by omega, rfl, HFC.out, HSC.out, hid (fun a b => by rw [HMC.out, List.take_length]; exact mtx4 (by omega))⟩
        case round =>
          clear HFC HSC HMC
          obtain ⟨t, M, ht, rfl, HF, HMT, HMv⟩ := hrel
          have q1 := HMT.out.blk.cell (i := 1) rfl
          have q2 := HMT.out.blk.cell (i := 2) rfl
          obtain ⟨b0, b1, b2, _, _, _⟩ := blk3v (HN6.out.frm HF.out HB5P.out)
          by_cases htl : t < PP.length
          case pos =>
            obtain ⟨lb9, ⟨cap9, hlv⟩, hlc⟩ := HPR.out t htl
            have hd := hlc wr HF.out
            obtain ⟨d0, d1⟩ := hd
            have hmem : PP.getD t (0, 0) ∈ PP := by rw [show PP.getD t (0, 0) = PP[t] by simp [List.getD, htl]]; exact List.getElem_mem _
            have hx1 : 1 ≤ (PP.getD t (0, 0)).1 ∧ (PP.getD t (0, 0)).1 < i ∧ (PP.getD t (0, 0)).2 < i := by
              have h := (Rx.mem_pairsL r 1 (PP.getD t (0, 0)).1 (PP.getD t (0, 0)).2).1 (by rw [← HPP2.out]; exact hmem)
              have := Rx.fol_range r 1 _ _ h
              have := HNM.out
              have := HMM.out
              omega
            have HTK := hid (show PP.take (t + 1) = PP.take t ++ [PP.getD t (0, 0)] from by rw [List.take_add_one, List.getElem?_eq_getElem htl]; simp [List.getD, htl])
            obtain ⟨x8, x9, hx9⟩ : ∃ x8 x9, (x8, x9) = PP.getD t (0, 0) := ⟨_, _, rfl⟩
            rw [← hx9] at d0 d1 hx1 HTK
            unfold natv at d0 d1
            simp only at d0 d1 hx1
            obtain ⟨hx1, hx2, hx3⟩ := hx1
            have c0 := (own_cell HMT.out.fown (HMT.out.cel x8 (by omega))).1
            cases hlv
            clear hlc hmem hx9
            go_upto_region 23 with fail
            refine wp_region_drawn_tail 17 (by kernel_rfl) (by kernel_rfl) ?_
            simp only [List.take_succ_cons, List.take_zero, List.drop_succ_cons, List.drop_zero]
            repeat (go_big_quiet_step (fail))
            refine wpQuiet_nil ?_
            rintro _ ⟨nq, rfl⟩
            obtain ⟨wq, hwq⟩ : ∃ wq, wq = wr.drewN nq := ⟨_, rfl⟩
            have hbq : Below wr.heap.size wr wq := by rw [hwq]; exact below_drawn (Below.refl _ _) nq
            rw [← hwq]
            have hMq := HMT.out.keep hbq
            have hRw := hMq.row x8 (by omega)
            have k0 := hRw.cell (rowB_get (show x9 < i by omega))
            have k1 := hRw.free x9
            have hS1 := hMq.set (j := x8) (k := x9) true (by omega) (by omega)
            have hFq : Frm (fun k => k = p) w6 (wq.setCell ⟨rb x8, x9, none⟩ (.bool true)) := Frm.set (X := fun k => k = p) (HF.out.trans (Frm.of_below (X := fun _ => False) hbq) (fun _ _ e => e.elim)) (Or.inr (by have h := HSG.out x8 (by omega); exact h)) _ _
            have HS1 := hid hS1
            have HFq := hid hFq
            clear hwq hbq hMq hRw hS1 hFq q1 q2 b0 b1 b2 c0
            go_wp2
            go_roundw
            case rel => exact ⟨t + 1, _, by omega, by go_num, HFq.out, HS1.out, hid (fun a b => by rw [HMv.out, HTK.out]; by_cases hi : a = i; (· rw [if_neg (by omega), if_pos hi, if_pos hi]); rw [if_neg hi, if_neg hi]; by_cases h8 : a = x8 <;> by_cases hb : b = x9 <;> simp [h8, hb])⟩
            case measure => simp [intOf]; omega
          obtain rfl : t = PP.length := by omega
          have HFC := hid HF.out
          have HSC := hid HMT.out
          have HMC := hid HMv.out
          clear HF HMT HMv
          have hMt := HMC.out
          simp only [List.take_length] at hMt
          have RF := rf_of HA6.out HLB.out HMM.out HFC.out HSC.out HNM.out HEB.out hMt HFL.out HLL.out HPP2.out HEM.out
          have RS := hid (rsteps_any RF HN30.out)
          have RF := hid RF
          have HBE := hid (show Below w.heap.size w wr from HB06.out.trans (HFC.out.below HB06.out.size (fun k hk e => by
            have := HPP.out
            have := HSZ1.out
            have := HB2.out.size
            omega)))
          clear hMt q1 q2 b0 b1 b2
          go_wp2_with fail
          refine RS.out.mono ?_
          rintro e w9 ⟨⟨v9, rfl, hS9⟩, hb9⟩
          obtain ⟨sa, sc, rfl, hs1, hs2⟩ := hS9.open
          have hcn : (stepsOf r).length = Rx.cnt r := stepsOf_len r
          rw [hcn] at hs1 ⊢
          obtain ⟨cn, hcc⟩ : ∃ cn, cn = Rx.cnt r := ⟨_, rfl⟩
          rw [← hcc] at hs1 ⊢
          have HCC := hid hcc
          have HB9 := hid (below_then HBE.out hb9)
          have HRF := hid (RF.out.keep hb9)
          clear hS9 hb9 hcn hcc
          by_cases h200 : 200 < cn
          · go_wp2
            go_ret2
            refine ⟨HB9.out, Or.inr (Or.inl ⟨HM.out, ?_, rfl⟩)⟩
            rw [← HR.out, ← HCC.out]; exact h200
          · go_wp2
            go_ret2
            refine ⟨HB9.out, Or.inr (Or.inr ⟨HM.out, ?_, p, rfl, ?_⟩)⟩
            · rw [← HR.out, ← HCC.out]; omega
            · rw [← HR.out]; exact HRF.out
end Go.Proofs.YtobcbaeoedpefaaDoor
