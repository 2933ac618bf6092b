/- The column ahead, in the order that a column begins. -/
import Derived.Test.YtagadfgginneeaaRgSort
namespace Go.Proofs.Ytagadfgginneeaa
set_option linter.unusedVariables false
set_option linter.unusedSimpArgs false
set_option maxRecDepth 100000
open Go.ChangeShapes Go.WideShapes Go.ChangeAt Go.RowKit Go.Sort
theorem Try.rginfo24 : (Try.prog.info? 24).map (fun i => (i.zero, i.size, i.bytes)) = some (some (.agg #[.int .i64 0, .int .i64 0, .int .i64 0]), 3, 24) := by kernel_rfl
/-- A row of the call's own: nothing, or a block from w's end on. -/
def OwnIds (w W : World) (a : Option Addr) (l : List Rg.T) : Prop := l.length = 0 ∨ ∃ g, a = some ⟨g, 0, none⟩ ∧ w.heap.size ≤ g ∧ g < W.heap.size ∧ HoldsK tl 3 W g 0 l.toArray
theorem clone_any (v0 : Value) (l : List Rg.T) (w : World) (h : IdsAt w v0 l) (hl : l.length ≤ 100) :
    Calls Try.prog 41 #[v0] w fun e w' => ∃ a cap, e = .returned (.slice a l.length cap) ∧ l.length ≤ cap ∧ cap ≤ maxLen ∧ (a = none → cap = 0) ∧ OwnIds w w' a l ∧ Below w.heap.size w w' := by
  obtain ⟨i0, hi, hz0, hz1, hz2⟩ := info_parts Try.rginfo24
  have hx := h
  obtain ⟨a, cap, rfl, h2, h3, h4, h5⟩ := hx
  cases a with
  | none =>
    have hcap := h4 rfl
    have h0 : l.length = 0 := by omega
    have := AnyE.slices_Clone_nil Try.cloneIDs l.length cap w
    change Calls Try.prog 41 _ _ _ at this
    refine this.mono ?_
    rintro e w' ⟨rfl, rfl⟩
    exact ⟨none, 0, by rw [h0], by omega, by unfold maxLen; omega, fun _ => rfl, Or.inl h0, Below.refl _ _⟩
  | some ad =>
    rcases h5 with h5 | ⟨b, off, e, h5⟩
    · have h0 : l = [] := List.eq_nil_of_length_eq_zero h5
      subst h0
      have he := fun W => Go.Lib.run_eql_slice_nil (P := Try.prog) W 22 24 (some ad) 0 cap 0 0 Try.underlying22
      simp only [List.length_nil] at *
      clear h h2 h5 hl
      go_enter Try.func41, Try.ntmps41
      go_wp2_with (at_builtin; refine wpList_append_own _ rfl _ _ 22 rfl w.heap.size 24 i0 _ 3 24 Try.underlying22 hi hz0 hz1 hz2 rfl (by decide) _ _ _ rfl (World.ownsRow_made w #[] 0 (Nat.le_refl _) (Nat.zero_le _) (by simp)) ad 0 cap [] rfl ?qc1 ?qc2 ?qc3 ?qc4 ?qc5 ?qc6 ?_)
      case qc1 => rfl
      case qc2 => intro j u hj; simp at hj
      case qc3 => intro u hu; cases hu
      case qc4 => unfold maxLen; omega
      case qc5 => omega
      case qc6 => simp
      intro v' w1 hown hgrow hnil
      have hb : Below w.heap.size w w1 := ((Below.refl _ w).alloc (Nat.le_refl _) _).grown hgrow (by simp) (by intro k hk; simp [Value.ownBlock] at hk; omega)
      obtain ⟨a, cp, rfl, k1, k2⟩ : ∃ a cp, v' = .slice a 0 cp ∧ 0 ≤ cp ∧ (cp ≤ maxLen ∧ (a = none → cp = 0)) := by
        rcases hown.2 with ⟨rfl, _⟩ | ⟨g, cp, cur, rfl, hg, hh, hcp, hcm, _⟩
        · exact ⟨none, 0, rfl, Nat.le_refl _, by unfold maxLen; omega, fun _ => rfl⟩
        · exact ⟨_, cp, rfl, hcp, hcm, fun h => by cases h⟩
      have HH := hid (And.intro k1 k2)
      clear hown hgrow hnil k1 k2
      have HB := hid hb
      clear hb
      go_wp2
      go_ret
      exact ⟨a, cp, rfl, HH.out.1, HH.out.2.1, HH.out.2.2, Or.inl rfl, HB.out⟩
    · cases e
      have hc : ∀ j u, (fl l)[j]? = some u → w.cell? ⟨b, off + j, none⟩ = some u := fun j u hu => by
        obtain ⟨h1, e⟩ := fl_get hu
        rw [e]
        have := h5 (j / 3) h1 (j % 3) (Nat.mod_lt _ (by decide))
        rwa [show off + j / 3 * 3 + j % 3 = off + j by omega] at this
      have := AnyE.slices_Clone Try.cloneIDs i0 _ 3 24 hi hz0 hz1 hz2 rfl (by decide) Try.sizeOf24 b off l.length cap (fl l) w (fl_length l) (by unfold maxLen; omega) (by omega) hc (fl_one l)
      change Calls Try.prog 41 _ _ _ at this
      refine this.mono ?_
      rintro e w' ⟨v', rfl, hO, hne, hb⟩
      have hOO := hO
      rcases hO.2 with ⟨rfl, _⟩ | ⟨g, cp, cur, rfl, hg, hh, hcp, hcm, _⟩
      · exact absurd rfl hne
      · exact ⟨_, cp, rfl, hcp, hcm, (fun h => by cases h), Or.inr ⟨g, rfl, hg, (hO.lt g rfl).2, holds_own hOO⟩, hb⟩
theorem sort_col (c bc cap : Nat) (a : Option Addr) (l : List Rg.T) (w0 w : World) (hc : c < 3) (hl : l.length ≤ 100) (hm : l.length ≤ cap) (hm2 : cap ≤ maxLen) (ha : a = none → cap = 0) (hO : OwnIds w0 w a l) (hb : w.cell? ⟨bc, 0, none⟩ = some (.int .i64 c)) (hbc : bc < w0.heap.size) :
    Calls Try.prog 30 #[.slice a l.length cap, .func (.func 42) #[] #[.pointer (some ⟨bc, 0, none⟩)]] w fun e w' => e = .returned (.tuple #[]) ∧ IdsAt w' (.slice a l.length cap) (Rg.O l c) ∧ (∀ v1, Below w0.heap.size v1 w → w0.heap.size ≤ w.heap.size → Below w0.heap.size v1 w') := by
  rcases hO with h0 | ⟨g, rfl, hg, hgl, hH⟩
  · have h1 : l = [] := List.eq_nil_of_length_eq_zero h0
    subst h1
    refine (sort_none _ _ _ _ _).mono ?_
    rintro e w' ⟨rfl, rfl⟩
    have hO0 : Rg.O [] c = [] := List.eq_nil_of_length_eq_zero (Rg.O_length [] c)
    rw [hO0]
    exact ⟨rfl, ⟨a, cap, rfl, hm, hm2, ha, Or.inl rfl⟩, fun _ h _ => h⟩
  · refine (sort_any c 42 hc _ g cap l w (enters_of Try.func42 (by kernel_rfl) rfl) hl (cmpLays_col c bc g l.toArray.size hc w hb (by omega)) hH hgl hm hm2).mono ?_
    rintro e w' ⟨rfl, h1, h2, h3⟩
    exact ⟨rfl, h1, fun v1 h hw => h2 _ v1 h hg hw⟩
/-- The numbers told so far. -/
def ncells (R : List Nat) (i n : Nat) : List Value := (List.range n).map fun t => .int .i64 ((if t < i then R.getD t 0 else 0 : Nat) : Int)
theorem ncells_get (R : List Nat) (i n t : Nat) (h : t < n) : (ncells R i n)[t]? = some (.int .i64 ((if t < i then R.getD t 0 else 0 : Nat) : Int)) := by
  unfold ncells; rw [List.getElem?_map, List.getElem?_range h]; rfl
theorem ncells_zero (R : List Nat) (n : Nat) : (madeCells #[.int .i64 0] n).toList = ncells R 0 n := by
  apply List.ext_getElem?
  intro t
  simp only [madeCells, Array.toList_map, Array.toList_range, List.getElem?_map, ncells]
  by_cases ht : t < n
  · rw [List.getElem?_range ht]; simp [Nat.mod_one]
  · have e : (List.range n)[t]? = none := by simp; omega
    rw [e]; simp
theorem ncells_set (R : List Nat) (i n : Nat) (h : i < n) : (ncells R i n).set i (.int .i64 (R.getD i 0 : Nat)) = ncells R (i + 1) n := by
  apply List.ext_getElem?
  intro t
  rw [List.getElem?_set]
  have hl : (ncells R i n).length = n := by simp [ncells]
  by_cases ht : t < n
  · rw [ncells_get _ _ _ _ ht, ncells_get _ _ _ _ ht, hl]
    split
    · rename_i h1; subst h1; simp [h]
    · rename_i h1
      congr 3
      have : (t < i) = (t < i + 1) := by rw [eq_iff_iff]; omega
      simp only [this]
  · have e : ∀ i, (ncells R i n)[t]? = none := fun i => by simp [ncells]; omega
    rw [e, e, if_neg (by omega)]
theorem ncells_nats {w : World} {b n : Nat} {R : List Nat} {t : TypeId} (h : Blk w b (ncells R n n) t) (hn : n = R.length) : NatsAt w (some ⟨b, 0, none⟩) R := by
  refine Or.inr ⟨b, 0, rfl, fun i hi => ?_⟩
  rw [Nat.zero_add, h.cell (ncells_get R n n i (by omega)), if_pos (by omega)]
theorem A_get (l : List Rg.T) (c i : Nat) (h : i < (Rg.O l c).length) : ((Rg.A l c).getD i 0 : Nat) = (Rg.at' (Rg.O l c)[i] (Rg.pv c)).toNat := by
  unfold Rg.A
  rw [List.getD, List.getElem?_map, List.getElem?_eq_getElem h]; rfl
theorem one_int (w : World) (c : Int) : ∃ w1, w1 = w.alloc (.cells #[.int .i64 c] 3) ∧ Hid (w1.cell? ⟨w.heap.size, 0, none⟩ = some (.int .i64 c)) ∧ Hid (Below w.heap.size w w1) ∧ w1.heap.size = w.heap.size + 1 :=
  ⟨_, rfl, by show World.cell? _ _ = _; simp [go_sem], (Below.refl _ _).alloc (Nat.le_refl _) _, by simp⟩
set_option maxHeartbeats 1000000 in
theorem colA_any (v0 : Value) (c : Nat) (l : List Rg.T) (w : World) (h : IdsAt w v0 l) (hl : l.length ≤ 100) (hok : ∀ t ∈ l, Rg.Ok t) (hc : c < 3) :
    Calls Try.prog 25 #[v0, .int .i64 c] w fun e w' => ∃ a cap, e = .returned (.slice a l.length cap) ∧ NatsAt w' a (Rg.A l c) ∧ Below w.heap.size w w' := by
  obtain ⟨i0, hi, hz0, hz1, hz2⟩ := info_parts Try.wdinfo3
  obtain ⟨a0, cap0, hv0, q1, q2, q3⟩ := h.open
  have mk1 : ∀ W : World, (Instr.makeSlice 55 (.int .i64 ((l.length : Nat) : Int)) (.int .i64 ((l.length : Nat) : Int))).run Try.prog W = _ := fun W => run_make W 55 3 i0 _ Try.underlying55 hi hz0 .i64 .i64 l.length l.length (by omega) (by omega) (by rw [hz2]; omega) (by omega)
  have HI := hid h
  have HOK := hid fun t (ht : t ∈ Rg.O l c) => hok t ((Rg.O_perm l c).mem_iff.1 ht)
  have AH := hid fun W => ahead_any c hc W
  have HOL := hid (Rg.O_length l c)
  have HAL := hid (Rg.A_length l c)
  subst hv0
  clear h hok
  go_enter Try.func25, Try.ntmps25
  go_upto_region 1 with fail
  obtain ⟨w1, hw1, b0, HB, hz⟩ := one_int w c
  rw [← hw1]
  clear hw1
  have CL := clone_any _ l w1 (HI.out.keep HB.out) hl
  go_upto_region 2 with (go_at_call 41; refine CL.mono ?_; rintro e w2 ⟨a1, cap1, rfl, k1, k2, k3, hO2, hb2⟩)
  have hbc := below_keep hb2 b0.out
  have SC := sort_col c w.heap.size cap1 a1 l w1 w2 hc hl k1 k2 k3 hO2 hbc (by omega)
  have HB2 := hid hb2
  have hzz := hb2.size
  clear CL hO2 hb2 k3
  go_upto_region 3 with (go_at_call 30; refine SC.mono ?_; rintro e w3 ⟨rfl, hI3, hB3⟩)
  have HI3 := hid hI3
  have HB3 := hid (hB3 w1 HB2.out hzz)
  have d0 := HB3.out.cell (p := ⟨w.heap.size, 0, none⟩) (by show w.heap.size < w1.heap.size; omega)
  rw [b0.out] at d0
  have B0 := hid d0
  have HB4 := hid (below_then HB.out HB3.out)
  clear SC hI3 hB3 hbc d0
  go_wp2
  obtain ⟨n, hn⟩ : ∃ n, n = l.length := ⟨_, rfl⟩
  rw [← hn] at HI3 hl ⊢
  have HN := hid hn
  clear hn k1 q1 mk1
  go_loopw [19] (fun s19 wr => ∃ i : Nat, i ≤ n ∧ s19 = .int .i64 i ∧ Hid (Below w3.heap.size w3 wr) ∧ Hid (Blk wr w3.heap.size (ncells (Rg.A l c) i n) 3)) (fun s19 _ => n - (intOf s19).toNat)
  case atStart => exact ⟨0, by omega, rfl, (Below.refl _ _).alloc (Nat.le_refl _) _, Blk.new' rfl (ncells_zero _ n)⟩
  case round =>
    obtain ⟨i, hin, rfl, HI, BO⟩ := hrel
    by_cases hlt : i < n
    · obtain ⟨b, off, rfl, hx⟩ := (HI3.out.keep HI.out).get (i := i) (by rw [HOL.out, ← HN.out]; exact hlt)
      have hio : i < (Rg.O l c).length := by rw [HOL.out, ← HN.out]; exact hlt
      obtain ⟨t, ht⟩ : ∃ t, t = (Rg.O l c)[i] := ⟨_, rfl⟩
      have x0 := hx i hio 0 (by omega)
      have x1 := hx i hio 1 (by omega)
      have x2 := hx i hio 2 (by omega)
      rw [← ht] at x0 x1 x2
      have hpv := Rg.pv_lt c
      have hAg := A_get l c i hio
      rw [← ht] at hAg
      have hOK := HOK.out t (by rw [ht]; exact List.getElem_mem _) (Rg.pv c) hpv
      have hAi : (((Rg.A l c).getD i 0 : Nat) : Int) = Rg.at' t (Rg.pv c) := by omega
      have B1 := below_keep HI.out B0.out
      have hset := ncells_set (Rg.A l c) i n hlt
      rw [hAi] at hset
      have HSET := hid hset
      have e0 : off + i * 3 + 0 = off + i * 3 := by omega
      rw [e0] at x0
      have a0 : Rg.at' t 0 = t.1 := rfl
      have a1 : Rg.at' t 1 = t.2.1 := rfl
      have a2 : Rg.at' t 2 = t.2.2 := rfl
      rw [a0] at x0
      rw [a1] at x1
      rw [a2] at x2
      have hltI : (i : Int) < n := by omega
      have hw3 := HI.out.size
      clear hx ht hAg hAi hset e0 a0 a1 a2
      go_upto_region 7 with fail
      obtain ⟨w4, hw4, HT, HB5⟩ := new3 wr (.int .i64 t.1) (.int .i64 t.2.1) (.int .i64 t.2.2) 24
      rw [← hw4]
      have HT2 := hid (show Blk w4 wr.heap.size (tl t) 24 from HT.out)
      have y0 := HT2.out.cell (tl_get t (Rg.pv c) hpv)
      have B2 := below_keep HB5.out B1
      have BO2 := hid (BO.out.keep HB5.out)
      have f1 := BO2.out.free i
      have c1 := BO2.out.cell (ncells_get (Rg.A l c) i n i hlt)
      have HI2 := hid (below_then HI.out HB5.out)
      clear hw4 HT B1 BO HI x0 x1 x2
      go_wp2_with (go_at_call 31; refine (AH.out _).mono ?_; rintro e w' ⟨rfl, hww⟩; have hw2 := hww.symm; subst hw2)
      go_roundw
      case rel =>
        refine ⟨i + 1, by omega, by go_num, HI2.out.setCell (Nat.le_refl _) _, ?_⟩
        have := BO2.out.set i (.int .i64 (Rg.at' t (Rg.pv c)))
        rw [HSET.out] at this
        exact this
      case measure => simp [intOf]; omega
    · obtain rfl : i = n := by omega
      go_wp2
      go_ret
      refine ⟨some ⟨w3.heap.size, 0, none⟩, i, by rw [← HN.out]; rfl, ncells_nats BO.out (by rw [HAL.out]; exact HN.out), below_then HB4.out HI.out⟩
end Go.Proofs.Ytagadfgginneeaa
