/- RingLess: without one triple all patterns that do not match it count the same, the others one less. -/
import Derived.Test.YtagadfgginneeaaRgLaw
import Derived.Deep.RegionHeld3
import Derived.Deep.RegionLaw
namespace Go.Proofs.Ytagadfgginneeaa
set_option linter.unusedVariables false
set_option linter.unusedSimpArgs false
set_option maxRecDepth 100000
open Go.ChangeShapes Go.WideShapes Go.ChangeAt Go.RowKit
theorem and_1023 (x : Int) : ∃ A : Nat, A ≤ 1023 ∧ bits BinOp.and IntKind.i64 x 1023 = (A : Int) := by
  refine ⟨((BitVec.ofInt 64 x) &&& 1023#64).toNat, ?_, ?_⟩
  · rw [BitVec.toNat_and]
    exact Nat.and_le_right
  · show IntKind.i64.wrap ((BitVec.ofInt 64 x &&& BitVec.ofInt 64 1023).toNat : Int) = _
    have h : ((BitVec.ofInt 64 x) &&& 1023#64).toNat ≤ 1023 := by rw [BitVec.toNat_and]; exact Nat.and_le_right
    rw [show BitVec.ofInt 64 1023 = 1023#64 from rfl]
    exact IntWalk.i64_in _ ⟨by omega, by omega⟩
theorem step_append_seg {w : World} {P : Program} {ops : Array Oper} {o : Oper} {a : Act} {K : Act → World → Prop} {Q : Exit → Act → World → Prop} {E : Prop} (hgd : o.guard = none) (s x : Operand) (t : TypeId)
    (ho : o.op = .call { callee := .builtin .append, args := #[s, x], argTypes := #[t, t] })
    (base : Nat) (e : TypeId) (i : TypeInfo) (z : Value) (size bytes : Nat) (ht : P.underlying t = some (.slice e)) (hi : P.info? e = some i) (hz : i.zero = some z)
    (hsize : i.size = size) (hby : i.bytes = bytes) (hzs : z.cells.size = size) (hsz : 0 < size)
    (v : Value) (n : Nat) (xs : List Value) (hs : a.eval s = v) (hown : w.ownsRow base e size v n xs)
    (ad : Addr) (m c : Nat) (us : List Value) (hm : us.length = m * size) (hx : a.eval x = .slice (some ad) m c) (hc : ∀ j u, us[j]? = some u → w.cell? (ad.add j) = some u) (h1 : ∀ u ∈ us, u.oneCell' = true)
    (h63 : n + m ≤ maxLen) (hbytes : (n + m) * bytes ≤ 140737488355328) (hbase : base ≤ w.heap.size)
    (h : ∀ v' w', w'.ownsRow base e size v' (n + m) (xs ++ us) → w.grownBy w' v.ownBlock → Moved w v v' → K (a.put o.dst v') w') :
    if Region.wanted o (yielded ops a.tmps) = true then Oper.wp P o a w K Q else E := by
  have hwd : Region.wanted o (yielded ops a.tmps) = true := by simp [Region.wanted, hgd]
  rw [if_pos hwd]
  obtain ⟨v', w', hr, h2, h3, h4⟩ := run_append_blk (P := P) (w := w) base t o.type e i z size bytes ht hi hz hsize hby hzs hsz v n xs hown ad m c us hm hc h1 h63 hbytes hbase
  have hk := h v' w' h2 h3 h4
  unfold Oper.wp execOp
  simp only [ho, resolve, invoke, builtin, Sem.run_bind, Sem.run_pure, Result.andThen_ok, List.map_toArray, List.map_cons, List.map_nil, hs, hx, hr]
  exact hk
theorem fl_append (A : List Rg.T) : ∀ (n : Nat) (B : List Rg.T), B.length = n → fl (A ++ B) = fl A ++ fl B := by
  intro n
  induction n with
  | zero =>
    intro B hB
    have : B = [] := List.eq_nil_of_length_eq_zero hB
    subst this
    simp [fl_nil]
  | succ n ih =>
    intro B hB
    have hne : B ≠ [] := by intro e; subst e; simp at hB
    have e := List.dropLast_concat_getLast hne
    have hd : B.dropLast.length = n := by rw [List.length_dropLast]; omega
    rw [← e, ← List.append_assoc, fl_snoc, ih _ hd, fl_snoc, List.append_assoc]
theorem news_take {W : World} {b off : Nat} {l : List Rg.T} (hx : ∀ i (h : i < l.length) c, c < 3 → W.cell? ⟨b, off + i * 3 + c, none⟩ = some (.int .i64 (Rg.at' l[i] c))) (k : Nat) : ∀ j u, (fl (l.take k))[j]? = some u → W.cell? ((⟨b, off, none⟩ : Addr).add j) = some u := by
  intro j u hu
  obtain ⟨h1, rfl⟩ := fl_get hu
  have h2 : j / 3 < l.length := by rw [List.length_take] at h1; omega
  rw [add_cell rfl]
  have := hx (j / 3) h2 (j % 3) (Nat.mod_lt _ (by decide))
  rw [show off + j / 3 * 3 + j % 3 = off + j by omega] at this
  rw [this, List.getElem_take]
theorem news_drop {W : World} {b off : Nat} {l : List Rg.T} (hx : ∀ i (h : i < l.length) c, c < 3 → W.cell? ⟨b, off + i * 3 + c, none⟩ = some (.int .i64 (Rg.at' l[i] c))) (s : Nat) : ∀ j u, (fl (l.drop s))[j]? = some u → W.cell? ((⟨b, off + s * 3, none⟩ : Addr).add j) = some u := by
  intro j u hu
  obtain ⟨h1, rfl⟩ := fl_get hu
  have h2 : s + j / 3 < l.length := by rw [List.length_drop] at h1; omega
  rw [add_cell rfl]
  have := hx (s + j / 3) h2 (j % 3) (Nat.mod_lt _ (by decide))
  rw [show off + (s + j / 3) * 3 + j % 3 = off + s * 3 + j by omega] at this
  show W.cell? ⟨b, off + s * 3 + j, none⟩ = _
  rw [this, List.getElem_drop]
theorem without (l : List Rg.T) (k : Nat) (hk : k < l.length) : l = l.take k ++ l[k] :: l.drop (k + 1) := by
  rw [← List.drop_eq_getElem_cons hk, List.take_append_drop]
theorem less_may {l : List Rg.T} (h : RMay l) (k : Nat) : RMay (l.take k ++ l.drop (k + 1)) := by
  have hs : (l.take k ++ l.drop (k + 1)).Sublist l := by
    rw [← List.eraseIdx_eq_take_drop_succ]
    exact List.eraseIdx_sublist _ _
  exact ⟨h.1.sublist hs, fun t ht => h.2.1 t (hs.subset ht), Nat.le_trans hs.length_le h.2.2⟩
theorem less_count (l : List Rg.T) (P : Rg.T → Bool) (k : Nat) (hk : k < l.length) : l.countP P = (l.take k ++ l.drop (k + 1)).countP P + (if P l[k] then 1 else 0) := by
  conv => lhs; rw [without l k hk]
  rw [List.countP_append, List.countP_cons, List.countP_append]
  omega
theorem ringLess_out (v0 : Value) (l : List Rg.T) (at0 : Int) (t : Rg.T) (W : World) (h : IdsAt W v0 l) (hl : l.length ≤ 140737488351232) (ho : l.length < 1 ∨ 60 < l.length ∨ ¬ RMay l) :
    Calls Try.prog 8 #[v0, .int .i64 at0, tv t] W fun e W' => e = .returned (.bool true) ∧ Below W.heap.size W W' := by
  obtain ⟨a, cap, rfl, p1, p2, p3⟩ := h.open
  have MY := hid fun w (hb : Below W.heap.size W w) => rmay_any _ l w (h.keep hb) hl
  clear h
  by_cases h0 : l.length < 1
  · clear ho
    unfold tv
    go_enter Try.func8, Try.ntmps8
    go_upto_region 1 with fail
    obtain ⟨w1, hw1, HX, HB, HD, hz⟩ := ids_box W t
    rw [← hw1]
    clear hw1 HD hz
    go_wp2
    go_ret
    exact ⟨rfl, HB.out⟩
  · by_cases hbig : 60 < l.length
    · clear ho
      unfold tv
      go_enter Try.func8, Try.ntmps8
      go_upto_region 1 with fail
      obtain ⟨w1, hw1, HX, HB, HD, hz⟩ := ids_box W t
      rw [← hw1]
      clear hw1 HD hz
      go_wp2
      go_ret
      exact ⟨rfl, HB.out⟩
    · have hm : ¬ RMay l := by
        rcases ho with h | h | h
        · exact absurd h h0
        · exact absurd h hbig
        · exact h
      rw [mayB_no hm] at MY
      clear ho hm
      unfold tv
      go_enter Try.func8, Try.ntmps8
      go_upto_region 1 with fail
      obtain ⟨w1, hw1, HX, HB, HD, hz⟩ := ids_box W t
      rw [← hw1]
      clear hw1 HD hz
      have MY1 := MY.out w1 HB.out
      go_wp2_with (go_at_call 12; refine MY1.mono ?_; rintro e w2 ⟨rfl, hb2⟩)
      go_ret
      exact ⟨rfl, below_then HB.out hb2⟩
set_option maxHeartbeats 4000000 in
theorem ringLess_yes (v0 : Value) (l : List Rg.T) (at0 : Int) (t : Rg.T) (W : World) (h : IdsAt W v0 l) (ht : Fits t) (hm : RMay l) (h60 : ¬ 60 < l.length) (h1 : ¬ l.length < 1) :
    Calls Try.prog 8 #[v0, .int .i64 at0, tv t] W fun e W' => e = .returned (.bool true) ∧ Below W.heap.size W W' := by
  obtain ⟨i0, hi, hz0, hz1, hz2⟩ := info_parts Try.rainfo24
  obtain ⟨a, cap, hv0, p1, p2, p3⟩ := h.open
  have hl := hm.2.2
  have hl140 : l.length ≤ 140737488351232 := by omega
  have HI := hid h
  have HM := hid hm
  have HT := hid ht
  have MY := hid fun w (h : Below W.heap.size W w) => rmay_any v0 l w (HI.out.keep h) hl140
  rw [(mayB_iff l).2 hm] at MY
  have NW := hid fun w (h : Below W.heap.size W w) => rgnew_ok v0 l w (HI.out.keep h) hm
  have CN := hid fun L p w (h : IsRing w p L) => count_any p L t w h HT.out.low
  subst hv0
  obtain ⟨A, hA, hand⟩ := and_1023 at0
  obtain ⟨k, hk⟩ : ∃ k, k = A % l.length := ⟨_, rfl⟩
  have hkn : k < l.length := by rw [hk]; exact Nat.mod_lt _ (by omega)
  have hkI : Int.tmod (A : Int) (l.length : Int) = (k : Int) := by rw [Int.tmod_eq_emod_of_nonneg (by omega), hk, Int.natCast_emod]
  have hkI2 : (A : Int) % ((l.length : Nat) : Int) = (k : Int) := by rw [← hkI, Int.tmod_eq_emod_of_nonneg (by omega)]
  have hnz : (((l.length : Nat) : Int) == 0) = false := beq_eq_false_iff_ne.2 (by omega)
  clear h hm ht hk
  unfold tv at *
  go_enter Try.func8, Try.ntmps8
  go_upto_region 1 with fail
  obtain ⟨w1, hw1, HX, HB, HD, hz⟩ := ids_box W t
  rw [← hw1]
  clear hw1 HD hz
  have MY1 := MY.out w1 HB.out
  go_upto_region 3 with (go_at_call 12; refine MY1.mono ?_; rintro e w2 ⟨rfl, hb2⟩)
  have HB2 := hid (below_then HB.out hb2)
  have HX2 := hid (HX.out.keep hb2)
  clear MY1 hb2 MY
  go_upto_region 4 with fail
  obtain ⟨b, off, rfl, hx⟩ := (HI.out.keep HB2.out).get (i := k) hkn
  have HHX := hid hx
  have hkI3 : (k : Int) < l.length := by omega
  have e1 : (0 : Int) ≤ (k : Int) := by omega
  have e2 : (k : Int) ≤ (l.length : Int) := by omega
  have e3 : (l.length : Int) ≤ (cap : Int) := by omega
  have e4 : (k : Int) ≤ (cap : Int) := by omega
  have e5 : (0 : Int) ≤ (k : Int) + 1 := by omega
  have e6 : (k : Int) + 1 ≤ (l.length : Int) := by omega
  have e7 : (k : Int) + 1 ≤ (cap : Int) := by omega
  have e8 : IntKind.i64.wrap ((k : Int) + 1) = (k : Int) + 1 := IntWalk.i64_in _ (by omega)
  have LTK := hid (show (fl (l.take k)).length = k * 3 by rw [fl_length, List.length_take]; congr 1; omega)
  have LDR := hid (show (fl (l.drop (k + 1))).length = (l.length - (k + 1)) * 3 by rw [fl_length, List.length_drop])
  have HBA := hid (show Below w2.heap.size w2 (w2.drew.alloc (.cells #[] 24)) from (below_drawn (Below.refl _ _) 1).alloc (Nat.le_refl _) _)
  have HXA := hid (fun i (h : i < l.length) c (hc : c < 3) => below_keep HBA.out (HHX.out i h c hc))
  clear hx
  by_cases hcap : cap = k + 1
  · have HNN := hid (show l.length = k + 1 by omega)
    have hif : (if cap = k + 1 then (some ⟨b, off, none⟩ : Option Addr) else some ⟨b, off + (k + 1) * 3, none⟩) = some ⟨b, off, none⟩ := if_pos hcap
    have HCAP := hid hcap
    clear hcap
    go_region_held3 (fun w' => True) (trivial) (first
      | (refine step_append_seg (by rfl) (.tmp 32) (.tmp 35) 22 (by rfl) w2.heap.size 24 i0 _ 3 24 Try.underlying22 hi hz0 hz1 hz2 rfl (by decide) (.slice (some ⟨w2.heap.size, 0, none⟩) 0 0) 0 [] (by rfl) (World.ownsRow_made w2.drew #[] 0 (Nat.le_refl _) (Nat.zero_le _) (by simp)) ⟨b, off, none⟩ k cap (fl (l.take k)) LTK.out (by rfl) (news_take HXA.out k) (fl_one _) (by unfold maxLen; omega) (by omega) (by simp) ?_
         intro v3 w3 g1 g2 g3
         have HB3 := hid ((HBA.out).grown g2 (by simp) (fun q hq => by cases hq; exact Nat.le_refl _))
         have HX3 := hid (fun i (h : i < l.length) c (hc : c < 3) => below_keep HB3.out (HHX.out i h c hc))
         have G1 := hid g1
         clear g1 g2 g3)
      | (refine step_append_seg (by rfl) (.tmp 36) (.tmp 40) 22 (by rfl) w2.heap.size 24 i0 _ 3 24 Try.underlying22 hi hz0 hz1 hz2 rfl (by decide) v3 _ _ (by rfl) G1.out ⟨b, off, none⟩ (l.length - (k + 1)) (cap - (k + 1)) (fl (l.drop (k + 1))) LDR.out (by rfl) (fun j u hu => by rw [List.drop_of_length_le (by have := HNN.out; omega), fl_nil] at hu; simp at hu) (fl_one _) (by unfold maxLen; omega) (by omega) HB3.out.size ?_
         intro v5 w5 g1 g2 g3
         have HB5 := hid (HB3.out.grown g2 HB3.out.size (fun q hq => (G1.out.lt q hq).1))
         have G5 := hid g1
         clear g1 g2 g3))
    have hown := G5.out
    rw [List.nil_append, ← fl_append _ _ _ rfl] at hown
    have HNI := hid (newIds_own hown (by rw [List.length_append, List.length_take, List.length_drop]; omega)).at
    have HB5w := hid (below_then HB2.out HB5.out)
    have hcnt := less_count l (Rg.mt t) k hkn
    obtain ⟨M, hM⟩ : ∃ M, M = l.take k ++ l.drop (k + 1) := ⟨_, rfl⟩
    rw [← hM] at hcnt HNI
    have HMM := hid (show RMay M by rw [hM]; exact less_may HM.out k)
    obtain ⟨x, hx⟩ : ∃ x, x = l[k] := ⟨_, rfl⟩
    rw [← hx] at hcnt
    have HXX := hid hx
    have HX5 := hid (HX2.out.keep HB5.out)
    have NW5 := NW.out w5 HB5w.out
    have hc1 : l.countP (Rg.mt t) ≤ l.length := List.countP_le_length
    clear hown hM hx G5 G1 HB3 HX3 HXA HBA e1 e2 e3 e4 e5 e6 e7 e8 hif
    go_upto_region 6 with (go_at_call 11; refine NW5.mono ?_; rintro e w6 ⟨p, rfl, hb6, hF6⟩)
    have NM6 := rgnew_ok v5 M w6 (HNI.out.keep hb6) HMM.out
    have HB6 := hid (below_then HB5w.out hb6)
    have HX6 := hid (HX5.out.keep hb6)
    have HR6 := hid hF6.it
    clear NW5 hb6 hF6
    go_upto_region 9 with (go_at_call 11; refine NM6.mono ?_; rintro e w7 ⟨p2, rfl, hb7, hF7⟩)
    have HB7 := hid (below_then HB6.out hb7)
    have HX7 := hid (HX6.out.keep hb7)
    have HR7 := hid (HR6.out.keep hb7)
    have HS7 := hid hF7.it
    clear NM6 hb7 hF7
    obtain ⟨t0, t1, t2⟩ := ids_cells HX7.out
    obtain ⟨bb, oo, hbo, hxx⟩ := ids_get (HI.out.keep HB7.out) hkn
    cases hbo
    have cx := hxx k hkn
    rw [← HXX.out] at cx
    have g0 := fun q : Later w7.heap.size w7 => q.keep cx.1
    have g1 := fun q : Later w7.heap.size w7 => q.keep cx.2.1
    have g2 := fun q : Later w7.heap.size w7 => q.keep cx.2.2
    have g3 := fun q : Later w7.heap.size w7 => q.keep t0
    have g4 := fun q : Later w7.heap.size w7 => q.keep t1
    have g5 := fun q : Later w7.heap.size w7 => q.keep t2
    have MM := hid fun q : Later w7.heap.size w7 => rmatch_any t x q.it
    unfold tv at MM
    have hkI3 : (k : Int) < l.length := by omega
    clear cx hxx t0 t1 t2
    obtain ⟨r, hr⟩ : ∃ r, r = Rg.mt t x := ⟨_, rfl⟩
    rw [← hr] at MM hcnt
    clear hr
    obtain ⟨cl, hcl⟩ : ∃ c, c = l.countP (Rg.mt t) := ⟨_, rfl⟩
    obtain ⟨cm, hcm⟩ : ∃ c, c = M.countP (Rg.mt t) := ⟨_, rfl⟩
    rw [← hcl, ← hcm] at hcnt
    rw [← hcl] at hc1
    have hcm1 : cm ≤ 100 := by rw [hcm]; exact Nat.le_trans List.countP_le_length HMM.out.2.2
    have HCL := hid hcl
    have HCM := hid hcm
    clear hcl hcm
    go_upto_region 10 with fail
    refine wp_region_later w7.heap.size (by kernel_rfl) (by kernel_rfl) ?_
    repeat (go_big_quiet_step ((go_at_call 21; with_reducible exact Later.call (Nat.le_refl _) (MM.out _))))
    refine wpQuiet_nil ?_
    rintro w8 ⟨q, hq8⟩
    have hb8 : Below w7.heap.size w7 w8 := by rw [hq8]; exact q.low
    have HB8 := hid (below_then HB7.out hb8)
    have HX8 := hid (HX7.out.keep hb8)
    have HR8 := hid (HR7.out.keep hb8)
    have HS8 := hid (HS7.out.keep hb8)
    clear hq8 q hb8 g0 g1 g2 g3 g4 g5 MM
    obtain ⟨t0, t1, t2⟩ := ids_cells HX8.out
    have g3 := fun q : Later w8.heap.size w8 => q.keep t0
    have g4 := fun q : Later w8.heap.size w8 => q.keep t1
    have g5 := fun q : Later w8.heap.size w8 => q.keep t2
    have C1 := hid fun q : Later w8.heap.size w8 => CN.out l p q.it (HR8.out.keep q.low)
    have C2 := hid fun q : Later w8.heap.size w8 => CN.out M p2 q.it (HS8.out.keep q.low)
    have KK := hid fun q : Later w8.heap.size w8 => known_any q.it
    rw [← HCL.out] at C1
    rw [← HCM.out] at C2
    clear t0 t1 t2
    cases r
    · have hce : (cl : Int) = (cm : Int) := by simp at hcnt; omega
      rw [hce] at C1
      clear hcnt hce
      go_upto_region 12 with fail
      refine wp_region_later w8.heap.size (by kernel_rfl) (by kernel_rfl) ?_
      repeat (go_big_quiet_step (first | (go_at_call 16; with_reducible exact Later.call (Nat.le_refl _) (C1.out _)) | (go_at_call 16; with_reducible exact Later.call (Nat.le_refl _) (C2.out _)) | (go_at_call 13; with_reducible exact Later.call (Nat.le_refl _) (KK.out _))))
      refine wpQuiet_nil ?_
      rintro _ ⟨q, rfl⟩
      go_wp2
      go_ret
      exact ⟨rfl, below_then HB8.out q.low⟩
    · have hce : (cl : Int) = (cm : Int) + 1 := by simp at hcnt; omega
      rw [hce] at C1
      clear hcnt hce
      go_upto_region 12 with fail
      refine wp_region_later w8.heap.size (by kernel_rfl) (by kernel_rfl) ?_
      repeat (go_big_quiet_step (first | (go_at_call 16; with_reducible exact Later.call (Nat.le_refl _) (C1.out _)) | (go_at_call 16; with_reducible exact Later.call (Nat.le_refl _) (C2.out _)) | (go_at_call 13; with_reducible exact Later.call (Nat.le_refl _) (KK.out _))))
      refine wpQuiet_nil ?_
      rintro _ ⟨q, rfl⟩
      go_wp2
      go_ret
      exact ⟨rfl, below_then HB8.out q.low⟩
  · have hif : (if cap = k + 1 then (some ⟨b, off, none⟩ : Option Addr) else some ⟨b, off + (k + 1) * 3, none⟩) = some ⟨b, off + (k + 1) * 3, none⟩ := if_neg hcap
    have HCAP := hid hcap
    clear hcap
    go_region_held3 (fun w' => True) (trivial) (first
      | (refine step_append_seg (by rfl) (.tmp 32) (.tmp 35) 22 (by rfl) w2.heap.size 24 i0 _ 3 24 Try.underlying22 hi hz0 hz1 hz2 rfl (by decide) (.slice (some ⟨w2.heap.size, 0, none⟩) 0 0) 0 [] (by rfl) (World.ownsRow_made w2.drew #[] 0 (Nat.le_refl _) (Nat.zero_le _) (by simp)) ⟨b, off, none⟩ k cap (fl (l.take k)) LTK.out (by rfl) (news_take HXA.out k) (fl_one _) (by unfold maxLen; omega) (by omega) (by simp) ?_
         intro v3 w3 g1 g2 g3
         have HB3 := hid ((HBA.out).grown g2 (by simp) (fun q hq => by cases hq; exact Nat.le_refl _))
         have HX3 := hid (fun i (h : i < l.length) c (hc : c < 3) => below_keep HB3.out (HHX.out i h c hc))
         have G1 := hid g1
         clear g1 g2 g3)
      | (refine step_append_seg (by rfl) (.tmp 36) (.tmp 40) 22 (by rfl) w2.heap.size 24 i0 _ 3 24 Try.underlying22 hi hz0 hz1 hz2 rfl (by decide) v3 _ _ (by rfl) G1.out ⟨b, off + (k + 1) * 3, none⟩ (l.length - (k + 1)) (cap - (k + 1)) (fl (l.drop (k + 1))) LDR.out (by rfl) (news_drop HX3.out (k + 1)) (fl_one _) (by unfold maxLen; omega) (by omega) HB3.out.size ?_
         intro v5 w5 g1 g2 g3
         have HB5 := hid (HB3.out.grown g2 HB3.out.size (fun q hq => (G1.out.lt q hq).1))
         have G5 := hid g1
         clear g1 g2 g3))
    have hown := G5.out
    rw [List.nil_append, ← fl_append _ _ _ rfl] at hown
    have HNI := hid (newIds_own hown (by rw [List.length_append, List.length_take, List.length_drop]; omega)).at
    have HB5w := hid (below_then HB2.out HB5.out)
    have hcnt := less_count l (Rg.mt t) k hkn
    obtain ⟨M, hM⟩ : ∃ M, M = l.take k ++ l.drop (k + 1) := ⟨_, rfl⟩
    rw [← hM] at hcnt HNI
    have HMM := hid (show RMay M by rw [hM]; exact less_may HM.out k)
    obtain ⟨x, hx⟩ : ∃ x, x = l[k] := ⟨_, rfl⟩
    rw [← hx] at hcnt
    have HXX := hid hx
    have HX5 := hid (HX2.out.keep HB5.out)
    have NW5 := NW.out w5 HB5w.out
    have hc1 : l.countP (Rg.mt t) ≤ l.length := List.countP_le_length
    clear hown hM hx G5 G1 HB3 HX3 HXA HBA e1 e2 e3 e4 e5 e6 e7 e8 hif
    go_upto_region 6 with (go_at_call 11; refine NW5.mono ?_; rintro e w6 ⟨p, rfl, hb6, hF6⟩)
    have NM6 := rgnew_ok v5 M w6 (HNI.out.keep hb6) HMM.out
    have HB6 := hid (below_then HB5w.out hb6)
    have HX6 := hid (HX5.out.keep hb6)
    have HR6 := hid hF6.it
    clear NW5 hb6 hF6
    go_upto_region 9 with (go_at_call 11; refine NM6.mono ?_; rintro e w7 ⟨p2, rfl, hb7, hF7⟩)
    have HB7 := hid (below_then HB6.out hb7)
    have HX7 := hid (HX6.out.keep hb7)
    have HR7 := hid (HR6.out.keep hb7)
    have HS7 := hid hF7.it
    clear NM6 hb7 hF7
    obtain ⟨t0, t1, t2⟩ := ids_cells HX7.out
    obtain ⟨bb, oo, hbo, hxx⟩ := ids_get (HI.out.keep HB7.out) hkn
    cases hbo
    have cx := hxx k hkn
    rw [← HXX.out] at cx
    have g0 := fun q : Later w7.heap.size w7 => q.keep cx.1
    have g1 := fun q : Later w7.heap.size w7 => q.keep cx.2.1
    have g2 := fun q : Later w7.heap.size w7 => q.keep cx.2.2
    have g3 := fun q : Later w7.heap.size w7 => q.keep t0
    have g4 := fun q : Later w7.heap.size w7 => q.keep t1
    have g5 := fun q : Later w7.heap.size w7 => q.keep t2
    have MM := hid fun q : Later w7.heap.size w7 => rmatch_any t x q.it
    unfold tv at MM
    have hkI3 : (k : Int) < l.length := by omega
    clear cx hxx t0 t1 t2
    obtain ⟨r, hr⟩ : ∃ r, r = Rg.mt t x := ⟨_, rfl⟩
    rw [← hr] at MM hcnt
    clear hr
    obtain ⟨cl, hcl⟩ : ∃ c, c = l.countP (Rg.mt t) := ⟨_, rfl⟩
    obtain ⟨cm, hcm⟩ : ∃ c, c = M.countP (Rg.mt t) := ⟨_, rfl⟩
    rw [← hcl, ← hcm] at hcnt
    rw [← hcl] at hc1
    have hcm1 : cm ≤ 100 := by rw [hcm]; exact Nat.le_trans List.countP_le_length HMM.out.2.2
    have HCL := hid hcl
    have HCM := hid hcm
    clear hcl hcm
    go_upto_region 10 with fail
    refine wp_region_later w7.heap.size (by kernel_rfl) (by kernel_rfl) ?_
    repeat (go_big_quiet_step ((go_at_call 21; with_reducible exact Later.call (Nat.le_refl _) (MM.out _))))
    refine wpQuiet_nil ?_
    rintro w8 ⟨q, hq8⟩
    have hb8 : Below w7.heap.size w7 w8 := by rw [hq8]; exact q.low
    have HB8 := hid (below_then HB7.out hb8)
    have HX8 := hid (HX7.out.keep hb8)
    have HR8 := hid (HR7.out.keep hb8)
    have HS8 := hid (HS7.out.keep hb8)
    clear hq8 q hb8 g0 g1 g2 g3 g4 g5 MM
    obtain ⟨t0, t1, t2⟩ := ids_cells HX8.out
    have g3 := fun q : Later w8.heap.size w8 => q.keep t0
    have g4 := fun q : Later w8.heap.size w8 => q.keep t1
    have g5 := fun q : Later w8.heap.size w8 => q.keep t2
    have C1 := hid fun q : Later w8.heap.size w8 => CN.out l p q.it (HR8.out.keep q.low)
    have C2 := hid fun q : Later w8.heap.size w8 => CN.out M p2 q.it (HS8.out.keep q.low)
    have KK := hid fun q : Later w8.heap.size w8 => known_any q.it
    rw [← HCL.out] at C1
    rw [← HCM.out] at C2
    clear t0 t1 t2
    cases r
    · have hce : (cl : Int) = (cm : Int) := by simp at hcnt; omega
      rw [hce] at C1
      clear hcnt hce
      go_upto_region 12 with fail
      refine wp_region_later w8.heap.size (by kernel_rfl) (by kernel_rfl) ?_
      repeat (go_big_quiet_step (first | (go_at_call 16; with_reducible exact Later.call (Nat.le_refl _) (C1.out _)) | (go_at_call 16; with_reducible exact Later.call (Nat.le_refl _) (C2.out _)) | (go_at_call 13; with_reducible exact Later.call (Nat.le_refl _) (KK.out _))))
      refine wpQuiet_nil ?_
      rintro _ ⟨q, rfl⟩
      go_wp2
      go_ret
      exact ⟨rfl, below_then HB8.out q.low⟩
    · have hce : (cl : Int) = (cm : Int) + 1 := by simp at hcnt; omega
      rw [hce] at C1
      clear hcnt hce
      go_upto_region 12 with fail
      refine wp_region_later w8.heap.size (by kernel_rfl) (by kernel_rfl) ?_
      repeat (go_big_quiet_step (first | (go_at_call 16; with_reducible exact Later.call (Nat.le_refl _) (C1.out _)) | (go_at_call 16; with_reducible exact Later.call (Nat.le_refl _) (C2.out _)) | (go_at_call 13; with_reducible exact Later.call (Nat.le_refl _) (KK.out _))))
      refine wpQuiet_nil ?_
      rintro _ ⟨q, rfl⟩
      go_wp2
      go_ret
      exact ⟨rfl, below_then HB8.out q.low⟩
theorem ringLess_in (l : List Rg.T) (v0 : Value) (at0 : Int) (t : Rg.T) (W : World) (h : IdsAt W v0 l) (ht : Fits t) (hl : l.length ≤ 140737488351232) :
    Calls Try.prog 8 #[v0, .int .i64 at0, tv t] W fun e W' => e = .returned (.bool true) ∧ Below W.heap.size W W' := by
  by_cases h0 : l.length < 1
  · exact ringLess_out v0 l at0 t W h hl (Or.inl h0)
  · by_cases h1 : 60 < l.length
    · exact ringLess_out v0 l at0 t W h hl (Or.inr (Or.inl h1))
    · by_cases h2 : RMay l
      · exact ringLess_yes v0 l at0 t W h ht h2 h1 h0
      · exact ringLess_out v0 l at0 t W h hl (Or.inr (Or.inr h2))

theorem ringLess_walk (H : Type) (enc : TypeId × Value → H) (W : World) (base : Nat) (args : Array Value) (ds gs : List (DataW H)) (before : List MemPlace)
    (hval : ∀ (j : Nat) t v, Try.f8.params[j]? = some t → args[j]? = some v → Value.okWide Try.prog W .any base t v)
    (hW : DataW.Whole enc Try.prog Try.f8.params.toList Rows.ringLessSpec.vars false W args.toList ds gs before)
    (hz : (DataW.weightsEach Try.prog (Try.f8.params.toList ++ Rows.ringLessSpec.plain.varTypes Try.prog) (ds ++ gs)).all (· ≤ reachBytes) = true)
    (hL : laidMetH Try.prog Rows.ringLessRow.laid W) (hsh : W.ShapedOpen Try.prog) :
    Calls Try.prog 8 args W fun e W' => e = .returned (.bool true) ∧ Below W.heap.size W W' := by
  obtain ⟨p, q, hA, _, _, _, _⟩ := hW
  rw [Try.params8] at hA hval
  rw [Try.params8] at hz
  obtain ⟨v0, vs0, d0, ds0, p0, q0, hargs, rfl, rfl, h0, r0⟩ := trodAll_cons hA
  obtain ⟨v1, vs1, d1, ds1, p1, q1, rfl, rfl, rfl, h1, r1⟩ := trodAll_cons r0
  obtain ⟨v2, vs2, d2, ds2, p2, q2, rfl, rfl, rfl, h2, r2⟩ := trodAll_cons r1
  obtain ⟨rfl, rfl, rfl⟩ := trodAll_nil r2
  obtain rfl : args = #[v0, v1, v2] := by cases args; simp_all
  obtain ⟨l0, L0, b0, z0⟩ := arg_ids (hval 0 22 v0 rfl rfl) h0 (sized_arg hz (j := 0) (t := 22) (d := d0) rfl rfl)
  obtain ⟨x1, rfl, rfl, rfl, w1⟩ := open_int Try.underlying3 (hval 1 3 v1 rfl rfl) h1
  have b1 := bounds_i64 w1
  obtain ⟨t2, rfl, b2⟩ := arg_id h2
  exact ringLess_in l0 v0 x1 t2 W L0 b2 z0

theorem ringLess_lifted (os : Os) (started : os.Started) (H : Type) (enc : TypeId × Value → H) (F : Stop.Interp) :
    ReturnsInHanded {} Try.checked os 8 .any ((OpenSpec.ofChange Rows.ringLessSpec).preRow enc Try.prog Try.f8 Rows.ringLessRow.domain false Rows.ringLessRow.laid) (((OpenSpec.ofChange Rows.ringLessSpec).at F).post enc Try.prog Try.f8 false true false false) := by
  obtain ⟨places, hx⟩ : ∃ places, DataW.whole enc Try.prog ((World.holding Try.prog os ⟨#[], #[], []⟩).forCall (fun _ _ => 0) ⟨#[], #[.slice none 0 0, .int .i64 0, .agg #[.int .i64 0, .int .i64 0, .int .i64 0]], []⟩).memory Try.f8.params.toList Rows.ringLessSpec.vars false (#[.slice none 0 0, .int .i64 0, .agg #[.int .i64 0, .int .i64 0, .int .i64 0]] : Array Value).toList 8 = some ([.nil, .lit (.int .i64 0), .agg [.lit (.int .i64 0), .lit (.int .i64 0), .lit (.int .i64 0)]], [], places) := ⟨[], by kernel_rfl⟩
  refine returnsInHanded_of_row (C := Try.checked) (s := OpenSpec.ofChange Rows.ringLessSpec) own started (by kernel_rfl) Try.func8
    (witness_row_at (enc := enc) (C := Try.checked) false (World.holding Try.prog os ⟨#[], #[], []⟩) #[.slice none 0 0, .int .i64 0, .agg #[.int .i64 0, .int .i64 0, .int .i64 0]] rfl (by kernel_rfl) (by kernel_rfl) (by kernel_rfl)
      (OpenSpec.preRow_of_cond 8 hx (by kernel_rfl) (fun k hk => by cases hk) (by kernel_rfl) (laidMet_nil _ _))) ?_
  intro W base args ds gs before hval hW _ _ hz hL hsh _
  refine (ringLess_walk H enc W base args ds gs before hval hW hz hL hsh).mono fun e W' ⟨he, hb⟩ => ⟨_, he, ?_⟩
  exact law_post (fn := Try.f8) (s := Rows.ringLessSpec) (tb := 4) rfl (fun ds hd => by match ds, hd with | [d0, d1, d2], _ => rfl) rfl Try.underlying4 (by kernel_rfl) hW hb

theorem ringLess_said : Rows.RingLessSaid :=
  OpenClaim.holds_of_cond 8 Try.f8 rfl rfl rfl rfl rfl rfl rfl ⟨rfl, rfl, rfl, rfl, rfl⟩ rfl rfl rfl rfl rfl (by kernel_rfl) Try.func8 (by kernel_rfl)
    (of_decide_eq_true (by kernel_rfl)) (by unfold Func.isWrapper; first | (rw [if_pos (by decide +kernel)]; kernel_rfl) | (rw [if_neg (by decide +kernel)]; exact ⟨rfl, rfl⟩))
    (fun os started H enc _ F => by rw [OpenClaim.pre_eq_preRow]; exact ringLess_lifted os started H enc F)
end Go.Proofs.Ytagadfgginneeaa
