/- store's termsOf: all terms that stand in a triple, each once, rising. -/
import Derived.Test.YtjaebndajhppgaaGreatDoorSoComp
import Derived.Test.YtjaebndajhppgaaGreatDoorGSort
namespace Go.Proofs.YtjaebndajhppgaaGreatDoor
set_option linter.unusedVariables false
set_option linter.unusedSimpArgs false
set_option maxRecDepth 100000
open Go.ChangeShapes Go.WideShapes Go.ChangeAt Go.RowKit Go.Sort
def zz3 : List Value := [.int .i64 0, str [], str []]
theorem info_term : ∃ i, Tryz.prog.info? 61 = some i ∧ i.zero = some (.agg zz3.toArray) ∧ i.size = 3 ∧ i.bytes = 40 := by
  have h : (Tryz.prog.info? 61).map (fun i => (i.zero, i.size, i.bytes)) = some (some (.agg zz3.toArray), 3, 40) := by kernel_rfl
  obtain ⟨i, hi, h⟩ := Option.map_eq_some_iff.1 h
  simp only [Prod.mk.injEq] at h
  exact ⟨i, hi, h.1, h.2.1, h.2.2⟩
/-- Terms' cells, one behind the other. -/
def rowT (E : List T3) : List Value := E.flatMap tm3
theorem rowT_app (E F : List T3) : rowT (E ++ F) = rowT E ++ rowT F := by simp [rowT]
theorem rowT_len : ∀ (E : List T3), (rowT E).length = E.length * 3
  | [] => rfl
  | a :: E => by
    have := rowT_len E
    show (tm3 a ++ rowT E).length = _
    rw [List.length_append, this, List.length_cons]; show 3 + _ = _; omega
theorem rowT_get : ∀ (E : List T3) (i c : Nat) (hi : i < E.length), c < 3 → (rowT E)[i * 3 + c]? = (tm3 E[i])[c]?
  | [], i, c, hi, _ => by simp at hi
  | p :: E, 0, c, hi, hc => by
    show (tm3 p ++ rowT E)[0 * 3 + c]? = _
    rw [List.getElem?_append_left (by show _ < 3; omega), Nat.zero_mul, Nat.zero_add]; rfl
  | p :: E, i + 1, c, hi, hc => by
    show (tm3 p ++ rowT E)[(i + 1) * 3 + c]? = _
    rw [List.getElem?_append_right (by show 3 ≤ _; omega), show (i + 1) * 3 + c - (tm3 p).length = i * 3 + c by show _ - 3 = _; omega]
    exact rowT_get E i c (by simpa using hi) hc
theorem rowT_tri (p : TR) : rowT [p.1, p.2.1, p.2.2] = (ofT p).cells := rfl
theorem flat_step {L : List TR} {i : Nat} (hi : i < L.length) : So.flat (L.take (i + 1)) = So.flat (L.take i) ++ [L[i].1, L[i].2.1, L[i].2.2] := by
  rw [List.take_succ_eq_append_getElem hi, So.flat_snoc]
/-- Terms that may be, as such. -/
def asV (E : List T3) (h : ∀ a ∈ E, So.isT a) : Array VT := (E.pmap (fun a ha => (⟨a, ha⟩ : VT)) h).toArray
theorem asV_size (E : List T3) (h : ∀ a ∈ E, So.isT a) : (asV E h).size = E.length := by simp [asV]
theorem asV_val (E : List T3) (h : ∀ a ∈ E, So.isT a) : (asV E h).toList.map (·.1) = E := by
  unfold asV
  simp only [List.map_pmap]
  rw [List.pmap_eq_map]; exact List.map_id _
theorem asV_get (E : List T3) (h : ∀ a ∈ E, So.isT a) {i : Nat} (hi : i < E.length) : ((asV E h)[i]!).1 = E[i] := by
  rw [getElem!_pos _ i (by rw [asV_size]; exact hi)]
  unfold asV
  simp
theorem holdsV_own {W : World} {base g cap : Nat} {E : List T3} (hE : ∀ a ∈ E, So.isT a) (h : W.ownsRow base 61 3 (.slice (some ⟨g, 0, none⟩) E.length cap) E.length (rowT E)) : HoldsK encV 3 W g 0 (asV E hE) := by
  intro j hj
  have hj' : j < E.length * 3 := by simpa [asV_size] using hj
  rw [Nat.zero_add]
  refine ⟨?_, h.frozenAt j⟩
  have h2 := get_flatK encV 3 (asV E hE) j (by simpa [asV_size] using hj')
  have hi : j / 3 < E.length := by omega
  have hg := rowT_get E (j / 3) (j % 3) hi (Nat.mod_lt _ (by decide))
  rw [show j / 3 * 3 + j % 3 = j by omega, tm3_get _ _ (Nat.mod_lt _ (by decide))] at hg
  rw [h.cellAt j hj', hg]
  have e : (encV (asV E hE)[j / 3]!) = tm3 E[j / 3] := by unfold encV; rw [asV_get E hE hi]
  rw [e] at h2
  exact congrArg some h2.symm
theorem holdsV_row {W : World} {g : Nat} {d : Array VT} (h : HoldsK encV 3 W g 0 d) : RowT W g (d.toList.map (·.1)) := by
  intro i hi c hc
  have hi' : i < d.size := by simpa using hi
  have := HoldsK.cell h (i := i) (c := c) hi' hc
  rw [Nat.zero_add] at this
  refine ⟨?_, this.2⟩
  rw [this.1, tm3_get _ c hc]
  unfold encV
  rw [getElem!_pos d i hi']
  simp
theorem sort_noneT (a : Option Addr) (cap : Nat) (w : World) : Calls Tryz.prog 127 #[.slice a 0 cap, .func (.func 128) #[] #[]] w fun e w' => e = .returned (.tuple #[]) ∧ w' = w := by
  have h := AnyF.slices_SortFunc_none Tryz.sortTerms a cap (.func (.func 128) #[] #[]) w
  change Calls Tryz.prog 127 _ _ _ at h
  exact h
theorem comp_none (a : Option Addr) (cap : Nat) (w : World) : Calls Tryz.prog 129 #[.slice a 0 cap] w fun e w' => e = .returned (.slice a 0 cap) ∧ w' = w := by
  go_enter Tryz.func129, Tryz.ntmps129
  go_wp2
  go_ret
  exact ⟨rfl, rfl⟩
theorem news_blk (W : World) (A : List Value) (t : TypeId) : ∀ ad, some (⟨W.heap.size, 0, none⟩ : Addr) = some ad → ∀ j u, A[j]? = some u → (W.alloc (.cells A.toArray t)).cell? (ad.add j) = some u := by
  intro ad had j u hu
  cases had
  rw [add_cell rfl, Nat.zero_add, cell_new, ← Array.getElem?_toList]
  exact hu
theorem rowT_one (E : List T3) : ∀ u ∈ rowT E, u.oneCell' = true := by
  intro u hu
  obtain ⟨a, _, h⟩ := List.mem_flatMap.1 hu
  exact tm3_one a u h
set_option maxHeartbeats 4000000 in
theorem termsOf_any (L : List TR) (hl : ∀ t ∈ L, Tm.isTri t = true) (hn : L.length ≤ 1000) (w : World) (v : Value) (hv : TrisAt w v (L.map ofT)) :
    Calls Tryz.prog 85 #[v] w fun e w' => ∃ v', e = .returned v' ∧ TermsAt w' v' (So.terms L) ∧ Below w.heap.size w w' := by
  obtain ⟨a, cap, rfl, hc1, hc2, hc3⟩ := hv.open
  have HV := hid hv
  have HL := hid hl
  rw [List.length_map] at HV ⊢
  obtain ⟨n, hn0⟩ : ∃ n, n = L.length := ⟨_, rfl⟩
  rw [← hn0] at HV hn ⊢
  have HN := hid hn0
  have HB0 := hid (Below.refl w.heap.size w)
  clear hv hl hc1 hc2 hc3 hn0
  go_enter Tryz.func85, Tryz.ntmps85
  go_wp2
  go_loopg [3, 8] n (fun gk s3 s8 wr => ∃ (i : Nat), s8 = .int .i64 i ∧ i ≤ n ∧ n - i ≤ gk ∧ Hid (Below w.heap.size w wr) ∧ Hid (wr.ownsRow w.heap.size 61 3 s3 (3 * i) (rowT (So.flat (L.take i)))))
  case atStart => exact ⟨0, rfl, Nat.zero_le _, Nat.le_refl _, HB0, World.ownsRow_nil _ _ _ _⟩
  case round =>
    obtain ⟨i, rfl, hin, hg, HB, HR⟩ := hrel
    by_cases hlt : i < n
    · have hltz : (i : Int) < (n : Int) := by omega
      have hiL : i < L.length := by rw [← HN.out]; exact hlt
      have HVr := hid (HV.out.keep HB.out)
      obtain ⟨bl, off, rfl, hrow⟩ := HVr.out.get (i := i) (by rw [List.length_map]; exact hiL)
      have HRW := hid (hrow i (by rw [List.length_map]; exact hiL))
      rw [List.getElem_map] at HRW
      have HST := hid (flat_step hiL)
      obtain ⟨t, ht⟩ : ∃ t, t = L[i] := ⟨_, rfl⟩
      rw [← ht] at HRW HST
      obtain ⟨⟨n1, t1, x1⟩, ⟨n2, t2, x2⟩, n3, t3, x3⟩ := t
      clear ht hrow
      have c0 := HRW.out 0 (by omega)
      have c1 := HRW.out 1 (by omega)
      have c2 := HRW.out 2 (by omega)
      have c3 := HRW.out 3 (by omega)
      have c4 := HRW.out 4 (by omega)
      have c5 := HRW.out 5 (by omega)
      have c6 := HRW.out 6 (by omega)
      have c7 := HRW.out 7 (by omega)
      have c8 := HRW.out 8 (by omega)
      simp only [ofT, Tri.cells, List.getElem?_cons_zero, List.getElem?_cons_succ, Nat.add_zero] at c0 c1 c2 c3 c4 c5 c6 c7 c8
      have HB4 := hid (show Below w.heap.size w (new9 wr n1 t1 x1 n2 t2 x2 n3 t3 x3) from HB.out.alloc HB.out.size _)
      have HR4 := hid (show (new9 wr n1 t1 x1 n2 t2 x2 n3 t3 x3).ownsRow w.heap.size 61 3 u3 (3 * i) (rowT (So.flat (L.take i))) from HR.out.alloc _)
      have HU4 := hid (new9_new wr n1 t1 x1 n2 t2 x2 n3 t3 x3)
      have hz4 := HB4.out.size
      go_upto_region 5 with fail
      show Code.wp _ _ _ _ (new9 wr n1 t1 x1 n2 t2 x2 n3 t3 x3)
      obtain ⟨w4, hw4⟩ : ∃ w4, w4 = new9 wr n1 t1 x1 n2 t2 x2 n3 t3 x3 := ⟨_, rfl⟩
      rw [← hw4] at HB4 HR4 HU4 hz4 ⊢
      clear hw4 c0 c1 c2 c3 c4 c5 c6 c7 c8
      have c0 := HU4.out.cell (i := 0) rfl
      have c1 := HU4.out.cell (i := 1) rfl
      have c2 := HU4.out.cell (i := 2) rfl
      have c3 := HU4.out.cell (i := 3) rfl
      have c4 := HU4.out.cell (i := 4) rfl
      have c5 := HU4.out.cell (i := 5) rfl
      have c6 := HU4.out.cell (i := 6) rfl
      have c7 := HU4.out.cell (i := 7) rfl
      have c8 := HU4.out.cell (i := 8) rfl
      obtain ⟨iS, hi0, hzS, hszS, hbyS⟩ := info_term
      go_wp2_with (at_builtin; refine wpList_append_blk rfl (.tmp 12) (.tmp 19) 62 rfl w.heap.size 61 iS _ 3 40 Tryz.underlying62 hi0 hzS hszS hbyS rfl (by decide) _ _ _ rfl (HR4.out.alloc _) (some ⟨w4.heap.size, 0, none⟩) 3 3 (rowT [(n1, t1, x1), (n2, t2, x2), (n3, t3, x3)]) rfl (fun h => by cases h) rfl (news_blk w4 (rowT [(n1, t1, x1), (n2, t2, x2), (n3, t3, x3)]) 61) (rowT_one _) (by unfold maxLen; omega) (by omega) (by simp; omega) ?_)
      intro v8 w8 g1 g2 g3
      have HB8 := hid ((HB4.out.alloc hz4 _).grown g2 (by simp; omega) (fun k hk => (HR4.out.lt k hk).1))
      have HR8 := hid (show w8.ownsRow w.heap.size 61 3 v8 (3 * (i + 1)) (rowT (So.flat (L.take (i + 1)))) by rw [HST.out, rowT_app]; exact g1)
      clear g1 g2 g3
      go_wp2
      go_roundg (n - (i + 1))
      case measure => omega
      case rel => exact ⟨i + 1, by go_num, by omega, by omega, HB8, HR8⟩
    · obtain rfl : i = n := by omega
      have HE := hid (So.flat_is HL.out)
      have HR2 := hid (show wr.ownsRow w.heap.size 61 3 u3 (So.flat L).length (rowT (So.flat L)) by
        have h := HR.out
        rw [HN.out, List.take_length] at h
        rw [So.flat_len]; exact h)
      have HLN := hid (show (So.flat L).length ≤ 3000 by rw [So.flat_len, ← HN.out]; omega)
      clear HR
      by_cases h0 : i = 0
      · have hL0 : L = [] := List.eq_nil_of_length_eq_zero (by rw [← HN.out]; exact h0)
        subst hL0
        obtain ⟨ac, cc, rfl, hcc⟩ : ∃ ac cc, u3 = .slice ac 0 cc ∧ cc ≤ maxLen ∧ (ac = none → cc = 0) := by
          rcases HR2.out.2 with ⟨e, _⟩ | ⟨g, cp, cur, e, _, _, _, hm, _⟩
          · exact ⟨none, 0, e, by unfold maxLen; omega, fun _ => rfl⟩
          · exact ⟨_, cp, e, hm, fun h => by cases h⟩
        have HCC := hid hcc
        clear hcc h0
        go_wp2_with (go_at_call 127; refine (sort_noneT ac cc wr).mono ?_; rintro e w2 ⟨rfl, rfl⟩)
        go_wp2_with (go_at_call 129; refine (comp_none ac cc _).mono ?_; rintro e w3 ⟨rfl, rfl⟩)
        go_ret
        exact ⟨_, rfl, ⟨ac, cc, rfl, Nat.zero_le _, HCC.out.1, HCC.out.2, Or.inl rfl⟩, HB.out⟩
      · obtain ⟨g, cc, rfl, hg, hgl, hcc, hcm⟩ : ∃ g cc, u3 = .slice (some ⟨g, 0, none⟩) (So.flat L).length cc ∧ w.heap.size ≤ g ∧ g < wr.heap.size ∧ (So.flat L).length ≤ cc ∧ cc ≤ maxLen := by
          have hlt2 := HR2.out.lt
          rcases HR2.out.2 with ⟨_, e⟩ | ⟨g, cp, cur, e, hb, _, h1, hm, _⟩
          · exfalso; have := So.flat_len L; have := HN.out; omega
          · subst e
            exact ⟨g, cp, rfl, hb, (hlt2 g rfl).2, h1, hm⟩
        have HH := hid (holdsV_own HE.out HR2.out)
        have hsz := asV_size (So.flat L) HE.out
        have hpv := asV_val (So.flat L) HE.out
        obtain ⟨d, hd⟩ : ∃ d, d = asV (So.flat L) HE.out := ⟨_, rfl⟩
        rw [← hd] at HH hsz hpv
        clear hd
        have SO := hid (sort_terms g cc d wr (by have := HLN.out; omega) HH.out hgl)
        rw [hsz] at SO
        have HS1 := hid (And.intro hsz hpv)
        have HG := hid (And.intro hg (And.intro hgl (And.intro hcc hcm)))
        obtain ⟨m, hm⟩ : ∃ m, m = (So.flat L).length := ⟨_, rfl⟩
        rw [← hm] at SO ⊢
        have HM := hid hm
        clear hsz hpv hg hgl hcc hcm hm h0
        go_wp2_with (go_at_call 127; refine SO.out.mono ?_; rintro e w2 ⟨rfl, d2, e1, e2, e3, e4, e5⟩)
        have HR3 := hid (holdsV_row e4)
        have HP := hid (show (d2.toList.map (·.1)).Perm (So.flat L) from by
          have := e2.map (·.1)
          rw [HS1.out.2] at this; exact this)
        have HE3 := hid e3
        have HO := hid e5
        have hln := HP.out.length_eq
        obtain ⟨E, hE⟩ : ∃ E, E = d2.toList.map (·.1) := ⟨_, rfl⟩
        rw [← hE] at HR3 HP HE3 hln
        clear hE e1 e2 e3 e4 e5
        have CO := hid (compact_any g cc E w2 HR3.out (by rw [hln]; exact HG.out.2.2.1) HG.out.2.2.2 (by rw [hln]; have := HLN.out; omega))
        rw [hln, ← HM.out] at CO
        have hall := So.cp_all So.ordT HE3.out HE.out HP.out
        rw [hln, ← HM.out] at hall
        rw [hall] at CO
        clear hall hln
        go_wp2_with (go_at_call 129; refine CO.out.mono ?_; rintro e w3 ⟨rfl, k1, k2⟩)
        have HT := hid k1
        have HO2 := hid k2
        clear k1 k2
        go_ret
        refine ⟨_, rfl, HT.out, ?_⟩
        have hb1 := Off.below HB.out HO.out HG.out.1 HB.out.size
        exact Off.below hb1 HO2.out HG.out.1 hb1.size
end Go.Proofs.YtjaebndajhppgaaGreatDoor
