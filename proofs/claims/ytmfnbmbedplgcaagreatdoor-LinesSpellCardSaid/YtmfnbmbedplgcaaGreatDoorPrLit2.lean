/- The program's reader of a line: a literal, all cases. -/
import Derived.Test.YtmfnbmbedplgcaaGreatDoorPrLit
namespace Go.Proofs.YtmfnbmbedplgcaaGreatDoor
set_option linter.unusedVariables false
set_option linter.unusedSimpArgs false
set_option maxRecDepth 100000
open Go.ChangeShapes Go.WideShapes Go.ChangeAt Go.RowKit
theorem lowerB_all : ∀ k : Fin 256, Lib.lowerB (UInt8.ofNat k.val) = Tm.lower (UInt8.ofNat k.val) := by decide
theorem lowerB_eq (b : UInt8) : Lib.lowerB b = Tm.lower b := by
  have h := lowerB_all ⟨b.toNat, b.toNat_lt⟩
  simpa using h
theorem alnumD_low {c : UInt8} (h : Tm.alnumD c = true) : c.toNat < 128 := by
  unfold Tm.alnumD Tm.alnum Tm.small Tm.digit at h
  simp only [Bool.or_eq_true, Bool.and_eq_true, decide_eq_true_eq, beq_iff_eq] at h
  rcases h with h | h
  · omega
  · rw [h]; decide
theorem tolower_any (n : List UInt8) (w : World) (hn : n.length ≤ 1000000000) (h : ∀ c ∈ n, Tm.alnumD c = true) : Calls Tryz.prog 92 #[str n] w fun e w' => e = .returned (str (n.map Tm.lower)) ∧ Below w.heap.size w w' := by
  have := Tryz.strings_ToLower_ascii ⟨n.toArray⟩ w (by simp [ByteArray.size]; omega) (fun j b hb => alnumD_low (h b (List.mem_of_getElem? (by simpa using hb))))
  have e : Lib.toLowerA (⟨n.toArray⟩ : ByteArray).data.toList = n.map Tm.lower := by
    unfold Lib.toLowerA
    exact List.map_congr_left fun c _ => lowerB_eq c
  rw [e] at this
  exact this
theorem take_head {v : List UInt8} {c : UInt8} (h : v.headD 0 = c) (hc : c ≠ 0) : v.take 1 = [c] := by
  cases v with
  | nil => exact absurd h.symm hc
  | cons d u => simp only [List.headD_cons] at h; rw [h]; rfl
theorem take_nohead {v : List UInt8} {c : UInt8} (h : v.headD 0 ≠ c) : v.take 1 ≠ [c] := by
  cases v with
  | nil => simp
  | cons d u => simp only [List.headD_cons] at h; simpa using h
theorem takeWhile_mem {p : UInt8 → Bool} : ∀ {l : List UInt8} {c : UInt8}, c ∈ l.takeWhile p → p c = true
  | d :: l, c, h => by
    rw [List.takeWhile_cons] at h
    split at h
    · rcases List.mem_cons.1 h with rfl | h
      · assumption
      · exact takeWhile_mem h
    · cases h
set_option maxHeartbeats 4000000 in
theorem plit_plain (q : Nat) (l : List UInt8) (i : Nat) (w : World) (t v : List UInt8) (hE : ErrAt w) (hq : q ≠ 4) (hr : Pr w q l i) (hl : l.length ≤ 10000000) (hi : i ≤ l.length) (h : Tm.upU 34 true (l.drop i) = some (t, v)) (h1 : v.headD 0 ≠ 64) (h2 : v.take 3 ≠ [94, 94, 60]) :
    Calls Tryz.prog 79 #[rdp q] w (TermPost q l w (Tm.rlit (l.drop i))) := by
  have HN := hid (show Tm.rlit (l.drop i) = some (3, t, [], v) by unfold Tm.rlit; rw [h]; simp only; rw [if_neg h1, if_neg h2])
  rw [HN.out]
  have hlt := hr.lt
  have hvl := Tm.upU_len _ (Nat.le_refl _) h
  have HE := hid (fun W hB => hE.but (w' := W) hB hq)
  have UP := hid (fun (W : World) (hB : But q w W) (hr : Pr W q l i) => pup_any q l i 34 true W (HE.out W hB) hq hr hl hi (by decide) (by decide))
  rw [h] at UP
  have UP2 : Hid (∀ W, But q w W → Pr W q l i → Calls Tryz.prog 76 #[rdp q, .int .u8 34, .bool true] W fun x w' => x = .returned (.tuple #[str t, .bool true]) ∧ (∃ j, j ≤ l.length ∧ (some (t, v) ≠ none → l.drop j = v) ∧ Pr w' q l j) ∧ But q W w') := UP
  have HR1 := hid (hr.keep ((Below.refl _ _).alloc (Nat.le_refl _) (.cells #[.int .i64 0, .string ⟨#[]⟩, .string ⟨#[]⟩] 26)))
  have S1 := hid (fun (W : World) (j : Nat) (hd : l.drop j = v) (hj : j ≤ l.length) (hr : Pr W q l j) => pskip_not q l [64] j W hr (by omega) hj (by decide) (by rw [hd]; exact take_nohead h1))
  have S2 := hid (fun (W : World) (j : Nat) (hd : l.drop j = v) (hj : j ≤ l.length) (hr : Pr W q l j) => pskip_not q l [94, 94, 60] j W hr (by omega) hj (by decide) (by rw [hd]; exact h2))
  clear UP h hr hE h1 h2
  go_enter Tryz.func79, Tryz.ntmps79
  have HB1 := hid (show But q w (w.alloc (.cells #[.int .i64 0, .string ⟨#[]⟩, .string ⟨#[]⟩] 26)) from But.below ((Below.refl w.heap.size w).alloc (Nat.le_refl _) _))
  have HT1 := hid (Blk.new w [.int .i64 0, str [], str []] 26)
  go_wp2_with fail
  refine (UP2.out _ HB1.out HR1.out).mono ?_
  rintro x w2 ⟨rfl, ⟨j, hj, hjd, hr2⟩, hb2⟩
  have HT2 := hid (But.blk HT1.out hb2 (by omega))
  have HB2 := hid (HB1.out.trans hb2)
  have HR2 := hid hr2
  have HD2 := hid (hjd (by simp))
  clear hr2 hb2 hjd
  go_wp2_with fail
  refine (S1.out _ j HD2.out hj HR2.out).mono ?_
  rintro x w3 ⟨rfl, hr3, hb3⟩
  have HT3 := hid (But.blk HT2.out hb3 (by omega))
  have HB3 := hid (HB2.out.trans hb3)
  have HR3 := hid hr3
  clear hr3 hb3
  go_wp2_with fail
  refine (S2.out _ j HD2.out hj HR3.out).mono ?_
  rintro x w4 ⟨rfl, hr4, hb4⟩
  have HT4 := hid (But.blk HT3.out hb4 (by omega))
  have HB4 := hid (HB3.out.trans hb4)
  have HR4 := hid hr4
  clear hr4 hb4
  have g0 := HT4.out.cell (i := 0) rfl
  have g1 := HT4.out.cell (i := 1) rfl
  have g2 := HT4.out.cell (i := 2) rfl
  have k0 := HT4.out.free 0
  have k1 := HT4.out.free 1
  have k2 := HT4.out.free 2
  go_wp2
  have HX := fin_end (hT := HT4.out) (v0 := .int .i64 3) (v1 := .string ⟨(t : List UInt8).toArray⟩) (v2 := .string ⟨([] : List UInt8).toArray⟩) (hq := HR4.out) (hne := by omega) (hB := HB4.out) (hb := Nat.le_refl _)
  obtain ⟨hx1, hx2, hx3⟩ := HX
  exact bodyPost_ret (v := .tuple #[tmV (3 : Nat) (t) ([]), .bool true]) (struct_ret2 rfl rfl hx1 Tryz.results79) rfl ⟨hx3, rfl, j, hj, HD2.out, hx2⟩
set_option maxHeartbeats 4000000 in
theorem plit_lang (q : Nat) (l : List UInt8) (i : Nat) (w : World) (t v : List UInt8) (hE : ErrAt w) (hq : q ≠ 4) (hr : Pr w q l i) (hl : l.length ≤ 10000000) (hi : i ≤ l.length) (h : Tm.upU 34 true (l.drop i) = some (t, v)) (h1 : v.headD 0 = 64) :
    Calls Tryz.prog 79 #[rdp q] w (TermPost q l w (Tm.rlit (l.drop i))) := by
  have HN := hid (show Tm.rlit (l.drop i) = some (4, t, (v.tail.takeWhile Tm.alnumD).map Tm.lower, v.tail.dropWhile Tm.alnumD) by unfold Tm.rlit; rw [h]; simp only; rw [if_pos h1])
  rw [HN.out]
  have hlt := hr.lt
  have hvl := Tm.upU_len _ (Nat.le_refl _) h
  have HE := hid (fun W hB => hE.but (w' := W) hB hq)
  have UP := hid (fun (W : World) (hB : But q w W) (hr : Pr W q l i) => pup_any q l i 34 true W (HE.out W hB) hq hr hl hi (by decide) (by decide))
  rw [h] at UP
  have UP2 : Hid (∀ W, But q w W → Pr W q l i → Calls Tryz.prog 76 #[rdp q, .int .u8 34, .bool true] W fun x w' => x = .returned (.tuple #[str t, .bool true]) ∧ (∃ j, j ≤ l.length ∧ (some (t, v) ≠ none → l.drop j = v) ∧ Pr w' q l j) ∧ But q W w') := UP
  have HR1 := hid (hr.keep ((Below.refl _ _).alloc (Nat.le_refl _) (.cells #[.int .i64 0, .string ⟨#[]⟩, .string ⟨#[]⟩] 26)))
  have hdt : ∀ j, l.drop j = v → l.drop (j + 1) = v.tail ∧ j + 1 ≤ l.length := by
    intro j hd
    have h2 := take_head h1 (by decide)
    obtain ⟨u, hu⟩ := take_one h2
    rw [hu] at hd ⊢
    obtain ⟨a, _, b⟩ := drop_get l j 64 u hd
    exact ⟨b, a⟩
  have S1 := hid (fun (W : World) (j : Nat) (hd : l.drop j = v) (hj : j ≤ l.length) (hr : Pr W q l j) => pskip_is q l [64] j W hr (by omega) hj (by decide) (by rw [hd]; exact take_head h1 (by decide)))
  obtain ⟨nm, hnm⟩ : ∃ nm, nm = v.tail.takeWhile Tm.alnumD := ⟨_, rfl⟩
  have NM : Hid (∀ (W : World) (j : Nat), l.drop j = v.tail → j ≤ l.length → Pr W q l j → Calls Tryz.prog 77 #[rdp q, .func (.func 93) #[] #[]] W fun x w' => x = .returned (str nm) ∧ (∃ k, k ≤ l.length ∧ l.drop k = v.tail.dropWhile Tm.alnumD ∧ Pr w' q l k) ∧ But q W w') := by
    intro W j hd hj hr
    have := pname_any 93 q Tm.alnumD l j W (enters_of Tryz.func93 (by kernel_rfl) rfl) (fun c W => plang_any c W) hr (by omega) hj
    rw [hd, ← hnm] at this
    exact this
  have hnl : nm.length ≤ 1000000000 := by
    have := tw_len Tm.alnumD v.tail
    rw [← hnm, List.length_tail] at this
    have := List.length_drop (i := i) (l := l)
    omega
  have LW := hid (fun W => tolower_any nm W hnl (fun c hc => by rw [hnm] at hc; exact takeWhile_mem hc))
  rw [← hnm]
  have HDT := hid hdt
  clear UP h hr hE h1 hdt hnm
  go_enter Tryz.func79, Tryz.ntmps79
  have HB1 := hid (show But q w (w.alloc (.cells #[.int .i64 0, .string ⟨#[]⟩, .string ⟨#[]⟩] 26)) from But.below ((Below.refl w.heap.size w).alloc (Nat.le_refl _) _))
  have HT1 := hid (Blk.new w [.int .i64 0, str [], str []] 26)
  go_wp2_with fail
  refine (UP2.out _ HB1.out HR1.out).mono ?_
  rintro x w2 ⟨rfl, ⟨j, hj, hjd, hr2⟩, hb2⟩
  have HT2 := hid (But.blk HT1.out hb2 (by omega))
  have HB2 := hid (HB1.out.trans hb2)
  have HR2 := hid hr2
  have HD2 := hid (hjd (by simp))
  clear hr2 hb2 hjd
  have HDT2 := hid (HDT.out j HD2.out)
  go_wp2_with fail
  refine (S1.out _ j HD2.out hj HR2.out).mono ?_
  rintro x w3 ⟨rfl, hr3, hb3⟩
  have HT3 := hid (But.blk HT2.out hb3 (by omega))
  have HB3 := hid (HB2.out.trans hb3)
  have HR3 := hid hr3
  clear hr3 hb3
  go_wp2_with fail
  refine (NM.out _ (j + 1) HDT2.out.1 HDT2.out.2 HR3.out).mono ?_
  rintro x w4 ⟨rfl, ⟨k, hk, hkd, hr4⟩, hb4⟩
  have HT4 := hid (But.blk HT3.out hb4 (by omega))
  have HB4 := hid (HB3.out.trans hb4)
  have HR4 := hid hr4
  have HK := hid hkd
  clear hr4 hb4 hkd
  go_wp2_with fail
  refine (LW.out _).mono ?_
  rintro x w5 ⟨rfl, hb5⟩
  have HT5 := hid (HT4.out.keep hb5)
  have HB5 := hid (HB4.out.trans (But.below hb5))
  have HR5 := hid (HR4.out.keep hb5)
  clear hb5
  have g0 := HT5.out.cell (i := 0) rfl
  have g1 := HT5.out.cell (i := 1) rfl
  have g2 := HT5.out.cell (i := 2) rfl
  have k0 := HT5.out.free 0
  have k1 := HT5.out.free 1
  have k2 := HT5.out.free 2
  go_wp2
  have HX := fin_end (hT := HT5.out) (v0 := .int .i64 4) (v1 := .string ⟨(t : List UInt8).toArray⟩) (v2 := .string ⟨(nm.map Tm.lower : List UInt8).toArray⟩) (hq := HR5.out) (hne := by omega) (hB := HB5.out) (hb := Nat.le_refl _)
  obtain ⟨hx1, hx2, hx3⟩ := HX
  exact bodyPost_ret (v := .tuple #[tmV (4 : Nat) (t) (nm.map Tm.lower), .bool true]) (struct_ret2 rfl rfl hx1 Tryz.results79) rfl ⟨hx3, rfl, k, hk, HK.out, hx2⟩
set_option maxHeartbeats 4000000 in
theorem plit_typed (q : Nat) (l : List UInt8) (i : Nat) (w : World) (t v : List UInt8) (hE : ErrAt w) (hq : q ≠ 4) (hr : Pr w q l i) (hl : l.length ≤ 10000000) (hi : i ≤ l.length) (h : Tm.upU 34 true (l.drop i) = some (t, v)) (y z : List UInt8) (h1 : v.headD 0 ≠ 64) (h2 : v.take 3 = [94, 94, 60]) (h3 : Tm.upU 62 false (v.drop 3) = some (y, z)) :
    Calls Tryz.prog 79 #[rdp q] w (TermPost q l w (Tm.rlit (l.drop i))) := by
  have HN := hid (show Tm.rlit (l.drop i) = some (5, t, y, z) by unfold Tm.rlit; rw [h]; simp only; rw [if_neg h1, if_pos h2, h3]; rfl)
  rw [HN.out]
  have hlt := hr.lt
  have hvl := Tm.upU_len _ (Nat.le_refl _) h
  have HE := hid (fun W hB => hE.but (w' := W) hB hq)
  have UP := hid (fun (W : World) (hB : But q w W) (hr : Pr W q l i) => pup_any q l i 34 true W (HE.out W hB) hq hr hl hi (by decide) (by decide))
  rw [h] at UP
  have UP2 : Hid (∀ W, But q w W → Pr W q l i → Calls Tryz.prog 76 #[rdp q, .int .u8 34, .bool true] W fun x w' => x = .returned (.tuple #[str t, .bool true]) ∧ (∃ j, j ≤ l.length ∧ (some (t, v) ≠ none → l.drop j = v) ∧ Pr w' q l j) ∧ But q W w') := UP
  have HR1 := hid (hr.keep ((Below.refl _ _).alloc (Nat.le_refl _) (.cells #[.int .i64 0, .string ⟨#[]⟩, .string ⟨#[]⟩] 26)))
  have S1 := hid (fun (W : World) (j : Nat) (hd : l.drop j = v) (hj : j ≤ l.length) (hr : Pr W q l j) => pskip_not q l [64] j W hr (by omega) hj (by decide) (by rw [hd]; exact take_nohead h1))
  have hd3 : ∀ j, l.drop j = v → l.drop (j + 3) = v.drop 3 ∧ j + 3 ≤ l.length := by
    intro j hd
    have e := congrArg List.length h2
    rw [List.length_take] at e
    have e2 := congrArg List.length hd
    rw [List.length_drop] at e2
    simp only [List.length_cons, List.length_nil] at e
    exact ⟨by rw [← hd, List.drop_drop], by omega⟩
  have S2 := hid (fun (W : World) (j : Nat) (hd : l.drop j = v) (hj : j ≤ l.length) (hr : Pr W q l j) => pskip_is q l [94, 94, 60] j W hr (by omega) hj (by decide) (by rw [hd]; exact h2))
  have U2 : Hid (∀ (W : World) (j : Nat), l.drop j = v.drop 3 → j ≤ l.length → But q w W → Pr W q l j → Calls Tryz.prog 76 #[rdp q, .int .u8 62, .bool false] W fun x w' => x = .returned (.tuple #[str y, .bool true]) ∧ (∃ k, k ≤ l.length ∧ (some (y, z) ≠ none → l.drop k = z) ∧ Pr w' q l k) ∧ But q W w') := by
    intro W j hd hj hB hr
    have := pup_any q l j 62 false W (HE.out W hB) hq hr hl hj (by decide) (by decide)
    rw [hd, h3] at this
    exact this
  have HD3 := hid hd3
  clear UP h hr hE h1 h2 h3 hd3
  go_enter Tryz.func79, Tryz.ntmps79
  have HB1 := hid (show But q w (w.alloc (.cells #[.int .i64 0, .string ⟨#[]⟩, .string ⟨#[]⟩] 26)) from But.below ((Below.refl w.heap.size w).alloc (Nat.le_refl _) _))
  have HT1 := hid (Blk.new w [.int .i64 0, str [], str []] 26)
  go_wp2_with fail
  refine (UP2.out _ HB1.out HR1.out).mono ?_
  rintro x w2 ⟨rfl, ⟨j, hj, hjd, hr2⟩, hb2⟩
  have HT2 := hid (But.blk HT1.out hb2 (by omega))
  have HB2 := hid (HB1.out.trans hb2)
  have HR2 := hid hr2
  have HD2 := hid (hjd (by simp))
  clear hr2 hb2 hjd
  have HDT2 := hid (HD3.out j HD2.out)
  go_wp2_with fail
  refine (S1.out _ j HD2.out hj HR2.out).mono ?_
  rintro x w3 ⟨rfl, hr3, hb3⟩
  have HT3 := hid (But.blk HT2.out hb3 (by omega))
  have HB3 := hid (HB2.out.trans hb3)
  have HR3 := hid hr3
  clear hr3 hb3
  go_wp2_with fail
  refine (S2.out _ j HD2.out hj HR3.out).mono ?_
  rintro x w4 ⟨rfl, hr4, hb4⟩
  have HT4 := hid (But.blk HT3.out hb4 (by omega))
  have HB4 := hid (HB3.out.trans hb4)
  have HR4 := hid hr4
  clear hr4 hb4
  go_wp2_with fail
  refine (U2.out _ (j + 3) HDT2.out.1 HDT2.out.2 HB4.out HR4.out).mono ?_
  rintro x w5 ⟨rfl, ⟨k, hk, hkd, hr5⟩, hb5⟩
  have HT5 := hid (But.blk HT4.out hb5 (by omega))
  have HB5 := hid (HB4.out.trans hb5)
  have HR5 := hid hr5
  have HK := hid hkd
  clear hr5 hb5 hkd
  have g0 := HT5.out.cell (i := 0) rfl
  have g1 := HT5.out.cell (i := 1) rfl
  have g2 := HT5.out.cell (i := 2) rfl
  have k0 := HT5.out.free 0
  have k1 := HT5.out.free 1
  have k2 := HT5.out.free 2
  go_wp2
  have HX := fin_end (hT := HT5.out) (v0 := .int .i64 5) (v1 := .string ⟨(t : List UInt8).toArray⟩) (v2 := .string ⟨(y : List UInt8).toArray⟩) (hq := HR5.out) (hne := by omega) (hB := HB5.out) (hb := Nat.le_refl _)
  obtain ⟨hx1, hx2, hx3⟩ := HX
  exact bodyPost_ret (v := .tuple #[tmV (5 : Nat) (t) (y), .bool true]) (struct_ret2 rfl rfl hx1 Tryz.results79) rfl ⟨hx3, rfl, k, hk, HK.out (by simp), hx2⟩
set_option maxHeartbeats 4000000 in
theorem plit_typed_no (q : Nat) (l : List UInt8) (i : Nat) (w : World) (t v : List UInt8) (hE : ErrAt w) (hq : q ≠ 4) (hr : Pr w q l i) (hl : l.length ≤ 10000000) (hi : i ≤ l.length) (h : Tm.upU 34 true (l.drop i) = some (t, v)) (h1 : v.headD 0 ≠ 64) (h2 : v.take 3 = [94, 94, 60]) (h3 : Tm.upU 62 false (v.drop 3) = none) :
    Calls Tryz.prog 79 #[rdp q] w (TermPost q l w (Tm.rlit (l.drop i))) := by
  have HN := hid (show Tm.rlit (l.drop i) = none by unfold Tm.rlit; rw [h]; simp only; rw [if_neg h1, if_pos h2, h3]; rfl)
  rw [HN.out]
  have hlt := hr.lt
  have hvl := Tm.upU_len _ (Nat.le_refl _) h
  have HE := hid (fun W hB => hE.but (w' := W) hB hq)
  have UP := hid (fun (W : World) (hB : But q w W) (hr : Pr W q l i) => pup_any q l i 34 true W (HE.out W hB) hq hr hl hi (by decide) (by decide))
  rw [h] at UP
  have UP2 : Hid (∀ W, But q w W → Pr W q l i → Calls Tryz.prog 76 #[rdp q, .int .u8 34, .bool true] W fun x w' => x = .returned (.tuple #[str t, .bool true]) ∧ (∃ j, j ≤ l.length ∧ (some (t, v) ≠ none → l.drop j = v) ∧ Pr w' q l j) ∧ But q W w') := UP
  have HR1 := hid (hr.keep ((Below.refl _ _).alloc (Nat.le_refl _) (.cells #[.int .i64 0, .string ⟨#[]⟩, .string ⟨#[]⟩] 26)))
  have S1 := hid (fun (W : World) (j : Nat) (hd : l.drop j = v) (hj : j ≤ l.length) (hr : Pr W q l j) => pskip_not q l [64] j W hr (by omega) hj (by decide) (by rw [hd]; exact take_nohead h1))
  have hd3 : ∀ j, l.drop j = v → l.drop (j + 3) = v.drop 3 ∧ j + 3 ≤ l.length := by
    intro j hd
    have e := congrArg List.length h2
    rw [List.length_take] at e
    have e2 := congrArg List.length hd
    rw [List.length_drop] at e2
    simp only [List.length_cons, List.length_nil] at e
    exact ⟨by rw [← hd, List.drop_drop], by omega⟩
  have S2 := hid (fun (W : World) (j : Nat) (hd : l.drop j = v) (hj : j ≤ l.length) (hr : Pr W q l j) => pskip_is q l [94, 94, 60] j W hr (by omega) hj (by decide) (by rw [hd]; exact h2))
  have U2 : Hid (∀ (W : World) (j : Nat), l.drop j = v.drop 3 → j ≤ l.length → But q w W → Pr W q l j → Calls Tryz.prog 76 #[rdp q, .int .u8 62, .bool false] W fun x w' => x = .returned (.tuple #[str [], .bool false]) ∧ (∃ k, k ≤ l.length ∧ ((none : Option (List UInt8 × List UInt8)) ≠ none → l.drop k = []) ∧ Pr w' q l k) ∧ But q W w') := by
    intro W j hd hj hB hr
    have := pup_any q l j 62 false W (HE.out W hB) hq hr hl hj (by decide) (by decide)
    rw [hd, h3] at this
    exact this
  have HD3 := hid hd3
  clear UP h hr hE h1 h2 h3 hd3
  go_enter Tryz.func79, Tryz.ntmps79
  have HB1 := hid (show But q w (w.alloc (.cells #[.int .i64 0, .string ⟨#[]⟩, .string ⟨#[]⟩] 26)) from But.below ((Below.refl w.heap.size w).alloc (Nat.le_refl _) _))
  have HT1 := hid (Blk.new w [.int .i64 0, str [], str []] 26)
  go_wp2_with fail
  refine (UP2.out _ HB1.out HR1.out).mono ?_
  rintro x w2 ⟨rfl, ⟨j, hj, hjd, hr2⟩, hb2⟩
  have HT2 := hid (But.blk HT1.out hb2 (by omega))
  have HB2 := hid (HB1.out.trans hb2)
  have HR2 := hid hr2
  have HD2 := hid (hjd (by simp))
  clear hr2 hb2 hjd
  have HDT2 := hid (HD3.out j HD2.out)
  go_wp2_with fail
  refine (S1.out _ j HD2.out hj HR2.out).mono ?_
  rintro x w3 ⟨rfl, hr3, hb3⟩
  have HT3 := hid (But.blk HT2.out hb3 (by omega))
  have HB3 := hid (HB2.out.trans hb3)
  have HR3 := hid hr3
  clear hr3 hb3
  go_wp2_with fail
  refine (S2.out _ j HD2.out hj HR3.out).mono ?_
  rintro x w4 ⟨rfl, hr4, hb4⟩
  have HT4 := hid (But.blk HT3.out hb4 (by omega))
  have HB4 := hid (HB3.out.trans hb4)
  have HR4 := hid hr4
  clear hr4 hb4
  go_wp2_with fail
  refine (U2.out _ (j + 3) HDT2.out.1 HDT2.out.2 HB4.out HR4.out).mono ?_
  rintro x w5 ⟨rfl, ⟨k, hk, hkd, hr5⟩, hb5⟩
  have HT5 := hid (But.blk HT4.out hb5 (by omega))
  have HB5 := hid (HB4.out.trans hb5)
  have HR5 := hid hr5
  have HK := hid hkd
  clear hr5 hb5 hkd
  have g0 := HT5.out.cell (i := 0) rfl
  have g1 := HT5.out.cell (i := 1) rfl
  have g2 := HT5.out.cell (i := 2) rfl
  have k0 := HT5.out.free 0
  have k1 := HT5.out.free 1
  have k2 := HT5.out.free 2
  go_wp2
  have HX := fin_end (hT := HT5.out) (v0 := .int .i64 5) (v1 := .string ⟨(t : List UInt8).toArray⟩) (v2 := .string ⟨([] : List UInt8).toArray⟩) (hq := HR5.out) (hne := by omega) (hB := HB5.out) (hb := Nat.le_refl _)
  obtain ⟨hx1, hx2, hx3⟩ := HX
  exact bodyPost_ret (v := .tuple #[tmV (5 : Nat) (t) ([]), .bool false]) (struct_ret2 rfl rfl hx1 Tryz.results79) rfl ⟨hx3, ⟨5, t, [], rfl⟩, k, hk, hx2⟩
theorem plit_any (q : Nat) (l : List UInt8) (i : Nat) (w : World) (hE : ErrAt w) (hq : q ≠ 4) (hr : Pr w q l i) (hl : l.length ≤ 10000000) (hi : i ≤ l.length) :
    Calls Tryz.prog 79 #[rdp q] w (TermPost q l w (Tm.rlit (l.drop i))) := by
  cases h : Tm.upU 34 true (l.drop i) with
  | none => exact plit_none q l i w hE hq hr hl hi h
  | some p =>
    obtain ⟨t, v⟩ := p
    by_cases h1 : v.headD 0 = 64
    · exact plit_lang q l i w t v hE hq hr hl hi h h1
    · by_cases h2 : v.take 3 = [94, 94, 60]
      · cases h3 : Tm.upU 62 false (v.drop 3) with
        | none => exact plit_typed_no q l i w t v hE hq hr hl hi h h1 h2 h3
        | some p => obtain ⟨y, z⟩ := p; exact plit_typed q l i w t v hE hq hr hl hi h y z h1 h2 h3
      · exact plit_plain q l i w t v hE hq hr hl hi h h1 h2
end Go.Proofs.YtmfnbmbedplgcaaGreatDoor
