/- The program's reader of a line: a term. -/
import Derived.Test.YtmfnbmbedplgcaaGreatDoorPrLit2
import Derived.Test.YtmfnbmbedplgcaaGreatDoorLnTerm
namespace Go.Proofs.YtmfnbmbedplgcaaGreatDoor
set_option linter.unusedVariables false
set_option linter.unusedSimpArgs false
set_option maxRecDepth 100000
open Go.ChangeShapes Go.WideShapes Go.ChangeAt Go.RowKit
set_option maxHeartbeats 4000000 in
theorem pterm_iri_no (q : Nat) (l : List UInt8) (i : Nat) (w : World) (hE : ErrAt w) (hq : q ≠ 4) (hr : Pr w q l i) (hl : l.length ≤ 10000000) (hi : i ≤ l.length) (u : List UInt8) (hd : l.drop i = 60 :: u) (h : Tm.upU 62 false u = none) :
    Calls Tryz.prog 63 #[rdp q] w (TermPost q l w (Tm.rterm (l.drop i))) := by
  have HN := hid (show Tm.rterm (l.drop i) = none by rw [hd, Tm.rterm_up62, h]; rfl)
  rw [HN.out]
  have hlt := hr.lt
  have HE := hid (fun W hB => hE.but (w' := W) hB hq)
  have HR1 := hid (hr.keep ((Below.refl _ _).alloc (Nat.le_refl _) (.cells #[.int .i64 0, .string ⟨#[]⟩, .string ⟨#[]⟩] 26)))
  have S1 := hid (fun (W : World) (hr : Pr W q l i) => pskip_is q l [60] i W hr (by omega) hi (by decide) (by rw [hd]; rfl))
  obtain ⟨hjl, _, hdu⟩ := drop_get l i 60 u hd
  have U2 : Hid (∀ (W : World), But q w W → Pr W q l (i + 1) → Calls Tryz.prog 76 #[rdp q, .int .u8 62, .bool false] W fun x w' => x = .returned (.tuple #[str [], .bool false]) ∧ (∃ k, k ≤ l.length ∧ ((none : Option (List UInt8 × List UInt8)) ≠ none → l.drop k = []) ∧ Pr w' q l k) ∧ But q W w') := by
    intro W hB hr
    have := pup_any q l (i + 1) 62 false W (HE.out W hB) hq hr hl hjl (by decide) (by decide)
    rw [hdu, h] at this
    exact this
  clear hr hE h hd hdu
  go_enter Tryz.func63, Tryz.ntmps63
  have HB1 := hid (show But q w (w.alloc (.cells #[.int .i64 0, .string ⟨#[]⟩, .string ⟨#[]⟩] 26)) from But.below ((Below.refl w.heap.size w).alloc (Nat.le_refl _) _))
  have HT1 := hid (Blk.new w [.int .i64 0, str [], str []] 26)
  go_wp2_with fail
  refine (S1.out _ HR1.out).mono ?_
  rintro x w2 ⟨rfl, hr2, hb2⟩
  have HT2 := hid (But.blk HT1.out hb2 (by omega))
  have HB2 := hid (HB1.out.trans hb2)
  have HR2 := hid hr2
  clear hr2 hb2
  go_wp2_with fail
  refine (U2.out _ HB2.out HR2.out).mono ?_
  rintro x w3 ⟨rfl, ⟨k, hk, hkd, hr3⟩, hb3⟩
  have HK := hid hkd
  clear hkd
  have HT3 := hid (But.blk HT2.out hb3 (by omega))
  have HB3 := hid (HB2.out.trans hb3)
  have HR3 := hid hr3
  clear hr3 hb3
  have g0 := HT3.out.cell (i := 0) rfl
  have g1 := HT3.out.cell (i := 1) rfl
  have g2 := HT3.out.cell (i := 2) rfl
  have k0 := HT3.out.free 0
  have k1 := HT3.out.free 1
  have k2 := HT3.out.free 2
  go_wp2
  have HX := fin_end (hT := HT3.out) (v0 := .int .i64 (1 : Nat)) (v1 := .string ⟨([] : List UInt8).toArray⟩) (v2 := .string ⟨([] : List UInt8).toArray⟩) (hq := HR3.out) (hne := by omega) (hB := HB3.out) (hb := Nat.le_refl _)
  obtain ⟨hx1, hx2, hx3⟩ := HX
  exact bodyPost_ret (v := .tuple #[tmV (1 : Nat) ([]) ([]), .bool false]) (struct_ret2 rfl rfl hx1 Tryz.results63) rfl ⟨hx3, ⟨1, [], [], rfl⟩, k, hk, hx2⟩
set_option maxHeartbeats 4000000 in
theorem pterm_iri (q : Nat) (l : List UInt8) (i : Nat) (w : World) (hE : ErrAt w) (hq : q ≠ 4) (hr : Pr w q l i) (hl : l.length ≤ 10000000) (hi : i ≤ l.length) (u t v : List UInt8) (hd : l.drop i = 60 :: u) (h : Tm.upU 62 false u = some (t, v)) :
    Calls Tryz.prog 63 #[rdp q] w (TermPost q l w (Tm.rterm (l.drop i))) := by
  have HN := hid (show Tm.rterm (l.drop i) = some (1, t, [], v) by rw [hd, Tm.rterm_up62, h]; rfl)
  rw [HN.out]
  have hlt := hr.lt
  have HE := hid (fun W hB => hE.but (w' := W) hB hq)
  have HR1 := hid (hr.keep ((Below.refl _ _).alloc (Nat.le_refl _) (.cells #[.int .i64 0, .string ⟨#[]⟩, .string ⟨#[]⟩] 26)))
  have S1 := hid (fun (W : World) (hr : Pr W q l i) => pskip_is q l [60] i W hr (by omega) hi (by decide) (by rw [hd]; rfl))
  obtain ⟨hjl, _, hdu⟩ := drop_get l i 60 u hd
  have U2 : Hid (∀ (W : World), But q w W → Pr W q l (i + 1) → Calls Tryz.prog 76 #[rdp q, .int .u8 62, .bool false] W fun x w' => x = .returned (.tuple #[str t, .bool true]) ∧ (∃ k, k ≤ l.length ∧ (some (t, v) ≠ none → l.drop k = v) ∧ Pr w' q l k) ∧ But q W w') := by
    intro W hB hr
    have := pup_any q l (i + 1) 62 false W (HE.out W hB) hq hr hl hjl (by decide) (by decide)
    rw [hdu, h] at this
    exact this
  clear hr hE h hd hdu
  go_enter Tryz.func63, Tryz.ntmps63
  have HB1 := hid (show But q w (w.alloc (.cells #[.int .i64 0, .string ⟨#[]⟩, .string ⟨#[]⟩] 26)) from But.below ((Below.refl w.heap.size w).alloc (Nat.le_refl _) _))
  have HT1 := hid (Blk.new w [.int .i64 0, str [], str []] 26)
  go_wp2_with fail
  refine (S1.out _ HR1.out).mono ?_
  rintro x w2 ⟨rfl, hr2, hb2⟩
  have HT2 := hid (But.blk HT1.out hb2 (by omega))
  have HB2 := hid (HB1.out.trans hb2)
  have HR2 := hid hr2
  clear hr2 hb2
  go_wp2_with fail
  refine (U2.out _ HB2.out HR2.out).mono ?_
  rintro x w3 ⟨rfl, ⟨k, hk, hkd, hr3⟩, hb3⟩
  have HK := hid hkd
  clear hkd
  have HT3 := hid (But.blk HT2.out hb3 (by omega))
  have HB3 := hid (HB2.out.trans hb3)
  have HR3 := hid hr3
  clear hr3 hb3
  have g0 := HT3.out.cell (i := 0) rfl
  have g1 := HT3.out.cell (i := 1) rfl
  have g2 := HT3.out.cell (i := 2) rfl
  have k0 := HT3.out.free 0
  have k1 := HT3.out.free 1
  have k2 := HT3.out.free 2
  go_wp2
  have HX := fin_end (hT := HT3.out) (v0 := .int .i64 (1 : Nat)) (v1 := .string ⟨(t : List UInt8).toArray⟩) (v2 := .string ⟨([] : List UInt8).toArray⟩) (hq := HR3.out) (hne := by omega) (hB := HB3.out) (hb := Nat.le_refl _)
  obtain ⟨hx1, hx2, hx3⟩ := HX
  exact bodyPost_ret (v := .tuple #[tmV (1 : Nat) (t) ([]), .bool true]) (struct_ret2 rfl rfl hx1 Tryz.results63) rfl ⟨hx3, rfl, k, hk, HK.out (by simp), hx2⟩
set_option maxHeartbeats 4000000 in
theorem pterm_bl (q : Nat) (l : List UInt8) (i : Nat) (w : World) (hE : ErrAt w) (hq : q ≠ 4) (hr : Pr w q l i) (hl : l.length ≤ 10000000) (hi : i ≤ l.length) (u : List UInt8) (hd : l.drop i = 95 :: 58 :: u) :
    Calls Tryz.prog 63 #[rdp q] w (TermPost q l w (Tm.rterm (l.drop i))) := by
  have HN := hid (show Tm.rterm (l.drop i) = some (2, u.takeWhile Tm.alnum, [], u.dropWhile Tm.alnum) by rw [hd, Tm.rterm_95])
  rw [HN.out]
  have hlt := hr.lt
  have HE := hid (fun W hB => hE.but (w' := W) hB hq)
  have HR1 := hid (hr.keep ((Below.refl _ _).alloc (Nat.le_refl _) (.cells #[.int .i64 0, .string ⟨#[]⟩, .string ⟨#[]⟩] 26)))
  have S1 := hid (fun (W : World) (hr : Pr W q l i) => pskip_not q l [60] i W hr (by omega) hi (by decide) (by rw [hd]; simp))
  have S2 := hid (fun (W : World) (hr : Pr W q l i) => pskip_is q l [95, 58] i W hr (by omega) hi (by decide) (by rw [hd]; rfl))
  have hdu : l.drop (i + 2) = u ∧ i + 2 ≤ l.length := by
    have e2 := congrArg List.length hd
    rw [List.length_drop] at e2
    simp only [List.length_cons] at e2
    exact ⟨by rw [show l.drop (i + 2) = (l.drop i).drop 2 by rw [List.drop_drop], hd]; rfl, by omega⟩
  obtain ⟨nm, hnm⟩ : ∃ nm, nm = u.takeWhile Tm.alnum := ⟨_, rfl⟩
  have NM : Hid (∀ (W : World), Pr W q l (i + 2) → Calls Tryz.prog 77 #[rdp q, .func (.func 78) #[] #[]] W fun x w' => x = .returned (str nm) ∧ (∃ k, k ≤ l.length ∧ l.drop k = u.dropWhile Tm.alnum ∧ Pr w' q l k) ∧ But q W w') := by
    intro W hr
    have := pname_any 78 q Tm.alnum l (i + 2) W (enters_of Tryz.func78 (by kernel_rfl) rfl) (fun c W => plabel_any c W) hr (by omega) hdu.2
    rw [hdu.1, ← hnm] at this
    exact this
  rw [← hnm]
  clear hr hE hd hdu hnm
  go_enter Tryz.func63, Tryz.ntmps63
  have HB1 := hid (show But q w (w.alloc (.cells #[.int .i64 0, .string ⟨#[]⟩, .string ⟨#[]⟩] 26)) from But.below ((Below.refl w.heap.size w).alloc (Nat.le_refl _) _))
  have HT1 := hid (Blk.new w [.int .i64 0, str [], str []] 26)
  go_wp2_with fail
  refine (S1.out _ HR1.out).mono ?_
  rintro x w2 ⟨rfl, hr2, hb2⟩
  have HT2 := hid (But.blk HT1.out hb2 (by omega))
  have HB2 := hid (HB1.out.trans hb2)
  have HR2 := hid hr2
  clear hr2 hb2
  go_wp2_with fail
  refine (S2.out _ HR2.out).mono ?_
  rintro x w3 ⟨rfl, hr3, hb3⟩
  have HT3 := hid (But.blk HT2.out hb3 (by omega))
  have HB3 := hid (HB2.out.trans hb3)
  have HR3 := hid hr3
  clear hr3 hb3
  go_wp2_with fail
  refine (NM.out _ HR3.out).mono ?_
  rintro x w4 ⟨rfl, ⟨k, hk, hkd, hr4⟩, hb4⟩
  have HK := hid hkd
  clear hkd
  have HT4 := hid (But.blk HT3.out hb4 (by omega))
  have HB4 := hid (HB3.out.trans hb4)
  have HR4 := hid hr4
  clear hr4 hb4
  have g0 := HT4.out.cell (i := 0) rfl
  have g1 := HT4.out.cell (i := 1) rfl
  have g2 := HT4.out.cell (i := 2) rfl
  have k0 := HT4.out.free 0
  have k1 := HT4.out.free 1
  have k2 := HT4.out.free 2
  go_wp2
  have HX := fin_end (hT := HT4.out) (v0 := .int .i64 (2 : Nat)) (v1 := .string ⟨(nm : List UInt8).toArray⟩) (v2 := .string ⟨([] : List UInt8).toArray⟩) (hq := HR4.out) (hne := by omega) (hB := HB4.out) (hb := Nat.le_refl _)
  obtain ⟨hx1, hx2, hx3⟩ := HX
  exact bodyPost_ret (v := .tuple #[tmV (2 : Nat) (nm) ([]), .bool true]) (struct_ret2 rfl rfl hx1 Tryz.results63) rfl ⟨hx3, rfl, k, hk, HK.out, hx2⟩
set_option maxHeartbeats 4000000 in
theorem pterm_lit_no (q : Nat) (l : List UInt8) (i : Nat) (w : World) (hE : ErrAt w) (hq : q ≠ 4) (hr : Pr w q l i) (hl : l.length ≤ 10000000) (hi : i ≤ l.length) (u : List UInt8) (hd : l.drop i = 34 :: u) (h : Tm.rlit u = none) :
    Calls Tryz.prog 63 #[rdp q] w (TermPost q l w (Tm.rterm (l.drop i))) := by
  have HN := hid (show Tm.rterm (l.drop i) = none by rw [hd, Tm.rterm_34, h])
  rw [HN.out]
  have hlt := hr.lt
  have HE := hid (fun W hB => hE.but (w' := W) hB hq)
  have HR1 := hid (hr.keep ((Below.refl _ _).alloc (Nat.le_refl _) (.cells #[.int .i64 0, .string ⟨#[]⟩, .string ⟨#[]⟩] 26)))
  have S1 := hid (fun (W : World) (hr : Pr W q l i) => pskip_not q l [60] i W hr (by omega) hi (by decide) (by rw [hd]; simp))
  have S2 := hid (fun (W : World) (hr : Pr W q l i) => pskip_not q l [95, 58] i W hr (by omega) hi (by decide) (by rw [hd]; simp))
  have S3 := hid (fun (W : World) (hr : Pr W q l i) => pskip_is q l [34] i W hr (by omega) hi (by decide) (by rw [hd]; rfl))
  obtain ⟨hjl, _, hdu⟩ := drop_get l i 34 u hd
  have U2 : Hid (∀ (W : World), But q w W → Pr W q l (i + 1) → Calls Tryz.prog 79 #[rdp q] W fun e w' => But q W w' ∧ (∃ (k : Nat) (t x : List UInt8), e = .returned (.tuple #[tmV (k : Nat) t x, .bool false])) ∧ ∃ j, j ≤ l.length ∧ Pr w' q l j) := by
    intro W hB hr
    have := plit_any q l (i + 1) W (HE.out W hB) hq hr hl hjl
    rw [hdu, h] at this
    exact this
  clear hr hE h hd hdu
  go_enter Tryz.func63, Tryz.ntmps63
  have HB1 := hid (show But q w (w.alloc (.cells #[.int .i64 0, .string ⟨#[]⟩, .string ⟨#[]⟩] 26)) from But.below ((Below.refl w.heap.size w).alloc (Nat.le_refl _) _))
  have HT1 := hid (Blk.new w [.int .i64 0, str [], str []] 26)
  go_wp2_with fail
  refine (S1.out _ HR1.out).mono ?_
  rintro x w2 ⟨rfl, hr2, hb2⟩
  have HT2 := hid (But.blk HT1.out hb2 (by omega))
  have HB2 := hid (HB1.out.trans hb2)
  have HR2 := hid hr2
  clear hr2 hb2
  go_wp2_with fail
  refine (S2.out _ HR2.out).mono ?_
  rintro x w3 ⟨rfl, hr3, hb3⟩
  have HT3 := hid (But.blk HT2.out hb3 (by omega))
  have HB3 := hid (HB2.out.trans hb3)
  have HR3 := hid hr3
  clear hr3 hb3
  go_wp2_with fail
  refine (S3.out _ HR3.out).mono ?_
  rintro x w4 ⟨rfl, hr4, hb4⟩
  have HT4 := hid (But.blk HT3.out hb4 (by omega))
  have HB4 := hid (HB3.out.trans hb4)
  have HR4 := hid hr4
  clear hr4 hb4
  go_wp2_with fail
  refine (U2.out _ HB4.out HR4.out).mono ?_
  rintro _ w5 ⟨hb5, ⟨k, t, x, rfl⟩, n, hn, hr5⟩
  have HT5 := hid (But.blk HT4.out hb5 (by omega))
  have HB5 := hid (HB4.out.trans hb5)
  have HR5 := hid hr5
  clear hr5 hb5
  have g0 := HT5.out.cell (i := 0) rfl
  have g1 := HT5.out.cell (i := 1) rfl
  have g2 := HT5.out.cell (i := 2) rfl
  have k0 := HT5.out.free 0
  have k1 := HT5.out.free 1
  have k2 := HT5.out.free 2
  go_wp2
  have HX := fin_end (hT := HT5.out) (v0 := .int .i64 (k : Nat)) (v1 := .string ⟨(t : List UInt8).toArray⟩) (v2 := .string ⟨(x : List UInt8).toArray⟩) (hq := HR5.out) (hne := by omega) (hB := HB5.out) (hb := Nat.le_refl _)
  obtain ⟨hx1, hx2, hx3⟩ := HX
  exact bodyPost_ret (v := .tuple #[tmV (k : Nat) (t) (x), .bool false]) (struct_ret2 rfl rfl hx1 Tryz.results63) rfl ⟨hx3, ⟨k, t, x, rfl⟩, n, hn, hx2⟩
set_option maxHeartbeats 4000000 in
theorem pterm_lit (q : Nat) (l : List UInt8) (i : Nat) (w : World) (hE : ErrAt w) (hq : q ≠ 4) (hr : Pr w q l i) (hl : l.length ≤ 10000000) (hi : i ≤ l.length) (u : List UInt8) (hd : l.drop i = 34 :: u) (k : Nat) (t x v : List UInt8) (h : Tm.rlit u = some (k, t, x, v)) :
    Calls Tryz.prog 63 #[rdp q] w (TermPost q l w (Tm.rterm (l.drop i))) := by
  have HN := hid (show Tm.rterm (l.drop i) = some (k, t, x, v) by rw [hd, Tm.rterm_34, h])
  rw [HN.out]
  have hlt := hr.lt
  have HE := hid (fun W hB => hE.but (w' := W) hB hq)
  have HR1 := hid (hr.keep ((Below.refl _ _).alloc (Nat.le_refl _) (.cells #[.int .i64 0, .string ⟨#[]⟩, .string ⟨#[]⟩] 26)))
  have S1 := hid (fun (W : World) (hr : Pr W q l i) => pskip_not q l [60] i W hr (by omega) hi (by decide) (by rw [hd]; simp))
  have S2 := hid (fun (W : World) (hr : Pr W q l i) => pskip_not q l [95, 58] i W hr (by omega) hi (by decide) (by rw [hd]; simp))
  have S3 := hid (fun (W : World) (hr : Pr W q l i) => pskip_is q l [34] i W hr (by omega) hi (by decide) (by rw [hd]; rfl))
  obtain ⟨hjl, _, hdu⟩ := drop_get l i 34 u hd
  have U2 : Hid (∀ (W : World), But q w W → Pr W q l (i + 1) → Calls Tryz.prog 79 #[rdp q] W fun e w' => But q W w' ∧ e = .returned (.tuple #[tmV (k : Nat) t x, .bool true]) ∧ ∃ j, j ≤ l.length ∧ l.drop j = v ∧ Pr w' q l j) := by
    intro W hB hr
    have := plit_any q l (i + 1) W (HE.out W hB) hq hr hl hjl
    rw [hdu, h] at this
    exact this
  clear hr hE h hd hdu
  go_enter Tryz.func63, Tryz.ntmps63
  have HB1 := hid (show But q w (w.alloc (.cells #[.int .i64 0, .string ⟨#[]⟩, .string ⟨#[]⟩] 26)) from But.below ((Below.refl w.heap.size w).alloc (Nat.le_refl _) _))
  have HT1 := hid (Blk.new w [.int .i64 0, str [], str []] 26)
  go_wp2_with fail
  refine (S1.out _ HR1.out).mono ?_
  rintro x w2 ⟨rfl, hr2, hb2⟩
  have HT2 := hid (But.blk HT1.out hb2 (by omega))
  have HB2 := hid (HB1.out.trans hb2)
  have HR2 := hid hr2
  clear hr2 hb2
  go_wp2_with fail
  refine (S2.out _ HR2.out).mono ?_
  rintro x w3 ⟨rfl, hr3, hb3⟩
  have HT3 := hid (But.blk HT2.out hb3 (by omega))
  have HB3 := hid (HB2.out.trans hb3)
  have HR3 := hid hr3
  clear hr3 hb3
  go_wp2_with fail
  refine (S3.out _ HR3.out).mono ?_
  rintro x w4 ⟨rfl, hr4, hb4⟩
  have HT4 := hid (But.blk HT3.out hb4 (by omega))
  have HB4 := hid (HB3.out.trans hb4)
  have HR4 := hid hr4
  clear hr4 hb4
  go_wp2_with fail
  refine (U2.out _ HB4.out HR4.out).mono ?_
  rintro _ w5 ⟨hb5, rfl, n, hn, hnd, hr5⟩
  have HK := hid hnd
  clear hnd
  have HT5 := hid (But.blk HT4.out hb5 (by omega))
  have HB5 := hid (HB4.out.trans hb5)
  have HR5 := hid hr5
  clear hr5 hb5
  have g0 := HT5.out.cell (i := 0) rfl
  have g1 := HT5.out.cell (i := 1) rfl
  have g2 := HT5.out.cell (i := 2) rfl
  have k0 := HT5.out.free 0
  have k1 := HT5.out.free 1
  have k2 := HT5.out.free 2
  go_wp2
  have HX := fin_end (hT := HT5.out) (v0 := .int .i64 (k : Nat)) (v1 := .string ⟨(t : List UInt8).toArray⟩) (v2 := .string ⟨(x : List UInt8).toArray⟩) (hq := HR5.out) (hne := by omega) (hB := HB5.out) (hb := Nat.le_refl _)
  obtain ⟨hx1, hx2, hx3⟩ := HX
  exact bodyPost_ret (v := .tuple #[tmV (k : Nat) (t) (x), .bool true]) (struct_ret2 rfl rfl hx1 Tryz.results63) rfl ⟨hx3, rfl, n, hn, HK.out, hx2⟩
set_option maxHeartbeats 4000000 in
theorem pterm_no (q : Nat) (l : List UInt8) (i : Nat) (w : World) (hE : ErrAt w) (hq : q ≠ 4) (hr : Pr w q l i) (hl : l.length ≤ 10000000) (hi : i ≤ l.length) (h1 : (l.drop i).take 1 ≠ [60]) (h2 : (l.drop i).take 2 ≠ [95, 58]) (h3 : (l.drop i).take 1 ≠ [34]) :
    Calls Tryz.prog 63 #[rdp q] w (TermPost q l w (Tm.rterm (l.drop i))) := by
  have HN := hid (show Tm.rterm (l.drop i) = none from Tm.rterm_none h1 h2 h3)
  rw [HN.out]
  have hlt := hr.lt
  have HE := hid (fun W hB => hE.but (w' := W) hB hq)
  have HR1 := hid (hr.keep ((Below.refl _ _).alloc (Nat.le_refl _) (.cells #[.int .i64 0, .string ⟨#[]⟩, .string ⟨#[]⟩] 26)))
  have S1 := hid (fun (W : World) (hr : Pr W q l i) => pskip_not q l [60] i W hr (by omega) hi (by decide) (h1))
  have S2 := hid (fun (W : World) (hr : Pr W q l i) => pskip_not q l [95, 58] i W hr (by omega) hi (by decide) (h2))
  have S3 := hid (fun (W : World) (hr : Pr W q l i) => pskip_not q l [34] i W hr (by omega) hi (by decide) (h3))
  clear hr hE h1 h2 h3
  go_enter Tryz.func63, Tryz.ntmps63
  have HB1 := hid (show But q w (w.alloc (.cells #[.int .i64 0, .string ⟨#[]⟩, .string ⟨#[]⟩] 26)) from But.below ((Below.refl w.heap.size w).alloc (Nat.le_refl _) _))
  have HT1 := hid (Blk.new w [.int .i64 0, str [], str []] 26)
  go_wp2_with fail
  refine (S1.out _ HR1.out).mono ?_
  rintro x w2 ⟨rfl, hr2, hb2⟩
  have HT2 := hid (But.blk HT1.out hb2 (by omega))
  have HB2 := hid (HB1.out.trans hb2)
  have HR2 := hid hr2
  clear hr2 hb2
  go_wp2_with fail
  refine (S2.out _ HR2.out).mono ?_
  rintro x w3 ⟨rfl, hr3, hb3⟩
  have HT3 := hid (But.blk HT2.out hb3 (by omega))
  have HB3 := hid (HB2.out.trans hb3)
  have HR3 := hid hr3
  clear hr3 hb3
  go_wp2_with fail
  refine (S3.out _ HR3.out).mono ?_
  rintro x w4 ⟨rfl, hr4, hb4⟩
  have HT4 := hid (But.blk HT3.out hb4 (by omega))
  have HB4 := hid (HB3.out.trans hb4)
  have HR4 := hid hr4
  clear hr4 hb4
  have g0 := HT4.out.cell (i := 0) rfl
  have g1 := HT4.out.cell (i := 1) rfl
  have g2 := HT4.out.cell (i := 2) rfl
  have k0 := HT4.out.free 0
  have k1 := HT4.out.free 1
  have k2 := HT4.out.free 2
  go_wp2
  have HX := fin_end (hT := HT4.out) (v0 := .int .i64 (0 : Nat)) (v1 := .string ⟨([] : List UInt8).toArray⟩) (v2 := .string ⟨([] : List UInt8).toArray⟩) (hq := HR4.out) (hne := by omega) (hB := HB4.out) (hb := Nat.le_refl _)
  obtain ⟨hx1, hx2, hx3⟩ := HX
  exact bodyPost_ret (v := .tuple #[tmV (0 : Nat) ([]) ([]), .bool false]) (struct_ret2 rfl rfl hx1 Tryz.results63) rfl ⟨hx3, ⟨0, [], [], rfl⟩, i, hi, hx2⟩
theorem pterm_any (q : Nat) (l : List UInt8) (i : Nat) (w : World) (hE : ErrAt w) (hq : q ≠ 4) (hr : Pr w q l i) (hl : l.length ≤ 10000000) (hi : i ≤ l.length) :
    Calls Tryz.prog 63 #[rdp q] w (TermPost q l w (Tm.rterm (l.drop i))) := by
  by_cases h1 : (l.drop i).take 1 = [60]
  · obtain ⟨u, hd⟩ := take_one h1
    cases h : Tm.upU 62 false u with
    | none => exact pterm_iri_no q l i w hE hq hr hl hi u hd h
    | some p => obtain ⟨t, v⟩ := p; exact pterm_iri q l i w hE hq hr hl hi u t v hd h
  · by_cases h2 : (l.drop i).take 2 = [95, 58]
    · obtain ⟨u, hd⟩ : ∃ u, l.drop i = 95 :: 58 :: u := ⟨(l.drop i).drop 2, by have := List.take_append_drop 2 (l.drop i); rw [h2] at this; exact this.symm⟩
      exact pterm_bl q l i w hE hq hr hl hi u hd
    · by_cases h3 : (l.drop i).take 1 = [34]
      · obtain ⟨u, hd⟩ := take_one h3
        cases h : Tm.rlit u with
        | none => exact pterm_lit_no q l i w hE hq hr hl hi u hd h
        | some p => obtain ⟨k, t, x, v⟩ := p; exact pterm_lit q l i w hE hq hr hl hi u hd k t x v h
      · exact pterm_no q l i w hE hq hr hl hi h1 h2 h3
end Go.Proofs.YtmfnbmbedplgcaaGreatDoor
