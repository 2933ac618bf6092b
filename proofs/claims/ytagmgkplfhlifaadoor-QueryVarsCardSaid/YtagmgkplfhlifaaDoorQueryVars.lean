/- QueryVars: a query's variables, each once, in the order of their first places: for every row of numbers. -/
import Derived.Test.YtagmgkplfhlifaaDoorQpLaid
import Derived.Test.YtagmgkplfhlifaaDoorQpKnown
import Derived.Test.YtagmgkplfhlifaaDoorQyIs3
namespace Go.Proofs.YtagmgkplfhlifaaDoor
set_option linter.unusedVariables false
set_option linter.unusedSimpArgs false
set_option maxRecDepth 100000
open Go.ChangeShapes Go.WideShapes Go.ChangeAt Go.RowKit
open Au
def ch3 (x : Int) : Nat := ((BitVec.ofInt 64 x) &&& 3#64).toNat
theorem ch3_le (x : Int) : ch3 x ≤ 3 := by
  unfold ch3
  rw [BitVec.toNat_and]
  exact Nat.and_le_right
theorem and_3 (x : Int) : bits BinOp.and IntKind.i64 x 3 = (ch3 x : Int) := by
  show IntKind.i64.wrap ((BitVec.ofInt 64 x &&& BitVec.ofInt 64 3).toNat : Int) = _
  have h := ch3_le x
  unfold ch3 at h ⊢
  rw [show BitVec.ofInt 64 3 = 3#64 from rfl]
  exact IntWalk.i64_in _ ⟨by omega, by omega⟩
/-- A name's text. -/
def nmT (x : Int) : T := [UInt8.ofNat (97 + ch3 x)]
def vEn (x : Int) : En := ⟨nmT x, 0, [], []⟩
def vPa (l : List Int) (i : Nat) : Pa := ⟨vEn (l.getD (2 * i) 0), .mk 1 [112] [] [], vEn (l.getD (2 * i + 1) 0)⟩
def vPs (l : List Int) (m : Nat) : List Pa := (List.range m).map (vPa l)
theorem vPs_len (l : List Int) (m : Nat) : (vPs l m).length = m := by simp [vPs]
theorem vPs_snoc (l : List Int) (m : Nat) : vPs l (m + 1) = vPs l m ++ [vPa l m] := by simp [vPs, List.range_succ]
/-- Patterns as cells. -/
def paRow (L : List Pa) : List Value := L.flatMap fun p => paC p (.slice none 0 0) (.slice none 0 0)
theorem paRow_snoc (L : List Pa) (p : Pa) : paRow (L ++ [p]) = paRow L ++ paC p (.slice none 0 0) (.slice none 0 0) := by simp [paRow]
theorem paRow_len : ∀ (L : List Pa), (paRow L).length = L.length * 12
  | [] => rfl
  | p :: L => by
    have := paRow_len L
    show (paC p _ _ ++ paRow L).length = _
    rw [List.length_append, this, List.length_cons]; show 12 + _ = _; omega
theorem paRow_get : ∀ (L : List Pa) (i c : Nat) (hi : i < L.length), c < 12 → (paRow L)[i * 12 + c]? = (paC L[i] (.slice none 0 0) (.slice none 0 0))[c]?
  | [], i, c, hi, _ => by simp at hi
  | p :: L, 0, c, hi, hc => by
    show (paC p _ _ ++ paRow L)[0 * 12 + c]? = _
    rw [List.getElem?_append_left (by show _ < 12; omega), Nat.zero_mul, Nat.zero_add]; rfl
  | p :: L, i + 1, c, hi, hc => by
    show (paC p _ _ ++ paRow L)[(i + 1) * 12 + c]? = _
    rw [List.getElem?_append_right (by show 12 ≤ _; omega), show (paC p (.slice none 0 0) (.slice none 0 0)).length = 12 from rfl, show (i + 1) * 12 + c - 12 = i * 12 + c by omega]
    exact paRow_get L i c (by simpa using hi) hc

theorem conv1 (W : World) (c : Nat) (b : Nat) (hc : W.cell? ⟨b, 0, none⟩ = some (.int .u8 c)) (hl : c ≤ 255) : (convert 47 9 (.slice (some ⟨b, 0, none⟩) 1 1)).run Tryd.prog W = .ok (str [UInt8.ofNat c]) W := by
  have := conv_row (P := Tryd.prog) Tryd.underlying47 Tryd.underlying5 Tryd.underlying9 W (.slice (some ⟨b, 0, none⟩) 1 1) [c] ⟨_, 1, rfl, Nat.le_refl _, by unfold maxLen; omega, (fun h => by cases h), .inr ⟨b, 0, rfl, fun i hi => by
    obtain rfl : i = 0 := by simp at hi; omega
    exact hc⟩⟩
  rw [this]; rfl
theorem convA (W : World) (b : Nat) (hb : W.heap.size = b) (c : Nat) (hl : c ≤ 255) {z : UInt8} (hz : z = UInt8.ofNat c) : (convert 47 9 (.slice (some ⟨b, 0, none⟩) 1 1)).run Tryd.prog (W.alloc (.cells #[.int .u8 c] 5)) = .ok (str [z]) (W.alloc (.cells #[.int .u8 c] 5)) := by
  subst hb; subst hz
  exact conv1 _ c _ (by rw [cell_new]; rfl) hl
theorem convB (W : World) (b : Nat) (hb : W.heap.size = b) (c : Nat) (o : Obj) (hl : c ≤ 255) {z : UInt8} (hz : z = UInt8.ofNat c) : (convert 47 9 (.slice (some ⟨b, 0, none⟩) 1 1)).run Tryd.prog ((W.alloc (.cells #[.int .u8 c] 5)).alloc o) = .ok (str [z]) ((W.alloc (.cells #[.int .u8 c] 5)).alloc o) := by
  subst hb; subst hz
  refine conv1 _ c _ ?_ hl
  have h : (W.alloc (.cells #[.int .u8 c] 5)).cell? ⟨W.heap.size, 0, none⟩ = some (.int .u8 c) := by rw [cell_new]; rfl
  exact below_keep ((Below.refl (W.alloc (.cells #[.int .u8 c] 5)).heap.size _).alloc (Nat.le_refl _) _) h
theorem convAd (W : World) (b : Nat) (hb : W.heap.size = b) (c : Nat) (hl : c ≤ 255) {z : UInt8} (hz : z = UInt8.ofNat c) : (convert 47 9 (.slice (some ⟨b, 0, none⟩) 1 1)).run Tryd.prog (W.alloc (.cells #[.int .u8 c] 5)).drew = .ok (str [z]) (W.alloc (.cells #[.int .u8 c] 5)).drew := by
  subst hb; subst hz
  exact conv1 _ c _ (show (W.alloc (.cells #[.int .u8 c] 5)).cell? ⟨W.heap.size, 0, none⟩ = _ by rw [cell_new]; rfl) hl
theorem convBd (W : World) (b : Nat) (hb : W.heap.size = b) (c : Nat) (o : Obj) (hl : c ≤ 255) {z : UInt8} (hz : z = UInt8.ofNat c) : (convert 47 9 (.slice (some ⟨b, 0, none⟩) 1 1)).run Tryd.prog ((W.alloc (.cells #[.int .u8 c] 5)).alloc o).drew = .ok (str [z]) ((W.alloc (.cells #[.int .u8 c] 5)).alloc o).drew := by
  subst hb; subst hz
  refine conv1 _ c _ ?_ hl
  have h : (W.alloc (.cells #[.int .u8 c] 5)).cell? ⟨W.heap.size, 0, none⟩ = some (.int .u8 c) := by rw [cell_new]; rfl
  exact below_keep ((Below.refl (W.alloc (.cells #[.int .u8 c] 5)).heap.size _).alloc (Nat.le_refl _) _) h
/-- What the law holds on its way. -/
structure VrAt (w0 W : World) (u4 u : Value) (ps : List Pa) (acc : List T) : Prop where
  below : Below w0.heap.size w0 W
  box : Blk W w0.heap.size [.bool false, .slice none 0 0, u, .slice none 0 0, .int .i64 (-1), .int .i64 0] 40
  rows : W.ownsRow (w0.heap.size + 1) 53 12 u ps.length (paRow ps)
  want : W.ownsRow (w0.heap.size + 1) 9 1 u4 acc.length (acc.map str)
  apart : Apart u4 u
theorem row_below {w w' : World} {B n sz : Nat} {t : TypeId} {v : Value} {xs : List Value} (h : w.ownsRow B t sz v n xs) (hb : Below w.heap.size w w') : w'.ownsRow B t sz v n xs :=
  h.kept (row := none) ⟨hb.os, hb.tape, hb.output, hb.size, fun k hk _ => hb.block k hk⟩ (by cases v.ownBlock <;> simp)
theorem VrAt.keep {w0 W W' : World} {u4 u : Value} {ps : List Pa} {acc : List T} (h : VrAt w0 W u4 u ps acc) (hb : Below W.heap.size W W') : VrAt w0 W' u4 u ps acc :=
  ⟨h.below.trans (hb.mono h.below.size), h.box.keep hb, row_below h.rows hb, row_below h.want hb, h.apart⟩
theorem own_slice {w : World} {base n sz : Nat} {e : TypeId} {v : Value} {xs : List Value} (h : w.ownsRow base e sz v n xs) : ∃ a cap, v = .slice a n cap := by
  rcases h.2 with ⟨h, h0⟩ | ⟨g, cap, cur, h, _⟩
  · exact ⟨none, 0, by rw [h, h0]⟩
  · exact ⟨_, cap, h⟩
theorem info_pat : ∃ i, Tryd.prog.info? 53 = some i ∧ (∃ z, i.zero = some z ∧ z.cells.size = 12) ∧ i.size = 12 ∧ i.bytes = 184 := by
  have h : (Tryd.prog.info? 53).map (fun i => (i.zero.map (fun z => z.cells.size), i.size, i.bytes)) = some (some 12, 12, 184) := by kernel_rfl
  obtain ⟨i, hi, h⟩ := Option.map_eq_some_iff.1 h
  simp only [Prod.mk.injEq] at h
  obtain ⟨z, hz, hz2⟩ := Option.map_eq_some_iff.1 h.1
  exact ⟨i, hi, ⟨z, hz, hz2⟩, h.2.1, h.2.2⟩
/-- The block behind the box stays when a row of the call's own grows. -/
theorem VrAt.box2 {w0 W W' : World} {u4 u v : Value} {ps : List Pa} {acc : List T} (h : VrAt w0 W u4 u ps acc) (hr : ∀ k, v.ownBlock = some k → w0.heap.size + 1 ≤ k) (hg : W.grownBy W' v.ownBlock) :
    Blk W' w0.heap.size [.bool false, .slice none 0 0, u, .slice none 0 0, .int .i64 (-1), .int .i64 0] 40 :=
  h.box.grownK hg (fun e => by have := hr _ e.symm; omega)
theorem VrAt.pat {w0 W W' : World} {u4 u u' : Value} {ps : List Pa} {acc : List T} {p : Pa} {o : Obj} (h : VrAt w0 W u4 u ps acc) (hr : W'.ownsRow (w0.heap.size + 1) 53 12 u' (ps.length + 1) (paRow ps ++ paC p (.slice none 0 0) (.slice none 0 0))) (hg : (W.alloc o).grownBy W' u.ownBlock) (hm : Moved (W.alloc o) u u') :
    VrAt w0 (W'.setCell ⟨w0.heap.size, 2, none⟩ u') u4 u' (ps ++ [p]) acc := by
  have hz := h.below.size
  have hob : ∀ k, u.ownBlock = some k → w0.heap.size + 1 ≤ k := fun k hk => (h.rows.lt k hk).1
  have hb2 : Below w0.heap.size w0 W' := (h.below.alloc hz o).grown hg (by simp; omega) (fun k hk => by have := hob k hk; omega)
  have hbx := (h.keep ((Below.refl W.heap.size W).alloc (Nat.le_refl _) o)).box2 hob hg
  refine ⟨hb2.setCell (Nat.le_refl _) _, ?_, ?_, ?_, ?_⟩
  · have := hbx.set 2 u'
    exact this
  · rw [List.length_append, paRow_snoc]
    exact ownsRow_setCell_below hr (by show w0.heap.size < _; omega) _
  · refine ownsRow_setCell_below ?_ (by show w0.heap.size < _; omega) _
    exact h.apart.symm.kept (h.want.alloc o) hg
  · exact (hm.apart (h.want.alloc o) h.apart.symm).symm
/-- One name more among the wanted, or none. -/
theorem VrAt.name {w0 W W' : World} {u4 u u' : Value} {ps : List Pa} {acc : List T} {t : T} (h : VrAt w0 W u4 u ps acc) (hr : W'.ownsRow (w0.heap.size + 1) 9 1 u' (acc.length + 1) (acc.map str ++ [str t])) (hg : W.grownBy W' u4.ownBlock) (hm : Moved W u4 u') :
    VrAt w0 W' u' u ps (acc ++ [t]) := by
  have hz := h.below.size
  have hob : ∀ k, u4.ownBlock = some k → w0.heap.size + 1 ≤ k := fun k hk => (h.want.lt k hk).1
  refine ⟨h.below.grown hg hz (fun k hk => by have := hob k hk; omega), h.box2 hob hg, h.apart.kept h.rows hg, ?_, hm.apart h.rows h.apart⟩
  rw [List.length_append, List.map_append]; exact hr
theorem okE_v (x : Int) : okE (vEn x) := ⟨⟨by show (-9223372036854775808 : Int) ≤ 0; omega, by show (0 : Int) ≤ 9223372036854775807; omega⟩, by show (nmT x).length ≤ _; unfold nmT; simp, by show ([] : T).length ≤ _; simp, by show ([] : T).length ≤ _; simp⟩
theorem vPs_get {l : List Int} {m i : Nat} (hi : i < (vPs l m).length) : (vPs l m)[i] = vPa l i := by simp [vPs]
theorem pas_own {W : World} {base m : Nat} {v : Value} {l : List Int} (h : W.ownsRow base 53 12 v (vPs l m).length (paRow (vPs l m))) : PasAt W v (vPs l m) := by
  have hok : ∀ i (hi : i < (vPs l m).length), okE (vPs l m)[i].s ∧ okE (vPs l m)[i].o := fun i hi => by rw [vPs_get hi]; exact ⟨okE_v _, okE_v _⟩
  have hpt : ∀ i (hi : i < (vPs l m).length), PtAt W (.slice none 0 0) (.slice none 0 0) (vPs l m)[i].p := fun i hi => by rw [vPs_get hi]; exact pt_none W 1 (by omega) [112] (by decide)
  rcases h.2 with ⟨rfl, h0⟩ | ⟨g, cap, cur, rfl, hg, hcur, hcp, hcm, hcs, htk⟩
  · exact ⟨none, 0, 0, 0, fun _ => .slice none 0 0, fun _ => .slice none 0 0, by rw [h0], by omega, by unfold maxLen; omega, fun _ => rfl, fun hp => by omega, fun i hi => by omega, fun i hi => by omega, fun i hi => by omega⟩
  · refine ⟨some ⟨g, 0, none⟩, cap, g, 0, fun _ => .slice none 0 0, fun _ => .slice none 0 0, rfl, hcp, hcm, (fun h => by cases h), fun _ => rfl, fun i hi c hc => ?_, hpt, hok⟩
    have e := paRow_get (vPs l m) i c hi hc
    have hl : (paC (vPs l m)[i] (.slice none 0 0) (.slice none 0 0)).length = 12 := rfl
    have e2 : (paC (vPs l m)[i] (.slice none 0 0) (.slice none 0 0))[c]? = some ((paC (vPs l m)[i] (.slice none 0 0) (.slice none 0 0))[c]'(by omega)) := List.getElem?_eq_getElem (by omega)
    rw [e2] at e
    show _ = (paC (vPs l m)[i] (.slice none 0 0) (.slice none 0 0))[c]?
    rw [e2]
    have := h.cells (g := g) rfl _ _ e
    rw [add_cell rfl, Nat.zero_add] at this
    rw [Nat.zero_add]
    exact this
theorem nodup_sub {F : List T} : ∀ {l : List T}, l.Nodup → (∀ x ∈ l, x ∈ F) → l.length ≤ F.length := by
  intro l
  induction l generalizing F with
  | nil => intro _ _; simp
  | cons x l ih =>
    intro hn hs
    have hx := hs x List.mem_cons_self
    have hn' := List.nodup_cons.1 hn
    have := ih (F := F.erase x) hn'.2 (fun y hy => (List.mem_erase_of_ne (fun e => hn'.1 (by rw [← e]; exact hy))).2 (hs y (List.mem_cons_of_mem _ hy)))
    rw [List.length_erase_of_mem hx] at this
    have := List.length_pos_of_mem hx
    rw [List.length_cons]; omega
theorem addV_nodup {l : List T} {v : T} (h : l.Nodup) : (addV l v).Nodup := by
  unfold addV
  split
  · exact h
  · rename_i hn
    rw [List.nodup_append]
    refine ⟨h, by simp, fun x hx y hy => ?_⟩
    rw [List.mem_singleton.1 hy]
    rintro rfl; exact hn (.inl hx)
theorem addsV_nodup : ∀ {ns l : List T}, l.Nodup → (addsV l ns).Nodup
  | [], l, h => h
  | v :: ns, l, h => addsV_nodup (ns := ns) (l := addV l v) (addV_nodup h)
theorem nm_four (x : Int) : nmT x ∈ ([[97], [98], [99], [100]] : List T) := by
  have h := ch3_le x
  unfold nmT
  rcases (show ch3 x = 0 ∨ ch3 x = 1 ∨ ch3 x = 2 ∨ ch3 x = 3 by omega) with h | h | h | h <;> rw [h] <;> decide
theorem vars_four (l : List Int) (m : Nat) : (varsOf (vPs l m)).length ≤ 4 := by
  refine Nat.le_trans (nodup_sub (F := [[97], [98], [99], [100]]) (addsV_nodup List.nodup_nil) (fun x hx => ?_)) (by decide)
  rcases addsV_mem hx with hx | hx
  · cases hx
  · simp only [names, List.mem_flatMap, vPs, List.mem_map] at hx
    obtain ⟨p, ⟨i, _, rfl⟩, hx⟩ := hx
    simp only [List.mem_cons, List.not_mem_nil, or_false] at hx
    rcases hx with rfl | rfl <;> exact nm_four _
def I0 : Int → T → T → Bool := fun _ _ _ => false
theorem vIs (l : List Int) (m : Nat) (h : 1 ≤ m ∧ m ≤ 4) : Qy.is I0 ⟨false, [], vPs l m, [], -1, 0⟩ = true := by
  have h4 := vars_four l m
  have he : ∀ x, En.is I0 (vEn x) = true := fun x => by
    unfold En.is
    rw [if_neg (show (vEn x).v ≠ [] by unfold vEn nmT; simp)]
    have hv : isVar (vEn x).v = true := by
      have := nm_four x
      show isVar (nmT x) = true
      simp only [List.mem_cons, List.not_mem_nil, or_false] at this
      rcases this with h | h | h | h <;> rw [h] <;> decide
    rw [hv]; rfl
  have ha : (vPs l m).all (Pa.is I0) = true := by
    rw [List.all_eq_true]
    intro p hp
    simp only [vPs, List.mem_map] at hp
    obtain ⟨i, _, rfl⟩ := hp
    unfold Pa.is vPa
    simp only [he, Bool.true_and]
    decide +kernel
  unfold Qy.is
  simp only [ha, vPs_len]
  simp [h.1, h.2, fisOk, askd, limOk]
  omega
theorem nm_ne (x : Int) : nmT x ≠ [] := by unfold nmT; simp
set_option maxHeartbeats 4000000 in
theorem queryVars_any (v : Value) (l : List Int) (w : World) (hL : NumsAt w v l) (hb : ∀ i, -9223372036854775808 ≤ l.getD i 0 ∧ l.getD i 0 ≤ 9223372036854775807) (hV : QVars w) :
    Calls Tryd.prog 12 #[v] w fun e w' => e = .returned (.bool true) ∧ Below w.heap.size w w' := by
  obtain ⟨a, cap, rfl, q1, q2, q3, hr⟩ := hL.open
  have HR := hid hr
  have HBD := hid hb
  have HQ := hid hV
  obtain ⟨n, hn⟩ : ∃ n, n = l.length := ⟨_, rfl⟩
  have HN := hid hn
  rw [← hn] at HR q1 q3 ⊢
  have hnm : n ≤ maxLen := by omega
  clear hL hb hV hr hn q3
  by_cases h8 : 8 < n
  · go_enter Tryd.func12, Tryd.ntmps12
    go_wp2
    go_ret
    exact ⟨rfl, Below.refl _ _⟩
  obtain ⟨p, hp⟩ : ∃ p, p = n % 2 := ⟨_, rfl⟩
  have ha : bits BinOp.and IntKind.i64 (n : Int) 1 = (p : Int) := by
    have : ∀ k : Nat, k < 9 → bits BinOp.and IntKind.i64 (k : Int) 1 = ((k % 2 : Nat) : Int) := by decide +kernel
    rw [hp]; exact this n (by omega)
  by_cases hodd : p = 1
  · subst hodd
    clear hp
    go_enter Tryd.func12, Tryd.ntmps12
    go_wp2
    go_ret
    exact ⟨rfl, Below.refl _ _⟩
  obtain rfl : p = 0 := by omega
  by_cases h0 : n = 0
  · subst h0
    clear hp
    go_enter Tryd.func12, Tryd.ntmps12
    go_wp2
    go_ret
    exact ⟨rfl, Below.refl _ _⟩
  obtain ⟨m, hm⟩ : ∃ m, n = 2 * m := ⟨n / 2, by omega⟩
  have hm4 : 1 ≤ m ∧ m ≤ 4 := by omega
  have h0z : 0 < n := by omega
  have h0b : ((n : Int) == 0) = false := by rw [beq_eq_false_iff_ne]; omega
  have HM := hid hm
  have HM4 := hid hm4
  clear hm hp hm4 hodd
  go_enter Tryd.func12, Tryd.ntmps12
  go_upto_region 6 with fail
  obtain ⟨w1, hw1⟩ : ∃ w1, w1 = w.alloc (.cells #[.bool false, .slice none 0 0, .slice none 0 0, .slice none 0 0, .int .i64 (-1), .int .i64 0] 40) := ⟨_, rfl⟩
  have HB1 := hid (show Below w.heap.size w w1 by rw [hw1]; exact (Below.refl _ _).alloc (Nat.le_refl _) _)
  have HX1 := hid (show Blk w1 w.heap.size [.bool false, .slice none 0 0, .slice none 0 0, .slice none 0 0, .int .i64 (-1), .int .i64 0] 40 by rw [hw1]; exact Blk.new' rfl rfl)
  rw [← hw1]
  have HV1 := hid (show VrAt w w1 (.slice none 0 0) (.slice none 0 0) [] [] from ⟨HB1.out, HX1.out, World.ownsRow_nil _ _ _ _, World.ownsRow_nil _ _ _ _, .inl rfl⟩)
  clear hw1
  go_loopg [4, 5] m (fun gk s4 s5 wr => ∃ (j : Nat) (u : Value) (acc : List T), s5 = .int .i64 ((2 * j : Nat) : Int) ∧ j ≤ m ∧ m - j ≤ gk ∧ Hid (VrAt w wr s4 u (vPs l j) acc) ∧ Hid (acc = varsOf (vPs l j)))
  case atStart => exact ⟨0, _, [], rfl, Nat.zero_le _, Nat.le_refl _, HV1.out, rfl⟩
  case round =>
    obtain ⟨j, u, acc, rfl, hjm, hg, HV, HACC⟩ := hrel
    have HG := hid hg
    clear hg HV1 HX1
    by_cases hlt : j < m
    · obtain ⟨i, hi⟩ : ∃ i, i = 2 * j := ⟨_, rfl⟩
      rw [← hi]
      have hin : i + 1 < n := by have := HM.out; omega
      have hin0 : i < n := by omega
      have hiz : (i : Int) < (n : Int) := by omega
      have hiz1 : (i : Int) + 1 < (n : Int) := by omega
      obtain ⟨ba, oa, rfl, hc⟩ := HR.out.get hin0
      have HBW := hid HV.out.below
      have c0 := below_keep HBW.out (hc i hin0)
      have c1 := below_keep HBW.out (hc (i + 1) hin)
      have hx := HBD.out i
      have hy := HBD.out (i + 1)
      have HPA := hid (show vPa l j = ⟨vEn (l.getD i 0), .mk 1 [112] [] [], vEn (l.getD (i + 1) 0)⟩ by unfold vPa; rw [← hi])
      generalize l.getD i 0 = x at c0 hx HPA
      generalize l.getD (i + 1) 0 = y at c1 hy HPA
      unfold i64v at c0 c1
      have hba := lt_of_cell c0
      have ax := and_3 x
      have ay := and_3 y
      have lx := ch3_le x
      have ly := ch3_le y
      have HNX := hid (show nmT x = [UInt8.ofNat (97 + ch3 x)] from rfl)
      have HNY := hid (show nmT y = [UInt8.ofNat (97 + ch3 y)] from rfl)
      generalize ch3 x = A at ax lx HNX
      generalize ch3 y = B at ay ly HNY
      obtain ⟨A', hA'⟩ : ∃ k, k = 97 + A := ⟨_, rfl⟩
      obtain ⟨B', hB'⟩ : ∃ k, k = 97 + B := ⟨_, rfl⟩
      rw [← hA'] at HNX
      rw [← hB'] at HNY
      have hA : A' ≤ 255 := by omega
      have hB : B' ≤ 255 := by omega
      have eA : IntKind.u8.wrap (IntKind.i64.wrap (97 + (A : Int))) = (A' : Int) := by
        rw [hA', IntWalk.i64_in _ ⟨by omega, by omega⟩]
        show ((97 + (A : Int)) % 256) = _
        omega
      have eB : IntKind.u8.wrap (IntKind.i64.wrap (97 + (B : Int))) = (B' : Int) := by
        rw [hB', IntWalk.i64_in _ ⟨by omega, by omega⟩]
        show ((97 + (B : Int)) % 256) = _
        omega
      obtain ⟨i1, hi1⟩ : ∃ k, k = i + 1 := ⟨_, rfl⟩
      have ei : IntKind.i64.wrap ((i : Int) + 1) = (i1 : Int) := by rw [IntWalk.i64_in _ ⟨by omega, by omega⟩]; omega
      rw [← hi1] at c1
      have hi1z : (i1 : Int) < (n : Int) := by omega
      have hi1n : i1 < n := by omega
      have HI1 := hid hi1
      have HI := hid hi
      clear hi hc hi1 hA' hB' hiz1 hin
      obtain ⟨zx, hzx⟩ : ∃ z, z = UInt8.ofNat A' := ⟨_, rfl⟩
      obtain ⟨zy, hzy⟩ : ∃ z, z = UInt8.ofNat B' := ⟨_, rfl⟩
      rw [← hzx] at HNX
      rw [← hzy] at HNY
      have cA := fun W b hb => convA W b hb A' hA hzx
      have cB := fun W b hb => convA W b hb B' hB hzy
      have cA2 := fun W b o hb => convB W b hb A' o hA hzx
      have cB2 := fun W b o hb => convB W b hb B' o hB hzy
      have cAd := fun W b hb => convAd W b hb A' hA hzx
      have cBd := fun W b hb => convAd W b hb B' hB hzy
      have cA2d := fun W b o hb => convBd W b hb A' o hA hzx
      have cB2d := fun W b o hb => convBd W b hb B' o hB hzy
      clear hzx hzy
      have HNX' := HNX.out
      have HNY' := HNY.out
      have hBA := hid (show Below wr.heap.size wr ((wr.alloc (.cells #[.int .u8 A'] 5)).alloc (.cells #[.int .u8 B'] 5)).drew from (((Below.refl wr.heap.size wr).alloc (Nat.le_refl _) _).alloc (by simp) _).drew)
      have hBB := hid (show Below wr.heap.size wr ((wr.alloc (.cells #[.int .u8 B'] 5)).alloc (.cells #[.int .u8 A'] 5)).drew from (((Below.refl wr.heap.size wr).alloc (Nat.le_refl _) _).alloc (by simp) _).drew)
      clear HNX' HNY'
      go_upto_region 8 with fail
      go_cut [6, 7] (fun s6 s7 wx => s6 = str [zx] ∧ s7 = str [zy] ∧ Hid (Below wr.heap.size wr wx))
      case first =>
        go_region_with fail
        all_goals
          go_wp2_with fail
          go_meet
          exact ⟨rfl, rfl, by first | exact hBA | exact hBB⟩
      case rest =>
        obtain ⟨rfl, rfl, HBc⟩ := hcut
        have HVc := hid (HV.out.keep HBc.out)
        clear cA cB cA2 cB2 cAd cBd cA2d cB2d hBA hBB c0 c1 hba ax ay eA eB ei HV HBW
        obtain ⟨wz, rfl⟩ : ∃ wz : World, wz = wc := ⟨_, rfl⟩
        have e2 := HVc.out.box.cell (i := 2) rfl
        obtain ⟨iP, hiP, ⟨zP, hzP, hzP2⟩, hsP, hbP⟩ := info_pat
        obtain ⟨iS, hiS, hzS, hsS, hbS⟩ := info_parts Tryd.infoStr1
        have HZ := hid (show w.heap.size + 1 ≤ wz.heap.size by have := HVc.out.box.lt; omega)
        have HLP := hid (show (vPs l j).length + 1 ≤ maxLen ∧ ((vPs l j).length + 1) * 184 ≤ 140737488355328 by rw [vPs_len]; have := HM4.out; unfold maxLen; omega)
        have HPC := hid (show paC (vPa l j) (.slice none 0 0) (.slice none 0 0) = [str [zx], .int .i64 0, str [], str [], .int .i64 1, str [112], .slice none 0 0, .slice none 0 0, str [zy], .int .i64 0, str [], str []] by
          rw [HPA.out]; unfold paC vEn; simp only [HNX.out, HNY.out]; rfl)
        obtain ⟨wp, hwp⟩ : ∃ wp, wp = wz.alloc (.cells #[str [zx], .int .i64 0, str [], str [], .int .i64 1, str [112], .slice none 0 0, .slice none 0 0, str [zy], .int .i64 0, str [], str []] 53) := ⟨_, rfl⟩
        have HRp := hid (show wp.ownsRow (w.heap.size + 1) 53 12 u (vPs l j).length (paRow (vPs l j)) by rw [hwp]; exact HVc.out.rows.alloc _)
        have HNEW := hid (show ∀ ad, some (⟨wz.heap.size, 0, none⟩ : Addr) = some ad → ∀ q v, (paC (vPa l j) (.slice none 0 0) (.slice none 0 0))[q]? = some v → wp.cell? (ad.add q) = some v by
          intro ad had q v hv
          cases had
          rw [HPC.out] at hv
          rw [add_cell rfl, Nat.zero_add, hwp, cell_new, ← Array.getElem?_toList]
          exact hv)
        have HZp := hid (show w.heap.size + 1 ≤ wp.heap.size by rw [hwp]; simp; have := HZ.out; omega)
        have HWP := hid hwp
        have HVp := hid (show VrAt w wp u4 u (vPs l j) acc by rw [hwp]; exact HVc.out.keep ((Below.refl wz.heap.size wz).alloc (Nat.le_refl _) _))
        have HPL := hid (show (paC (vPa l j) (.slice none 0 0) (.slice none 0 0)).length = 1 * 12 by rfl)
        have HP1 := hid (paC_one (vPa l j) (.slice none 0 0) (.slice none 0 0) rfl rfl)
        clear hwp
        go_upto_region 10 with (at_builtin; show wpList _ _ _ _ _ (wz.alloc (.cells #[str [zx], .int .i64 0, str [], str [], .int .i64 1, str [112], .slice none 0 0, .slice none 0 0, str [zy], .int .i64 0, str [], str []] 53)); rw [← HWP.out]; refine wpList_append_blk rfl _ _ 37 rfl (w.heap.size + 1) 53 iP zP 12 184 Tryd.underlying37 hiP hzP hsP hbP hzP2 (by decide) u (vPs l j).length (paRow (vPs l j)) rfl HRp.out (some ⟨wz.heap.size, 0, none⟩) 1 1 (paC (vPa l j) (.slice none 0 0) (.slice none 0 0)) rfl (fun h => by cases h) HPL.out HNEW.out HP1.out HLP.out.1 HLP.out.2 HZp.out ?_; intro u7 w7 g1 g2 g3; have G1 := hid g1; have HV7 := hid ((HVc.out).pat (o := .cells #[str [zx], .int .i64 0, str [], str [], .int .i64 1, str [112], .slice none 0 0, .slice none 0 0, str [zy], .int .i64 0, str [], str []] 53) g1 (by rw [← HWP.out]; exact g2) (by rw [← HWP.out]; exact g3)); have HB7 := hid (HVp.out.box2 (fun k hk => (HRp.out.lt k hk).1) g2); have e2 := HB7.out.cell (i := 2) rfl; have f2 := HB7.out.free 2; obtain ⟨ua, uc, rfl⟩ := own_slice g1; clear g1 g2 g3)
        clear e2 f2 HB7 G1 HVp HRp HNEW HP1 HPL HWP HLP HZp HZ HPC HVc hiP hzP hzP2 hsP hbP
        have HV8 := HV7
        generalize w7.setCell ⟨w.heap.size, 2, none⟩ (.slice ua ((vPs l j).length + 1) uc) = w8 at HV8 ⊢
        generalize Value.slice ua ((vPs l j).length + 1) uc = u9 at HV8
        clear HV7
        rw [← vPs_snoc] at HV8
        have HNXT := hid (show varsOf (vPs l (j + 1)) = addV (addV acc [zx]) [zy] by
          unfold varsOf
          rw [vPs_snoc, show names (vPs l j ++ [vPa l j]) = names (vPs l j) ++ [[zx], [zy]] by
            unfold names
            rw [List.flatMap_append, HPA.out]
            simp [vEn, HNX.out, HNY.out], addsV_append, ← show acc = addsV [] (names (vPs l j)) from HACC.out]
          rfl)
        have HALa := hid (show acc.length ≤ 20 by
          rw [HACC.out]
          have h1 := addsV_len [] (names (vPs l j))
          rw [names_len, vPs_len] at h1
          have := HM4.out
          unfold varsOf
          simp at h1; omega)
        have PLa := hid (place_any u4 acc [zx] w8 (SlAt.own (f := str) (d := []) HV8.out.want rfl) (by have := HALa.out; omega))
        have hpza := placeZ_nonneg acc [zx]
        obtain ⟨pza, hpa⟩ : ∃ p, p = placeZ acc [zx] := ⟨_, rfl⟩
        rw [← hpa] at hpza PLa
        clear hpa
        by_cases hina : [zx] ∈ acc
        · have hnega : ¬ pza < 0 := by have := hpza.2 hina; omega
          have HADa := hid (show addV acc [zx] = acc from addV_old (.inl (decide_eq_true hina)))
          clear hpza hina
          go_upto_region 12 with (go_at_call 28; refine PLa.out.mono ?_; rintro e w8 ⟨rfl, hw⟩; subst hw)
          have HALb := hid (show acc.length ≤ 100 by have := HALa.out; omega)
          have PLb := hid (place_any u4 acc [zy] w8 (SlAt.own (f := str) (d := []) HV8.out.want rfl) (by have := HALb.out; omega))
          have hpzb := placeZ_nonneg acc [zy]
          obtain ⟨pzb, hpb⟩ : ∃ p, p = placeZ acc [zy] := ⟨_, rfl⟩
          rw [← hpb] at hpzb PLb
          clear hpb
          by_cases hinb : [zy] ∈ acc
          · have hnegb : ¬ pzb < 0 := by have := hpzb.2 hinb; omega
            have HADb := hid (show addV acc [zy] = acc from addV_old (.inl (decide_eq_true hinb)))
            clear hpzb hinb
            go_wp2_with (go_at_call 28; refine PLb.out.mono ?_; rintro e w8 ⟨rfl, hw⟩; subst hw)
            go_roundg (m - (j + 1))
            case measure => have := HG.out; omega
            case rel =>
              refine ⟨j + 1, u9, acc, ?_, by omega, by omega, HV8.out, ?_⟩
              · have := HI.out; go_num
              · show _ = _
                rw [HNXT.out, HADa.out, HADb.out]

          · have hnegb : pzb < 0 := by have h9 : ¬ 0 ≤ pzb := fun h => hinb (hpzb.1 h); omega
            have HADb := hid (show addV acc [zy] = acc ++ [[zy]] from addV_new (decide_eq_false hinb) (by simp))
            clear hpzb hinb
            have HZb := hid (show w.heap.size + 1 ≤ w8.heap.size by have := HV8.out.box.lt; omega)
            go_upto_region 13 with (go_at_call 28; refine PLb.out.mono ?_; rintro e w8 ⟨rfl, hw⟩; subst hw)
            have HWNb := hid HV8.out.want
            have HLNb := hid (show acc.length + 1 ≤ maxLen ∧ (acc.length + 1) * 16 ≤ 140737488355328 by have := HALb.out; unfold maxLen; omega)
            go_wp2_with (at_builtin; refine wpList_append_one rfl _ _ 22 rfl (w.heap.size + 1) 9 iS (.string ByteArray.empty) 16 Tryd.underlying22 hiS hzS hsS hbS (by kernel_rfl) u4 acc.length (acc.map str) (str [zy]) w8 rfl rfl HWNb.out rfl rfl HLNb.out.1 HLNb.out.2 HZb.out ?_; intro vb wb g1 g2 g3; have HVb := hid (HV8.out.name g1 g2 g3); clear g1 g2 g3)
            go_roundg (m - (j + 1))
            case measure => have := HG.out; omega
            case rel =>
              refine ⟨j + 1, u9, (acc ++ [[zy]]), ?_, by omega, by omega, HVb.out, ?_⟩
              · have := HI.out; go_num
              · show _ = _
                rw [HNXT.out, HADa.out, HADb.out]


        · have hnega : pza < 0 := by have h9 : ¬ 0 ≤ pza := fun h => hina (hpza.1 h); omega
          have HADa := hid (show addV acc [zx] = acc ++ [[zx]] from addV_new (decide_eq_false hina) (by simp))
          clear hpza hina
          have HZa := hid (show w.heap.size + 1 ≤ w8.heap.size by have := HV8.out.box.lt; omega)
          go_upto_region 11 with (go_at_call 28; refine PLa.out.mono ?_; rintro e w8 ⟨rfl, hw⟩; subst hw)
          have HWNa := hid HV8.out.want
          have HLNa := hid (show acc.length + 1 ≤ maxLen ∧ (acc.length + 1) * 16 ≤ 140737488355328 by have := HALa.out; unfold maxLen; omega)
          go_upto_region 12 with (at_builtin; refine wpList_append_one rfl _ _ 22 rfl (w.heap.size + 1) 9 iS (.string ByteArray.empty) 16 Tryd.underlying22 hiS hzS hsS hbS (by kernel_rfl) u4 acc.length (acc.map str) (str [zx]) w8 rfl rfl HWNa.out rfl rfl HLNa.out.1 HLNa.out.2 HZa.out ?_; intro va wa g1 g2 g3; have HVa := hid (HV8.out.name g1 g2 g3); clear g1 g2 g3)
          have HALb := hid (show (acc ++ [[zx]]).length ≤ 100 by have := HALa.out; simp; omega)
          have PLb := hid (place_any va (acc ++ [[zx]]) [zy] wa (SlAt.own (f := str) (d := []) HVa.out.want rfl) (by have := HALb.out; omega))
          have hpzb := placeZ_nonneg (acc ++ [[zx]]) [zy]
          obtain ⟨pzb, hpb⟩ : ∃ p, p = placeZ (acc ++ [[zx]]) [zy] := ⟨_, rfl⟩
          rw [← hpb] at hpzb PLb
          clear hpb
          by_cases hinb : [zy] ∈ (acc ++ [[zx]])
          · have hnegb : ¬ pzb < 0 := by have := hpzb.2 hinb; omega
            have HADb := hid (show addV (acc ++ [[zx]]) [zy] = (acc ++ [[zx]]) from addV_old (.inl (decide_eq_true hinb)))
            clear hpzb hinb
            go_wp2_with (go_at_call 28; refine PLb.out.mono ?_; rintro e wa ⟨rfl, hw⟩; subst hw)
            go_roundg (m - (j + 1))
            case measure => have := HG.out; omega
            case rel =>
              refine ⟨j + 1, u9, (acc ++ [[zx]]), ?_, by omega, by omega, HVa.out, ?_⟩
              · have := HI.out; go_num
              · show _ = _
                rw [HNXT.out, HADa.out, HADb.out]

          · have hnegb : pzb < 0 := by have h9 : ¬ 0 ≤ pzb := fun h => hinb (hpzb.1 h); omega
            have HADb := hid (show addV (acc ++ [[zx]]) [zy] = (acc ++ [[zx]]) ++ [[zy]] from addV_new (decide_eq_false hinb) (by simp))
            clear hpzb hinb
            have HZb := hid (show w.heap.size + 1 ≤ wa.heap.size by have := HVa.out.box.lt; omega)
            go_upto_region 13 with (go_at_call 28; refine PLb.out.mono ?_; rintro e wa ⟨rfl, hw⟩; subst hw)
            have HWNb := hid HVa.out.want
            have HLNb := hid (show (acc ++ [[zx]]).length + 1 ≤ maxLen ∧ ((acc ++ [[zx]]).length + 1) * 16 ≤ 140737488355328 by have := HALb.out; unfold maxLen; omega)
            go_wp2_with (at_builtin; refine wpList_append_one rfl _ _ 22 rfl (w.heap.size + 1) 9 iS (.string ByteArray.empty) 16 Tryd.underlying22 hiS hzS hsS hbS (by kernel_rfl) va (acc ++ [[zx]]).length ((acc ++ [[zx]]).map str) (str [zy]) wa rfl rfl HWNb.out rfl rfl HLNb.out.1 HLNb.out.2 HZb.out ?_; intro vb wb g1 g2 g3; have HVb := hid (HVa.out.name g1 g2 g3); clear g1 g2 g3)
            go_roundg (m - (j + 1))
            case measure => have := HG.out; omega
            case rel =>
              refine ⟨j + 1, u9, ((acc ++ [[zx]]) ++ [[zy]]), ?_, by omega, by omega, HVb.out, ?_⟩
              · have := HI.out; go_num
              · show _ = _
                rw [HNXT.out, HADa.out, HADb.out]



    · obtain rfl : j = m := by omega
      obtain ⟨i, hi⟩ : ∃ i, i = 2 * j := ⟨_, rfl⟩
      rw [← hi]
      have hiz : ¬ (i : Int) < (n : Int) := by have := HM.out; omega
      have HBx := hid (HV.out.box)
      have e0 := HBx.out.cell (i := 0) rfl
      have e1 := HBx.out.cell (i := 1) rfl
      have e2 := HBx.out.cell (i := 2) rfl
      have e3 := HBx.out.cell (i := 3) rfl
      have e4 := HBx.out.cell (i := 4) rfl
      have e5 := HBx.out.cell (i := 5) rfl
      have HPA := hid (pas_own HV.out.rows)
      have HWA := hid HV.out.want
      have HBW := hid HV.out.below
      have HQA := hid (show ∀ W, Below wr.heap.size wr W → QyAt W (.slice none 0 0) u (.slice none 0 0) ⟨false, [], vPs l j, [], -1, 0⟩ from fun W hb =>
        ⟨SlAt.nil _, HPA.out.keep hb, ⟨none, 0, 0, 0, rfl, Nat.le_refl _, by unfold maxLen; omega, fun _ => rfl, fun h => absurd h (by simp), fun i hi => absurd hi (by simp), fun i hi => absurd hi (by simp)⟩, ⟨(by decide : (-9223372036854775808 : Int) ≤ -1), (by decide : (-1 : Int) ≤ 9223372036854775807)⟩, ⟨(by decide : (-9223372036854775808 : Int) ≤ 0), (by decide : (0 : Int) ≤ 9223372036854775807)⟩⟩)
      have IS := hid (fun W (hb : Below wr.heap.size wr W) => qis_any I0 ⟨false, [], vPs l j, [], -1, 0⟩ (.slice none 0 0) u (.slice none 0 0) W (HQA.out W hb) ((HQ.out.keep (below_then HBW.out hb)).1) (fun p hp => by
        simp only [vPs, List.mem_map] at hp
        obtain ⟨k, _, rfl⟩ := hp
        exact ⟨fun h => absurd h (nm_ne _), fun h => absurd h (nm_ne _)⟩) (by simp))
      rw [vIs l j HM4.out] at IS
      have KN := hid (fun W (hb : Below wr.heap.size wr W) => qknown_any W (HQ.out.keep (below_then HBW.out hb)))
      have VV := hid (qvars_any (vPs l j) wr u false none none 0 0 0 0 (-1) 0 HPA.out (by rw [vPs_len]; have := HM4.out; omega))
      rw [← show acc = varsOf (vPs l j) from HACC.out] at VV
      unfold qyV at IS
      simp only at IS
      obtain ⟨ua, uc, hu⟩ := own_slice HV.out.rows
      obtain ⟨xa, xc, hu4⟩ := own_slice HV.out.want
      rw [vPs_len] at hu
      have HI := hid hi
      have hN100 : acc.length ≤ 1000 := by rw [HACC.out]; have := vars_four l j; omega
      obtain ⟨N, hN⟩ : ∃ N, N = acc.length := ⟨_, rfl⟩
      rw [← hN] at hN100 hu4
      have HN2 := hid hN
      subst hu
      subst hu4
      clear hN hi
      go_upto_region 15 with (go_at_call 24; refine VV.out.mono ?_; rintro e w8 ⟨v8, rfl, ht, hb⟩; have HT8 := hid ht; have HB8 := hid hb; clear hb; obtain ⟨a8, q8, rfl, _⟩ := ht.open; clear ht)
      rw [← HN2.out] at HT8 ⊢
      have HT4 := hid ((SlAt.own (f := str) (d := []) HWA.out rfl).keep HB8.out)
      have HR8 := hid (show RowAt w8 a8 N fun i => str (acc.getD i []) by
        obtain ⟨a', c', e, _, _, _, hr⟩ := HT8.out.open
        simp only [Value.slice.injEq] at e
        obtain ⟨rfl, _, rfl⟩ := e
        rw [HN2.out]; exact hr)
      have HR4 := hid (show RowAt w8 xa N fun i => str (acc.getD i []) by
        obtain ⟨a', c', e, _, _, _, hr⟩ := HT4.out.open
        simp only [Value.slice.injEq] at e
        obtain ⟨rfl, _, rfl⟩ := e
        rw [HN2.out]; exact hr)
      clear e0 e1 e2 e3 e4 e5
      have heq : ((N : Int) == (N : Int)) = true := by simp
      go_upto_region 18 with fail
      go_loopg [9] N (fun gk s9 wq => ∃ k : Nat, s9 = .int .i64 k ∧ k ≤ N ∧ N - k ≤ gk ∧ Hid (Below w8.heap.size w8 wq))
      case atStart => exact ⟨0, rfl, Nat.zero_le _, Nat.le_refl _, Below.refl _ _⟩
      case round =>
        obtain ⟨k, rfl, hkN, hgk, HBq⟩ := hrel
        by_cases hlt2 : k < N
        · have hkz : (k : Int) < (N : Int) := by omega
          obtain ⟨b1, o1, rfl, hc1⟩ := HR8.out.get hlt2
          obtain ⟨b2, o2, rfl, hc2⟩ := HR4.out.get hlt2
          have d1 := below_keep HBq.out (hc1 k hlt2)
          have d2 := below_keep HBq.out (hc2 k hlt2)
          generalize acc.getD k [] = t at d1 d2
          have hbe : (t == t) = true := by simp
          have hbn : (t != t) = false := by simp
          clear hc1 hc2
          go_upto_region 20 with fail
          have d1 := fun p : Later wr.heap.size wr => p.keep d1
          have d2 := fun p : Later wr.heap.size wr => p.keep d2
          refine wp_region_later wr.heap.size (by kernel_rfl) (by kernel_rfl) ?_
          repeat (go_big_quiet_step (fail))
          refine wpQuiet_nil ?_
          rintro wy ⟨p1, hwy⟩
          have HBy := hid (below_then HBq.out (show Below wr.heap.size wr wy by rw [hwy]; exact p1.low))
          clear hwy p1 d1 d2
          go_wp2
          go_roundg (N - (k + 1))
          case measure => omega
          case rel => exact ⟨k + 1, by go_num, by omega, by omega, HBy.out⟩
        · obtain rfl : k = N := by omega
          have hkz : ¬ (k : Int) < (k : Int) := by omega
          have HBQ := hid (below_then HB8.out HBq.out)
          have HBz := hid (HBx.out.keep HBQ.out)
          have e0 := HBz.out.cell (i := 0) rfl
          have e1 := HBz.out.cell (i := 1) rfl
          have e2 := HBz.out.cell (i := 2) rfl
          have e3 := HBz.out.cell (i := 3) rfl
          have e4 := HBz.out.cell (i := 4) rfl
          have e5 := HBz.out.cell (i := 5) rfl
          have IS2 := hid (IS.out wr HBQ.out)
          have KN2 := hid (fun W (h : Below wr.heap.size wr W) => KN.out W (below_then HBQ.out h))
          have HBW2 := hid (below_then HBW.out HBQ.out)
          go_wp2_with (first
            | (go_at_call 26; refine IS2.out.mono ?_; rintro e w9 ⟨rfl, hb⟩; have HB9 := hid hb; clear hb)
            | (go_at_call 17; refine (KN2.out _ HB9.out).mono ?_; rintro e w10 ⟨rfl, hb⟩; have HB10 := hid hb; clear hb))
          go_ret
          exact ⟨rfl, below_then HBW2.out (below_then HB9.out HB10.out)⟩

theorem queryVars_walk (H : Type) (enc : TypeId × Value → H) (W : World) (base : Nat) (args : Array Value) (ds gs : List (DataW H)) (before : List MemPlace)
    (hval : ∀ (j : Nat) t v, Tryd.f12.params[j]? = some t → args[j]? = some v → Value.okWide Tryd.prog W .any base t v)
    (hW : DataW.Whole enc Tryd.prog Tryd.f12.params.toList Rows.queryVarsSpec.vars false W args.toList ds gs before)
    (hz : (DataW.weightsEach Tryd.prog (Tryd.f12.params.toList ++ Rows.queryVarsSpec.plain.varTypes Tryd.prog) (ds ++ gs)).all (· ≤ reachBytes) = true)
    (hL : laidMetH Tryd.prog Rows.queryVarsRow.laid W) (hsh : W.ShapedOpen Tryd.prog) :
    Calls Tryd.prog 12 args W fun e W' => e = .returned (.bool true) ∧ Below W.heap.size W W' := by
  obtain ⟨p, q, hA, _, _, _, _⟩ := hW
  rw [Tryd.params12] at hA hval
  rw [Tryd.params12] at hz
  obtain ⟨v0, vs0, d0, ds0, p0, q0, hargs, rfl, rfl, h0, r0⟩ := trodAll_cons hA
  obtain ⟨rfl, rfl, rfl⟩ := trodAll_nil r0
  obtain rfl : args = #[v0] := by cases args; simp_all
  obtain ⟨l0, L0, b0, z0⟩ := arg_ints Tryd.underlying46 Tryd.underlying3 (show Tryd.prog.cellsOf 3 = 1 ∧ Tryd.prog.bytesOf 3 = 8 by exact ⟨by kernel_rfl, by kernel_rfl⟩) (hval 0 46 v0 rfl rfl) h0 (sized_arg hz (j := 0) (t := 46) (d := d0) rfl rfl)
  exact queryVars_any v0 l0 W L0 b0 (qvars_of hL hsh)

theorem queryVars_lifted (os : Os) (started : os.Started) (H : Type) (enc : TypeId × Value → H) (F : Stop.Interp) :
    ReturnsInHanded {} Tryd.checked os 12 .any ((OpenSpec.ofChange Rows.queryVarsSpec).preRow enc Tryd.prog Tryd.f12 Rows.queryVarsRow.domain false Rows.queryVarsRow.laid) (((OpenSpec.ofChange Rows.queryVarsSpec).at F).post enc Tryd.prog Tryd.f12 false true false false) := by
  obtain ⟨places, hx⟩ : ∃ places, DataW.whole enc Tryd.prog ((laidWorld os).forCall (fun _ _ => 0) ⟨#[], #[.slice none 0 0], []⟩).memory Tryd.f12.params.toList Rows.queryVarsSpec.vars false (#[.slice none 0 0] : Array Value).toList 8 = some ([.nil], [], places) := ⟨[], by kernel_rfl⟩
  refine returnsInHanded_of_row (C := Tryd.checked) (s := OpenSpec.ofChange Rows.queryVarsSpec) own started (by kernel_rfl) Tryd.func12
    (witness_row_at (enc := enc) (C := Tryd.checked) false (laidWorld os) #[.slice none 0 0] rfl (by kernel_rfl) (by kernel_rfl) (by kernel_rfl)
      (OpenSpec.preRow_of_cond 8 hx (by kernel_rfl) (fun k hk => by cases hk) (by kernel_rfl) (laidMet_of_run' 8 (by kernel_rfl) (by kernel_rfl)))) ?_
  intro W base args ds gs before hval hW _ _ hz hL hsh _
  refine (queryVars_walk H enc W base args ds gs before hval hW hz hL hsh).mono fun e W' ⟨he, hb⟩ => ⟨_, he, ?_⟩
  exact law_post (fn := Tryd.f12) (s := Rows.queryVarsSpec) (tb := 4) rfl (fun ds hd => by match ds, hd with | [d0], _ => rfl) rfl Tryd.underlying4 (by kernel_rfl) hW hb

theorem queryVars_said : Rows.QueryVarsSaid :=
  OpenClaim.holds_of_cond 12 Tryd.f12 rfl rfl rfl rfl rfl rfl rfl ⟨rfl, rfl, rfl, rfl, rfl⟩ rfl rfl rfl rfl rfl (by kernel_rfl) Tryd.func12 (by kernel_rfl)
    (of_decide_eq_true (by kernel_rfl)) (by unfold Func.isWrapper; first | (rw [if_pos (by decide +kernel)]; kernel_rfl) | (rw [if_neg (by decide +kernel)]; exact ⟨rfl, rfl⟩))
    (fun os started H enc _ F => by rw [OpenClaim.pre_eq_preRow]; exact queryVars_lifted os started H enc F)

theorem queryVars_plain (f : FuncId) (fn : Func) (hf : Tryd.pinned.checked.prog.funcNamed Rows.queryVarsRow.func = some f) (hfn : Tryd.pinned.checked.prog.funcs[f]? = some fn) :
    false = Tryd.pinned.checked.prog.looks [] ∧ ∀ (j : Nat) t, fn.params[j]? = some t → Tryd.pinned.checked.prog.wantsStandIn t = false := by
  obtain rfl : f = 12 := Option.some.inj ((show Tryd.prog.funcNamed Rows.queryVarsRow.func = some 12 by kernel_rfl).symm.trans hf) |>.symm
  obtain rfl : fn = Tryd.f12 := (Option.some.inj (Tryd.func12.symm.trans hfn)).symm
  refine ⟨by kernel_rfl, fun j t ht => ?_⟩
  have h := Array.mem_of_getElem? ht
  have hall : Tryd.f12.params.all (fun t => !Tryd.prog.wantsStandIn t) = true := by kernel_rfl
  have := Array.all_eq_true_iff_forall_mem.1 hall t h
  show Tryd.prog.wantsStandIn t = false
  simpa using this

/-- THE STATEMENT. -/
theorem queryVars_card : Rows.QueryVarsCardSaid :=
  Claim7.holds_tied_plain_at .later [] _ _ _ _ queryVars_said (fun _ h => by cases h) (by kernel_rfl) (fun _ h => by cases h) queryVars_row_tie rfl ⟨rfl, rfl⟩ (by kernel_rfl) rfl queryVars_plain (by kernel_rfl)
end Go.Proofs.YtagmgkplfhlifaaDoor
