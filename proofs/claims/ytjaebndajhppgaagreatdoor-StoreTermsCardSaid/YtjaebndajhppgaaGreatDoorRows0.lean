/- Slices, as what they read: bytes, numbers, texts, rows of bytes; how arguments read so. -/
import Derived.Test.YtjaebndajhppgaaGreatDoorOwn
import Derived.SizedLaws
namespace Go.Proofs.YtjaebndajhppgaaGreatDoor
set_option linter.unusedVariables false
set_option maxRecDepth 100000
set_option linter.unusedSimpArgs false
open Go.ChangeShapes Go.WideShapes Go.ChangeAt Go.RowKit

/-- A slice of n elements of one cell each; element i is V i. -/
def SlV (W : World) (v : Value) (n : Nat) (V : Nat → Value) : Prop := ∃ (a : Option Addr) (cap : Nat), v = .slice a n cap ∧ n ≤ cap ∧ cap ≤ maxLen ∧ (a = none → cap = 0) ∧ RowAt W a n V
/-- A slice that reads as a list. -/
def SlAt {α : Type} (f : α → Value) (d : α) (W : World) (v : Value) (l : List α) : Prop := SlV W v l.length fun i => f (l.getD i d)
def u8v (x : Nat) : Value := .int .u8 (x : Nat)
def i64v (x : Int) : Value := .int .i64 x
def strv (x : List Nat) : Value := .string (strOf x)
abbrev BytesAt (W : World) (v : Value) (l : List Nat) : Prop := SlAt u8v 0 W v l
abbrev NumsAt (W : World) (v : Value) (l : List Int) : Prop := SlAt i64v 0 W v l
def boolv (x : Bool) : Value := .bool x
abbrev BoolsAt (W : World) (v : Value) (l : List Bool) : Prop := SlAt boolv false W v l
/-- A slice of texts. -/
abbrev StrsAt (W : World) (v : Value) (l : List (List Nat)) : Prop := SlAt strv [] W v l
/-- A slice of rows of bytes. -/
def BRowsAt (W : World) (v : Value) (L : List (List Nat)) : Prop := ∃ V, SlV W v L.length V ∧ ∀ i, i < L.length → BytesAt W (V i) (L.getD i [])

theorem SlV.keep {W W' : World} {v : Value} {n : Nat} {V : Nat → Value} (h : SlV W v n V) (hb : Below W.heap.size W W') : SlV W' v n V := by
  obtain ⟨a, cap, e, h1, h2, h3, r⟩ := h; exact ⟨a, cap, e, h1, h2, h3, r.keep hb⟩
theorem SlAt.keep {α : Type} {f : α → Value} {d : α} {W W' : World} {v : Value} {l : List α} (h : SlAt f d W v l) (hb : Below W.heap.size W W') : SlAt f d W' v l := SlV.keep h hb
theorem BRowsAt.keep {W W' : World} {v : Value} {L : List (List Nat)} (h : BRowsAt W v L) (hb : Below W.heap.size W W') : BRowsAt W' v L := by
  obtain ⟨V, h1, h2⟩ := h; exact ⟨V, h1.keep hb, fun i hi => (h2 i hi).keep hb⟩
theorem SlV.drawn {W : World} {v : Value} {n : Nat} {V : Nat → Value} (h : SlV W v n V) (q : Nat) : SlV (W.drewN q) v n V := h
theorem SlAt.drawn {α : Type} {f : α → Value} {d : α} {W : World} {v : Value} {l : List α} (h : SlAt f d W v l) (q : Nat) : SlAt f d (W.drewN q) v l := h
theorem SlAt.congr {α : Type} {f : α → Value} {d : α} {W : World} {v : Value} {l k : List α} (h : SlAt f d W v l) (e : l = k) : SlAt f d W v k := e ▸ h
/-- The parts: the address, the room, and each cell. -/
theorem SlAt.open {α : Type} {f : α → Value} {d : α} {W : World} {v : Value} {l : List α} (h : SlAt f d W v l) : ∃ (a : Option Addr) (cap : Nat), v = .slice a l.length cap ∧ l.length ≤ cap ∧ cap ≤ maxLen ∧ (a = none → l.length = 0 ∧ cap = 0) ∧ RowAt W a l.length fun i => f (l.getD i d) := by
  obtain ⟨a, cap, e, h1, h2, h3, r⟩ := h; exact ⟨a, cap, e, h1, h2, fun h => ⟨by have := h3 h; omega, h3 h⟩, r⟩
theorem SlAt.len {α : Type} {f : α → Value} {d : α} {W : World} {v : Value} {l : List α} (h : SlAt f d W v l) : l.length ≤ maxLen := by
  obtain ⟨a, cap, e, h1, h2, h3, r⟩ := h; omega
theorem SlAt.nil {α : Type} {f : α → Value} {d : α} (W : World) : SlAt f d W (.slice none 0 0) [] := ⟨none, 0, rfl, Nat.le_refl _, by unfold maxLen; omega, fun _ => rfl, Or.inl rfl⟩
theorem SlAt.own {α : Type} {f : α → Value} {d : α} {W : World} {base : Nat} {t : TypeId} {v : Value} {n : Nat} {l : List α} (h : W.ownsRow base t 1 v n (l.map f)) (hn : n = l.length) : SlAt f d W v l := by
  subst hn
  obtain ⟨a, cap, rfl, h1, h2, h3, hr⟩ := rowAt_own h
  refine ⟨a, cap, rfl, h1, h2, fun e => (h3 e).2, ?_⟩
  rcases hr with h0 | ⟨b, off, ha, hc⟩
  · exact Or.inl h0
  · refine Or.inr ⟨b, off, ha, fun i hi => ?_⟩
    rw [hc i hi]
    simp [List.getD, hi]
/-- A block of the call's own, known whole. -/
theorem SlAt.blk {α : Type} {f : α → Value} {d : α} {W : World} {b : Nat} {t : TypeId} {A : List Value} {n : Nat} {l : List α} (h : Blk W b A t) (hn : n = l.length) (hA : ∀ i, i < n → A[i]? = some (f (l.getD i d))) (cap : Nat) (hc : n ≤ cap) (hm : cap ≤ maxLen) : SlAt f d W (.slice (some ⟨b, 0, none⟩) n cap) l := by
  subst hn
  refine ⟨_, cap, rfl, hc, hm, (fun h => by cases h), Or.inr ⟨_, _, rfl, fun i hi => ?_⟩⟩
  rw [Nat.zero_add, h.cell (hA i hi)]
theorem cell_new (W : World) (cs : Array Value) (t : TypeId) (fr : Nat × Nat) (i : Nat) : (W.alloc (.cells cs t fr)).cell? ⟨W.heap.size, i, none⟩ = cs[i]? := by
  have : (W.alloc (.cells cs t fr)).heap[W.heap.size]? = some (.cells cs t fr) := heap_alloc_new W _
  unfold World.cell?; rw [this]; rfl
theorem SlV.built {W : World} {b n : Nat} {t : TypeId} {fr : Nat × Nat} {cs : Array Value} {V : Nat → Value} (hb : W.heap.size = b) (hcs : ∀ i, i < n → cs[i]? = some (V i)) (hm : n ≤ maxLen) : SlV (W.alloc (.cells cs t fr)) (.slice (some ⟨b, 0, none⟩) n n) n V := by
  subst hb
  refine ⟨_, n, rfl, Nat.le_refl _, hm, (fun h => by cases h), Or.inr ⟨_, _, rfl, fun i hi => ?_⟩⟩
  rw [Nat.zero_add, cell_new, hcs i hi]
/-- A slice that the call has just built of its elements. -/
theorem SlAt.built {α : Type} {f : α → Value} {d : α} {W : World} {b n : Nat} {t : TypeId} {fr : Nat × Nat} {cs : Array Value} {l : List α} (hb : W.heap.size = b) (hn : n = l.length) (hcs : cs.toList = l.map f) (hm : n ≤ maxLen) : SlAt f d (W.alloc (.cells cs t fr)) (.slice (some ⟨b, 0, none⟩) n n) l := by
  subst hn
  refine SlV.built hb (fun i hi => ?_) hm
  rw [← Array.getElem?_toList, hcs]
  simp [List.getD, hi]
/-- The first k of them. -/
theorem SlAt.front {α : Type} {f : α → Value} {d : α} {W : World} {a : Option Addr} {n cap : Nat} {l : List α} (h : SlAt f d W (.slice a n cap) l) (k : Nat) (hk : k ≤ n) : SlAt f d W (.slice a k cap) (l.take k) := by
  obtain ⟨a', cap', e, h1, h2, h3, r⟩ := h
  simp only [Value.slice.injEq] at e
  obtain ⟨rfl, rfl, rfl⟩ := e
  have hl : (l.take k).length = k := by rw [List.length_take]; omega
  refine ⟨a, cap, by rw [hl], by omega, h2, h3, ?_⟩
  rw [hl]
  rcases r with h0 | ⟨b, off, ha, hc⟩
  · exact Or.inl (by omega)
  · refine Or.inr ⟨b, off, ha, fun i hi => ?_⟩
    rw [hc i (by omega)]
    simp [List.getD, hi]
theorem conv_row {P : Program} {src e dst : TypeId} (hs : P.underlying src = some (.slice e)) (he : P.underlying e = some (.int .u8)) (hd : P.underlying dst = some .string) (w : World) (v : Value) (l : List Nat) (hR : BytesAt w v l) : (convert src dst v).run P w = .ok (.string (strOf l)) w := by
  obtain ⟨a, cap, rfl, _, _, _, hR⟩ := hR
  exact conv_bytes (P := P) w src e dst hs he hd a _ cap l rfl hR
theorem SlAt.row {α : Type} {f : α → Value} {d : α} {W : World} {a : Option Addr} {n cap : Nat} {l : List α} (h : SlAt f d W (.slice a n cap) l) : n = l.length ∧ RowAt W a n fun i => f (l.getD i d) := by
  obtain ⟨a', cap', e, h1, h2, h3, r⟩ := h
  simp only [Value.slice.injEq] at e
  obtain ⟨rfl, rfl, rfl⟩ := e
  exact ⟨rfl, r⟩

/-! ### what an argument reads as -/
section
variable {H : Type} {enc : TypeId × Value → H} {W : World}
/-- No part of it is greater than what memory reaches. -/
def Sized (t : TypeId) (d : DataW H) : Prop := ∀ n ∈ d.weights Tryz.prog t, n ≤ reachBytes
theorem weightsAll_mem {P : Program} {e : TypeId} {d : DataW H} {n : Nat} (hn : n ∈ d.weights P e) : ∀ {l : List (DataW H)}, d ∈ l → n ∈ DataW.weightsAll P e l := by
  intro l
  induction l with
  | nil => intro h; cases h
  | cons a l ih =>
    intro h
    simp only [DataW.weightsAll, List.mem_append]
    rcases List.mem_cons.1 h with rfl | h
    · exact Or.inl hn
    · exact Or.inr (ih h)
theorem sized_arg {ts : List TypeId} {ds : List (DataW H)} (h : (DataW.weightsEach Tryz.prog ts ds).all (· ≤ reachBytes) = true) {j : Nat} {t : TypeId} {d : DataW H} (ht : ts[j]? = some t) (hd : ds[j]? = some d) : Sized t d := fun n hn => by
  have := List.all_eq_true.1 h _ (DataW.weights_mem_each ht hd n hn)
  simpa using this
/-- A slice in a cell (an argument, an element): its elements, cell by cell. -/
theorem read_slv {t e : TypeId} {v : Value} {fuel : Nat} {x : DataW H × List MemPlace} (ht : Tryz.prog.underlying t = some (.slice e)) (hc : Tryz.prog.cellsOf e = 1) (h : DataW.trod enc Tryz.prog W 0 (fun _ => true) true fuel t [v] = some x) (hs : Sized t x.1) :
    ∃ (n : Nat) (V : Nat → Value), SlV W v n V ∧ n * Tryz.prog.bytesOf e ≤ reachBytes ∧ ∀ i, i < n → ∃ (g : Nat) (y : DataW H × List MemPlace), DataW.trod enc Tryz.prog W 0 (fun _ => true) true g e [V i] = some y ∧ Sized e y.1 := by
  rcases Go.Deep.open_slice1 ht hc h with ⟨hcs, _⟩ | ⟨a, len, cap, m, n, V, D, Pl, hcs, _, hl, hm, hmm, hx0, hx⟩
  · simp only [List.cons.injEq, and_true] at hcs
    subst hcs
    exact ⟨0, fun _ => undef, ⟨none, 0, rfl, Nat.le_refl _, by unfold maxLen; omega, fun _ => rfl, Or.inl rfl⟩, by simp, fun i hi => absurd hi (Nat.not_lt_zero i)⟩
  · simp only [List.cons.injEq, and_true] at hcs
    subst hcs
    simp only [if_true] at hmm
    subst hmm
    subst hx0
    have hw : ∀ k, k = len + (m - len) → k * Tryz.prog.bytesOf e ≤ reachBytes := fun k hk => hs _ (by
      show _ ∈ DataW.weights Tryz.prog t (DataW.slice _ _)
      simp [DataW.weights, ht, hk])
    refine ⟨len, V, ⟨some a, m, rfl, hl, hm, (fun h => by cases h), ?_⟩, Nat.le_trans (Nat.mul_le_mul_right _ hl) (hw m (by omega)), fun i hi => ⟨n, _, (hx i (by omega)).2, fun k hk => hs k ?_⟩⟩
    · rcases Nat.eq_zero_or_pos len with h0 | h0
      · exact Or.inl h0
      · have hs : a.spot = none := spot_none (by have := (hx 0 (by omega)).1; simpa [Addr.add] using this)
        refine Or.inr ⟨a.block, a.off, by cases a; simp at hs; rw [hs], fun i hi => ?_⟩
        rw [← add_cell hs, (hx i (by omega)).1]
    · show _ ∈ DataW.weights Tryz.prog t (DataW.slice _ _)
      simp only [DataW.weights, ht, List.mem_cons, List.mem_append]
      exact Or.inr (Or.inl (weightsAll_mem hk (List.mem_map.2 ⟨i, by simpa using hi, rfl⟩)))
theorem choose_list {α : Type} (d : α) (n : Nat) (p : Nat → α → Prop) (h : ∀ i, i < n → ∃ a, p i a) : ∃ l : List α, l.length = n ∧ ∀ i, i < n → p i (l.getD i d) := by
  induction n with
  | zero => exact ⟨[], rfl, fun i hi => absurd hi (Nat.not_lt_zero i)⟩
  | succ n ih =>
    obtain ⟨l, hl, hp⟩ := ih (fun i hi => h i (by omega))
    obtain ⟨a, ha⟩ := h n (by omega)
    refine ⟨l ++ [a], by simp [hl], fun i hi => ?_⟩
    rcases Nat.lt_or_ge i n with h1 | h1
    · rw [getD_left (by omega)]; exact hp i h1
    · obtain rfl : i = n := by omega
      rw [getD_right (by omega), hl]; simpa using ha
/-- Its elements read each as an x of which p holds. -/
theorem read_list {α : Type} (f : α → Value) (d : α) (p : α → Prop) (hd : p d) {t e : TypeId} {v : Value} {fuel : Nat} {x : DataW H × List MemPlace} (ht : Tryz.prog.underlying t = some (.slice e)) (hc : Tryz.prog.cellsOf e = 1) (h : DataW.trod enc Tryz.prog W 0 (fun _ => true) true fuel t [v] = some x) (hs : Sized t x.1)
    (one : ∀ (n : Nat) (u : Value) (y : DataW H × List MemPlace), DataW.trod enc Tryz.prog W 0 (fun _ => true) true n e [u] = some y → Sized e y.1 → ∃ a, u = f a ∧ p a) :
    ∃ l : List α, SlAt f d W v l ∧ (∀ i, p (l.getD i d)) ∧ l.length * Tryz.prog.bytesOf e ≤ reachBytes := by
  obtain ⟨n, V, ⟨a, cap, hv, h1, h2, h3, hr⟩, hw, hV⟩ := read_slv ht hc h hs
  obtain ⟨l, hl, hp⟩ := choose_list d n (fun i a => V i = f a ∧ p a) (fun i hi => by obtain ⟨g, y, hy, hz⟩ := hV i hi; exact one g _ y hy hz)
  refine ⟨l, ⟨a, cap, by rw [hl]; exact hv, by omega, h2, h3, ?_⟩, fun i => ?_, by rw [hl]; exact hw⟩
  · rw [hl]
    rcases hr with h0 | ⟨b, off, ha, hc⟩
    · exact Or.inl h0
    · exact Or.inr ⟨b, off, ha, fun i hi => by rw [hc i hi, (hp i hi).1]⟩
  · rcases Nat.lt_or_ge i n with h4 | h4
    · exact (hp i h4).2
    · rw [show l.getD i d = d by simp [List.getD, show l[i]? = none by simp; omega]]; exact hd
theorem one_u8 {e : TypeId} (he : Tryz.prog.underlying e = some (.int .u8)) (n : Nat) (u : Value) (y : DataW H × List MemPlace) (h : DataW.trod enc Tryz.prog W 0 (fun _ => true) true n e [u] = some y) (_ : Sized e y.1) : ∃ a : Nat, u = u8v a ∧ a < 256 := by
  obtain ⟨b, h1, _, hw⟩ := DataW.trod_int he h
  simp only [List.cons.injEq, and_true] at h1
  have hb := bounds_u8 hw
  exact ⟨b.toNat, by rw [h1]; unfold u8v; rw [Int.toNat_of_nonneg hb.1], by omega⟩
theorem one_i64 {e : TypeId} (he : Tryz.prog.underlying e = some (.int .i64)) (n : Nat) (u : Value) (y : DataW H × List MemPlace) (h : DataW.trod enc Tryz.prog W 0 (fun _ => true) true n e [u] = some y) (_ : Sized e y.1) : ∃ a : Int, u = i64v a ∧ (-9223372036854775808 ≤ a ∧ a ≤ 9223372036854775807) := by
  obtain ⟨b, h1, _, hw⟩ := DataW.trod_int he h
  simp only [List.cons.injEq, and_true] at h1
  have hb := bounds_i64 hw
  exact ⟨b, h1, by omega⟩
theorem one_bool {e : TypeId} (he : Tryz.prog.underlying e = some .bool) (n : Nat) (u : Value) (y : DataW H × List MemPlace) (h : DataW.trod enc Tryz.prog W 0 (fun _ => true) true n e [u] = some y) (_ : Sized e y.1) : ∃ a : Bool, u = boolv a ∧ True := by
  obtain ⟨b, h1, _⟩ := DataW.trod_bool he h
  simp only [List.cons.injEq, and_true] at h1
  exact ⟨b, h1, trivial⟩
theorem trod_cells {base : Nat} {t e : TypeId} {v : Value} {d : DataW H} {p : List MemPlace} (ht : Tryz.prog.underlying t = some (.slice e)) (hv : Value.okWide Tryz.prog W .any base t v) (h : DataW.Trod enc Tryz.prog W 0 (fun _ => true) true t v d p) : ∃ fuel, DataW.trod enc Tryz.prog W 0 (fun _ => true) true fuel t [v] = some (d, p) := by
  obtain ⟨a0, len, cap, rfl⟩ := okWide_slice ht hv
  obtain ⟨fuel, hf⟩ := h
  exact ⟨fuel, hf⟩
variable {base : Nat} {t s e : TypeId} {v : Value} {d : DataW H} {p : List MemPlace}
theorem arg_bytes (ht : Tryz.prog.underlying t = some (.slice e)) (he : Tryz.prog.underlying e = some (.int .u8)) (hc : Tryz.prog.cellsOf e = 1 ∧ Tryz.prog.bytesOf e = 1) (hv : Value.okWide Tryz.prog W .any base t v) (h : DataW.Trod enc Tryz.prog W 0 (fun _ => true) true t v d p) (hs : Sized t d) :
    ∃ l : List Nat, BytesAt W v l ∧ (∀ i, l.getD i 0 < 256) ∧ l.length ≤ 140737488351232 := by
  obtain ⟨fuel, hx⟩ := trod_cells ht hv h
  obtain ⟨l, h1, h2, h3⟩ := read_list u8v 0 (· < 256) (by decide) ht hc.1 hx hs (one_u8 he)
  rw [hc.2] at h3
  exact ⟨l, h1, h2, by unfold reachBytes at h3; omega⟩
theorem arg_ints (ht : Tryz.prog.underlying t = some (.slice e)) (he : Tryz.prog.underlying e = some (.int .i64)) (hc : Tryz.prog.cellsOf e = 1 ∧ Tryz.prog.bytesOf e = 8) (hv : Value.okWide Tryz.prog W .any base t v) (h : DataW.Trod enc Tryz.prog W 0 (fun _ => true) true t v d p) (hs : Sized t d) :
    ∃ l : List Int, NumsAt W v l ∧ (∀ i, -9223372036854775808 ≤ l.getD i 0 ∧ l.getD i 0 ≤ 9223372036854775807) ∧ l.length * 8 ≤ 140737488351232 := by
  obtain ⟨fuel, hx⟩ := trod_cells ht hv h
  obtain ⟨l, h1, h2, h3⟩ := read_list i64v 0 (fun a => -9223372036854775808 ≤ a ∧ a ≤ 9223372036854775807) (by omega) ht hc.1 hx hs (one_i64 he)
  rw [hc.2] at h3
  exact ⟨l, h1, h2, by unfold reachBytes at h3; omega⟩
theorem arg_bools (ht : Tryz.prog.underlying t = some (.slice e)) (he : Tryz.prog.underlying e = some .bool) (hc : Tryz.prog.cellsOf e = 1 ∧ Tryz.prog.bytesOf e = 1) (hv : Value.okWide Tryz.prog W .any base t v) (h : DataW.Trod enc Tryz.prog W 0 (fun _ => true) true t v d p) (hs : Sized t d) :
    ∃ l : List Bool, BoolsAt W v l ∧ l.length ≤ 140737488351232 := by
  obtain ⟨fuel, hx⟩ := trod_cells ht hv h
  obtain ⟨l, hl, _, h3⟩ := read_list boolv false (fun _ => True) trivial ht hc.1 hx hs (one_bool he)
  rw [hc.2] at h3
  exact ⟨l, hl, by unfold reachBytes at h3; omega⟩
theorem arg_brows (ht : Tryz.prog.underlying t = some (.slice s)) (hts : Tryz.prog.underlying s = some (.slice e)) (he : Tryz.prog.underlying e = some (.int .u8)) (hcs : Tryz.prog.cellsOf s = 1 ∧ Tryz.prog.bytesOf s = 24) (hc : Tryz.prog.cellsOf e = 1 ∧ Tryz.prog.bytesOf e = 1) (hv : Value.okWide Tryz.prog W .any base t v) (h : DataW.Trod enc Tryz.prog W 0 (fun _ => true) true t v d p) (hs : Sized t d) :
    ∃ L : List (List Nat), BRowsAt W v L ∧ (∀ i j, (L.getD i []).getD j 0 < 256) ∧ L.length * 24 ≤ 140737488351232 ∧ ∀ i, (L.getD i []).length ≤ 140737488351232 := by
  obtain ⟨fuel, hx⟩ := trod_cells ht hv h
  obtain ⟨n, V, h1, h3, hV⟩ := read_slv ht hcs.1 hx hs
  rw [hcs.2] at h3
  obtain ⟨L, hL, hp⟩ := choose_list [] n (fun i l => BytesAt W (V i) l ∧ (∀ j, l.getD j 0 < 256) ∧ l.length * Tryz.prog.bytesOf e ≤ reachBytes) (fun i hi => by
    obtain ⟨g, y, hy, hz⟩ := hV i hi
    exact read_list u8v 0 (· < 256) (by decide) hts hc.1 hy hz (one_u8 he))
  refine ⟨L, ⟨V, by rw [hL]; exact h1, fun i hi => (hp i (by omega)).1⟩, fun i j => ?_, by unfold reachBytes at h3; omega, fun i => ?_⟩
  · rcases Nat.lt_or_ge i n with h4 | h4
    · exact (hp i h4).2.1 j
    · rw [show L.getD i [] = [] by simp [List.getD, show L[i]? = none by simp; omega]]; simp
  · rcases Nat.lt_or_ge i n with h4 | h4
    · have := (hp i h4).2.2
      rw [hc.2] at this
      unfold reachBytes at this
      omega
    · rw [show L.getD i [] = [] by simp [List.getD, show L[i]? = none by simp; omega]]; simp
end
end Go.Proofs.YtjaebndajhppgaaGreatDoor
