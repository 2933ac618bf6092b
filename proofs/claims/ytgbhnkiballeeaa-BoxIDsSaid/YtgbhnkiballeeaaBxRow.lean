/- A row of sections that is built by appending: a block of one's own, the bodies in others. -/
import Derived.Test.YtgbhnkiballeeaaBxRPack
import Derived.Test.YtgbhnkiballeeaaBxLaw
namespace Go.Proofs.Ytgbhnkiballeeaa
set_option linter.unusedVariables false
set_option linter.unusedSimpArgs false
set_option maxRecDepth 100000
open Go.ChangeShapes Go.WideShapes Go.ChangeAt Go.RowKit
/-- append of what stands in another block, at a step of a region that draws. -/
theorem step_append_seg {w : World} {P : Program} {ops : Array Oper} {o : Oper} {a : Act} {K : Act → World → Prop} {Q : Exit → Act → World → Prop} {E : Prop} (hgd : o.guard = none) (s x : Operand) (t : TypeId)
    (ho : o.op = .call { callee := .builtin .append, args := #[s, x], argTypes := #[t, t] })
    (base : Nat) (e : TypeId) (i : TypeInfo) (z : Value) (size bytes : Nat) (ht : P.underlying t = some (.slice e)) (hi : P.info? e = some i) (hz : i.zero = some z)
    (hsize : i.size = size) (hby : i.bytes = bytes) (hzs : z.cells.size = size) (hsz : 0 < size)
    (v : Value) (n : Nat) (xs : List Value) (hs : a.eval s = v) (hown : w.ownsRow base e size v n xs)
    (ad : Addr) (m c : Nat) (us : List Value) (hm : us.length = m * size) (hx : a.eval x = .slice (some ad) m c) (hc : ∀ j u, us[j]? = some u → w.cell? (ad.add j) = some u) (h1 : ∀ u ∈ us, u.oneCell' = true)
    (h63 : n + m ≤ maxLen) (hbytes : (n + m) * bytes ≤ 140737488355328) (hbase : base ≤ w.heap.size)
    (h : ∀ v' w', w'.ownsRow base e size v' (n + m) (xs ++ us) → w.grownBy w' v.ownBlock → Moved w v v' → K (a.put o.dst v') w') :
    if Region.wanted o (yielded ops a.tmps) = true then Oper.wp P o a w K Q else E := by
  have hwd : Region.wanted o (yielded ops a.tmps) = true := by simp [Region.wanted, hgd]
  rw [if_pos hwd]
  obtain ⟨v', w', hr, h2, h3, h4⟩ := run_append_blk (P := P) (w := w) base t o.type e i z size bytes ht hi hz hsize hby hzs hsz v n xs hown ad m c us hm hc h1 h63 hbytes hbase
  have hk := h v' w' h2 h3 h4
  unfold Oper.wp execOp
  simp only [ho, resolve, invoke, builtin, Sem.run_bind, Sem.run_pure, Result.andThen_ok, List.map_toArray, List.map_cons, List.map_nil, hs, hx, hr]
  exact hk
theorem bytes_news {w : World} {ad : Addr} {m c : Nat} {l : List Nat} (h : BytesAt w (.slice (some ad) m c) l) : ∀ j u, (l.map u8v)[j]? = some u → w.cell? (ad.add j) = some u := by
  intro j u hu
  obtain ⟨a', c', e, _, _, _, _⟩ := SlAt.open h
  simp only [Value.slice.injEq] at e
  have hj : j < l.length := by
    have := List.getElem?_eq_some_iff.1 hu
    obtain ⟨h1, _⟩ := this
    simpa using h1
  obtain ⟨b, off, hb, hc⟩ := (SlAt.row h).2.get (i := j) (by omega)
  cases hb
  rw [add_cell rfl, hc j (by omega)]
  rw [← hu]
  simp [List.getD, hj]
/-- It holds in every world whose blocks from B on, v's own aside, are this one's. -/
def Beside (B : Nat) (w : World) (v : Value) (P : World → Prop) : Prop := ∀ w'', (∀ k, B ≤ k → k < w.heap.size → v.ownBlock ≠ some k → w''.heap[k]? = w.heap[k]?) → P w''
theorem Beside.keep {B : Nat} {w w' : World} {v : Value} {P : World → Prop} (h : Beside B w v P) (hb : Below w.heap.size w w') : Beside B w' v P :=
  fun w'' hw => h w'' fun k hk hl hn => by rw [hw k hk (Nat.lt_of_lt_of_le hl hb.size) hn, hb.block k hl]
theorem Beside.moved {B : Nat} {w w' : World} {v v' : Value} {P : World → Prop} (h : Beside B w v P) (hg : w.grownBy w' v.ownBlock) (hm : Moved w v v') : Beside B w' v' P :=
  fun w'' hw => h w'' fun k hk hl hn => by
    rw [hw k hk (Nat.lt_of_lt_of_le hl hg.size) ?_, hg.block k hl (fun e => hn e.symm)]
    rcases hm with e | ⟨g, e, hge⟩
    · rw [e]; exact hn
    · rw [e]; intro h; cases h; omega
/-- Below, and above a bound: what is new. -/
theorem Fresh.beside {B C : Nat} {w : World} {v : Value} {P : World → Prop} (h : Fresh C w P) (hBC : B ≤ C) (hv : ∀ k, v.ownBlock = some k → k < C) : Beside B w v P :=
  fun w'' hw => h w'' fun k hk hl => hw k (Nat.le_trans hBC hk) hl fun e => by have := hv k e; omega
theorem Beside.fresh {B : Nat} {w : World} {v : Value} {P : World → Prop} (h : Beside B w v P) : Fresh B w P :=
  fun w'' hw => h w'' fun k hk hl _ => hw k hk hl
/-- The bodies, and the IDs, as cells. -/
def RowCells (B : Nat) (w : World) (v : Value) (D : List Bx.Sec) (A : List Value) : Prop :=
  ∀ j (h : j < D.length), A[j * 2]? = some (.int .i64 D[j].1) ∧ ∃ u, A[j * 2 + 1]? = some u ∧ Beside B w v (fun W => BytesAt W u D[j].2)
theorem RowCells.keep {B : Nat} {w w' : World} {v : Value} {D : List Bx.Sec} {A : List Value} (h : RowCells B w v D A) (hb : Below w.heap.size w w') : RowCells B w' v D A := fun j hj => by
  obtain ⟨h1, u, h2, h3⟩ := h j hj
  exact ⟨h1, u, h2, h3.keep hb⟩
theorem RowCells.snoc {B : Nat} {w w' : World} {v v' : Value} {D : List Bx.Sec} {A : List Value} (h : RowCells B w v D A) (s : Bx.Sec) (u : Value) (hA : A.length = D.length * 2) (hu : Beside B w v (fun W => BytesAt W u s.2)) (hg : w.grownBy w' v.ownBlock) (hm : Moved w v v') :
    RowCells B w' v' (D ++ [s]) (A ++ [.int .i64 s.1, u]) := fun j hj => by
  by_cases hjd : j < D.length
  · obtain ⟨h1, x, h2, h3⟩ := h j hjd
    rw [List.getElem_append_left hjd]
    exact ⟨by rw [List.getElem?_append_left (by omega)]; exact h1, x, by rw [List.getElem?_append_left (by omega)]; exact h2, h3.moved hg hm⟩
  · obtain rfl : j = D.length := by simp at hj; omega
    rw [List.getElem_append_right (Nat.le_refl _)]
    simp only [Nat.sub_self, List.getElem_cons_zero]
    refine ⟨?_, u, ?_, hu.moved hg hm⟩
    · rw [List.getElem?_append_right (by omega)]
      have : D.length * 2 - A.length = 0 := by omega
      rw [this]; rfl
    · rw [List.getElem?_append_right (by omega)]
      have : D.length * 2 + 1 - A.length = 1 := by omega
      rw [this]; rfl
theorem RowCells.secs {B : Nat} {w : World} {v : Value} {D : List Bx.Sec} {A : List Value} (h : RowCells B w v D A) (hown : w.ownsRow B 42 2 v D.length A) : Fresh B w (fun W => SecsAt W v D) := fun w'' hw => by
  have ho := ownsRow_fresh hown hw
  rcases ho.2 with ⟨rfl, h0⟩ | ⟨g, cap, cur, rfl, hg, hh, hnc, hcm, hcs, htake⟩
  · have hD : D = [] := List.eq_nil_of_length_eq_zero h0
    subst hD
    exact SecsAt.nil w''
  · refine ⟨_, cap, rfl, hnc, hcm, (fun h => by cases h), Or.inr ⟨g, 0, rfl, fun j hj => ?_⟩⟩
    obtain ⟨h1, u, h2, h3⟩ := h j hj
    have hc := ho.cells (g := g) rfl
    have k1 := hc _ _ h1
    have k2 := hc _ _ h2
    rw [add_cell rfl] at k1 k2
    exact ⟨k1, u, k2, h3 w'' fun k hk hl _ => hw k hk hl⟩
end Go.Proofs.Ytgbhnkiballeeaa
