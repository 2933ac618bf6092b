/- auto's add: leaves. -/
import Derived.Test.YtobcbaeoedpefaaDoorAuRows
import Derived.Test.YtobcbaeoedpefaaDoorClone
import Derived.Test.YtobcbaeoedpefaaDoorQPath
namespace Go.Proofs.YtobcbaeoedpefaaDoor
set_option linter.unusedVariables false
set_option linter.unusedSimpArgs false
set_option maxRecDepth 100000
open Go.ChangeShapes Go.WideShapes Go.ChangeAt Go.RowKit
open Au
/-- add lays out x. -/
def AddOk (x : Pt) : Prop := ∀ (W0 w : World) (v u : Value) (bk : Bool) (Y : Nat → Prop) (p lb cl nb cn : Nat) (lxs : List Value) (ls : List Lb) (nx : List Nat) (last : Nat),
  PtAt W0 v u x → Below W0.heap.size W0 w → AuAt W0.heap.size Y w p lb cl nb cn lxs ls nx last → (∀ k, Y k → k < w.heap.size) → nx.length = ls.length → ls.length + (x.rx bk).n ≤ 32 → (∀ j, nx.getD j 0 < 2 ^ 32) →
    Calls Tryd.prog 29 #[.pointer (some ⟨p, 0, none⟩), pv x v u, .bool bk] w (AddPost W0.heap.size Y w p lb nb ls nx last (x.rx bk))
/-- The end of add: the part is stored. -/
theorem add_end {B : Nat} {Y Z : Nat → Prop} {w w1 w3 : World} {p lb nb b1 : Nat} {ls' : List Lb} {nx' : List Nat} {last : Nat} {x0 x1 x2 : Value} (hR : Blk w3 b1 [x0, x1, x2] 63) (hb1 : Z b1) (hw : Below w.heap.size w w1) (hs : w1.heap.size ≤ b1 ∨ w.heap.size ≤ b1) (hYY : ∀ k, Y k → Z k) (post : AuPost B Z w1 p lb nb ls' nx' last w3) (F L e : Value) :
    Blk (((w3.setCell ⟨b1, 0, none⟩ F).setCell ⟨b1, 1, none⟩ L).setCell ⟨b1, 2, none⟩ e) b1 [F, L, e] 63 ∧ AuPost B Y w p lb nb ls' nx' last (((w3.setCell ⟨b1, 0, none⟩ F).setCell ⟨b1, 1, none⟩ L).setCell ⟨b1, 2, none⟩ e) := by
  refine ⟨((hR.set 0 F).set 1 L).set 2 e, ?_⟩
  have h1 := hw.size
  have hs' : w.heap.size ≤ b1 := by omega
  have h2 : AuPost B Z w p lb nb ls' nx' last w3 := AuPost.from hw post (fun _ h => h)
  exact AuPost.from (Below.refl _ _) (((h2.set hb1 hs' 0 F).set hb1 hs' 1 L).set hb1 hs' 2 e) hYY
/-- A text that has just been put into a block of its own. -/
theorem asd_new {X : Nat → Prop} {w : World} {t : T} {ty : TypeId} (hX : ∀ k, X k → k < w.heap.size) : Asd X (w.alloc (.cells #[str t] ty)) (fun W => TextsAt W (.slice (some ⟨w.heap.size, 0, none⟩) 1 1) [t]) := fun w'' hw => by
  have h1 : Blk (w.alloc (.cells #[str t] ty)) w.heap.size [str t] ty := Blk.new w _ _
  have h2 : Blk w'' w.heap.size [str t] ty := by unfold Blk at *; rw [hw w.heap.size (by simp) (fun h => by have := hX _ h; omega)]; exact h1
  refine SlAt.blk (f := str) (d := []) (l := [t]) h2 rfl (fun i hi => ?_) 1 (Nat.le_refl _) (by unfold maxLen; omega)
  obtain rfl : i = 0 := by simp at hi; omega
  rfl
theorem asd_from {X : Nat → Prop} {B : Nat} {w : World} {v : Value} {L : List T} (h : From B w v L) (hX : ∀ k, X k → k < B) : Asd X w (fun W => TextsAt W v L) := fun w'' hw => h w'' fun k hk hl => hw k hl fun hx => by have := hX k hx; omega
theorem aub_lt {B : Nat} {Y : Nat → Prop} {w : World} {p lb cl nb cn : Nat} {lxs : List Value} {ls : List Lb} {nx : List Nat} {last : Nat} (h : AuAt B Y w p lb cl nb cn lxs ls nx last) (hY : ∀ k, Y k → k < w.heap.size) : ∀ k, AuB p lb nb Y k → k < w.heap.size := fun k e => by
  have h2 := (own_blk h.lown).2.1
  have h3 := (own_blk h.nown).2.1
  have h4 := h.blk.lt
  rcases e with e | e | e | e
  · omega
  · omega
  · omega
  · exact hY k e
set_option maxHeartbeats 4000000 in
theorem add_iri (t : T) : AddOk (.mk 1 t [] []) := by
  intro W0 w v u bk Y p lb cl nb cn lxs ls nx last hP hB h hY hn h32 hx
  have hrx : (Pt.mk 1 t [] []).rx bk = .leaf ⟨bk, false, [t]⟩ := by rw [Pt.rx]; rfl
  rw [hrx] at h32 ⊢
  rw [Rx.n_leaf] at h32
  obtain ⟨_, _, hLt, _, ak, capk, _, _, _, _, hgi, _⟩ := hP.open
  obtain ⟨ta, tc, hfi, _⟩ := hLt.open
  subst hfi
  rw [hgi]
  unfold pv
  simp only [Pt.kind, Pt.text, Pt.kids, Pt.texts, List.length_nil]
  obtain ⟨w1, hw1⟩ : ∃ w1, w1 = (w.alloc (.cells #[.int .i64 1, str t, .slice ta 0 tc, .slice ak 0 capk] 25)).alloc (.cells #[.int .u32 0, .int .u32 0, .bool false] 63) := ⟨_, rfl⟩
  have hz1 : w1.heap.size = w.heap.size + 2 := by rw [hw1]; simp
  have hb1 : Below w.heap.size w w1 := by rw [hw1]; exact ((Below.refl _ _).alloc (Nat.le_refl _) _).alloc (by simp) _
  have hX : Blk w1 w.heap.size [.int .i64 1, str t, .slice ta 0 tc, .slice ak 0 capk] 25 := by rw [hw1]; exact (Blk.new w _ _).alloc _
  have hR : Blk w1 (w.heap.size + 1) [.int .u32 0, .int .u32 0, .bool false] 63 := by rw [hw1]; exact Blk.new' (by simp) rfl
  have h1 := ((h.more (Z := fun k => Y k ∨ k = w.heap.size + 1) (fun k e => e.elim Or.inl (fun e => Or.inr (by omega)))).keep hb1)
  have hY1 : ∀ k, (Y k ∨ k = w.heap.size + 1) → k < w1.heap.size := fun k e => by rcases e with e | e; (have := hY k e; omega); omega
  have hb2 : Below w1.heap.size w1 (w1.alloc (.cells #[str t] 9)) := (Below.refl _ _).alloc (Nat.le_refl _) _
  have C := place_au (l := ⟨bk, false, [t]⟩) (some ⟨w1.heap.size, 0, none⟩) 1 1 (h1.keep hb2) (fun k e => Nat.lt_of_lt_of_le (hY1 k e) hb2.size) (asd_new (ty := 9) (aub_lt h1 hY1)) (by omega) (by omega) (by have := hB.size; have := hb1.size; simp; omega)
  have C := hid C
  have HC := hid fun w3 (post : AuPost W0.heap.size (fun k => Y k ∨ k = w.heap.size + 1) (w1.alloc (.cells #[str t] 9)) p lb nb (ls ++ [⟨bk, false, [t]⟩]) (nx ++ [0]) last w3) => AuPost.from hb2 post (fun _ h => h)
  obtain ⟨c0, c1, c2, c3⟩ := blk4 hX
  have HB1 := hid hb1
  have H1 := hid h1
  have HR := hid hR
  have HN := hid hn
  have HX := hid hx
  have HZ := hid hz1
  clear hz1 hb1 hX h1 hR hY1 hb2 h hY hn hx hP hB hLt hgi hrx
  unfold placePost u32v at C
  go_enter Tryd.func29, Tryd.ntmps29
  go_upto_region 1 with fail
  rw [← hw1]
  clear hw1
  go_wp2_with (go_at_call 41; refine C.out.mono ?_; rintro e w3 ⟨rfl, hp⟩; have HP := hid (HC.out w3 hp); have hbl := AuPost.blk H1.out HP.out (Or.inr rfl) HR.out; have r0 := hbl.cell (i := 0) rfl; have r1 := hbl.cell (i := 1) rfl; have r2 := hbl.cell (i := 2) rfl; have s0 := hbl.free 0; have s1 := hbl.free 1; have s2 := hbl.free 2; have HBL := hid hbl; clear hbl hp)
  have hz1 := HZ.out
  obtain ⟨e1, e2⟩ := add_end (Y := Y) HBL.out (Or.inr rfl) HB1.out (Or.inr (by omega)) (fun k e => Or.inl e) HP.out (.int .u32 ((2 ^ ls.length : Nat))) (.int .u32 ((2 ^ ls.length : Nat))) (.bool false)
  refine bodyPost_ret (part_ret (s := 6) rfl e1 Tryd.results29) rfl ⟨2 ^ ls.length, 2 ^ ls.length, nx ++ [0], rfl, Set.one (by omega), Set.one (by omega), rows_leaf _ HN.out HX.out, e2⟩
end Go.Proofs.YtobcbaeoedpefaaDoor
