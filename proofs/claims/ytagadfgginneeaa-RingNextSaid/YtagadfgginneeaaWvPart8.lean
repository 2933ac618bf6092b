/- A wave: the row of the level below. -/
import Derived.Test.YtagadfgginneeaaWvNats
import Derived.Test.YtagadfgginneeaaOwn
namespace Go.Proofs.Ytagadfgginneeaa
set_option linter.unusedVariables false
set_option linter.unusedSimpArgs false
set_option maxRecDepth 100000
open Go.ChangeShapes Go.WideShapes Go.ChangeAt Go.RowKit

/-- It holds in every world whose blocks from B on are this one's. -/
def Fresh (B : Nat) (w : World) (P : World → Prop) : Prop := ∀ w'', (∀ k, B ≤ k → k < w.heap.size → w''.heap[k]? = w.heap[k]?) → P w''
theorem Fresh.it {B : Nat} {w : World} {P : World → Prop} (h : Fresh B w P) : P w := h w fun _ _ _ => rfl
theorem Fresh.keep {B : Nat} {w w' : World} {P : World → Prop} (h : Fresh B w P) (hb : Below w.heap.size w w') : Fresh B w' P :=
  fun w'' hw => h w'' fun k hk hl => by rw [hw k hk (Nat.lt_of_lt_of_le hl hb.size), hb.block k hl]
theorem Fresh.mono {B C : Nat} {w : World} {P : World → Prop} (h : Fresh B w P) (hb : C ≤ B) : Fresh C w P :=
  fun w'' hw => h w'' fun k hk hl => hw k (Nat.le_trans hb hk) hl
theorem cell_heap {w w' : World} {b o : Nat} (h : w'.heap[b]? = w.heap[b]?) : w'.cell? ⟨b, o, none⟩ = w.cell? ⟨b, o, none⟩ := by
  simp only [World.cell?, h]
theorem ownsRow_fresh {w w'' : World} {base : Nat} {e : TypeId} {size : Nat} {v : Value} {n : Nat} {xs : List Value} (h : w.ownsRow base e size v n xs)
    (hw : ∀ k, base ≤ k → k < w.heap.size → w''.heap[k]? = w.heap[k]?) : w''.ownsRow base e size v n xs := by
  obtain ⟨hl, h⟩ := h
  refine ⟨hl, ?_⟩
  rcases h with h | ⟨g, cap, cur, rfl, hg, hh, hrest⟩
  · exact Or.inl h
  · refine Or.inr ⟨g, cap, cur, rfl, hg, ?_, hrest⟩
    have hlt : g < w.heap.size := by
      have := hh
      rw [Array.getElem?_eq_some_iff] at this
      exact this.1
    rw [hw g hg hlt]; exact hh
/-- Those with that digit. -/
def sel1 (l : List Nat) (d : Nat) (one : Bool) : List Nat := l.filter fun n => n.testBit d == one
def iv (l : List Nat) (i : Nat) : Value := .int .i64 ((l.getD i 0 : Nat) : Int)
def ivs (l : List Nat) : List Value := l.map fun x : Nat => Value.int .i64 (x : Int)
theorem sel1_take (l : List Nat) (d i : Nat) (hi : i < l.length) (one : Bool) : sel1 (l.take (i + 1)) d one = sel1 (l.take i) d one ++ (if (l.getD i 0).testBit d = one then [l.getD i 0] else []) := by
  unfold sel1
  rw [List.take_add_one, List.filter_append, List.getD, List.getElem?_eq_getElem hi]
  congr 1
  simp only [Option.toList_some, Option.getD_some, List.filter_cons, List.filter_nil, beq_iff_eq]
theorem sel1_two (l : List Nat) (d : Nat) : (sel1 l d false).length + (sel1 l d true).length = l.length := Wv.filter_two l d
theorem ivs_append (k l : List Nat) : ivs (k ++ l) = ivs k ++ ivs l := List.map_append
theorem ivs_range (l : List Nat) (q : Nat) (h : q = l.length) : (List.range q).map (fun i => iv l i) = ivs l := by
  subst h
  refine List.ext_getElem (by simp [ivs]) fun j h1 h2 => ?_
  simp only [List.getElem_map, List.getElem_range, ivs, iv]
  rw [List.getD, List.getElem?_eq_getElem (by simpa using h1)]; rfl
theorem part_eq (l : List Nat) (d : Nat) : Wv.part l d = sel1 l d false ++ sel1 l d true := by
  unfold Wv.part sel1
  congr 1
  · congr 1; funext n; cases n.testBit d <;> rfl
  · congr 1; funext n; cases n.testBit d <;> rfl
theorem numsAt_own {w : World} {base : Nat} {e : TypeId} {v : Value} {n : Nat} {l : List Nat} (h : w.ownsRow base e 1 v n (ivs l)) (hn : n = l.length) :
    ∃ a cap, v = .slice a n cap ∧ n ≤ cap ∧ cap ≤ maxLen ∧ (a = none → cap = 0) ∧ NatsAt w a l := by
  obtain ⟨a2, cap2, hv2, hc1, hc2, hc3, hrow⟩ := rowAt_own h
  refine ⟨a2, cap2, hv2, hc1, hc2, fun h => (hc3 h).2, ?_⟩
  rcases hrow with h | ⟨b, off, h1, h2⟩
  · exact Or.inl (by omega)
  · refine Or.inr ⟨b, off, h1, fun i hi => ?_⟩
    rw [h2 i (by omega)]; simp [List.getD, hi, ivs]
theorem Try.wpinfo3 : (Try.prog.info? 3).map (fun i => (i.zero, i.size, i.bytes)) = some (some (.int .i64 0), 1, 8) := by kernel_rfl
set_option maxHeartbeats 1000000 in
theorem wpart_any (a a2 : Option Addr) (n cap cap2 d : Nat) (l : List Nat) (w : World) (hn : n = l.length) (h1000 : n ≤ 1000) (hA : NatsAt w a l) (hO : RowAt w a2 n fun i => .bool ((l.getD i 0).testBit d)) :
    Calls Try.prog 40 #[.slice a n cap, .slice a2 n cap2] w fun e w' => ∃ a' cap', e = .returned (.slice a' n cap') ∧ n ≤ cap' ∧ cap' ≤ maxLen ∧ (a' = none → cap' = 0) ∧ Below w.heap.size w w' ∧ Fresh w.heap.size w' (fun W => NatsAt W a' (Wv.part l d)) := by
  obtain ⟨i0, hi, hz0, hz1, hz2⟩ := info_parts Try.wpinfo3
  have HN := hid hn
  have HA := hid hA
  have HO := hid hO
  have F2 := hid (fun i => sel1_two (l.take i) d)
  clear hn hA hO
  go_enter Try.func40, Try.ntmps40
  go_wp2
  go_loopw [5, 6, 11] (fun s5 s6 s11 wr => ∃ (i p q : Nat) (v5 v6 : Value), i ≤ n ∧ s5 = v5 ∧ s6 = v6 ∧ s11 = .int .i64 i ∧ p ≤ 1000 ∧ q ≤ 1000 ∧ Hid (p = (sel1 (l.take i) d false).length ∧ q = (sel1 (l.take i) d true).length) ∧
      Hid (wr.ownsRow w.heap.size 3 1 v5 p (ivs (sel1 (l.take i) d false))) ∧ Hid (wr.ownsRow w.heap.size 3 1 v6 q (ivs (sel1 (l.take i) d true))) ∧
      Hid (Apart v5 v6) ∧ Hid (Below w.heap.size w wr)) (fun _ _ s11 _ => n - (intOf s11).toNat)
  case atStart => exact ⟨0, 0, 0, _, _, by omega, rfl, rfl, rfl, by omega, by omega, ⟨by simp [sel1], by simp [sel1]⟩, World.ownsRow_nil _ _ _ _, World.ownsRow_nil _ _ _ _, apart_nil _ _, Below.refl _ _⟩
  case round =>
    obtain ⟨i, p, q, v5, v6, hin, rfl, rfl, rfl, hp, hq, HPQ, O5, O6, D, HB⟩ := hrel
    have hsz := HB.out.size
    by_cases hlt : i < n
    · obtain ⟨b, off, rfl, hc⟩ := (RowAt.keep HA.out HB.out).get (i := i) (by rw [← HN.out]; exact hlt)
      have c0 := hc i (by rw [← HN.out]; exact hlt)
      obtain ⟨b2, off2, rfl, hc2⟩ := (RowAt.keep HO.out HB.out).get (i := i) hlt
      have c2 := hc2 i hlt
      have hf0 := sel1_take l d i (by rw [← HN.out]; exact hlt) false
      have hf1 := sel1_take l d i (by rw [← HN.out]; exact hlt) true
      have h2i := F2.out (i + 1)
      rw [List.length_take, Nat.min_eq_left (by rw [← HN.out]; omega)] at h2i
      obtain ⟨x, hx⟩ : ∃ x, x = l.getD i 0 := ⟨_, rfl⟩
      rw [← hx] at c0 c2 hf0 hf1
      have hltI : (i : Int) < n := by omega
      cases hbit : x.testBit d
      · rw [hbit] at c2 hf0 hf1
        rw [if_pos rfl] at hf0
        rw [if_neg (by simp), List.append_nil] at hf1
        have HF0 := hid hf0
        have HF1 := hid hf1
        have hp1 : p + 1 ≤ 1000 := by have := HPQ.out.1; have := HPQ.out.2; rw [hf0, hf1, List.length_append, List.length_singleton] at h2i; omega
        clear hf0 hf1 hbit hx hc hc2 h2i
        go_wp2_with (at_builtin; refine wpList_append_one rfl (.tmp 24) (.tmp 26) 55 rfl w.heap.size 3 i0 _ 8 Try.underlying55 hi hz0 hz1 hz2 rfl _ _ _ (.int .i64 (x : Int)) wr rfl rfl O5.out rfl rfl ?b1 ?b2 ?base ?_)
        case b1 => unfold maxLen; omega
        case b2 => omega
        case base => exact hsz
        intro v5' w1 hown hgr hmv
        have HB1 := hid (HB.out.grown hgr hsz (fun k hk => (O5.out.lt k hk).1))
        have O6' := hid (D.out.kept O6.out hgr)
        have D1 := hid (hmv.apart O6.out D.out)
        have O5' := hid hown
        clear hgr hmv hown O5 O6 D c0 c2
        go_wp2
        go_roundw
        case rel => exact ⟨i + 1, p + 1, q, _, _, by omega, rfl, rfl, by go_num, hp1, hq, hid ⟨by rw [HF0.out, List.length_append, ← HPQ.out.1]; rfl, by rw [HF1.out]; exact HPQ.out.2⟩, hid (by rw [HF0.out, ivs_append]; exact O5'.out), hid (by rw [HF1.out]; exact O6'.out), D1, HB1⟩
        case measure => simp [intOf]; omega
      · rw [hbit] at c2 hf0 hf1
        rw [if_pos rfl] at hf1
        rw [if_neg (by simp), List.append_nil] at hf0
        have HF0 := hid hf0
        have HF1 := hid hf1
        have hq1 : q + 1 ≤ 1000 := by have := HPQ.out.2; have := HPQ.out.1; rw [hf0, hf1, List.length_append, List.length_singleton] at h2i; omega
        clear hf0 hf1 hbit hx hc hc2 h2i
        go_wp2_with (at_builtin; refine wpList_append_one rfl (.tmp 20) (.tmp 22) 55 rfl w.heap.size 3 i0 _ 8 Try.underlying55 hi hz0 hz1 hz2 rfl _ _ _ (.int .i64 (x : Int)) wr rfl rfl O6.out rfl rfl ?b1 ?b2 ?base ?_)
        case b1 => unfold maxLen; omega
        case b2 => omega
        case base => exact hsz
        intro v6' w1 hown hgr hmv
        have HB1 := hid (HB.out.grown hgr hsz (fun k hk => (O6.out.lt k hk).1))
        have O5' := hid (D.out.symm.kept O5.out hgr)
        have D1 := hid (hmv.apart O5.out D.out.symm).symm
        have O6' := hid hown
        clear hgr hmv hown O5 O6 D c0 c2
        go_wp2
        go_roundw
        case rel => exact ⟨i + 1, p, q + 1, _, _, by omega, rfl, rfl, by go_num, hp, hq1, hid ⟨by rw [HF0.out]; exact HPQ.out.1, by rw [HF1.out, List.length_append, ← HPQ.out.2]; rfl⟩, hid (by rw [HF0.out]; exact O5'.out), hid (by rw [HF1.out, ivs_append]; exact O6'.out), D1, HB1⟩
        case measure => simp [intOf]; omega
    · obtain rfl : i = n := by omega
      have e := HN.out
      have ht : l.take i = l := List.take_of_length_le (by omega)
      rw [ht] at O5 O6 HPQ
      obtain ⟨a6, cap6, rfl, h61, h62, h63, h6⟩ := numsAt_own O6.out HPQ.out.2
      have hpq : p + q = i := by have := F2.out i; rw [ht] at this; have := HPQ.out; omega
      have H6 := hid h6
      have HPQ2 := hid hpq
      have HNIL := hid h63
      have HQ := hid HPQ.out.2
      clear h6 hpq h63 ht e
      go_wp2_with (at_builtin; refine wpList_append_row rfl (.tmp 29) (.tmp 30) 55 rfl w.heap.size 3 i0 _ 8 Try.underlying55 hi hz0 hz1 hz2 rfl _ _ _ rfl O5.out a6 q cap6 (fun i => iv (sel1 l d true) i) rfl ?nil ?row ?one ?b1 ?b2 ?base ?_)
      case nil =>
        intro h
        have := HNIL.out h
        exact ⟨by omega, this⟩
      case row => have := H6.out; unfold NatsAt at this; rw [← HQ.out] at this; exact this
      case one => intro j _; rfl
      case b1 => unfold maxLen; omega
      case b2 => omega
      case base => exact hsz
      intro v7 w7 hown hgr
      have HB7 := hid (HB.out.grown hgr hsz (fun k hk => (O5.out.lt k hk).1))
      have hrow : ivs (sel1 l d false) ++ (List.range q).map (fun i => iv (sel1 l d true) i) = ivs (Wv.part l d) := by
        rw [part_eq, ivs_append, ivs_range _ _ HQ.out]
      rw [hrow, HPQ2.out] at hown
      have hpl : i = (Wv.part l d).length := by rw [Wv.part_length]; exact HN.out
      have HOW := hid hown
      obtain ⟨a7, cap7, rfl, h71, h72, h73, h7⟩ := numsAt_own hown hpl
      have H7 := hid (And.intro h71 (And.intro h72 h73))
      have HPL := hid hpl
      clear hown hgr hrow hpl h71 h72 h73 h7
      go_wp2
      go_ret
      refine ⟨a7, cap7, rfl, H7.out.1, H7.out.2.1, H7.out.2.2, HB7.out, fun w'' hw => ?_⟩
      obtain ⟨a8, cap8, e8, _, _, _, h8⟩ := numsAt_own (ownsRow_fresh HOW.out hw) HPL.out
      obtain ⟨rfl, rfl⟩ : a7 = a8 ∧ cap7 = cap8 := by simpa using e8
      exact h8
end Go.Proofs.Ytagadfgginneeaa
