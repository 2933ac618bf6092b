/- BoxSummed: with a header whose sum is right a file is taken just if all else is, for every input. -/
import Derived.Test.YtgbhnkiballeeaaBxLaw
import Derived.Test.YtgbhnkiballeeaaBxRUnp
import Derived.Deep.AppendLies
import Derived.Deep.DeepCutAuto
namespace Go.Proofs.Ytgbhnkiballeeaa
set_option linter.unusedVariables false
set_option linter.unusedSimpArgs false
set_option maxRecDepth 100000
open Go.ChangeShapes Go.WideShapes Go.ChangeAt Go.RowKit

theorem list_map_range (l : List Nat) (n : Nat) (hn : n = l.length) : (List.range n).map (fun i => u8v (l.getD i 0)) = l.map u8v := by
  subst hn
  refine List.ext_getElem (by simp) fun i h1 h2 => ?_
  simp [List.getD, show i < l.length by simpa using h1]

theorem Try.bsinfo5 : (Try.prog.info? 5).map (fun i => (i.zero, i.size, i.bytes)) = some (some (.int .u8 0), 1, 1) := by kernel_rfl
theorem boxSummed_out (x : Int) (a1 : Option Addr) (n1 cap1 : Nat) (a2 : Option Addr) (n2 cap2 : Nat) (W : World) (h1 : n1 ≤ 9223372036854775807) (h2 : n2 ≤ 9223372036854775807)
    (h : x < 0 ∨ (0 ≤ x ∧ 20 < x) ∨ (0 ≤ x ∧ x ≤ 20 ∧ (n1 : Int) ≠ 7 * x) ∨ (0 ≤ x ∧ x ≤ 20 ∧ (n1 : Int) = 7 * x ∧ 500 < n2)) :
    Calls Try.prog 7 #[.int .i64 x, .slice a1 n1 cap1, .slice a2 n2 cap2] W fun e W' => e = .returned (.bool true) ∧ Below W.heap.size W W' := by
  rcases h with h | ⟨h, h3⟩ | ⟨h, h3, h4⟩ | ⟨h, h3, h4, h5⟩
  · have b1 : decide (x < 0) = true := decide_eq_true h
    go_enter Try.func7, Try.ntmps7
    go_wp2
    go_ret
    exact ⟨rfl, Below.refl _ _⟩
  · have b1 : decide (x < 0) = false := decide_eq_false (by omega)
    have b2 : decide (20 < x) = true := decide_eq_true h3
    go_enter Try.func7, Try.ntmps7
    go_wp2
    go_ret
    exact ⟨rfl, Below.refl _ _⟩
  · have b1 : decide (x < 0) = false := decide_eq_false (by omega)
    have b2 : decide (20 < x) = false := decide_eq_false (by omega)
    have b3 : ((n1 : Int) != 7 * x) = true := bne_iff_ne.2 h4
    have b4 : ((n1 : Int) == 7 * x) = false := beq_eq_false_iff_ne.2 h4
    go_enter Try.func7, Try.ntmps7
    go_wp2
    go_ret
    exact ⟨rfl, Below.refl _ _⟩
  · have b1 : decide (x < 0) = false := decide_eq_false (by omega)
    have b2 : decide (20 < x) = false := decide_eq_false (by omega)
    have b3 : ((n1 : Int) != 7 * x) = false := bne_eq_false_iff_eq.2 h4
    have b4 : ((n1 : Int) == 7 * x) = true := beq_iff_eq.2 h4
    have b5 : decide ((500 : Int) < n2) = true := decide_eq_true (by omega)
    clear h4
    go_enter Try.func7, Try.ntmps7
    go_wp2
    go_ret
    exact ⟨rfl, Below.refl _ _⟩
set_option maxHeartbeats 1000000 in
theorem boxSummed_in (k : Nat) (a1 : Option Addr) (n1 cap1 : Nat) (l1 : List Nat) (a2 : Option Addr) (n2 cap2 : Nat) (l2 : List Nat) (W : World) (hk : k ≤ 20) (e1 : n1 = l1.length) (e2 : n2 = l2.length)
    (h1 : BytesAt W (.slice a1 n1 cap1) l1) (h2 : BytesAt W (.slice a2 n2 cap2) l2) (hb1 : ∀ i, l1.getD i 0 < 256) (hb2 : ∀ i, l2.getD i 0 < 256) (h3 : n1 = 7 * k) (h5 : n2 ≤ 500) :
    Calls Try.prog 7 #[.int .i64 k, .slice a1 n1 cap1, .slice a2 n2 cap2] W fun e W' => e = .returned (.bool true) ∧ Below W.heap.size W W' := by
  obtain ⟨i0, hi, hz0, hz1, hz2⟩ := info_parts Try.bsinfo5
  have HN1 := hid e1
  have HN2 := hid e2
  have H1 := hid h1
  have H2 := hid h2
  have HB1 := hid hb1
  have HB2 := hid hb2
  have b1 : decide ((k : Int) < 0) = false := decide_eq_false (by omega)
  have b2 : decide ((20 : Int) < k) = false := decide_eq_false (by omega)
  have b3 : ((n1 : Int) != 7 * (k : Int)) = false := bne_eq_false_iff_eq.2 (by omega)
  have b4 : ((n1 : Int) == 7 * (k : Int)) = true := beq_iff_eq.2 (by omega)
  have b5 : decide ((500 : Int) < n2) = false := decide_eq_false (by omega)
  have hn140 : n1 ≤ 140 := by omega
  have HK7 := hid h3
  clear e1 e2 h1 h2 hb1 hb2 h3
  go_enter Try.func7, Try.ntmps7
  go_upto_region 3 with fail
  have hk256 : (k : Int) % 256 = k := by omega
  have kc := fun (w : World) (C : Array Value) (n c : Nat) => Lib.run_convert_bytes_const (P := Try.prog) w 24 5 C n c Try.underlying24 Try.underlying5
  go_wp2_with (at_builtin; refine wpList_append_full rfl (.tmp 33) (.tmp 36) 24 rfl 5 i0 _ 1 Try.underlying24 hi hz0 hz1 hz2 rfl W.heap.size 5 ([84, 82, 73, 86, 1].map u8v) rfl rfl ?holds (W.heap.size + 1) 1 1 ([k].map u8v) rfl rfl ?news ?one (by decide) ?b1 ?b2 ?_)
  case holds =>
    intro j u hj
    rw [World.cell?_alloc_lt _ _ _ (by simp)]
    rw [cell_new]
    simpa [u8v] using hj
  case news =>
    intro j u hj
    rw [World.cell?_alloc_at _ _ _ _ (by simp)]
    simpa [u8v] using hj
  case one => intro u hu; obtain ⟨c, _, rfl⟩ := List.mem_map.1 hu; rfl
  case b1 => unfold maxLen; omega
  case b2 => omega
  intro v1 w1 hown hb
  have HO1 := hid (show w1.ownsRow W.heap.size 5 1 v1 6 (([84, 82, 73, 86, 1, k] : List Nat).map u8v) from own_mono hown (by omega))
  have HW1 := hid (show Below W.heap.size W w1 from (((Below.refl W.heap.size W).alloc (Nat.le_refl _) _).alloc (by simp) _).trans (hb.mono (by omega)))
  clear hown hb kc hk256
  go_wp2_with (at_builtin; refine wpList_append_row rfl (.tmp 37) (.tmp 38) 24 rfl W.heap.size 5 i0 _ 1 Try.underlying24 hi hz0 hz1 hz2 rfl v1 _ _ rfl HO1.out a1 n1 cap1 (fun i => u8v (l1.getD i 0)) rfl ?nil ?row ?one ?b1 ?b2 ?base ?_)
  case nil =>
    obtain ⟨a', c', e, _, _, hn, _⟩ := SlAt.open H1.out
    simp only [Value.slice.injEq] at e
    obtain ⟨rfl, _, rfl⟩ := e
    intro h; have := hn h; exact ⟨by rw [HN1.out]; exact this.1, this.2⟩
  case row => exact (SlAt.row (H1.out.keep HW1.out)).2
  case one => intro j _; rfl
  case b1 => unfold maxLen; omega
  case b2 => omega
  case base => exact HW1.out.size
  intro v2 w2 hown hgr
  have HW2 := hid (HW1.out.grown hgr HW1.out.size (fun k hk => (HO1.out.lt k hk).1))
  obtain ⟨hd, hhd⟩ : ∃ hd, hd = ([84, 82, 73, 86, 1, k] : List Nat) ++ l1 := ⟨_, rfl⟩
  have HO2 := hid (show w2.ownsRow W.heap.size 5 1 v2 (6 + n1) (hd.map u8v) by rw [hhd, List.map_append, ← list_map_range l1 n1 HN1.out]; simpa [List.getD] using hown)
  have hhl : 6 + n1 = hd.length := by rw [hhd, HN1.out]; simp; omega
  have hhb : ∀ i, hd.getD i 0 < 256 := list_lt (fun y hy => by
    rw [hhd] at hy
    rcases List.mem_append.1 hy with hy | hy
    · simp at hy; omega
    · obtain ⟨i, hi, rfl⟩ := List.getElem_of_mem hy
      have := HB1.out i
      rwa [List.getD, List.getElem?_eq_getElem hi] at this)
  obtain ⟨aa, ca, rfl, _⟩ := rowAt_own HO2.out
  have CS := hid (rcsum_any _ _ w2 (own_bytes HO2.out hhl) hhb)
  have hsl := Cr.sum_lt _ hhb
  have HHL := hid hhl
  have HHB := hid hhb
  obtain ⟨x, hx⟩ : ∃ x, x = Cr.sum hd := ⟨_, rfl⟩
  rw [← hx] at CS hsl
  clear hown hgr hhd hhl hhb hx
  have q1 : (x : Int) / 65536 = ((x / 65536 % 256 : Nat) : Int) := by omega
  have q2 : (x : Int) / 256 % 256 = ((x / 256 % 256 : Nat) : Int) := by omega
  have q3 : (x : Int) % 256 = ((x % 256 : Nat) : Int) := by omega
  have EE := hid (show (#[Value.int .u8 ((x : Int) / 65536), Value.int .u8 ((x : Int) / 256 % 256), Value.int .u8 ((x : Int) % 256)] : Array Value) = ((Bx.three x).map u8v).toArray by rw [q1, q2, q3]; rfl)
  clear q1 q2 q3
  go_upto_region 5 with (go_at_call 19; refine CS.out.mono ?_; rintro e w' ⟨rfl, hww⟩; subst hww)
  go_wp2_with (at_builtin; refine wpList_append_many rfl (.tmp 42) (.tmp 51) 24 rfl W.heap.size 5 i0 _ 1 Try.underlying24 hi hz0 hz1 hz2 rfl (.slice aa (6 + n1) ca) _ _ ((Bx.three x).map u8v) 3 rfl w2 ?hw rfl HO2.out w2.heap.size rfl rfl ?one ?b1 ?b2 HW2.out.size ?_)
  case hw => rw [EE.out]
  case one => intro u hu; obtain ⟨c, _, rfl⟩ := List.mem_map.1 hu; rfl
  case b1 => unfold maxLen; omega
  case b2 => omega
  intro v3 w3 g1 g2 g3
  rw [← List.map_append] at g1
  have HO3 := hid g1
  have HW3 := hid (HW2.out.grown g2 HW2.out.size (fun k hk => (HO2.out.lt k hk).1))
  clear g1 g2 g3 CS
  go_wp2_with (at_builtin; refine wpList_append_row rfl (.tmp 52) (.tmp 53) 24 rfl W.heap.size 5 i0 _ 1 Try.underlying24 hi hz0 hz1 hz2 rfl v3 _ _ rfl HO3.out a2 n2 cap2 (fun i => u8v (l2.getD i 0)) rfl ?nil ?row ?one ?b1 ?b2 ?base ?_)
  case nil =>
    obtain ⟨a', c', e, _, _, hn, _⟩ := SlAt.open H2.out
    simp only [Value.slice.injEq] at e
    obtain ⟨rfl, _, rfl⟩ := e
    intro h; have := hn h; exact ⟨by rw [HN2.out]; exact this.1, this.2⟩
  case row => exact (SlAt.row (H2.out.keep HW3.out)).2
  case one => intro j _; rfl
  case b1 => unfold maxLen; omega
  case b2 => omega
  case base => exact HW3.out.size
  intro v5 w5 hown hgr
  have HB5 := hid (HW3.out.grown hgr HW3.out.size (fun k hk => (HO3.out.lt k hk).1))
  obtain ⟨b, hbb⟩ : ∃ b, b = hd ++ Bx.three x ++ l2 := ⟨_, rfl⟩
  obtain ⟨n, hnn⟩ : ∃ n, n = 6 + n1 + 3 + n2 := ⟨_, rfl⟩
  have HN := hid (show n = b.length by rw [hbb, List.length_append, List.length_append, ← HHL.out, ← HN2.out, hnn]; rfl)
  have HB := hid (show ∀ i, b.getD i 0 < 256 from list_lt (fun y hy => by
    rw [hbb] at hy
    rcases List.mem_append.1 hy with hy | hy
    · rcases List.mem_append.1 hy with hy | hy
      · obtain ⟨i, hi, rfl⟩ := List.getElem_of_mem hy
        have := HHB.out i
        rwa [List.getD, List.getElem?_eq_getElem hi] at this
      · unfold Bx.three at hy; simp at hy; omega
    · obtain ⟨i, hi, rfl⟩ := List.getElem_of_mem hy
      have := HB2.out i
      rwa [List.getD, List.getElem?_eq_getElem hi] at this))
  have HO5 := hid (show w5.ownsRow W.heap.size 5 1 v5 n (b.map u8v) by rw [hbb, hnn, List.map_append, ← list_map_range l2 n2 HN2.out]; simpa [List.getD] using hown)
  obtain ⟨a5, c5, rfl, _⟩ := rowAt_own HO5.out
  have hn5 : n ≤ 5000 := by omega
  have UN := hid (bunp_any a5 n c5 b w5 HN.out (own_bytes HO5.out HN.out) HB.out)
  have RUF := hid (fun w6 (_ : True) (hW : Below w5.heap.size w5 w6) => runp_any a5 n c5 b w6 HN.out ((own_bytes HO5.out HN.out).keep hW) HB.out hn5)
  clear hown hgr hbb hnn
  by_cases hu : ∃ L, Bx.unp b = some L
  · obtain ⟨L, hL⟩ := hu
    have HU := hid hL
    have hML := Bx.unp_some.1 hL
    have HL8 := hid hML.1.1
    have HBY := hid (show Bx.Bytes L from bytes_of_file (by
      rw [hML.2]; intro x hx
      obtain ⟨i, hi, rfl⟩ := List.getElem_of_mem hx
      have := HB.out i
      rwa [List.getD, List.getElem?_eq_getElem hi] at this))
    clear hL hML
    go_wp2_with fail
    refine UN.out.mono ?_
    rintro e w6 ⟨hB6, hE⟩
    obtain ⟨v6, rfl, hF6⟩ := ends_some hE HU.out
    obtain ⟨a6, c6, rfl, _⟩ := SecsAt.open hF6.it
    have HF6 := hid hF6
    have HB6 := hid (below_then HB5.out hB6)
    have RU := hid (RUF.out w6 trivial hB6)
    clear hE hF6 hB6 UN
    go_wp2_with fail
    refine RU.out.mono ?_
    rintro e w7 ⟨hB7, hE⟩
    obtain ⟨v7, rfl, hF7⟩ := ends_some hE HU.out
    obtain ⟨a7, c7, rfl, _⟩ := SecsAt.open hF7.it
    have HB7 := hid (below_then HB6.out hB7)
    have SM := hid (rsame_any (.slice a6 L.length c6) (.slice a7 L.length c7) L L w7 (HF6.out.keep hB7).it hF7.it HBY.out HBY.out (by have := HL8.out; omega) true (by simp))
    clear hE hF7 hB7 RU
    go_wp2_with (first
      | (go_at_call 17; refine SM.out.mono ?_; rintro e w8 ⟨rfl, hB8⟩)
      | (go_at_call 14; refine (known_any _).mono ?_; rintro e w9 ⟨rfl, hB9⟩))
    go_ret
    exact ⟨rfl, below_then (below_then HB7.out hB8) hB9⟩
  · have HU := hid (show Bx.unp b = none by
      cases hh : Bx.unp b with
      | none => rfl
      | some L => exact absurd ⟨L, hh⟩ hu)
    clear hu
    go_wp2_with fail
    refine UN.out.mono ?_
    rintro e w6 ⟨hB6, hE⟩
    have he := ends_none hE HU.out
    subst he
    have HB6 := hid (below_then HB5.out hB6)
    have RU := hid (RUF.out w6 trivial hB6)
    clear hE hB6 UN
    go_wp2_with fail
    refine RU.out.mono ?_
    rintro e w7 ⟨hB7, hE⟩
    have he := ends_none hE HU.out
    subst he
    have HB7 := hid (below_then HB6.out hB7)
    have SM := hid (rsame_any (.slice none 0 0) (.slice none 0 0) [] [] w7 (SecsAt.nil w7) (SecsAt.nil w7) (fun s hs => by cases hs) (fun s hs => by cases hs) (by decide) true (by simp))
    clear hE hB7 RU
    go_wp2_with (first
      | (go_at_call 17; refine SM.out.mono ?_; rintro e w8 ⟨rfl, hB8⟩)
      | (go_at_call 14; refine (known_any _).mono ?_; rintro e w9 ⟨rfl, hB9⟩))
    go_ret
    exact ⟨rfl, below_then (below_then HB7.out hB8) hB9⟩

theorem boxSummed_walk (H : Type) (enc : TypeId × Value → H) (W : World) (base : Nat) (args : Array Value) (ds gs : List (DataW H)) (before : List MemPlace)
    (hval : ∀ (j : Nat) t v, Try.f7.params[j]? = some t → args[j]? = some v → Value.okWide Try.prog W .any base t v)
    (hW : DataW.Whole enc Try.prog Try.f7.params.toList Rows.boxSummedSpec.vars false W args.toList ds gs before)
    (hz : (DataW.weightsEach Try.prog (Try.f7.params.toList ++ Rows.boxSummedSpec.plain.varTypes Try.prog) (ds ++ gs)).all (· ≤ reachBytes) = true)
    (hL : laidMetH Try.prog Rows.boxSummedRow.laid W) (hsh : W.ShapedOpen Try.prog) :
    Calls Try.prog 7 args W fun e W' => e = .returned (.bool true) ∧ Below W.heap.size W W' := by
  obtain ⟨p, q, hA, _, _, _, _⟩ := hW
  rw [Try.params7] at hA hval
  rw [Try.params7] at hz
  obtain ⟨v0, vs0, d0, ds0, p0, q0, hargs, rfl, rfl, h0, r0⟩ := trodAll_cons hA
  obtain ⟨v1, vs1, d1, ds1, p1, q1, rfl, rfl, rfl, h1, r1⟩ := trodAll_cons r0
  obtain ⟨v2, vs2, d2, ds2, p2, q2, rfl, rfl, rfl, h2, r2⟩ := trodAll_cons r1
  obtain ⟨rfl, rfl, rfl⟩ := trodAll_nil r2
  obtain rfl : args = #[v0, v1, v2] := by cases args; simp_all
  obtain ⟨x0, rfl, rfl, rfl, w0⟩ := open_int Try.underlying3 (hval 0 3 v0 rfl rfl) h0
  have b0 := bounds_i64 w0
  obtain ⟨l1, L1, b1, z1⟩ := arg_bytes Try.underlying24 Try.underlying5 (show Try.prog.cellsOf 5 = 1 ∧ Try.prog.bytesOf 5 = 1 by exact ⟨by kernel_rfl, by kernel_rfl⟩) (hval 1 24 v1 rfl rfl) h1 (sized_arg hz (j := 1) (t := 24) (d := d1) rfl rfl)
  obtain ⟨l2, L2, b2, z2⟩ := arg_bytes Try.underlying24 Try.underlying5 (show Try.prog.cellsOf 5 = 1 ∧ Try.prog.bytesOf 5 = 1 by exact ⟨by kernel_rfl, by kernel_rfl⟩) (hval 2 24 v2 rfl rfl) h2 (sized_arg hz (j := 2) (t := 24) (d := d2) rfl rfl)
  obtain ⟨a1, c1, rfl, pp1, pp2, pp3, ppr⟩ := id L1
  obtain ⟨a2, c2, rfl, qq1, qq2, qq3, qqr⟩ := id L2
  have hnm1 : l1.length ≤ 9223372036854775807 := by unfold maxLen at pp2; omega
  have hnm2 : l2.length ≤ 9223372036854775807 := by unfold maxLen at qq2; omega
  by_cases ho : x0 < 0 ∨ (0 ≤ x0 ∧ 20 < x0) ∨ (0 ≤ x0 ∧ x0 ≤ 20 ∧ (l1.length : Int) ≠ 7 * x0) ∨ (0 ≤ x0 ∧ x0 ≤ 20 ∧ (l1.length : Int) = 7 * x0 ∧ 500 < l2.length)
  · exact boxSummed_out x0 a1 _ c1 a2 _ c2 W hnm1 hnm2 ho
  · obtain ⟨k, rfl⟩ : ∃ k : Nat, x0 = k := ⟨x0.toNat, by omega⟩
    exact boxSummed_in k a1 _ c1 l1 a2 _ c2 l2 W (by omega) rfl rfl L1 L2 b1 b2 (by omega) (by omega)

theorem boxSummed_lifted (os : Os) (started : os.Started) (H : Type) (enc : TypeId × Value → H) (F : Stop.Interp) :
    ReturnsInHanded {} Try.checked os 7 .any ((OpenSpec.ofChange Rows.boxSummedSpec).preRow enc Try.prog Try.f7 Rows.boxSummedRow.domain false Rows.boxSummedRow.laid) (((OpenSpec.ofChange Rows.boxSummedSpec).at F).post enc Try.prog Try.f7 false true false false) := by
  obtain ⟨places, hx⟩ : ∃ places, DataW.whole enc Try.prog ((World.holding Try.prog os ⟨#[], #[], []⟩).forCall (fun _ _ => 0) ⟨#[], #[.int .i64 0, .slice none 0 0, .slice none 0 0], []⟩).memory Try.f7.params.toList Rows.boxSummedSpec.vars false (#[.int .i64 0, .slice none 0 0, .slice none 0 0] : Array Value).toList 8 = some ([.lit (.int .i64 0), .nil, .nil], [], places) := ⟨[], by kernel_rfl⟩
  refine returnsInHanded_of_row (C := Try.checked) (s := OpenSpec.ofChange Rows.boxSummedSpec) own started (by kernel_rfl) Try.func7
    (witness_row_at (enc := enc) (C := Try.checked) false (World.holding Try.prog os ⟨#[], #[], []⟩) #[.int .i64 0, .slice none 0 0, .slice none 0 0] rfl (by kernel_rfl) (by kernel_rfl) (by kernel_rfl)
      (OpenSpec.preRow_of_cond 8 hx (by kernel_rfl) (fun k hk => by cases hk) (by kernel_rfl) (laidMet_nil _ _))) ?_
  intro W base args ds gs before hval hW _ _ hz hL hsh _
  refine (boxSummed_walk H enc W base args ds gs before hval hW hz hL hsh).mono fun e W' ⟨he, hb⟩ => ⟨_, he, ?_⟩
  exact law_post (fn := Try.f7) (s := Rows.boxSummedSpec) (tb := 4) rfl (fun ds hd => by match ds, hd with | [d0, d1, d2], _ => rfl) rfl Try.underlying4 (by kernel_rfl) hW hb

theorem boxSummed_said : Rows.BoxSummedSaid :=
  OpenClaim.holds_of_cond 7 Try.f7 rfl rfl rfl rfl rfl rfl rfl ⟨rfl, rfl, rfl, rfl, rfl⟩ rfl rfl rfl rfl rfl (by kernel_rfl) Try.func7 (by kernel_rfl)
    (of_decide_eq_true (by kernel_rfl)) (by unfold Func.isWrapper; first | (rw [if_pos (by decide +kernel)]; kernel_rfl) | (rw [if_neg (by decide +kernel)]; exact ⟨rfl, rfl⟩))
    (fun os started H enc _ F => by rw [OpenClaim.pre_eq_preRow]; exact boxSummed_lifted os started H enc F)
end Go.Proofs.Ytgbhnkiballeeaa
