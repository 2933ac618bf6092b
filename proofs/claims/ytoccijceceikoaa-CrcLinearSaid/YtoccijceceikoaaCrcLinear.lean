/- CrcLinear: of three rows of one length, xored, the sum is the xor of theirs, for every input. -/
import Derived.Test.YtoccijceceikoaaCrcRef
import Derived.Deep.DeepCutAuto
import Derived.BigRegion
import Derived.Deep.RegionHeld3
import Derived.RegionTactic
namespace Go.Proofs.Ytoccijceceikoaa
set_option linter.unusedVariables false
set_option linter.unusedSimpArgs false
set_option maxRecDepth 100000
open Go.ChangeShapes Go.WideShapes Go.ChangeAt Go.RowKit

theorem Try.info5 : (Try.prog.info? 5).map (fun i => (i.zero, i.size, i.bytes)) = some (some (.int .u8 0), 1, 1) := by kernel_rfl
/-- n bytes, the first i of which are F's. -/
def part (F : Nat → Nat) (i n : Nat) : List Value := (List.range n).map fun t => u8v (if t < i then F t else 0)
theorem part_get {F : Nat → Nat} {i n t : Nat} (h : t < n) : (part F i n)[t]? = some (u8v (if t < i then F t else 0)) := by
  unfold part; rw [List.getElem?_map, List.getElem?_range h]; rfl
theorem part_set {F : Nat → Nat} {i n : Nat} (h : i < n) : (part F i n).set i (u8v (F i)) = part F (i + 1) n := by
  apply List.ext_getElem?
  intro t
  rw [List.getElem?_set]
  have hl : (part F i n).length = n := by simp [part]
  by_cases ht : t < n
  · rw [part_get ht, part_get ht, hl]
    split
    · rename_i h1; subst h1; simp
    · rename_i h1; congr 2
      by_cases h2 : t < i
      · rw [if_pos h2, if_pos (by omega)]
      · rw [if_neg h2, if_neg (by omega)]
  · have e : ∀ i, (part F i n)[t]? = none := fun i => by simp [part]; omega
    rw [e, e, if_neg (by omega)]
theorem part_at {w : World} {b n : Nat} {F : Nat → Nat} {l : List Nat} (h : Blk w b (part F n n) 5) (hn : n = l.length) (hm : n ≤ 300) : BytesAt w (.slice (some ⟨b, 0, none⟩) n n) ((List.range n).map F) := by
  refine SlAt.blk h (by simp) (fun i hi => ?_) n (Nat.le_refl _) (by unfold maxLen; omega)
  rw [part_get hi, if_pos hi]
  simp [List.getD, hi]
theorem part_zero (F : Nat → Nat) (n : Nat) : (madeCells #[.int .u8 0] n).toList = part F 0 n := by
  apply List.ext_getElem?
  intro t
  simp only [madeCells, Array.toList_map, Array.toList_range, List.getElem?_map, part]
  by_cases ht : t < n
  · rw [List.getElem?_range ht]; simp [Nat.mod_one, u8v]
  · have e : (List.range n)[t]? = none := by simp; omega
    rw [e]; simp
theorem range_map {n : Nat} {l : List Nat} {F h : Nat → Nat} (hn : n = l.length) (hF : ∀ t, F t = h (l.getD t 0)) : (List.range n).map F = l.map h := by
  subst hn
  refine List.ext_getElem (by simp) fun i h1 h2 => ?_
  simp [hF, List.getD, show i < l.length by simpa using h1]
theorem map_lt {l : List Nat} {h : Nat → Nat} (hl : ∀ i, l.getD i 0 < 256) (hh : ∀ c, c < 256 → h c < 256) (j : Nat) : (l.map h).getD j 0 < 256 := by
  rcases Nat.lt_or_ge j l.length with h1 | h1
  · have := hl j
    simp only [List.getD, List.getElem?_map, List.getElem?_eq_getElem h1, Option.map_some, Option.getD_some] at this ⊢
    exact hh _ this
  · simp [List.getD, List.getElem?_eq_none h1]
theorem crcLinear_out (a : Option Addr) (n cap x y : Nat) (W : World) (hnm : n ≤ 9223372036854775807) (h : 300 < n) :
    Calls Try.prog 8 #[.slice a n cap, .int .u8 x, .int .u8 y] W fun e W' => e = .returned (.bool true) ∧ Below W.heap.size W W' := by
  go_enter Try.func8, Try.ntmps8
  go_wp2
  go_ret
  exact ⟨rfl, Below.refl _ _⟩
/-- Three rows of noughts, made one behind the other. -/
theorem three_made (W : World) (F G K : Nat → Nat) (n : Nat) (t : TypeId) (w3 : World) (hw : w3 = ((W.alloc (.cells (madeCells #[.int .u8 0] n) t)).alloc (.cells (madeCells #[.int .u8 0] n) t)).alloc (.cells (madeCells #[.int .u8 0] n) t)) :
    Below W.heap.size W w3 ∧ ∀ H : Nat → Nat, Blk w3 W.heap.size (part H 0 n) t ∧ Blk w3 (W.heap.size + 1) (part H 0 n) t ∧ Blk w3 (W.heap.size + 2) (part H 0 n) t := by
  subst hw
  refine ⟨(((Below.refl _ _).alloc (Nat.le_refl _) _).alloc (by simp) _).alloc (by simp; omega) _, fun H => ⟨?_, ?_, ?_⟩⟩
  · exact ((Blk.new' rfl (part_zero H n)).alloc _).alloc _
  · exact (Blk.new' (by simp) (part_zero H n)).alloc _
  · exact Blk.new' (by simp) (part_zero H n)

set_option maxHeartbeats 1000000 in
theorem crcLinear_in (a : Option Addr) (n cap x y : Nat) (l : List Nat) (W : World) (hn : n = l.length) (h0 : n ≤ 300) (hx : x < 256) (hy : y < 256) (h : BytesAt W (.slice a n cap) l) (hl : ∀ i, l.getD i 0 < 256) :
    Calls Try.prog 8 #[.slice a n cap, .int .u8 x, .int .u8 y] W fun e W' => e = .returned (.bool true) ∧ Below W.heap.size W W' := by
  obtain ⟨i0, hi, hz0, hz1, hz2⟩ := info_parts Try.info5
  have mk1 : ∀ W : World, (Instr.makeSlice 22 (.int .i64 (n : Int)) (.int .i64 (n : Int))).run Try.prog W = _ := fun W => run_make W 22 5 i0 _ Try.underlying22 hi hz0 .i64 .i64 n n (by omega) (by omega) (by rw [hz2]; omega) (by omega)
  have KN := hid (fun W' => known_any W')
  have HN := hid hn
  have HL := hid hl
  have HA := hid h
  clear hn hl h
  go_enter Try.func8, Try.ntmps8
  go_upto_region 3 with fail
  go_cut [7, 8, 9] (fun s7 s8 s9 wx => ∃ b7 b8 b9 : Nat, s7 = .slice (some ⟨b7, 0, none⟩) n n ∧ s8 = .slice (some ⟨b8, 0, none⟩) n n ∧ s9 = .slice (some ⟨b9, 0, none⟩) n n ∧ W.heap.size ≤ b7 ∧ W.heap.size ≤ b8 ∧ W.heap.size ≤ b9 ∧ b7 ≠ b8 ∧ b7 ≠ b9 ∧ b8 ≠ b9 ∧
    Hid (∀ H : Nat → Nat, Blk wx b7 (part H 0 n) 5 ∧ Blk wx b8 (part H 0 n) 5 ∧ Blk wx b9 (part H 0 n) 5) ∧ Hid (Below W.heap.size W wx))
  case first =>
    go_region
    all_goals
      go_wp2_with fail
      go_meet
      obtain ⟨TB, T3⟩ := three_made W (fun _ => 0) (fun _ => 0) (fun _ => 0) n 5 _ rfl
      refine ⟨_, _, _, rfl, rfl, rfl, by omega, by omega, by omega, by omega, by omega, by omega, fun H => ?_, below_drawn TB 1⟩
      obtain ⟨A0, A1, A2⟩ := T3 H
      exact ⟨by first | exact A0 | exact A1 | exact A2, by first | exact A0 | exact A1 | exact A2, by first | exact A0 | exact A1 | exact A2⟩
  case rest =>
    obtain ⟨b7, b8, b9, rfl, rfl, rfl, g7, g8, g9, n78, n79, n89, HBK, HB0⟩ := hcut
    obtain ⟨F, hF⟩ : ∃ F : Nat → Nat, ∀ t, F t = l.getD t 0 ^^^ x := ⟨_, fun _ => rfl⟩
    obtain ⟨G, hG⟩ : ∃ G : Nat → Nat, ∀ t, G t = l.getD t 0 * y % 256 := ⟨_, fun _ => rfl⟩
    obtain ⟨K, hK⟩ : ∃ K : Nat → Nat, ∀ t, K t = l.getD t 0 ^^^ F t ^^^ G t := ⟨_, fun _ => rfl⟩
    have HF := hid hF
    have HG := hid hG
    have HK := hid hK
    clear hF hG hK mk1
    go_wp2
    go_loopw [10] (fun s10 wr => ∃ i : Nat, i ≤ n ∧ s10 = .int .i64 i ∧ Hid (Blk wr b7 (part F i n) 5) ∧ Hid (Blk wr b8 (part G i n) 5) ∧ Hid (Blk wr b9 (part K i n) 5) ∧ Hid (Below W.heap.size W wr)) (fun s10 _ => n - (intOf s10).toNat)
    case atStart => exact ⟨0, by omega, rfl, (HBK.out F).1, (HBK.out G).2.1, (HBK.out K).2.2, HB0⟩
    case round =>
      obtain ⟨i, hin, rfl, B7, B8, B9, HB⟩ := hrel
      by_cases hlt : i < n
      · obtain ⟨b, off, rfl, hc⟩ := ((HA.out.keep HB.out).row).2.get hlt
        have c0 := hc i hlt
        have hbW : b < W.heap.size := by
          obtain ⟨b', off', e, hc'⟩ := (HA.out.row).2.get hlt
          cases e
          exact lt_of_cell (hc' i hlt)
        have hcl := HL.out i
        obtain ⟨c, hc0⟩ : ∃ c, c = l.getD i 0 := ⟨_, rfl⟩
        have HC := hid hc0
        rw [← hc0] at c0 hcl
        simp only [u8v] at c0
        have c7 := B7.out.cell (part_get (F := F) (i := i) hlt)
        have c8 := B8.out.cell (part_get (F := G) (i := i) hlt)
        have f7 := B7.out.free i
        have f8 := B8.out.free i
        have hltI : (i : Int) < n := by omega
        have x1 := u8_xor_nat c x hcl hx
        have x2 : IntKind.u8.wrap ((c : Int) * y) = ((c * y % 256 : Nat) : Int) := by rw [IntKind.wrap_u8']; omega
        have n1 : b ≠ b7 := by omega
        have n2 : b ≠ b8 := by omega
        clear hc hc0
        go_wp2
        go_region
        generalize hw1 : World.drew (World.setCell (World.setCell wr _ _) _ _) = w1
        have eF : F i = c ^^^ x := by rw [HF.out, ← HC.out]
        have eG : ((G i : Nat) : Int) = (c : Int) * y % 256 := by rw [HG.out, ← HC.out]; omega
        have eK : K i = c ^^^ (c ^^^ x) ^^^ G i := by rw [HK.out, ← HC.out, eF]
        have S7 := ((B7.out.set i (u8v (F i))).other n78 i (u8v (G i)))
        have S8 := ((B8.out.other (Ne.symm n78) i (u8v (F i))).set i (u8v (G i)))
        have S9 := ((B9.out.other (Ne.symm n79) i (u8v (F i))).other (Ne.symm n89) i (u8v (G i)))
        rw [part_set hlt] at S7 S8
        have SB : Below W.heap.size W ((wr.setCell ⟨b7, i, none⟩ (u8v (F i))).setCell ⟨b8, i, none⟩ (u8v (G i))).drew := ((HB.out.setCell g7 _).setCell g8 _).drew
        have hw2 : w1 = ((wr.setCell ⟨b7, i, none⟩ (u8v (F i))).setCell ⟨b8, i, none⟩ (u8v (G i))).drew := by
          rw [← hw1]; unfold u8v; rw [eF, eG]
        have B7' : Hid (Blk w1 b7 (part F (i + 1) n) 5) := by rw [hw2]; exact S7
        have B8' : Hid (Blk w1 b8 (part G (i + 1) n) 5) := by rw [hw2]; exact S8
        have B9' : Hid (Blk w1 b9 (part K i n) 5) := by rw [hw2]; exact S9
        have HB' : Hid (Below W.heap.size W w1) := by rw [hw2]; exact SB
        clear hw1 hw2 S7 S8 S9 SB c7 c8 f7 f8 B7 B8 B9
        have c0' : w1.cell? ⟨b, off + i, none⟩ = some (.int .u8 c) := by
          rw [below_cells HB'.out b _ hbW, ← below_cells HB.out b _ hbW]; exact c0
        have d7 := B7'.out.cell (part_get (F := F) (i := i + 1) hlt)
        have d8 := B8'.out.cell (part_get (F := G) (i := i + 1) hlt)
        have d9 := B9'.out.cell (part_get (F := K) (i := i) hlt)
        have f9 := B9'.out.free i
        rw [if_pos (by omega)] at d7 d8
        simp only [u8v] at d7 d8 d9
        have hFl : F i < 256 := by rw [eF]; exact Nat.xor_lt_two_pow (n := 8) hcl hx
        have hGl : G i < 256 := by omega
        have hcF : c ^^^ F i < 256 := Nat.xor_lt_two_pow (n := 8) hcl hFl
        have k1 := u8_xor_nat c (F i) hcl hFl
        have k2 := u8_xor_nat (c ^^^ F i) (G i) hcF hGl
        obtain ⟨f, hf⟩ : ∃ f, f = F i := ⟨_, rfl⟩
        obtain ⟨g, hg⟩ : ∃ g, g = G i := ⟨_, rfl⟩
        obtain ⟨q, hq⟩ : ∃ q, q = c ^^^ f := ⟨_, rfl⟩
        obtain ⟨r, hr⟩ : ∃ r, r = q ^^^ g := ⟨_, rfl⟩
        rw [← hf, ← hq] at k1
        rw [← hf, ← hg, ← hq, ← hr] at k2
        rw [← hf] at d7
        rw [← hg] at d8
        have EK := hid (show K i = r by rw [HK.out, ← HC.out, ← hf, ← hg, hr, hq])
        have n3 : b ≠ b9 := by omega
        clear eF eG eK hFl hGl hcF hf hg hq hr x1 x2 c0
        go_wp2
        go_region
        generalize hw1 : World.drew (World.setCell w1 _ _) = w2
        have hw3 : w2 = (w1.setCell ⟨b9, i, none⟩ (u8v (K i))).drew := by rw [← hw1, EK.out]; rfl
        have S9 := B9'.out.set i (u8v (K i))
        rw [part_set hlt] at S9
        have B7'' : Hid (Blk w2 b7 (part F (i + 1) n) 5) := by rw [hw3]; exact B7'.out.other n79 i _
        have B8'' : Hid (Blk w2 b8 (part G (i + 1) n) 5) := by rw [hw3]; exact B8'.out.other n89 i _
        have B9'' : Hid (Blk w2 b9 (part K (i + 1) n) 5) := by rw [hw3]; exact S9
        have HB'' : Hid (Below W.heap.size W w2) := by rw [hw3]; exact (HB'.out.setCell g9 _).drew
        clear hw1 hw3 S9 d7 d8 d9 f9 k1 k2
        go_wp2
        go_roundw
        case rel => exact ⟨i + 1, by omega, by go_num, B7'', B8'', B9'', HB''⟩
        case measure => simp [intOf]; omega
      · obtain rfl : i = n := by omega
        have XA := part_at (F := F) B7.out HN.out h0
        have YA := part_at (F := G) B8.out HN.out h0
        have ZA := part_at (F := K) B9.out HN.out h0
        have e1 : (List.range i).map F = l.map fun c => c ^^^ x := range_map HN.out HF.out
        have e2 : (List.range i).map G = l.map fun c => c * y % 256 := range_map HN.out HG.out
        have e3 : (List.range i).map K = l.map fun c => c ^^^ (c ^^^ x) ^^^ (c * y % 256) := range_map HN.out (fun t => by rw [HK.out, HF.out, HG.out])
        rw [e1] at XA
        rw [e2] at YA
        rw [e3] at ZA
        have l1 : ∀ j, (l.map fun c => c ^^^ x).getD j 0 < 256 := map_lt HL.out (fun c hc => Nat.xor_lt_two_pow (n := 8) hc hx)
        have l2 : ∀ j, (l.map fun c => c * y % 256).getD j 0 < 256 := map_lt HL.out (fun c hc => Nat.mod_lt _ (by omega))
        have l3 : ∀ j, (l.map fun c => c ^^^ (c ^^^ x) ^^^ (c * y % 256)).getD j 0 < 256 := map_lt HL.out (fun c hc => Nat.xor_lt_two_pow (n := 8) (Nat.xor_lt_two_pow (n := 8) hc (Nat.xor_lt_two_pow (n := 8) hc hx)) (Nat.mod_lt _ (by omega)))
        have hsum : Cr.sum (l.map fun c => c ^^^ (c ^^^ x) ^^^ (c * y % 256)) = Cr.sum l ^^^ Cr.sum (l.map fun c => c ^^^ x) ^^^ Cr.sum (l.map fun c => c * y % 256) := by
          have := Cr.run_xor3 l (fun c => c ^^^ x) (fun c => c * y % 256) Cr.start Cr.start Cr.start
          rw [Nat.xor_self, Nat.zero_xor] at this
          exact this
        have q1 := Cr.sum_lt _ l1
        have q2 := Cr.sum_lt _ l2
        have q0 := Cr.sum_lt _ HL.out
        have k1 : Below wr.heap.size wr (wr.alloc (.cells #[.slice (some ⟨b9, 0, none⟩) i i] 22)) := (Below.refl _ _).alloc (Nat.le_refl _) _
        have k2 := k1.alloc k1.size (.cells #[.slice a i cap] 22)
        have k3 := k2.alloc k2.size (.cells #[.slice (some ⟨b7, 0, none⟩) i i] 22)
        have k4 := k3.alloc k3.size (.cells #[.slice (some ⟨b8, 0, none⟩) i i] 22)
        have C1 := hid (csum_one ZA l3 (b := wr.heap.size) rfl)
        have C2 := hid (csum_one ((HA.out.keep HB.out).keep k1) HL.out (b := wr.heap.size + 1) (by simp))
        have C3 := hid (csum_one (XA.keep k2) l1 (b := wr.heap.size + 1 + 1) (by simp))
        have C4 := hid (csum_one (YA.keep k3) l2 (b := wr.heap.size + 1 + 1 + 1) (by simp))
        have HB4 := hid (HB.out.trans (k4.mono HB.out.size))
        obtain ⟨sz, hsz⟩ : ∃ s : Nat, s = Cr.sum (l.map fun c => c ^^^ (c ^^^ x) ^^^ (c * y % 256)) := ⟨_, rfl⟩
        obtain ⟨sp, hsp⟩ : ∃ s : Nat, s = Cr.sum l := ⟨_, rfl⟩
        obtain ⟨sx, hsx⟩ : ∃ s : Nat, s = Cr.sum (l.map fun c => c ^^^ x) := ⟨_, rfl⟩
        obtain ⟨sy, hsy⟩ : ∃ s : Nat, s = Cr.sum (l.map fun c => c * y % 256) := ⟨_, rfl⟩
        rw [← hsz] at C1
        rw [← hsp] at C2 q0
        rw [← hsx] at C3 q1
        rw [← hsy] at C4 q2
        rw [← hsz, ← hsp, ← hsx, ← hsy] at hsum
        have qx : sp ^^^ sx < 2 ^ 24 := Nat.xor_lt_two_pow q0 q1
        have x1 := Bn.i64_xor_nat sp sx (by omega) (by omega)
        obtain ⟨u, hu⟩ : ∃ u, u = sp ^^^ sx := ⟨_, rfl⟩
        rw [← hu] at x1 qx hsum
        have x2 := Bn.i64_xor_nat u sy (by omega) (by omega)
        rw [← hsum] at x2
        have hss : ((sz : Int) == sz) = true := by simp
        clear e1 e2 e3 l1 l2 l3 XA YA ZA q0 q1 q2 qx hsum hsz hsp hsx hsy hu k1 k2 k3 k4 B7 B8 B9 HBK HB0
        go_wp2_with fail
        refine C1.out.mono ?_
        rintro e w' ⟨rfl, rfl⟩
        go_wp2_with fail
        refine C2.out.mono ?_
        rintro e w' ⟨rfl, rfl⟩
        go_wp2_with fail
        refine C3.out.mono ?_
        rintro e w' ⟨rfl, rfl⟩
        go_wp2_with fail
        refine C4.out.mono ?_
        rintro e w' ⟨rfl, rfl⟩
        go_wp2_with (go_at_call 11; refine (KN.out _).mono ?_; rintro e w' ⟨rfl, hb⟩; have HB5 := hid (below_then HB4.out hb); clear hb)
        go_ret
        exact ⟨rfl, HB5.out⟩

theorem crcLinear_walk (H : Type) (enc : TypeId × Value → H) (W : World) (base : Nat) (args : Array Value) (ds gs : List (DataW H)) (before : List MemPlace)
    (hval : ∀ (j : Nat) t v, Try.f8.params[j]? = some t → args[j]? = some v → Value.okWide Try.prog W .any base t v)
    (hW : DataW.Whole enc Try.prog Try.f8.params.toList Rows.crcLinearSpec.vars false W args.toList ds gs before)
    (hz : (DataW.weightsEach Try.prog (Try.f8.params.toList ++ Rows.crcLinearSpec.plain.varTypes Try.prog) (ds ++ gs)).all (· ≤ reachBytes) = true)
    (hL : laidMetH Try.prog Rows.crcLinearRow.laid W) (hsh : W.ShapedOpen Try.prog) :
    Calls Try.prog 8 args W fun e W' => e = .returned (.bool true) ∧ Below W.heap.size W W' := by
  obtain ⟨p, q, hA, _, _, _, _⟩ := hW
  rw [Try.params8] at hA hval
  rw [Try.params8] at hz
  obtain ⟨v0, vs0, d0, ds0, p0, q0, hargs, rfl, rfl, h0, r0⟩ := trodAll_cons hA
  obtain ⟨v1, vs1, d1, ds1, p1, q1, rfl, rfl, rfl, h1, r1⟩ := trodAll_cons r0
  obtain ⟨v2, vs2, d2, ds2, p2, q2, rfl, rfl, rfl, h2, r2⟩ := trodAll_cons r1
  obtain ⟨rfl, rfl, rfl⟩ := trodAll_nil r2
  obtain rfl : args = #[v0, v1, v2] := by cases args; simp_all
  obtain ⟨l0, L0, b0, z0⟩ := arg_bytes Try.underlying22 Try.underlying5 (show Try.prog.cellsOf 5 = 1 ∧ Try.prog.bytesOf 5 = 1 by exact ⟨by kernel_rfl, by kernel_rfl⟩) (hval 0 22 v0 rfl rfl) h0 (sized_arg hz (j := 0) (t := 22) (d := d0) rfl rfl)
  obtain ⟨x1, rfl, rfl, rfl, w1⟩ := open_int Try.underlying5 (hval 1 5 v1 rfl rfl) h1
  have b1 := bounds_u8 w1
  obtain ⟨x2, rfl, rfl, rfl, w2⟩ := open_int Try.underlying5 (hval 2 5 v2 rfl rfl) h2
  have b2 := bounds_u8 w2
  obtain ⟨a, cap, rfl, h1, h2, h3, hr⟩ := id L0
  obtain ⟨x, rfl⟩ : ∃ y : Nat, x1 = y := ⟨x1.toNat, by omega⟩
  obtain ⟨y, rfl⟩ : ∃ y : Nat, x2 = y := ⟨x2.toNat, by omega⟩
  by_cases hb : 300 < l0.length
  · exact crcLinear_out a _ cap x y W (by omega) hb
  · exact crcLinear_in a _ cap x y l0 W rfl (by omega) (by omega) (by omega) L0 b0

theorem crcLinear_lifted (os : Os) (started : os.Started) (H : Type) (enc : TypeId × Value → H) (F : Stop.Interp) :
    ReturnsInHanded {} Try.checked os 8 .any ((OpenSpec.ofChange Rows.crcLinearSpec).preRow enc Try.prog Try.f8 Rows.crcLinearRow.domain false Rows.crcLinearRow.laid) (((OpenSpec.ofChange Rows.crcLinearSpec).at F).post enc Try.prog Try.f8 false true false false) := by
  obtain ⟨places, hx⟩ : ∃ places, DataW.whole enc Try.prog ((World.holding Try.prog os ⟨#[], #[], []⟩).forCall (fun _ _ => 0) ⟨#[], #[.slice none 0 0, .int .u8 0, .int .u8 0], []⟩).memory Try.f8.params.toList Rows.crcLinearSpec.vars false (#[.slice none 0 0, .int .u8 0, .int .u8 0] : Array Value).toList 8 = some ([.nil, .lit (.int .u8 0), .lit (.int .u8 0)], [], places) := ⟨[], by kernel_rfl⟩
  refine returnsInHanded_of_row (C := Try.checked) (s := OpenSpec.ofChange Rows.crcLinearSpec) own started (by kernel_rfl) Try.func8
    (witness_row_at (enc := enc) (C := Try.checked) false (World.holding Try.prog os ⟨#[], #[], []⟩) #[.slice none 0 0, .int .u8 0, .int .u8 0] rfl (by kernel_rfl) (by kernel_rfl) (by kernel_rfl)
      (OpenSpec.preRow_of_cond 8 hx (by kernel_rfl) (fun k hk => by cases hk) (by kernel_rfl) (laidMet_nil _ _))) ?_
  intro W base args ds gs before hval hW _ _ hz hL hsh _
  refine (crcLinear_walk H enc W base args ds gs before hval hW hz hL hsh).mono fun e W' ⟨he, hb⟩ => ⟨_, he, ?_⟩
  exact law_post (fn := Try.f8) (s := Rows.crcLinearSpec) (tb := 4) rfl (fun ds hd => by match ds, hd with | [d0, d1, d2], _ => rfl) rfl Try.underlying4 (by kernel_rfl) hW hb

theorem crcLinear_said : Rows.CrcLinearSaid :=
  OpenClaim.holds_of_cond 8 Try.f8 rfl rfl rfl rfl rfl rfl rfl ⟨rfl, rfl, rfl, rfl, rfl⟩ rfl rfl rfl rfl rfl (by kernel_rfl) Try.func8 (by kernel_rfl)
    (of_decide_eq_true (by kernel_rfl)) (by unfold Func.isWrapper; first | (rw [if_pos (by decide +kernel)]; kernel_rfl) | (rw [if_neg (by decide +kernel)]; exact ⟨rfl, rfl⟩))
    (fun os started H enc _ F => by rw [OpenClaim.pre_eq_preRow]; exact crcLinear_lifted os started H enc F)
end Go.Proofs.Ytoccijceceikoaa
