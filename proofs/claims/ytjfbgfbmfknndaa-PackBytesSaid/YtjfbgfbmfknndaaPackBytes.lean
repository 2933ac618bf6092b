/- PackBytes: numbers of eight bits are bytes; of sixteen two, the lower one first: for every input. -/
import Derived.Test.YtjfbgfbmfknndaaPackBack
import Derived.Test.YtjfbgfbmfknndaaOwn
import Derived.Deep.RegionHeld3
import Derived.Deep.AppendLies
import Derived.Deep.DrawnRows
namespace Go.Proofs.Ytjfbgfbmfknndaa
set_option linter.unusedVariables false
set_option linter.unusedSimpArgs false
set_option maxRecDepth 100000
open Go.ChangeShapes Go.WideShapes Go.ChangeAt Go.RowKit

theorem packBytes_out (a : Option Addr) (n cap : Nat) (W : World) (hbig : n ≤ 9223372036854775807) (h : 500 < n) :
    Calls Try.prog 8 #[.slice a n cap] W fun e W' => e = .returned (.bool true) ∧ Below W.heap.size W W' := by
  go_enter Try.func8, Try.ntmps8
  go_wp2
  go_ret
  exact ⟨rfl, Below.refl _ _⟩
/-- The bytes as numbers; two and two of them as numbers. -/
def ones (l : List Nat) (i : Nat) : List Int := (List.range i).map fun t => (l.getD t 0 : Int)
def twos (l : List Nat) (i : Nat) : List Int := (List.range i).map fun t => ((l.getD (2 * t) 0 + 256 * l.getD (2 * t + 1) 0 : Nat) : Int)
theorem ones_succ (l : List Nat) (i : Nat) : (ones l i).map (Value.int .i64) ++ [Value.int .i64 ((l.getD i 0 : Nat) : Int)] = (ones l (i + 1)).map (Value.int .i64) := by
  unfold ones
  rw [show List.range (i + 1) = List.range i ++ [i] from List.range_succ, List.map_append, List.map_append]; rfl
theorem twos_succ (l : List Nat) (i : Nat) : (twos l i).map (Value.int .i64) ++ [Value.int .i64 ((l.getD (2 * i) 0 + 256 * l.getD (2 * i + 1) 0 : Nat) : Int)] = (twos l (i + 1)).map (Value.int .i64) := by
  unfold twos
  rw [show List.range (i + 1) = List.range i ++ [i] from List.range_succ, List.map_append, List.map_append]; rfl
theorem or_two (x y : Nat) (hx : x < 256) (hy : y < 256) : bits BinOp.or IntKind.i64 (x : Int) ((y : Int) * 256) = (x : Int) + 256 * (y : Int) := by
  rw [show (y : Int) * 256 = ((y * 256 : Nat) : Int) by omega, Bn.i64_or_nat _ _ (by omega) (by omega)]
  have := Nat.two_pow_add_eq_or_of_lt (i := 8) (b := x) (by omega) y
  rw [Nat.or_comm, show y * 256 = 2 ^ 8 * y by omega, ← this]; omega
theorem and_odd (i : Nat) (h : i < 9223372036854775808) : bits BinOp.and IntKind.i64 (i : Int) 1 = ((i % 2 : Nat) : Int) := by
  have := Bn.i64_and_nat i 1 h (by omega)
  rw [Nat.and_one_is_mod] at this
  exact this
theorem numsAt_own {W : World} {base : Nat} {t : TypeId} {v : Value} {n : Nat} {l : List Int} (h : W.ownsRow base t 1 v n (l.map (Value.int .i64))) (hn : n = l.length) : NumsAt W v l := by
  subst hn
  obtain ⟨a, cap, rfl, _, _, _, hr⟩ := rowAt_own h
  refine ⟨a, cap, rfl, ?_⟩
  rcases hr with h0 | ⟨b, off, ha, hc⟩
  · exact Or.inl h0
  · refine Or.inr ⟨b, off, ha, fun i hi => ?_⟩
    rw [hc i hi]
    simp [List.getD, hi]
theorem ones_length (l : List Nat) (n : Nat) : (ones l n).length = n := by simp [ones]
theorem twos_length (l : List Nat) (n : Nat) : (twos l n).length = n := by simp [twos]
theorem ones_get (l : List Nat) (n i : Nat) (h : i < n) : (ones l n).getD i 0 = ((l.getD i 0 : Nat) : Int) := by simp [ones, List.getD, h]
theorem twos_get (l : List Nat) (n i : Nat) (h : i < n) : (twos l n).getD i 0 = ((l.getD (2 * i) 0 + 256 * l.getD (2 * i + 1) 0 : Nat) : Int) := by simp [twos, List.getD, h]
theorem ones_may (l : List Nat) (n : Nat) (hn : n ≤ 500) (hl : ∀ i, l.getD i 0 < 256) : Pm.May (ones l n) 8 := by
  refine ⟨by omega, by omega, by rw [ones_length]; omega, fun i hi => ?_⟩
  rw [ones_length] at hi
  rw [ones_get l n i hi]
  have := hl i
  exact ⟨by omega, by show _ < 256; omega⟩
theorem twos_may (l : List Nat) (n : Nat) (hn : n ≤ 250) (hl : ∀ i, l.getD i 0 < 256) : Pm.May (twos l n) 16 := by
  refine ⟨by omega, by omega, by rw [twos_length]; omega, fun i hi => ?_⟩
  rw [twos_length] at hi
  rw [twos_get l n i hi]
  have := hl (2 * i)
  have := hl (2 * i + 1)
  exact ⟨by omega, by show _ < 65536; omega⟩
theorem ones_max (l : List Nat) (n : Nat) (hl : ∀ i, l.getD i 0 < 256) (i : Nat) (hi : i < (ones l n).length) : (ones l n).getD i 0 ≤ 9223372036854775807 := by
  rw [ones_length] at hi
  rw [ones_get l n i hi]
  have := hl i
  omega
theorem twos_max (l : List Nat) (n : Nat) (hl : ∀ i, l.getD i 0 < 256) (i : Nat) (hi : i < (twos l n).length) : (twos l n).getD i 0 ≤ 9223372036854775807 := by
  rw [twos_length] at hi
  rw [twos_get l n i hi]
  have := hl (2 * i)
  have := hl (2 * i + 1)
  omega
theorem ones_bytes (l : List Nat) (n : Nat) (hn : n = l.length) (hl : ∀ i, l.getD i 0 < 256) : Pm.bytes (ones l n) 8 = l := by
  have e : Pm.size n 8 = n := by unfold Pm.size; omega
  refine Pm.list_extN (by rw [Pm.bytes_length, ones_length, e, hn]) fun t ht => ?_
  rw [Pm.bytes_length, ones_length, e] at ht
  rw [Pm.bytes_get _ _ _ (by rw [ones_length, e]; exact ht)]
  rw [← Bn.val_of_testBit 8 (l.getD t 0) (hl t)]
  unfold Pm.byte Bn.grp
  refine Bn.val_congr fun j hj => ?_
  rw [ones_length, decide_eq_true (by omega), Bool.true_and]
  unfold Pm.nbit
  rw [show (8 * t + j) / 8 = t by omega, show (8 * t + j) % 8 = j by omega, ones_get l n t ht, Int.toNat_natCast]
theorem twos_bytes (l : List Nat) (n : Nat) (hn : n = l.length) (hl : ∀ i, l.getD i 0 < 256) : Pm.bytes (twos l (n / 2)) 16 = l.take (n / 2 * 2) := by
  have e : Pm.size (n / 2) 16 = n / 2 * 2 := by unfold Pm.size; omega
  refine Pm.list_extN (by rw [Pm.bytes_length, twos_length, e, List.length_take]; omega) fun t ht => ?_
  rw [Pm.bytes_length, twos_length, e] at ht
  rw [Pm.bytes_get _ _ _ (by rw [twos_length, e]; exact ht)]
  have et : (l.take (n / 2 * 2)).getD t 0 = l.getD t 0 := by simp [List.getD, ht]
  rw [et, ← Bn.val_of_testBit 8 (l.getD t 0) (hl t)]
  unfold Pm.byte Bn.grp
  refine Bn.val_congr fun j hj => ?_
  rw [twos_length, decide_eq_true (by omega), Bool.true_and]
  unfold Pm.nbit
  rw [show (8 * t + j) / 16 = t / 2 by omega, twos_get l (n / 2) (t / 2) (by omega), Int.toNat_natCast, Nat.add_comm, show 256 = 2 ^ 8 by rfl, Nat.testBit_two_pow_mul_add _ (hl (2 * (t / 2)))]
  rcases Nat.mod_two_eq_zero_or_one t with hp | hp
  · rw [show (8 * t + j) % 16 = j by omega, if_pos hj, show 2 * (t / 2) = t by omega]
  · rw [show (8 * t + j) % 16 = 8 + j by omega, if_neg (by omega), show 2 * (t / 2) + 1 = t by omega, show 8 + j - 8 = j by omega]

set_option maxHeartbeats 1000000 in
theorem packBytes_in (a : Option Addr) (cap : Nat) (l : List Nat) (W : World) (h0 : l.length ≤ 500) (hcap : l.length ≤ cap) (hl : ∀ i, l.getD i 0 < 256) (hR : RowAt W a l.length fun i => .int .u8 (l.getD i 0 : Nat)) :
    Calls Try.prog 8 #[.slice a l.length cap] W fun e W' => e = .returned (.bool true) ∧ Below W.heap.size W W' := by
  obtain ⟨n, hn⟩ : ∃ n, n = l.length := ⟨_, rfl⟩
  have KN := hid (fun W' => known_any W')
  obtain ⟨i0, hi, hz0, hz1, hz2⟩ := info_parts Try.info3
  have HL := hid hl
  have HN := hid hn
  rw [← hn] at h0 hR hcap ⊢
  have HR := hid hR
  clear hn hl hR
  go_enter Try.func8, Try.ntmps8
  go_wp2
  go_loopw [3, 4, 5] (fun s3 s4 s5 wr => ∃ (i : Nat) (v3 v4 : Value), i ≤ n ∧ s3 = v3 ∧ s4 = v4 ∧ s5 = .int .i64 i ∧ Hid (wr.ownsRow W.heap.size 3 1 v3 i ((ones l i).map (Value.int .i64))) ∧ Hid (wr.ownsRow W.heap.size 3 1 v4 (i / 2) ((twos l (i / 2)).map (Value.int .i64))) ∧
      Hid (Apart v3 v4) ∧ Hid (Below W.heap.size W wr)) (fun _ _ s5 _ => n - (intOf s5).toNat)
  case atStart => exact ⟨0, _, _, by omega, rfl, rfl, rfl, World.ownsRow_nil _ _ _ _, World.ownsRow_nil _ _ _ _, apart_nil _ _, Below.refl _ _⟩
  case round =>
    obtain ⟨i, v3, v4, hin, rfl, rfl, rfl, O3, O4, D, HB⟩ := hrel
    by_cases hlt : i < n
    · obtain ⟨b, off, rfl, hc⟩ := (HR.out.keep HB.out).get hlt
      have c0 := hc i hlt
      have hx := HL.out i
      obtain ⟨x, hx0⟩ : ∃ x, x = l.getD i 0 := ⟨_, rfl⟩
      have HX := hid hx0
      rw [← hx0] at c0 hx
      have hz := HB.out.size
      clear hc hx0
      go_wp2_with (at_builtin; refine wpList_append_one rfl (.tmp 19) (.tmp 25) 22 rfl W.heap.size 3 i0 _ 8 Try.underlying22 hi hz0 hz1 hz2 rfl _ _ _ (.int .i64 x) wr rfl rfl O3.out rfl rfl ?b1 ?b2 ?base ?_)
      case b1 => unfold maxLen; omega
      case b2 => omega
      case base => exact hz
      intro v3' w1 hown hgr hmv
      have HB1 := hid (HB.out.grown hgr hz (fun k hk => (O3.out.lt k hk).1))
      have hsz1 := HB1.out.size
      have O4' := hid (D.out.kept O4.out hgr)
      have D1 := hid (hmv.apart O4.out D.out)
      rw [HX.out, ones_succ] at hown
      have O3' := hid hown
      have hpar : i % 2 = 0 ∨ i % 2 = 1 := by omega
      have hand := and_odd i (by omega)
      clear hgr hmv hown O3 O4 D c0
      rcases hpar with hp | hp
      · rw [hp] at hand
        have hO : Hid (w1.ownsRow W.heap.size 3 1 u4 ((i + 1) / 2) ((twos l ((i + 1) / 2)).map (Value.int .i64))) := by
          rw [show (i + 1) / 2 = i / 2 by omega]; exact O4'
        have HP := hid hp
        clear hp
        go_wp2
        go_roundw
        case rel => exact ⟨i + 1, _, _, by omega, rfl, rfl, by go_num, O3', hO, D1, HB1⟩
        case measure => simp [intOf]; omega
      · rw [hp] at hand
        obtain ⟨b, off, hab, hc⟩ := (HR.out.keep HB1.out).get hlt
        cases hab
        have c0 := hc i hlt
        have c1 := hc (i - 1) (by omega)
        have hy := HL.out (i - 1)
        obtain ⟨y, hy0⟩ : ∃ y, y = l.getD (i - 1) 0 := ⟨_, rfl⟩
        have HY := hid hy0
        rw [← hy0] at c1 hy
        rw [← HX.out] at c0
        have i1 : IntKind.i64.wrap ((i : Int) - 1) = (i : Int) - 1 := IntWalk.i64_in _ (by omega)
        have i2 : 0 ≤ (i : Int) - 1 := by omega
        have i3 : ((i : Int) - 1).toNat = i - 1 := by omega
        have i4 : (i : Int) - 1 < n := by omega
        have i5 := or_two y x hy hx
        have i6 : (1 : Int) ≤ i := by omega
        have i7 : IntKind.i64.wrap (y : Int) = y := IntWalk.i64_in _ (by omega)
        have i8 : IntKind.i64.wrap (x : Int) = x := IntWalk.i64_in _ (by omega)
        have i10 : IntKind.i64.wrap ((x : Int) * 256) = (x : Int) * 256 := IntWalk.i64_in _ (by omega)
        have hb1 := lt_of_cell c0
        have hbW : b < W.heap.size := by
          obtain ⟨b', off', e, hc'⟩ := HR.out.get hlt
          cases e
          exact lt_of_cell (hc' i hlt)
        have hne : u4.ownBlock ≠ some b := fun e => by have := (O4'.out.lt b e).1; omega
        have i9 : (i : Int) < n := by omega
        have HP := hid hp
        clear hp hc hy0
        go_wp2
        go_region_held3 (fun w' => w'.cell? ⟨b, off + i, none⟩ = some (.int .u8 x) ∧ w'.cell? ⟨b, off + (i - 1), none⟩ = some (.int .u8 y))
          (first
            | go_keep
            | (go_split_ands
               refine ⟨?_, ?_⟩
               · (rw [hgrow.cell_far _ (by simp; omega) (Ne.symm hne)]; assumption)
               · (rw [hgrow.cell_far _ (by simp; omega) (Ne.symm hne)]; assumption)))
          ((refine step_append_lies _ (by rfl) _ _ _ (by rfl) W.heap.size 3 i0 _ 1 8 Try.underlying22 hi hz0 hz1 hz2 rfl (by omega) u4 (i / 2) _ (by rfl) ((O4'.out.alloc _).drew)
              ⟨w1.heap.size, 0, none⟩ 1 1 [.int .i64 ((y : Int) + 256 * x)] (by rfl) (by rfl) (World.news_of_block (cs := #[.int .i64 ((y : Int) + 256 * x)]) (t := 3) (fr := (0, 0)) (heap_alloc_new w1 _)) (by simp [Value.oneCell'])
              (by omega) (by unfold maxLen; omega) (by omega) (by simp; omega) (w1.heap.size + 1) (by simp) ?_; intro gg cap w2 hown2 hgrow hat hltg))
        have hgr2 : w1.grownBy w2 u4.ownBlock := ⟨hgrow.os, hgrow.tape, hgrow.output, by have := hgrow.size; simp at this; omega, fun k hk hn => by
          rw [hgrow.block k (by simp; omega) hn]
          show (w1.alloc _).heap[k]? = _
          rw [Below.heap_alloc _ _ _ hk]⟩
        have hmv2 : Moved w1 u4 (.slice (some ⟨gg, 0, none⟩) (i / 2 + 1) cap) := by
          rcases hat with h | h
          · exact Or.inl (by rw [h]; rfl)
          · exact Or.inr ⟨gg, rfl, by omega⟩
        have HB2 := hid (HB1.out.grown hgr2 hsz1 (fun k hk => (O4'.out.lt k hk).1))
        have O3'' := hid (D1.out.symm.kept O3'.out hgr2)
        have D2 := hid (hmv2.apart O3'.out D1.out.symm).symm
        have ey : y = l.getD (2 * (i / 2)) 0 := by rw [HY.out]; congr 1; have := HP.out; omega
        have ex : x = l.getD (2 * (i / 2) + 1) 0 := by rw [HX.out]; congr 1; have := HP.out; omega
        have hO : Hid (w2.ownsRow W.heap.size 3 1 (.slice (some ⟨gg, 0, none⟩) (i / 2 + 1) cap) ((i + 1) / 2) ((twos l ((i + 1) / 2)).map (Value.int .i64))) := by
          have e := twos_succ l (i / 2)
          rw [← ey, ← ex, Int.natCast_add, Int.natCast_mul] at e
          rw [show (i + 1) / 2 = i / 2 + 1 by have := HP.out; omega, ← e]
          exact hown2
        clear hgr2 hmv2 hgrow hat hltg hown2 O3' O4' D1 HB1 i1 i2 i3 i4 i5 i6 i7 i8 i9 i10 c0 c1 hne ey ex
        go_wp2
        go_roundw
        case rel => exact ⟨i + 1, _, _, by omega, rfl, rfl, by go_num, O3'', hO, D2, HB2⟩
        case measure => simp [intOf]; omega
    · obtain rfl : i = n := by omega
      have N3 := numsAt_own O3.out (by simp [ones])
      have N4 := numsAt_own O4.out (by simp [twos])
      have hz3 := pk_yes (ones_may l i (by omega) HL.out)
      have hz4 := pk_yes (twos_may l (i / 2) (by omega) HL.out)
      have SP := hid (fun W' (h : Below wr.heap.size wr W') => pack_all _ W' (ones l i) 8 (ones_max l i HL.out) (N3.keep h))
      have SQ := hid (fun W' (h : Below wr.heap.size wr W') => pack_all _ W' (twos l (i / 2)) 16 (twos_max l (i / 2) HL.out) (N4.keep h))
      rw [hz3.1, hz3.2, show (8 : Int).toNat = 8 from rfl, ones_bytes l i HN.out HL.out] at SP
      rw [hz4.1, hz4.2, show (16 : Int).toNat = 16 from rfl, twos_bytes l i HN.out HL.out] at SQ
      clear N3 N4 hz3 hz4 O3 O4 D
      have hb0 := Below.refl wr.heap.size wr
      go_wp2_with fail
      refine (SP.out _ hb0).mono ?_
      rintro e w1 ⟨p6, rfl, hb1, B1⟩
      have HB1 := hid (HB.out.trans (hb1.mono HB.out.size))
      have BB1 := hid B1
      have H1 := hid hb1
      clear SP hb1 B1 hb0
      go_wp2_with fail
      refine (SQ.out _ H1.out).mono ?_
      rintro e w2 ⟨p8, rfl, hb2, B2⟩
      have HB2 := hid (below_then HB1.out hb2)
      have R0 := HR.out.keep HB2.out
      have L0 : BytesAt w2 (.slice a i cap) l := ⟨a, cap, by rw [HN.out], by rw [← HN.out]; exact R0⟩
      obtain ⟨ev, hev⟩ : ∃ ev, ev = i / 2 * 2 := ⟨_, rfl⟩
      have L1 : BytesAt w2 (.slice a ev cap) (l.take ev) := bytesAt_take ev HN.out R0 (by omega) cap
      rw [← hev] at B2
      have C1 : ∀ q, (convert 23 9 p6).run Try.prog (w2.drewN q) = .ok (.string (strOf l)) (w2.drewN q) := fun q => conv_row (w2.drewN q) p6 l (show BytesAt w2 p6 l from BB1.out.keep hb2)
      have C2 : ∀ q, (convert 23 9 p8).run Try.prog (w2.drewN q) = .ok (.string (strOf (l.take ev))) (w2.drewN q) := fun q => conv_row (w2.drewN q) p8 _ B2
      have C3 : ∀ q, (convert 23 9 (.slice a i cap)).run Try.prog (w2.drewN q) = .ok (.string (strOf l)) (w2.drewN q) := fun q => conv_row (w2.drewN q) _ l L0
      have C4 : ∀ q, (convert 23 9 (.slice a ev cap)).run Try.prog (w2.drewN q) = .ok (.string (strOf (l.take ev))) (w2.drewN q) := fun q => conv_row (w2.drewN q) _ _ L1
      obtain ⟨s1, hs1⟩ : ∃ s, s = strOf l := ⟨_, rfl⟩
      obtain ⟨s2, hs2⟩ : ∃ s, s = strOf (l.take ev) := ⟨_, rfl⟩
      rw [← hs1] at C1 C3
      rw [← hs2] at C2 C4
      have e1 : (s1.toList == s1.toList) = true := by simp
      have e2 : (s2.toList == s2.toList) = true := by simp
      have e3 : (i : Int) / 2 * 2 = ev := by omega
      have e4 : IntKind.i64.wrap (ev : Int) = ev := IntWalk.i64_in _ (by omega)
      have e5 : IntKind.i64.wrap ((i : Int) / 2) = (i : Int) / 2 := IntWalk.i64_in _ (by omega)
      have e6 : (ev : Int) ≤ i := by omega
      have e7 : (0 : Int) ≤ ev := by omega
      have e8 : (i : Int) ≤ cap := by omega
      have HS := hid hb2
      clear SQ hb2 B2 R0 L0 L1 hs1 hs2 hev HB1 BB1 H1
      go_wp2_with fail
      refine wp_region_drawn_tail 26 (by kernel_rfl) (by kernel_rfl) ?_
      simp only [List.take_succ_cons, List.take_zero, List.drop_succ_cons, List.drop_zero]
      repeat (go_big_quiet_step (fail))
      refine wpQuiet_nil ?_
      rintro _ ⟨nq, rfl⟩
      have HB3 := hid (below_drawn HB2.out nq)
      clear C1 C2 C3 C4 e3 e4 e5
      go_wp2_with (go_at_call 17; refine (KN.out _).mono ?_; rintro e w' ⟨rfl, hb⟩; have HB8 := hid (below_then HB3.out hb); clear hb)
      go_ret
      exact ⟨rfl, HB8.out⟩

theorem packBytes_walk (H : Type) (enc : TypeId × Value → H) (W : World) (base : Nat) (args : Array Value) (ds gs : List (DataW H)) (before : List MemPlace)
    (hval : ∀ (j : Nat) t v, Try.f8.params[j]? = some t → args[j]? = some v → Value.okWide Try.prog W .any base t v)
    (hW : DataW.Whole enc Try.prog Try.f8.params.toList Rows.packBytesSpec.vars false W args.toList ds gs before)
    (hz : (DataW.weightsEach Try.prog (Try.f8.params.toList ++ Rows.packBytesSpec.plain.varTypes Try.prog) (ds ++ gs)).all (· ≤ reachBytes) = true)
    (hL : laidMetH Try.prog Rows.packBytesRow.laid W) (hsh : W.ShapedOpen Try.prog) :
    Calls Try.prog 8 args W fun e W' => e = .returned (.bool true) ∧ Below W.heap.size W W' := by
  obtain ⟨p, q, hA, _, _, _, _⟩ := hW
  rw [Try.params8] at hA hval
  obtain ⟨v0, vs0, d0, ds0, p0, q0, hargs, rfl, rfl, h0, r0⟩ := trodAll_cons hA
  obtain ⟨rfl, rfl, rfl⟩ := trodAll_nil r0
  obtain rfl : args = #[v0] := by cases args; simp_all
  obtain ⟨a0, cap0, l0, rfl, hl0, hm0, hnil0, hb0, hr0⟩ := read_bytes Try.underlying23 Try.underlying5 (show Try.prog.cellsOf 5 = 1 by kernel_rfl) (hval 0 23 v0 rfl rfl) h0
  by_cases hb : 500 < l0.length
  · exact packBytes_out a0 _ cap0 W (by unfold maxLen at hm0; omega) hb
  · exact packBytes_in a0 cap0 l0 W (by omega) hl0 hb0 hr0

theorem packBytes_lifted (os : Os) (started : os.Started) (H : Type) (enc : TypeId × Value → H) (F : Stop.Interp) :
    ReturnsInHanded {} Try.checked os 8 .any ((OpenSpec.ofChange Rows.packBytesSpec).preRow enc Try.prog Try.f8 Rows.packBytesRow.domain false Rows.packBytesRow.laid) (((OpenSpec.ofChange Rows.packBytesSpec).at F).post enc Try.prog Try.f8 false true false false) := by
  obtain ⟨places, hx⟩ : ∃ places, DataW.whole enc Try.prog ((World.holding Try.prog os ⟨#[], #[], []⟩).forCall (fun _ _ => 0) ⟨#[], #[.slice none 0 0], []⟩).memory Try.f8.params.toList Rows.packBytesSpec.vars false (#[.slice none 0 0] : Array Value).toList 8 = some ([.nil], [], places) := ⟨[], by kernel_rfl⟩
  refine returnsInHanded_of_row (C := Try.checked) (s := OpenSpec.ofChange Rows.packBytesSpec) own started (by kernel_rfl) Try.func8
    (witness_row_at (enc := enc) (C := Try.checked) false (World.holding Try.prog os ⟨#[], #[], []⟩) #[.slice none 0 0] rfl (by kernel_rfl) (by kernel_rfl) (by kernel_rfl)
      (OpenSpec.preRow_of_cond 8 hx (by kernel_rfl) (fun k hk => by cases hk) (by kernel_rfl) (laidMet_nil _ _))) ?_
  intro W base args ds gs before hval hW _ _ hz hL hsh _
  refine (packBytes_walk H enc W base args ds gs before hval hW hz hL hsh).mono fun e W' ⟨he, hb⟩ => ⟨_, he, ?_⟩
  exact law_post (fn := Try.f8) (s := Rows.packBytesSpec) (tb := 4) rfl (fun ds hd => by match ds, hd with | [d0], _ => rfl) rfl Try.underlying4 (by kernel_rfl) hW hb

theorem packBytes_said : Rows.PackBytesSaid :=
  OpenClaim.holds_of_cond 8 Try.f8 rfl rfl rfl rfl rfl rfl rfl ⟨rfl, rfl, rfl, rfl, rfl⟩ rfl rfl rfl rfl rfl (by kernel_rfl) Try.func8 (by kernel_rfl)
    (of_decide_eq_true (by kernel_rfl)) (by unfold Func.isWrapper; first | (rw [if_pos (by decide +kernel)]; kernel_rfl) | (rw [if_neg (by decide +kernel)]; exact ⟨rfl, rfl⟩))
    (fun os started H enc _ F => by rw [OpenClaim.pre_eq_preRow]; exact packBytes_lifted os started H enc F)
end Go.Proofs.Ytjfbgfbmfknndaa
