/- FrontMany: so many texts there may be, each so long, for every input. -/
import Derived.Test.YtdahfejecbcakaaFrRead2
import Derived.Test.YtdahfejecbcakaaRegAny
import Derived.Deep.AppendLies
namespace Go.Proofs.Ytdahfejecbcakaa
set_option linter.unusedVariables false
set_option linter.unusedSimpArgs false
set_option maxRecDepth 100000
open Go.ChangeShapes Go.WideShapes Go.ChangeAt Go.RowKit

theorem zeros_made (n : Nat) : (madeCells #[.int .u8 0] n).toList = (List.replicate n 0).map u8v := by
  refine List.ext_getElem (by simp [madeCells]) fun i h1 h2 => ?_
  simp [madeCells, u8v, Nat.mod_one]
theorem strOf_zeros (n : Nat) : Value.string (strOf (List.replicate n 0)) = str (List.replicate n 0) := by
  unfold strOf
  rw [List.map_replicate]; rfl
theorem conv_made (w : World) (b : Nat) (hb : w.heap.size = b) (n : Nat) (h : n ≤ 253) {Z : List UInt8} (hZ : Z = List.replicate n 0) : (convert 35 9 (.slice (some ⟨b, 0, none⟩) n n)).run Try.prog (w.alloc (.cells (madeCells #[.int .u8 0] n) 5)) = .ok (str Z) (w.alloc (.cells (madeCells #[.int .u8 0] n) 5)) := by
  rw [hZ, ← strOf_zeros]
  exact conv_row Try.underlying35 Try.underlying5 Try.underlying9 _ _ (List.replicate n 0) (SlAt.built hb (by simp) (zeros_made n) (by unfold maxLen; omega))
theorem conv_made2 (w : World) (b : Nat) (hb : w.heap.size = b) (n : Nat) (o : Obj) (h : n ≤ 253) {Z : List UInt8} (hZ : Z = List.replicate n 0) : (convert 35 9 (.slice (some ⟨b, 0, none⟩) n n)).run Try.prog ((w.alloc (.cells (madeCells #[.int .u8 0] n) 5)).alloc o) = .ok (str Z) ((w.alloc (.cells (madeCells #[.int .u8 0] n) 5)).alloc o) := by
  rw [hZ, ← strOf_zeros]
  exact conv_row Try.underlying35 Try.underlying5 Try.underlying9 _ _ (List.replicate n 0) ((show BytesAt (w.alloc (.cells (madeCells #[.int .u8 0] n) 5)) (.slice (some ⟨b, 0, none⟩) n n) (List.replicate n 0) from SlAt.built hb (by simp) (zeros_made n) (by unfold maxLen; omega)).keep ((Below.refl _ _).alloc (Nat.le_refl _) o))
theorem conv_two (w : World) (q : Nat) (hq : w.heap.size = q) (a b : Nat) (ha : a < 100) (hb : b < 100) {c : List UInt8} (hc : c = [UInt8.ofNat (97 + a), UInt8.ofNat (97 + b)]) : (convert 35 9 (.slice (some ⟨q, 0, none⟩) 2 2)).run Try.prog (w.alloc (.cells #[.int .u8 (97 + (a : Int)), .int .u8 (97 + (b : Int))] 5)) = .ok (str c) (w.alloc (.cells #[.int .u8 (97 + (a : Int)), .int .u8 (97 + (b : Int))] 5)) := by
  rw [hc]
  exact conv_row Try.underlying35 Try.underlying5 Try.underlying9 _ _ [97 + a, 97 + b] (SlAt.built hq rfl (by simp [u8v]) (by unfold maxLen; omega))
theorem conv_two2 (w : World) (q : Nat) (hq : w.heap.size = q) (a b : Nat) (o : Obj) (ha : a < 100) (hb : b < 100) {c : List UInt8} (hc : c = [UInt8.ofNat (97 + a), UInt8.ofNat (97 + b)]) : (convert 35 9 (.slice (some ⟨q, 0, none⟩) 2 2)).run Try.prog ((w.alloc (.cells #[.int .u8 (97 + (a : Int)), .int .u8 (97 + (b : Int))] 5)).alloc o) = .ok (str c) ((w.alloc (.cells #[.int .u8 (97 + (a : Int)), .int .u8 (97 + (b : Int))] 5)).alloc o) := by
  rw [hc]
  exact conv_row Try.underlying35 Try.underlying5 Try.underlying9 _ _ [97 + a, 97 + b] ((show BytesAt (w.alloc (.cells #[.int .u8 (97 + (a : Int)), .int .u8 (97 + (b : Int))] 5)) (.slice (some ⟨q, 0, none⟩) 2 2) [97 + a, 97 + b] from SlAt.built hq rfl (by simp [u8v]) (by unfold maxLen; omega)).keep ((Below.refl _ _).alloc (Nat.le_refl _) o))
/-- Text i of them. -/
def mn_T (s2 i : Nat) : List UInt8 := [UInt8.ofNat (97 + i / 26), UInt8.ofNat (97 + i % 26)] ++ List.replicate s2 0
def mn_L (s2 k : Nat) : List (List UInt8) := (List.range k).map (mn_T s2)
theorem mnT_own {w : World} {b s2 i : Nat} {v : Value} (h : w.ownsRow b 9 1 v (i + 1) ((mn_L s2 i).map str ++ [str (mn_T s2 i)])) : Hid (w.ownsRow b 9 1 v (i + 1) ((mn_L s2 (i + 1)).map str)) := by
  unfold mn_L at *
  rw [List.range_succ, List.map_append, List.map_append]
  exact h
theorem mn_len (s2 n : Nat) : (mn_L s2 n).length = n := by unfold mn_L; simp
theorem mnT_len (s2 i : Nat) : (mn_T s2 i).length = s2 + 2 := by unfold mn_T; simp
theorem mn_at {s2 n i : Nat} (h : i < n) : Fr.at_ (mn_L s2 n) i = mn_T s2 i := by
  unfold Fr.at_ mn_L
  simp [List.getD, h]
theorem ch_nat (x : Nat) (h : x < 100) : (UInt8.ofNat (97 + x)).toNat = 97 + x := by rw [UInt8.toNat_ofNat']; omega
theorem mn_lt (s2 i : Nat) (h : i + 1 < 2600) : Fr.lt (mn_T s2 i) (mn_T s2 (i + 1)) = true := by
  unfold mn_T
  rw [List.cons_append, List.cons_append, List.cons_append, List.cons_append, Fr.lt_cons, Fr.lt_cons]
  by_cases e : (i + 1) / 26 = i / 26
  · have h2 : (i + 1) % 26 = i % 26 + 1 := by omega
    rw [e, h2]
    have : UInt8.ofNat (97 + i % 26) < UInt8.ofNat (97 + (i % 26 + 1)) := by
      rw [UInt8.lt_iff_toNat_lt, ch_nat _ (by omega), ch_nat _ (by omega)]; omega
    rw [decide_eq_true this]
    simp
  · have : UInt8.ofNat (97 + i / 26) < UInt8.ofNat (97 + (i + 1) / 26) := by
      rw [UInt8.lt_iff_toNat_lt, ch_nat _ (by omega), ch_nat _ (by omega)]; omega
    rw [decide_eq_true this]
    simp
theorem mn_may (s2 n : Nat) (hn : n ≤ 310) : Fr.May (mn_L s2 n) ↔ n ≤ 300 ∧ (n = 0 ∨ s2 + 2 ≤ 250) := by
  constructor
  · intro h
    refine ⟨by have := h.1; rwa [mn_len] at this, ?_⟩
    by_cases h0 : n = 0
    · exact .inl h0
    · have := (h.2 0 (by rw [mn_len]; omega)).2.1
      rw [mn_at (by omega), mnT_len] at this
      exact .inr this
  · rintro ⟨h1, h2⟩
    refine ⟨by rw [mn_len]; exact h1, fun i hi => ?_⟩
    rw [mn_len] at hi
    unfold Fr.OkAt
    rw [mn_at hi, mnT_len]
    refine ⟨by omega, by omega, fun h0 => ?_⟩
    rw [mn_at (show i - 1 < n by omega)]
    have := mn_lt s2 (i - 1) (by omega)
    rwa [show i - 1 + 1 = i by omega] at this
theorem mn_loc (s2 n : Nat) (hn : n ≤ 310) : Fr.loc (mn_L s2 n) [122, 122, 122] = 0 :=
  Fr.loc_none (fun j hj e => by
    rw [mn_len] at hj
    rw [mn_at hj] at e
    unfold mn_T at e
    have := congrArg UInt8.toNat (List.cons.inj e).1
    rw [ch_nat _ (by omega)] at this
    have h2 : (122 : UInt8).toNat = 122 := rfl
    omega)
theorem many_out (n size : Int) (W : World) (h : n < 0 ∨ (0 ≤ n ∧ 310 < n) ∨ (0 ≤ n ∧ n ≤ 310 ∧ size < 2) ∨ (0 ≤ n ∧ n ≤ 310 ∧ 2 ≤ size ∧ 255 < size)) :
    Calls Try.prog 7 #[.int .i64 n, .int .i64 size] W fun e W' => e = .returned (.bool true) ∧ Below W.heap.size W W' := by
  rcases h with h | ⟨h1, h⟩ | ⟨h1, h2, h⟩ | ⟨h1, h2, h3, h⟩
  all_goals
    go_enter Try.func7, Try.ntmps7
    go_wp2
    go_ret
    exact ⟨rfl, Below.refl _ _⟩
set_option maxHeartbeats 4000000 in
theorem many_in (n size s2 : Nat) (W : World) (hn : n ≤ 310) (hss : size = s2 + 2) (hs200 : s2 ≤ 253) :
    Calls Try.prog 7 #[.int .i64 n, .int .i64 size] W fun e W' => e = .returned (.bool true) ∧ Below W.heap.size W W' := by
  obtain ⟨i0, hi, hz0, hz1, hz2⟩ := info_parts Try.info9
  obtain ⟨i1, hi1, hy0, hy1, hy2⟩ := info_parts Try.info5
  have mk1 : ∀ W : World, (Instr.makeSlice 35 (.int .i64 (s2 : Int)) (.int .i64 (s2 : Int))).run Try.prog W = _ := fun W => run_make W 35 5 i1 _ Try.underlying35 hi1 hy0 .i64 .i64 s2 s2 (by omega) (by omega) (by rw [hy2]; omega) (by omega)
  simp only [Nat.mul_one, hy1] at mk1
  have hsI : (size : Int) - 2 = (s2 : Int) := by omega
  have HSS := hid hss
  have hs2 : 2 ≤ size := by omega
  have hs255 : size ≤ 255 := by omega
  clear hss
  go_enter Try.func7, Try.ntmps7
  go_wp2
  go_loopw [6, 5] (fun s6 s5 wr => ∃ i : Nat, i ≤ n ∧ s6 = .int .i64 i ∧ Hid (wr.ownsRow W.heap.size 9 1 s5 i ((mn_L s2 i).map str)) ∧ Hid (Below W.heap.size W wr)) (fun s6 _ _ => n - (intOf s6).toNat)
  case atStart => exact ⟨0, by omega, rfl, World.ownsRow_nil _ _ _ _, Below.refl _ _⟩
  case round =>
    obtain ⟨i, hin, rfl, HO, HB⟩ := hrel
    by_cases hlt : i < n
    · obtain ⟨a, hA⟩ : ∃ a, a = i / 26 := ⟨_, rfl⟩
      obtain ⟨b, hB⟩ : ∃ a, a = i % 26 := ⟨_, rfl⟩
      have ha : a < 100 := by omega
      have hb : b < 100 := by omega
      have hqa : (i : Int) / 26 = (a : Int) := by omega
      have hqb : (i : Int) % 26 = (b : Int) := by omega
      have hta : Int.tdiv (i : Int) 26 = (a : Int) := by rw [Int.tdiv_eq_ediv_of_nonneg (by omega)]; exact hqa
      have htb : Int.tmod (i : Int) 26 = (b : Int) := by rw [Int.tmod_eq_emod_of_nonneg (by omega)]; exact hqb
      have w1 : IntKind.u8.wrap (97 + (a : Int)) = 97 + (a : Int) := by rw [IntKind.wrap_u8']; omega
      have w2 : IntKind.i64.wrap (97 + (a : Int)) = 97 + (a : Int) := by rw [IntKind.wrap_i64]; omega
      have w3 : IntKind.u8.wrap (97 + (b : Int)) = 97 + (b : Int) := by rw [IntKind.wrap_u8']; omega
      have w4 : IntKind.i64.wrap (97 + (b : Int)) = 97 + (b : Int) := by rw [IntKind.wrap_i64]; omega
      have w5 : IntKind.i64.wrap (a : Int) = (a : Int) := by rw [IntKind.wrap_i64]; omega
      have w6 : IntKind.i64.wrap (b : Int) = (b : Int) := by rw [IntKind.wrap_i64]; omega
      have w7 : IntKind.i64.wrap (s2 : Int) = (s2 : Int) := by rw [IntKind.wrap_i64]; omega
      obtain ⟨Z, hZ⟩ : ∃ Z, Z = List.replicate s2 (0 : UInt8) := ⟨_, rfl⟩
      obtain ⟨c, hc⟩ : ∃ c, c = [UInt8.ofNat (97 + a), UInt8.ofNat (97 + b)] := ⟨_, rfl⟩
      obtain ⟨y, hy⟩ : ∃ y, y = mn_T s2 i := ⟨_, rfl⟩
      have AX : (⟨c.toArray⟩ : ByteArray) ++ ⟨Z.toArray⟩ = ⟨y.toArray⟩ := by rw [hy, hZ, hc, hA, hB]; exact ba_app [UInt8.ofNat (97 + i / 26), UInt8.ofNat (97 + i % 26)] (List.replicate s2 0)
      have hl1 : Z.length = s2 := by rw [hZ]; simp
      have hl2 : c.length = 2 := by rw [hc]; rfl
      have hszf : ¬ 9223372036854775807 < 2 + s2 := by omega
      have HZ := hid hZ
      have HC := hid hc
      have HY := hid hy
      clear hZ hc hy hA hB
      go_wp2
      refine wp_region_any (by kernel_rfl) ?_
      change wpAny _ _ _ _ 19 _ _ (World.drew _)
      obtain ⟨wd, hwd⟩ : ∃ wd, wd = wr.drew := ⟨_, rfl⟩
      rw [← hwd]
      have OD := hid (show wd.ownsRow W.heap.size 9 1 u5 i ((mn_L s2 i).map str) by rw [hwd]; exact HO.out)
      have BD := hid (show Below W.heap.size W wd by rw [hwd]; exact HB.out.drew)
      clear hwd
      have hzd := BD.out.size
      refine wpAny_take (i := 0) (v := u5) rfl (by kernel_rfl) (by kernel_rfl) (by kernel_rfl) (fun _ _ _ h => h) (Or.inl ⟨by rfl, ?y0⟩) ?_
      case y0 =>
        intro w
        go_simp
        all_goals with_reducible rfl
      refine wpAny_take (i := 1) (v := .int .i64 i) rfl (by kernel_rfl) (by kernel_rfl) (by kernel_rfl) (fun _ _ _ h => h) (Or.inl ⟨by rfl, ?y1⟩) ?_
      case y1 =>
        intro w
        go_simp
        all_goals with_reducible rfl
      refine wpAny_take (i := 2) (v := .int .i64 a) rfl (by kernel_rfl) (by kernel_rfl) (by kernel_rfl) (fun _ _ _ h => h) (Or.inl ⟨by rfl, ?y2⟩) ?_
      case y2 =>
        intro w
        go_simp
        all_goals with_reducible rfl
      refine wpAny_take (i := 3) (v := .int .i64 (97 + a)) rfl (by kernel_rfl) (by kernel_rfl) (by kernel_rfl) (fun _ _ _ h => h) (Or.inl ⟨by rfl, ?y3⟩) ?_
      case y3 =>
        intro w
        go_simp
        all_goals with_reducible rfl
      refine wpAny_take (i := 4) (v := .int .u8 (97 + a)) rfl (by kernel_rfl) (by kernel_rfl) (by kernel_rfl) (fun _ _ _ h => h) (Or.inl ⟨by rfl, ?y4⟩) ?_
      case y4 =>
        intro w
        go_simp
        all_goals with_reducible rfl
      try go_simp
      refine wpAny_take (i := 5) (v := .int .i64 i) rfl (by kernel_rfl) (by kernel_rfl) (by kernel_rfl) (fun _ _ _ h => h) (Or.inl ⟨by rfl, ?y5⟩) ?_
      case y5 =>
        intro w
        go_simp
        all_goals with_reducible rfl
      refine wpAny_take (i := 6) (v := .int .i64 b) rfl (by kernel_rfl) (by kernel_rfl) (by kernel_rfl) (fun _ _ _ h => h) (Or.inl ⟨by rfl, ?y6⟩) ?_
      case y6 =>
        intro w
        go_simp
        all_goals with_reducible rfl
      refine wpAny_take (i := 7) (v := .int .i64 (97 + b)) rfl (by kernel_rfl) (by kernel_rfl) (by kernel_rfl) (fun _ _ _ h => h) (Or.inl ⟨by rfl, ?y7⟩) ?_
      case y7 =>
        intro w
        go_simp
        all_goals with_reducible rfl
      refine wpAny_take (i := 8) (v := .int .u8 (97 + b)) rfl (by kernel_rfl) (by kernel_rfl) (by kernel_rfl) (fun _ _ _ h => h) (Or.inl ⟨by rfl, ?y8⟩) ?_
      case y8 =>
        intro w
        go_simp
        all_goals with_reducible rfl
      try go_simp
      refine wpAny_take (i := 11) (v := .int .i64 size) rfl (by kernel_rfl) (by kernel_rfl) (by kernel_rfl) (fun _ _ _ h => h) (Or.inl ⟨by rfl, ?y11⟩) ?_
      case y11 =>
        intro w
        go_simp
        all_goals with_reducible rfl
      refine wpAny_take (i := 12) (v := .int .i64 s2) rfl (by kernel_rfl) (by kernel_rfl) (by kernel_rfl) (fun _ _ _ h => h) (Or.inl ⟨by rfl, ?y12⟩) ?_
      case y12 =>
        intro w
        go_simp
        all_goals with_reducible rfl
      refine wpAny_ready (rs := [9, 13]) (by kernel_rfl) (by simp) ?_
      refine AllReady.cons rfl (fun K hK => ?_) (AllReady.cons rfl (fun K hK => ?_) AllReady.nil)
      · go_simp
        refine hK _ _ ?_
        clear hK K
        have z8 := conv_two wd wd.heap.size rfl a b ha hb HC.out
        have z8b := conv_two2 wd wd.heap.size rfl a b (.cells (madeCells #[.int .u8 0] s2) 5) ha hb HC.out
        have z3 := conv_made (wd.alloc (.cells #[.int .u8 (97 + (a : Int)), .int .u8 (97 + (b : Int))] 5)) (wd.heap.size + 1) (by simp) s2 hs200 HZ.out
        refine wpAny_ready (rs := [10, 13]) (by kernel_rfl) (by simp) ?_
        refine AllReady.cons rfl (fun K hK => ?_) (AllReady.cons rfl (fun K hK => ?_) AllReady.nil)
        · go_simp
          refine hK _ _ ?_
          clear hK K
          refine wpAny_ready (rs := [13]) (by kernel_rfl) (by simp) ?_
          refine AllReady.cons rfl (fun K hK => ?_) AllReady.nil
          go_simp
          refine hK _ _ ?_
          clear hK K
          refine wpAny_ready (rs := [14]) (by kernel_rfl) (by simp) ?_
          refine AllReady.cons rfl (fun K hK => ?_) AllReady.nil
          go_simp
          refine hK _ _ ?_
          clear hK K
          have OW := (OD.out.alloc (.cells #[.int .u8 (97 + (a : Int)), .int .u8 (97 + (b : Int))] 5)).alloc (.cells (madeCells #[.int .u8 0] s2) 5)
          have BW := (BD.out.alloc hzd (.cells #[.int .u8 (97 + (a : Int)), .int .u8 (97 + (b : Int))] 5)).alloc (by simp; omega) (.cells (madeCells #[.int .u8 0] s2) 5)
          obtain ⟨wa, hwa⟩ : ∃ wa, wa = (wd.alloc (.cells #[.int .u8 (97 + (a : Int)), .int .u8 (97 + (b : Int))] 5)).alloc (.cells (madeCells #[.int .u8 0] s2) 5) := ⟨_, rfl⟩
          rw [← hwa] at OW BW ⊢
          have hza := BW.size
          clear hwa
          refine wpAny_ready (rs := [15]) (by kernel_rfl) (by simp) ?_
          refine AllReady.cons rfl (fun K hK => ?_) AllReady.nil
          go_simp
          refine hK _ _ ?_
          clear hK K
          refine wpAny_ready (rs := [16]) (by kernel_rfl) (by simp) ?_
          refine AllReady.cons rfl (fun K hK => ?_) AllReady.nil
          go_simp
          refine hK _ _ ?_
          clear hK K
          refine wpAny_ready (rs := [17]) (by kernel_rfl) (by simp) ?_
          refine AllReady.cons rfl (fun K hK => ?_) AllReady.nil
          refine step_append_lies _ (by rfl) (.tmp 29) (.tmp 45) 22 (by rfl) W.heap.size 9 i0 _ 1 16 Try.underlying22 hi hz0 hz1 hz2 rfl (by omega) u5 i _ (by rfl) (OW.alloc _) ⟨wa.heap.size, 0, none⟩ 1 1 [str y] (by rfl) (by rfl) (World.news_of_block (cs := #[str y]) (t := 9) (fr := (0, 0)) (heap_alloc_new wa _)) (by simp [Value.oneCell']) (by omega) (by unfold maxLen; omega) (by omega) (by simp; omega) (wa.heap.size + 1) (by simp) ?_
          intro gg cap2 w2 hown2 hgrow hat hltg
          refine hK _ _ ?_
          clear hK K
          refine wpAny_ready (rs := [18]) (by kernel_rfl) (by simp) ?_
          refine AllReady.cons rfl (fun K hK => ?_) AllReady.nil
          go_simp
          refine hK _ _ ?_
          clear hK K
          refine wpAny_done (by kernel_rfl) ?_ _
          have BZ := (BW.alloc hza (.cells #[str y] 9)).grown hgrow (by simp; omega) (fun g hg => (OW.lt g hg).1)
          go_wp2
          go_roundw
          case rel => exact ⟨i + 1, by omega, by go_num, mnT_own (by rw [← HY.out]; exact hown2), BZ⟩
          case measure => simp [intOf]; omega
        · go_simp
          refine hK _ _ ?_
          clear hK K
          refine wpAny_ready (rs := [10, 14]) (by kernel_rfl) (by simp) ?_
          refine AllReady.cons rfl (fun K hK => ?_) (AllReady.cons rfl (fun K hK => ?_) AllReady.nil)
          · go_simp
            refine hK _ _ ?_
            clear hK K
            refine wpAny_ready (rs := [14]) (by kernel_rfl) (by simp) ?_
            refine AllReady.cons rfl (fun K hK => ?_) AllReady.nil
            go_simp
            refine hK _ _ ?_
            clear hK K
            have OW := (OD.out.alloc (.cells #[.int .u8 (97 + (a : Int)), .int .u8 (97 + (b : Int))] 5)).alloc (.cells (madeCells #[.int .u8 0] s2) 5)
            have BW := (BD.out.alloc hzd (.cells #[.int .u8 (97 + (a : Int)), .int .u8 (97 + (b : Int))] 5)).alloc (by simp; omega) (.cells (madeCells #[.int .u8 0] s2) 5)
            obtain ⟨wa, hwa⟩ : ∃ wa, wa = (wd.alloc (.cells #[.int .u8 (97 + (a : Int)), .int .u8 (97 + (b : Int))] 5)).alloc (.cells (madeCells #[.int .u8 0] s2) 5) := ⟨_, rfl⟩
            rw [← hwa] at OW BW ⊢
            have hza := BW.size
            clear hwa
            refine wpAny_ready (rs := [15]) (by kernel_rfl) (by simp) ?_
            refine AllReady.cons rfl (fun K hK => ?_) AllReady.nil
            go_simp
            refine hK _ _ ?_
            clear hK K
            refine wpAny_ready (rs := [16]) (by kernel_rfl) (by simp) ?_
            refine AllReady.cons rfl (fun K hK => ?_) AllReady.nil
            go_simp
            refine hK _ _ ?_
            clear hK K
            refine wpAny_ready (rs := [17]) (by kernel_rfl) (by simp) ?_
            refine AllReady.cons rfl (fun K hK => ?_) AllReady.nil
            refine step_append_lies _ (by rfl) (.tmp 29) (.tmp 45) 22 (by rfl) W.heap.size 9 i0 _ 1 16 Try.underlying22 hi hz0 hz1 hz2 rfl (by omega) u5 i _ (by rfl) (OW.alloc _) ⟨wa.heap.size, 0, none⟩ 1 1 [str y] (by rfl) (by rfl) (World.news_of_block (cs := #[str y]) (t := 9) (fr := (0, 0)) (heap_alloc_new wa _)) (by simp [Value.oneCell']) (by omega) (by unfold maxLen; omega) (by omega) (by simp; omega) (wa.heap.size + 1) (by simp) ?_
            intro gg cap2 w2 hown2 hgrow hat hltg
            refine hK _ _ ?_
            clear hK K
            refine wpAny_ready (rs := [18]) (by kernel_rfl) (by simp) ?_
            refine AllReady.cons rfl (fun K hK => ?_) AllReady.nil
            go_simp
            refine hK _ _ ?_
            clear hK K
            refine wpAny_done (by kernel_rfl) ?_ _
            have BZ := (BW.alloc hza (.cells #[str y] 9)).grown hgrow (by simp; omega) (fun g hg => (OW.lt g hg).1)
            go_wp2
            go_roundw
            case rel => exact ⟨i + 1, by omega, by go_num, mnT_own (by rw [← HY.out]; exact hown2), BZ⟩
            case measure => simp [intOf]; omega
          · go_simp
            refine hK _ _ ?_
            clear hK K
            refine wpAny_ready (rs := [10]) (by kernel_rfl) (by simp) ?_
            refine AllReady.cons rfl (fun K hK => ?_) AllReady.nil
            go_simp
            refine hK _ _ ?_
            clear hK K
            have OW := (OD.out.alloc (.cells #[.int .u8 (97 + (a : Int)), .int .u8 (97 + (b : Int))] 5)).alloc (.cells (madeCells #[.int .u8 0] s2) 5)
            have BW := (BD.out.alloc hzd (.cells #[.int .u8 (97 + (a : Int)), .int .u8 (97 + (b : Int))] 5)).alloc (by simp; omega) (.cells (madeCells #[.int .u8 0] s2) 5)
            obtain ⟨wa, hwa⟩ : ∃ wa, wa = (wd.alloc (.cells #[.int .u8 (97 + (a : Int)), .int .u8 (97 + (b : Int))] 5)).alloc (.cells (madeCells #[.int .u8 0] s2) 5) := ⟨_, rfl⟩
            rw [← hwa] at OW BW ⊢
            have hza := BW.size
            clear hwa
            refine wpAny_ready (rs := [15]) (by kernel_rfl) (by simp) ?_
            refine AllReady.cons rfl (fun K hK => ?_) AllReady.nil
            go_simp
            refine hK _ _ ?_
            clear hK K
            refine wpAny_ready (rs := [16]) (by kernel_rfl) (by simp) ?_
            refine AllReady.cons rfl (fun K hK => ?_) AllReady.nil
            go_simp
            refine hK _ _ ?_
            clear hK K
            refine wpAny_ready (rs := [17]) (by kernel_rfl) (by simp) ?_
            refine AllReady.cons rfl (fun K hK => ?_) AllReady.nil
            refine step_append_lies _ (by rfl) (.tmp 29) (.tmp 45) 22 (by rfl) W.heap.size 9 i0 _ 1 16 Try.underlying22 hi hz0 hz1 hz2 rfl (by omega) u5 i _ (by rfl) (OW.alloc _) ⟨wa.heap.size, 0, none⟩ 1 1 [str y] (by rfl) (by rfl) (World.news_of_block (cs := #[str y]) (t := 9) (fr := (0, 0)) (heap_alloc_new wa _)) (by simp [Value.oneCell']) (by omega) (by unfold maxLen; omega) (by omega) (by simp; omega) (wa.heap.size + 1) (by simp) ?_
            intro gg cap2 w2 hown2 hgrow hat hltg
            refine hK _ _ ?_
            clear hK K
            refine wpAny_ready (rs := [18]) (by kernel_rfl) (by simp) ?_
            refine AllReady.cons rfl (fun K hK => ?_) AllReady.nil
            go_simp
            refine hK _ _ ?_
            clear hK K
            refine wpAny_done (by kernel_rfl) ?_ _
            have BZ := (BW.alloc hza (.cells #[str y] 9)).grown hgrow (by simp; omega) (fun g hg => (OW.lt g hg).1)
            go_wp2
            go_roundw
            case rel => exact ⟨i + 1, by omega, by go_num, mnT_own (by rw [← HY.out]; exact hown2), BZ⟩
            case measure => simp [intOf]; omega
      · go_simp
        refine hK _ _ ?_
        clear hK K
        have z3 := conv_made wd wd.heap.size rfl s2 hs200 HZ.out
        have z3b := conv_made2 wd wd.heap.size rfl s2 (.cells #[.int .u8 (97 + (a : Int)), .int .u8 (97 + (b : Int))] 5) hs200 HZ.out
        have z8 := conv_two (wd.alloc (.cells (madeCells #[.int .u8 0] s2) 5)) (wd.heap.size + 1) (by simp) a b ha hb HC.out
        refine wpAny_ready (rs := [9, 14]) (by kernel_rfl) (by simp) ?_
        refine AllReady.cons rfl (fun K hK => ?_) (AllReady.cons rfl (fun K hK => ?_) AllReady.nil)
        · go_simp
          refine hK _ _ ?_
          clear hK K
          refine wpAny_ready (rs := [10, 14]) (by kernel_rfl) (by simp) ?_
          refine AllReady.cons rfl (fun K hK => ?_) (AllReady.cons rfl (fun K hK => ?_) AllReady.nil)
          · go_simp
            refine hK _ _ ?_
            clear hK K
            refine wpAny_ready (rs := [14]) (by kernel_rfl) (by simp) ?_
            refine AllReady.cons rfl (fun K hK => ?_) AllReady.nil
            go_simp
            refine hK _ _ ?_
            clear hK K
            have OW := (OD.out.alloc (.cells (madeCells #[.int .u8 0] s2) 5)).alloc (.cells #[.int .u8 (97 + (a : Int)), .int .u8 (97 + (b : Int))] 5)
            have BW := (BD.out.alloc hzd (.cells (madeCells #[.int .u8 0] s2) 5)).alloc (by simp; omega) (.cells #[.int .u8 (97 + (a : Int)), .int .u8 (97 + (b : Int))] 5)
            obtain ⟨wa, hwa⟩ : ∃ wa, wa = (wd.alloc (.cells (madeCells #[.int .u8 0] s2) 5)).alloc (.cells #[.int .u8 (97 + (a : Int)), .int .u8 (97 + (b : Int))] 5) := ⟨_, rfl⟩
            rw [← hwa] at OW BW ⊢
            have hza := BW.size
            clear hwa
            refine wpAny_ready (rs := [15]) (by kernel_rfl) (by simp) ?_
            refine AllReady.cons rfl (fun K hK => ?_) AllReady.nil
            go_simp
            refine hK _ _ ?_
            clear hK K
            refine wpAny_ready (rs := [16]) (by kernel_rfl) (by simp) ?_
            refine AllReady.cons rfl (fun K hK => ?_) AllReady.nil
            go_simp
            refine hK _ _ ?_
            clear hK K
            refine wpAny_ready (rs := [17]) (by kernel_rfl) (by simp) ?_
            refine AllReady.cons rfl (fun K hK => ?_) AllReady.nil
            refine step_append_lies _ (by rfl) (.tmp 29) (.tmp 45) 22 (by rfl) W.heap.size 9 i0 _ 1 16 Try.underlying22 hi hz0 hz1 hz2 rfl (by omega) u5 i _ (by rfl) (OW.alloc _) ⟨wa.heap.size, 0, none⟩ 1 1 [str y] (by rfl) (by rfl) (World.news_of_block (cs := #[str y]) (t := 9) (fr := (0, 0)) (heap_alloc_new wa _)) (by simp [Value.oneCell']) (by omega) (by unfold maxLen; omega) (by omega) (by simp; omega) (wa.heap.size + 1) (by simp) ?_
            intro gg cap2 w2 hown2 hgrow hat hltg
            refine hK _ _ ?_
            clear hK K
            refine wpAny_ready (rs := [18]) (by kernel_rfl) (by simp) ?_
            refine AllReady.cons rfl (fun K hK => ?_) AllReady.nil
            go_simp
            refine hK _ _ ?_
            clear hK K
            refine wpAny_done (by kernel_rfl) ?_ _
            have BZ := (BW.alloc hza (.cells #[str y] 9)).grown hgrow (by simp; omega) (fun g hg => (OW.lt g hg).1)
            go_wp2
            go_roundw
            case rel => exact ⟨i + 1, by omega, by go_num, mnT_own (by rw [← HY.out]; exact hown2), BZ⟩
            case measure => simp [intOf]; omega
          · go_simp
            refine hK _ _ ?_
            clear hK K
            refine wpAny_ready (rs := [10]) (by kernel_rfl) (by simp) ?_
            refine AllReady.cons rfl (fun K hK => ?_) AllReady.nil
            go_simp
            refine hK _ _ ?_
            clear hK K
            have OW := (OD.out.alloc (.cells (madeCells #[.int .u8 0] s2) 5)).alloc (.cells #[.int .u8 (97 + (a : Int)), .int .u8 (97 + (b : Int))] 5)
            have BW := (BD.out.alloc hzd (.cells (madeCells #[.int .u8 0] s2) 5)).alloc (by simp; omega) (.cells #[.int .u8 (97 + (a : Int)), .int .u8 (97 + (b : Int))] 5)
            obtain ⟨wa, hwa⟩ : ∃ wa, wa = (wd.alloc (.cells (madeCells #[.int .u8 0] s2) 5)).alloc (.cells #[.int .u8 (97 + (a : Int)), .int .u8 (97 + (b : Int))] 5) := ⟨_, rfl⟩
            rw [← hwa] at OW BW ⊢
            have hza := BW.size
            clear hwa
            refine wpAny_ready (rs := [15]) (by kernel_rfl) (by simp) ?_
            refine AllReady.cons rfl (fun K hK => ?_) AllReady.nil
            go_simp
            refine hK _ _ ?_
            clear hK K
            refine wpAny_ready (rs := [16]) (by kernel_rfl) (by simp) ?_
            refine AllReady.cons rfl (fun K hK => ?_) AllReady.nil
            go_simp
            refine hK _ _ ?_
            clear hK K
            refine wpAny_ready (rs := [17]) (by kernel_rfl) (by simp) ?_
            refine AllReady.cons rfl (fun K hK => ?_) AllReady.nil
            refine step_append_lies _ (by rfl) (.tmp 29) (.tmp 45) 22 (by rfl) W.heap.size 9 i0 _ 1 16 Try.underlying22 hi hz0 hz1 hz2 rfl (by omega) u5 i _ (by rfl) (OW.alloc _) ⟨wa.heap.size, 0, none⟩ 1 1 [str y] (by rfl) (by rfl) (World.news_of_block (cs := #[str y]) (t := 9) (fr := (0, 0)) (heap_alloc_new wa _)) (by simp [Value.oneCell']) (by omega) (by unfold maxLen; omega) (by omega) (by simp; omega) (wa.heap.size + 1) (by simp) ?_
            intro gg cap2 w2 hown2 hgrow hat hltg
            refine hK _ _ ?_
            clear hK K
            refine wpAny_ready (rs := [18]) (by kernel_rfl) (by simp) ?_
            refine AllReady.cons rfl (fun K hK => ?_) AllReady.nil
            go_simp
            refine hK _ _ ?_
            clear hK K
            refine wpAny_done (by kernel_rfl) ?_ _
            have BZ := (BW.alloc hza (.cells #[str y] 9)).grown hgrow (by simp; omega) (fun g hg => (OW.lt g hg).1)
            go_wp2
            go_roundw
            case rel => exact ⟨i + 1, by omega, by go_num, mnT_own (by rw [← HY.out]; exact hown2), BZ⟩
            case measure => simp [intOf]; omega
        · go_simp
          refine hK _ _ ?_
          clear hK K
          refine wpAny_ready (rs := [9]) (by kernel_rfl) (by simp) ?_
          refine AllReady.cons rfl (fun K hK => ?_) AllReady.nil
          go_simp
          refine hK _ _ ?_
          clear hK K
          refine wpAny_ready (rs := [10]) (by kernel_rfl) (by simp) ?_
          refine AllReady.cons rfl (fun K hK => ?_) AllReady.nil
          go_simp
          refine hK _ _ ?_
          clear hK K
          have OW := (OD.out.alloc (.cells (madeCells #[.int .u8 0] s2) 5)).alloc (.cells #[.int .u8 (97 + (a : Int)), .int .u8 (97 + (b : Int))] 5)
          have BW := (BD.out.alloc hzd (.cells (madeCells #[.int .u8 0] s2) 5)).alloc (by simp; omega) (.cells #[.int .u8 (97 + (a : Int)), .int .u8 (97 + (b : Int))] 5)
          obtain ⟨wa, hwa⟩ : ∃ wa, wa = (wd.alloc (.cells (madeCells #[.int .u8 0] s2) 5)).alloc (.cells #[.int .u8 (97 + (a : Int)), .int .u8 (97 + (b : Int))] 5) := ⟨_, rfl⟩
          rw [← hwa] at OW BW ⊢
          have hza := BW.size
          clear hwa
          refine wpAny_ready (rs := [15]) (by kernel_rfl) (by simp) ?_
          refine AllReady.cons rfl (fun K hK => ?_) AllReady.nil
          go_simp
          refine hK _ _ ?_
          clear hK K
          refine wpAny_ready (rs := [16]) (by kernel_rfl) (by simp) ?_
          refine AllReady.cons rfl (fun K hK => ?_) AllReady.nil
          go_simp
          refine hK _ _ ?_
          clear hK K
          refine wpAny_ready (rs := [17]) (by kernel_rfl) (by simp) ?_
          refine AllReady.cons rfl (fun K hK => ?_) AllReady.nil
          refine step_append_lies _ (by rfl) (.tmp 29) (.tmp 45) 22 (by rfl) W.heap.size 9 i0 _ 1 16 Try.underlying22 hi hz0 hz1 hz2 rfl (by omega) u5 i _ (by rfl) (OW.alloc _) ⟨wa.heap.size, 0, none⟩ 1 1 [str y] (by rfl) (by rfl) (World.news_of_block (cs := #[str y]) (t := 9) (fr := (0, 0)) (heap_alloc_new wa _)) (by simp [Value.oneCell']) (by omega) (by unfold maxLen; omega) (by omega) (by simp; omega) (wa.heap.size + 1) (by simp) ?_
          intro gg cap2 w2 hown2 hgrow hat hltg
          refine hK _ _ ?_
          clear hK K
          refine wpAny_ready (rs := [18]) (by kernel_rfl) (by simp) ?_
          refine AllReady.cons rfl (fun K hK => ?_) AllReady.nil
          go_simp
          refine hK _ _ ?_
          clear hK K
          refine wpAny_done (by kernel_rfl) ?_ _
          have BZ := (BW.alloc hza (.cells #[str y] 9)).grown hgrow (by simp; omega) (fun g hg => (OW.lt g hg).1)
          go_wp2
          go_roundw
          case rel => exact ⟨i + 1, by omega, by go_num, mnT_own (by rw [← HY.out]; exact hown2), BZ⟩
          case measure => simp [intOf]; omega
    · obtain rfl : i = n := by omega
      have hml := mn_may s2 i hn
      have HT := hid (SlAt.own (f := str) (d := []) HO.out (mn_len s2 i).symm)
      have KN := hid (fun W => known_any W)
      have hs2e := HSS.out
      obtain ⟨ua, uc, rfl, _, _, _, _⟩ := HT.out.open
      by_cases hok : i ≤ 300 ∧ (i = 0 ∨ s2 + 2 ≤ 250)
      · have hm := hml.2 hok
        have NW := hid (new_ok _ (mn_L s2 i) wr HT.out hm)
        have LN := hid (fun p w h => dlen_any p (mn_L s2 i) w h)
        have LC := hid (fun p w h => loc_any p (mn_L s2 i) [122, 122, 122] w h hm)
        rw [mn_loc s2 i hn] at LC
        rw [mn_len] at NW LN
        rw [mn_len] at HT ⊢
        obtain ⟨ok1, ok2⟩ := hok
        clear hm hml mk1
        rcases Nat.eq_zero_or_pos i with h0 | h0
        · subst h0
          go_wp2_with fail
          refine NW.out.mono ?_
          rintro e w1 ⟨p, rfl, hb1, hD, _, _⟩
          have HD := hid hD
          have HB1 := hid (below_then HB.out hb1)
          clear hD hb1
          go_wp2_with fail
          refine (LN.out p w1 HD.out).mono ?_
          rintro e w' ⟨rfl, rfl⟩
          go_wp2_with fail
          refine (LC.out p w1 HD.out).mono ?_
          rintro e w' ⟨rfl, rfl⟩
          go_wp2_with fail
          refine (KN.out _).mono ?_
          rintro e w3 ⟨rfl, hb3⟩
          have HB3 := hid (below_then HB1.out hb3)
          go_wp2
          go_ret
          exact ⟨rfl, HB3.out⟩
        · have h250 : size ≤ 250 := by omega
          have hi0 : ((i : Int) == 0) = false := beq_eq_false_iff_ne.2 (by omega)
          clear ok2
          go_wp2_with fail
          refine NW.out.mono ?_
          rintro e w1 ⟨p, rfl, hb1, hD, _, _⟩
          have HD := hid hD
          have HB1 := hid (below_then HB.out hb1)
          clear hD hb1
          go_wp2_with fail
          refine (LN.out p w1 HD.out).mono ?_
          rintro e w' ⟨rfl, rfl⟩
          go_wp2_with fail
          refine (LC.out p w1 HD.out).mono ?_
          rintro e w' ⟨rfl, rfl⟩
          go_wp2_with fail
          refine (KN.out _).mono ?_
          rintro e w3 ⟨rfl, hb3⟩
          have HB3 := hid (below_then HB1.out hb3)
          go_wp2
          go_ret
          exact ⟨rfl, HB3.out⟩
      · have NW := hid (new_no _ (mn_L s2 i) wr HT.out (fun j => by
          rcases Nat.lt_or_ge j i with h | h
          · have := mn_at (s2 := s2) h
            unfold Fr.at_ at this
            rw [this, mnT_len]; omega
          · simp [List.getD, show (mn_L s2 i)[j]? = none by rw [List.getElem?_eq_none]; rw [mn_len]; exact h]) (fun h => hok (hml.1 h)))
        rw [mn_len] at NW
        rw [mn_len] at HT ⊢
        have hno : 300 < i ∨ (i ≤ 300 ∧ 1 ≤ i ∧ 250 < size) := by omega
        clear hok hml mk1
        rcases hno with h3 | ⟨h3, h4, h5⟩
        · go_wp2_with fail
          refine NW.out.mono ?_
          rintro e w' ⟨rfl, rfl⟩
          go_wp2_with fail
          refine (KN.out _).mono ?_
          rintro e w3 ⟨rfl, hb3⟩
          have HB3 := hid (below_then HB.out hb3)
          go_wp2
          go_ret
          exact ⟨rfl, HB3.out⟩
        · have hi0 : ((i : Int) == 0) = false := beq_eq_false_iff_ne.2 (by omega)
          go_wp2_with fail
          refine NW.out.mono ?_
          rintro e w' ⟨rfl, rfl⟩
          go_wp2_with fail
          refine (KN.out _).mono ?_
          rintro e w3 ⟨rfl, hb3⟩
          have HB3 := hid (below_then HB.out hb3)
          go_wp2
          go_ret
          exact ⟨rfl, HB3.out⟩
theorem frontMany_any (n size : Int) (W : World) : Calls Try.prog 7 #[.int .i64 n, .int .i64 size] W fun e W' => e = .returned (.bool true) ∧ Below W.heap.size W W' := by
  by_cases h : n < 0 ∨ (0 ≤ n ∧ 310 < n) ∨ (0 ≤ n ∧ n ≤ 310 ∧ size < 2) ∨ (0 ≤ n ∧ n ≤ 310 ∧ 2 ≤ size ∧ 255 < size)
  · exact many_out n size W h
  · obtain ⟨n, rfl⟩ : ∃ k : Nat, n = k := ⟨n.toNat, by omega⟩
    obtain ⟨size, rfl⟩ : ∃ k : Nat, size = k := ⟨size.toNat, by omega⟩
    exact many_in n size (size - 2) W (by omega) (by omega) (by omega)

theorem frontMany_walk (H : Type) (enc : TypeId × Value → H) (W : World) (base : Nat) (args : Array Value) (ds gs : List (DataW H)) (before : List MemPlace)
    (hval : ∀ (j : Nat) t v, Try.f7.params[j]? = some t → args[j]? = some v → Value.okWide Try.prog W .any base t v)
    (hW : DataW.Whole enc Try.prog Try.f7.params.toList Rows.frontManySpec.vars false W args.toList ds gs before)
    (hz : (DataW.weightsEach Try.prog (Try.f7.params.toList ++ Rows.frontManySpec.plain.varTypes Try.prog) (ds ++ gs)).all (· ≤ reachBytes) = true)
    (hL : laidMetH Try.prog Rows.frontManyRow.laid W) (hsh : W.ShapedOpen Try.prog) :
    Calls Try.prog 7 args W fun e W' => e = .returned (.bool true) ∧ Below W.heap.size W W' := by
  obtain ⟨p, q, hA, _, _, _, _⟩ := hW
  rw [Try.params7] at hA hval
  rw [Try.params7] at hz
  obtain ⟨v0, vs0, d0, ds0, p0, q0, hargs, rfl, rfl, h0, r0⟩ := trodAll_cons hA
  obtain ⟨v1, vs1, d1, ds1, p1, q1, rfl, rfl, rfl, h1, r1⟩ := trodAll_cons r0
  obtain ⟨rfl, rfl, rfl⟩ := trodAll_nil r1
  obtain rfl : args = #[v0, v1] := by cases args; simp_all
  obtain ⟨x0, rfl, rfl, rfl, w0⟩ := open_int Try.underlying3 (hval 0 3 v0 rfl rfl) h0
  have b0 := bounds_i64 w0
  obtain ⟨x1, rfl, rfl, rfl, w1⟩ := open_int Try.underlying3 (hval 1 3 v1 rfl rfl) h1
  have b1 := bounds_i64 w1
  exact frontMany_any x0 x1 W

theorem frontMany_lifted (os : Os) (started : os.Started) (H : Type) (enc : TypeId × Value → H) (F : Stop.Interp) :
    ReturnsInHanded {} Try.checked os 7 .any ((OpenSpec.ofChange Rows.frontManySpec).preRow enc Try.prog Try.f7 Rows.frontManyRow.domain false Rows.frontManyRow.laid) (((OpenSpec.ofChange Rows.frontManySpec).at F).post enc Try.prog Try.f7 false true false false) := by
  obtain ⟨places, hx⟩ : ∃ places, DataW.whole enc Try.prog ((World.holding Try.prog os ⟨#[], #[], []⟩).forCall (fun _ _ => 0) ⟨#[], #[.int .i64 0, .int .i64 0], []⟩).memory Try.f7.params.toList Rows.frontManySpec.vars false (#[.int .i64 0, .int .i64 0] : Array Value).toList 8 = some ([.lit (.int .i64 0), .lit (.int .i64 0)], [], places) := ⟨[], by kernel_rfl⟩
  refine returnsInHanded_of_row (C := Try.checked) (s := OpenSpec.ofChange Rows.frontManySpec) own started (by kernel_rfl) Try.func7
    (witness_row_at (enc := enc) (C := Try.checked) false (World.holding Try.prog os ⟨#[], #[], []⟩) #[.int .i64 0, .int .i64 0] rfl (by kernel_rfl) (by kernel_rfl) (by kernel_rfl)
      (OpenSpec.preRow_of_cond 8 hx (by kernel_rfl) (fun k hk => by cases hk) (by kernel_rfl) (laidMet_nil _ _))) ?_
  intro W base args ds gs before hval hW _ _ hz hL hsh _
  refine (frontMany_walk H enc W base args ds gs before hval hW hz hL hsh).mono fun e W' ⟨he, hb⟩ => ⟨_, he, ?_⟩
  exact law_post (fn := Try.f7) (s := Rows.frontManySpec) (tb := 4) rfl (fun ds hd => by match ds, hd with | [d0, d1], _ => rfl) rfl Try.underlying4 (by kernel_rfl) hW hb

theorem frontMany_said : Rows.FrontManySaid :=
  OpenClaim.holds_of_cond 7 Try.f7 rfl rfl rfl rfl rfl rfl rfl ⟨rfl, rfl, rfl, rfl, rfl⟩ rfl rfl rfl rfl rfl (by kernel_rfl) Try.func7 (by kernel_rfl)
    (of_decide_eq_true (by kernel_rfl)) (by unfold Func.isWrapper; first | (rw [if_pos (by decide +kernel)]; kernel_rfl) | (rw [if_neg (by decide +kernel)]; exact ⟨rfl, rfl⟩))
    (fun os started H enc _ F => by rw [OpenClaim.pre_eq_preRow]; exact frontMany_lifted os started H enc F)
end Go.Proofs.Ytdahfejecbcakaa
