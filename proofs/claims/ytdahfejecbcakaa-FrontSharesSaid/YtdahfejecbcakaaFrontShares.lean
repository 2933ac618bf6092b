/- FrontShares: of texts with one long beginning each fourth is written whole, for every input. -/
import Derived.Test.YtdahfejecbcakaaFrRead2
import Derived.Test.YtdahfejecbcakaaRegAny
import Derived.Deep.AppendLies
namespace Go.Proofs.Ytdahfejecbcakaa
set_option linter.unusedVariables false
set_option linter.unusedSimpArgs false
set_option maxRecDepth 100000
open Go.ChangeShapes Go.WideShapes Go.ChangeAt Go.RowKit

/-- Text i of them. -/
def sh_T (size i : Nat) : List UInt8 := List.replicate size 0 ++ [UInt8.ofNat (97 + i)]
theorem zeros_made (n : Nat) : (madeCells #[.int .u8 0] n).toList = (List.replicate n 0).map u8v := by
  refine List.ext_getElem (by simp [madeCells]) fun i h1 h2 => ?_
  simp [madeCells, u8v, Nat.mod_one]
theorem strOf_zeros (n : Nat) : Value.string (strOf (List.replicate n 0)) = str (List.replicate n 0) := by
  unfold strOf
  rw [List.map_replicate]; rfl
theorem conv_made (w : World) (b : Nat) (hb : w.heap.size = b) (n : Nat) (h : n ≤ 200) {Z : List UInt8} (hZ : Z = List.replicate n 0) : (convert 35 9 (.slice (some ⟨b, 0, none⟩) n n)).run Try.prog (w.alloc (.cells (madeCells #[.int .u8 0] n) 5)) = .ok (str Z) (w.alloc (.cells (madeCells #[.int .u8 0] n) 5)) := by
  rw [hZ, ← strOf_zeros]
  exact conv_row Try.underlying35 Try.underlying5 Try.underlying9 _ _ (List.replicate n 0) (SlAt.built hb (by simp) (zeros_made n) (by unfold maxLen; omega))
theorem conv_made2 (w : World) (b : Nat) (hb : w.heap.size = b) (n : Nat) (o : Obj) (h : n ≤ 200) {Z : List UInt8} (hZ : Z = List.replicate n 0) : (convert 35 9 (.slice (some ⟨b, 0, none⟩) n n)).run Try.prog ((w.alloc (.cells (madeCells #[.int .u8 0] n) 5)).alloc o) = .ok (str Z) ((w.alloc (.cells (madeCells #[.int .u8 0] n) 5)).alloc o) := by
  rw [hZ, ← strOf_zeros]
  exact conv_row Try.underlying35 Try.underlying5 Try.underlying9 _ _ (List.replicate n 0) ((show BytesAt (w.alloc (.cells (madeCells #[.int .u8 0] n) 5)) (.slice (some ⟨b, 0, none⟩) n n) (List.replicate n 0) from SlAt.built hb (by simp) (zeros_made n) (by unfold maxLen; omega)).keep ((Below.refl _ _).alloc (Nat.le_refl _) o))
theorem conv_ch (w : World) (b : Nat) (hb : w.heap.size = b) (i : Nat) (h : i < 100) {c : UInt8} (hc : c = UInt8.ofNat (97 + i)) : (convert 35 9 (.slice (some ⟨b, 0, none⟩) 1 1)).run Try.prog (w.alloc (.cells #[.int .u8 (97 + (i : Int))] 5)) = .ok (str [c]) (w.alloc (.cells #[.int .u8 (97 + (i : Int))] 5)) := by
  rw [hc]
  exact conv_row Try.underlying35 Try.underlying5 Try.underlying9 _ _ [97 + i] (SlAt.built hb rfl (by simp [u8v]) (by unfold maxLen; omega))
theorem conv_ch2 (w : World) (b : Nat) (hb : w.heap.size = b) (i : Nat) (o : Obj) (h : i < 100) {c : UInt8} (hc : c = UInt8.ofNat (97 + i)) : (convert 35 9 (.slice (some ⟨b, 0, none⟩) 1 1)).run Try.prog ((w.alloc (.cells #[.int .u8 (97 + (i : Int))] 5)).alloc o) = .ok (str [c]) ((w.alloc (.cells #[.int .u8 (97 + (i : Int))] 5)).alloc o) := by
  rw [hc]
  exact conv_row Try.underlying35 Try.underlying5 Try.underlying9 _ _ [97 + i] ((show BytesAt (w.alloc (.cells #[.int .u8 (97 + (i : Int))] 5)) (.slice (some ⟨b, 0, none⟩) 1 1) [97 + i] from SlAt.built hb rfl (by simp [u8v]) (by unfold maxLen; omega)).keep ((Below.refl _ _).alloc (Nat.le_refl _) o))
def sh_L (size k : Nat) : List (List UInt8) := (List.range k).map (sh_T size)
theorem shT_own {w : World} {b size i : Nat} {v : Value} (h : w.ownsRow b 9 1 v (i + 1) ((sh_L size i).map str ++ [str (sh_T size i)])) : Hid (w.ownsRow b 9 1 v (i + 1) ((sh_L size (i + 1)).map str)) := by
  unfold sh_L at *
  rw [List.range_succ, List.map_append, List.map_append]
  exact h
theorem lt_zeros (s : Nat) (a b : UInt8) : Fr.lt (List.replicate s 0 ++ [a]) (List.replicate s 0 ++ [b]) = decide (a < b) := by
  induction s with
  | zero => simp [Op.bytesLess]
  | succ s ih => rw [List.replicate_succ, List.cons_append, List.cons_append, Fr.lt_cons, ih]; simp
theorem sh_zeros (s : Nat) (a b : UInt8) (h : a ≠ b) : Fr.sh (List.replicate s 0 ++ [a]) (List.replicate s 0 ++ [b]) = s := by
  induction s with
  | zero =>
    show Fr.sh [a] [b] = 0
    rw [Fr.sh, if_neg h]
  | succ s ih => rw [List.replicate_succ, List.cons_append, List.cons_append, Fr.sh, if_pos rfl, ih]
theorem ch_lt {i j : Nat} (h : i < j) (hj : j < 100) : UInt8.ofNat (97 + i) < UInt8.ofNat (97 + j) := by
  rw [UInt8.lt_iff_toNat_lt, UInt8.toNat_ofNat', UInt8.toNat_ofNat']
  omega
theorem sh_at {size n i : Nat} (h : i < n) : Fr.at_ (sh_L size n) i = sh_T size i := by
  unfold Fr.at_ sh_L
  simp [List.getD, h]
theorem sh_len (size n : Nat) : (sh_L size n).length = n := by unfold sh_L; simp
theorem sh_may {size n : Nat} (hn : n ≤ 26) (hs : size ≤ 200) : Fr.May (sh_L size n) := by
  refine ⟨by rw [sh_len]; omega, fun i hi => ?_⟩
  rw [sh_len] at hi
  unfold Fr.OkAt
  rw [sh_at hi]
  have hl : (sh_T size i).length = size + 1 := by unfold sh_T; simp
  refine ⟨by omega, by omega, fun h0 => ?_⟩
  rw [sh_at (show i - 1 < n by omega)]
  unfold sh_T
  rw [lt_zeros, decide_eq_true_eq]
  exact ch_lt (by omega) (by omega)
theorem sh_byt {size n : Nat} (hn : n ≤ 26) : ∀ k, k ≤ n → (Fr.byt (sh_L size n) k).length = 2 + 3 * k + (k + 3) / 4 * size
  | 0, _ => by simp [Fr.byt]
  | k + 1, hk => by
    show (Fr.byt (sh_L size n) k ++ Fr.enc (sh_L size n) k).length = _
    rw [List.length_append, Fr.enc_len, sh_byt hn k (by omega), sh_at (by omega)]
    have hl : (sh_T size k).length = size + 1 := by unfold sh_T; simp
    rw [hl]
    unfold Fr.shAt
    by_cases h4 : k % 4 = 0
    · rw [if_pos h4, show (k + 1 + 3) / 4 = (k + 3) / 4 + 1 by omega, Nat.add_mul]
      omega
    · rw [if_neg h4, sh_at (show k - 1 < n by omega), sh_at (show k < n by omega), show (k + 1 + 3) / 4 = (k + 3) / 4 by omega]
      unfold sh_T
      rw [sh_zeros _ _ _ (fun e => by
        have := ch_lt (i := k - 1) (j := k) (by omega) (by omega)
        rw [e] at this
        exact absurd this (UInt8.lt_irrefl _))]
      omega
theorem shares_out (n size : Int) (W : World) (h : n < 1 ∨ (1 ≤ n ∧ 26 < n) ∨ (1 ≤ n ∧ n ≤ 26 ∧ size < 1) ∨ (1 ≤ n ∧ n ≤ 26 ∧ 1 ≤ size ∧ 200 < size)) :
    Calls Try.prog 11 #[.int .i64 n, .int .i64 size] W fun e W' => e = .returned (.bool true) ∧ Below W.heap.size W W' := by
  rcases h with h | ⟨h1, h⟩ | ⟨h1, h2, h⟩ | ⟨h1, h2, h3, h⟩
  all_goals
    go_enter Try.func11, Try.ntmps11
    go_wp2
    go_ret
    exact ⟨rfl, Below.refl _ _⟩
theorem shT_len (size i : Nat) : (sh_T size i).length = size + 1 := by unfold sh_T; simp
set_option maxHeartbeats 4000000 in
theorem shares_in (n size : Nat) (W : World) (hn1 : 1 ≤ n) (hn : n ≤ 26) (hs1 : 1 ≤ size) (hs200 : size ≤ 200) :
    Calls Try.prog 11 #[.int .i64 n, .int .i64 size] W fun e W' => e = .returned (.bool true) ∧ Below W.heap.size W W' := by
  obtain ⟨i0, hi, hz0, hz1, hz2⟩ := info_parts Try.info9
  obtain ⟨i1, hi1, hy0, hy1, hy2⟩ := info_parts Try.info5
  have mk1 : ∀ W : World, (Instr.makeSlice 35 (.int .i64 (size : Int)) (.int .i64 (size : Int))).run Try.prog W = _ := fun W => run_make W 35 5 i1 _ Try.underlying35 hi1 hy0 .i64 .i64 size size (by omega) (by omega) (by rw [hy2]; omega) (by omega)
  simp only [Nat.mul_one, hy1] at mk1
  go_enter Try.func11, Try.ntmps11
  go_wp2
  go_loopw [6, 5] (fun s6 s5 wr => ∃ i : Nat, i ≤ n ∧ s6 = .int .i64 i ∧ Hid (wr.ownsRow W.heap.size 9 1 s5 i ((sh_L size i).map str)) ∧ Hid (Below W.heap.size W wr)) (fun s6 _ _ => n - (intOf s6).toNat)
  case atStart => exact ⟨0, by omega, rfl, World.ownsRow_nil _ _ _ _, Below.refl _ _⟩
  case round =>
    obtain ⟨i, hin, rfl, HO, HB⟩ := hrel
    by_cases hlt : i < n
    · have hi26 : i < 100 := by omega
      have hw8 : IntKind.u8.wrap (97 + (i : Int)) = 97 + (i : Int) := by rw [IntKind.wrap_u8']; omega
      have hw64 : IntKind.i64.wrap (97 + (i : Int)) = 97 + (i : Int) := by rw [IntKind.wrap_i64]; omega
      obtain ⟨Z, hZ⟩ : ∃ Z, Z = List.replicate size (0 : UInt8) := ⟨_, rfl⟩
      obtain ⟨c, hc⟩ : ∃ c, c = UInt8.ofNat (97 + i) := ⟨_, rfl⟩
      obtain ⟨y, hy⟩ : ∃ y, y = sh_T size i := ⟨_, rfl⟩
      have AX : (⟨Z.toArray⟩ : ByteArray) ++ ⟨#[c]⟩ = ⟨y.toArray⟩ := by rw [hy, hZ, hc]; exact ba_app (List.replicate size 0) [UInt8.ofNat (97 + i)]
      have hl1 : Z.length = size := by rw [hZ]; simp
      have hszf : ¬ 9223372036854775807 < size + 1 := by omega
      have HZ := hid hZ
      have HC := hid hc
      have HY := hid hy
      clear hZ hc hy
      go_wp2
      refine wp_region_any (by kernel_rfl) ?_
      change wpAny _ _ _ _ 13 _ _ (World.drew _)
      obtain ⟨wd, hwd⟩ : ∃ wd, wd = wr.drew := ⟨_, rfl⟩
      rw [← hwd]
      have OD := hid (show wd.ownsRow W.heap.size 9 1 u5 i ((sh_L size i).map str) by rw [hwd]; exact HO.out)
      have BD := hid (show Below W.heap.size W wd by rw [hwd]; exact HB.out.drew)
      clear hwd
      have hzd := BD.out.size
      refine wpAny_take (i := 0) (v := u5) rfl (by kernel_rfl) (by kernel_rfl) (by kernel_rfl) (fun _ _ _ h => h) (Or.inl ⟨by rfl, ?y0⟩) ?_
      case y0 =>
        intro w
        go_simp
        all_goals with_reducible rfl
      refine wpAny_take (i := 1) (v := .int .i64 size) rfl (by kernel_rfl) (by kernel_rfl) (by kernel_rfl) (fun _ _ _ h => h) (Or.inl ⟨by rfl, ?y1⟩) ?_
      case y1 =>
        intro w
        go_simp
        all_goals with_reducible rfl
      refine wpAny_take (i := 4) (v := .int .i64 i) rfl (by kernel_rfl) (by kernel_rfl) (by kernel_rfl) (fun _ _ _ h => h) (Or.inl ⟨by rfl, ?y4⟩) ?_
      case y4 =>
        intro w
        go_simp
        all_goals with_reducible rfl
      refine wpAny_take (i := 5) (v := .int .i64 (97 + i)) rfl (by kernel_rfl) (by kernel_rfl) (by kernel_rfl) (fun _ _ _ h => h) (Or.inl ⟨by rfl, ?y5⟩) ?_
      case y5 =>
        intro w
        go_simp
        all_goals with_reducible rfl
      refine wpAny_take (i := 6) (v := .int .u8 (97 + i)) rfl (by kernel_rfl) (by kernel_rfl) (by kernel_rfl) (fun _ _ _ h => h) (Or.inl ⟨by rfl, ?y6⟩) ?_
      case y6 =>
        intro w
        go_simp
        all_goals with_reducible rfl
      refine wpAny_ready (rs := [2, 7]) (by kernel_rfl) (by simp) ?_
      refine AllReady.cons rfl (fun K hK => ?_) (AllReady.cons rfl (fun K hK => ?_) AllReady.nil)
      · go_simp
        refine hK _ _ ?_
        clear hK K
        have z3 := conv_made wd wd.heap.size rfl size hs200 HZ.out
        have z3b := conv_made2 wd wd.heap.size rfl size (.cells #[.int .u8 (97 + (i : Int))] 5) hs200 HZ.out
        have z8 := conv_ch (wd.alloc (.cells (madeCells #[.int .u8 0] size) 5)) (wd.heap.size + 1) (by simp) i hi26 HC.out
        refine wpAny_ready (rs := [3, 7]) (by kernel_rfl) (by simp) ?_
        refine AllReady.cons rfl (fun K hK => ?_) (AllReady.cons rfl (fun K hK => ?_) AllReady.nil)
        · go_simp
          refine hK _ _ ?_
          clear hK K
          refine wpAny_ready (rs := [7]) (by kernel_rfl) (by simp) ?_
          refine AllReady.cons rfl (fun K hK => ?_) AllReady.nil
          go_simp
          refine hK _ _ ?_
          clear hK K
          refine wpAny_ready (rs := [8]) (by kernel_rfl) (by simp) ?_
          refine AllReady.cons rfl (fun K hK => ?_) AllReady.nil
          go_simp
          refine hK _ _ ?_
          clear hK K
          -- the text, its slice, the append
          have OW := (OD.out.alloc (.cells (madeCells #[.int .u8 0] size) 5)).alloc (.cells #[.int .u8 (97 + (i : Int))] 5)
          have BW := (BD.out.alloc hzd (.cells (madeCells #[.int .u8 0] size) 5)).alloc (by simp; omega) (.cells #[.int .u8 (97 + (i : Int))] 5)
          obtain ⟨wa, hwa⟩ : ∃ wa, wa = (wd.alloc (.cells (madeCells #[.int .u8 0] size) 5)).alloc (.cells #[.int .u8 (97 + (i : Int))] 5) := ⟨_, rfl⟩
          rw [← hwa] at OW BW ⊢
          have hza := BW.size
          clear hwa
          refine wpAny_ready (rs := [9]) (by kernel_rfl) (by simp) ?_
          refine AllReady.cons rfl (fun K hK => ?_) AllReady.nil
          go_simp
          refine hK _ _ ?_
          clear hK K
          refine wpAny_ready (rs := [10]) (by kernel_rfl) (by simp) ?_
          refine AllReady.cons rfl (fun K hK => ?_) AllReady.nil
          go_simp
          refine hK _ _ ?_
          clear hK K
          refine wpAny_ready (rs := [11]) (by kernel_rfl) (by simp) ?_
          refine AllReady.cons rfl (fun K hK => ?_) AllReady.nil
          refine step_append_lies _ (by rfl) (.tmp 29) (.tmp 39) 22 (by rfl) W.heap.size 9 i0 _ 1 16 Try.underlying22 hi hz0 hz1 hz2 rfl (by omega) u5 i _ (by rfl) (OW.alloc _) ⟨wa.heap.size, 0, none⟩ 1 1 [str y] (by rfl) (by rfl) (World.news_of_block (cs := #[str y]) (t := 9) (fr := (0, 0)) (heap_alloc_new wa _)) (by simp [Value.oneCell']) (by omega) (by unfold maxLen; omega) (by omega) (by simp; omega) (wa.heap.size + 1) (by simp) ?_
          intro gg cap2 w2 hown2 hgrow hat hltg
          refine hK _ _ ?_
          clear hK K
          refine wpAny_ready (rs := [12]) (by kernel_rfl) (by simp) ?_
          refine AllReady.cons rfl (fun K hK => ?_) AllReady.nil
          go_simp
          refine hK _ _ ?_
          clear hK K
          refine wpAny_done (by kernel_rfl) ?_ _
          have BZ := (BW.alloc hza (.cells #[str y] 9)).grown hgrow (by simp; omega) (fun g hg => (OW.lt g hg).1)
          go_wp2
          go_roundw
          case rel => exact ⟨i + 1, by omega, by go_num, shT_own (by rw [← HY.out]; exact hown2), BZ⟩
          case measure => simp [intOf]; omega
        · go_simp
          refine hK _ _ ?_
          clear hK K
          refine wpAny_ready (rs := [3, 8]) (by kernel_rfl) (by simp) ?_
          refine AllReady.cons rfl (fun K hK => ?_) (AllReady.cons rfl (fun K hK => ?_) AllReady.nil)
          · go_simp
            refine hK _ _ ?_
            clear hK K
            refine wpAny_ready (rs := [8]) (by kernel_rfl) (by simp) ?_
            refine AllReady.cons rfl (fun K hK => ?_) AllReady.nil
            go_simp
            refine hK _ _ ?_
            clear hK K
            -- the text, its slice, the append
            have OW := (OD.out.alloc (.cells (madeCells #[.int .u8 0] size) 5)).alloc (.cells #[.int .u8 (97 + (i : Int))] 5)
            have BW := (BD.out.alloc hzd (.cells (madeCells #[.int .u8 0] size) 5)).alloc (by simp; omega) (.cells #[.int .u8 (97 + (i : Int))] 5)
            obtain ⟨wa, hwa⟩ : ∃ wa, wa = (wd.alloc (.cells (madeCells #[.int .u8 0] size) 5)).alloc (.cells #[.int .u8 (97 + (i : Int))] 5) := ⟨_, rfl⟩
            rw [← hwa] at OW BW ⊢
            have hza := BW.size
            clear hwa
            refine wpAny_ready (rs := [9]) (by kernel_rfl) (by simp) ?_
            refine AllReady.cons rfl (fun K hK => ?_) AllReady.nil
            go_simp
            refine hK _ _ ?_
            clear hK K
            refine wpAny_ready (rs := [10]) (by kernel_rfl) (by simp) ?_
            refine AllReady.cons rfl (fun K hK => ?_) AllReady.nil
            go_simp
            refine hK _ _ ?_
            clear hK K
            refine wpAny_ready (rs := [11]) (by kernel_rfl) (by simp) ?_
            refine AllReady.cons rfl (fun K hK => ?_) AllReady.nil
            refine step_append_lies _ (by rfl) (.tmp 29) (.tmp 39) 22 (by rfl) W.heap.size 9 i0 _ 1 16 Try.underlying22 hi hz0 hz1 hz2 rfl (by omega) u5 i _ (by rfl) (OW.alloc _) ⟨wa.heap.size, 0, none⟩ 1 1 [str y] (by rfl) (by rfl) (World.news_of_block (cs := #[str y]) (t := 9) (fr := (0, 0)) (heap_alloc_new wa _)) (by simp [Value.oneCell']) (by omega) (by unfold maxLen; omega) (by omega) (by simp; omega) (wa.heap.size + 1) (by simp) ?_
            intro gg cap2 w2 hown2 hgrow hat hltg
            refine hK _ _ ?_
            clear hK K
            refine wpAny_ready (rs := [12]) (by kernel_rfl) (by simp) ?_
            refine AllReady.cons rfl (fun K hK => ?_) AllReady.nil
            go_simp
            refine hK _ _ ?_
            clear hK K
            refine wpAny_done (by kernel_rfl) ?_ _
            have BZ := (BW.alloc hza (.cells #[str y] 9)).grown hgrow (by simp; omega) (fun g hg => (OW.lt g hg).1)
            go_wp2
            go_roundw
            case rel => exact ⟨i + 1, by omega, by go_num, shT_own (by rw [← HY.out]; exact hown2), BZ⟩
            case measure => simp [intOf]; omega
          · go_simp
            refine hK _ _ ?_
            clear hK K
            refine wpAny_ready (rs := [3]) (by kernel_rfl) (by simp) ?_
            refine AllReady.cons rfl (fun K hK => ?_) AllReady.nil
            go_simp
            refine hK _ _ ?_
            clear hK K
            -- the text, its slice, the append
            have OW := (OD.out.alloc (.cells (madeCells #[.int .u8 0] size) 5)).alloc (.cells #[.int .u8 (97 + (i : Int))] 5)
            have BW := (BD.out.alloc hzd (.cells (madeCells #[.int .u8 0] size) 5)).alloc (by simp; omega) (.cells #[.int .u8 (97 + (i : Int))] 5)
            obtain ⟨wa, hwa⟩ : ∃ wa, wa = (wd.alloc (.cells (madeCells #[.int .u8 0] size) 5)).alloc (.cells #[.int .u8 (97 + (i : Int))] 5) := ⟨_, rfl⟩
            rw [← hwa] at OW BW ⊢
            have hza := BW.size
            clear hwa
            refine wpAny_ready (rs := [9]) (by kernel_rfl) (by simp) ?_
            refine AllReady.cons rfl (fun K hK => ?_) AllReady.nil
            go_simp
            refine hK _ _ ?_
            clear hK K
            refine wpAny_ready (rs := [10]) (by kernel_rfl) (by simp) ?_
            refine AllReady.cons rfl (fun K hK => ?_) AllReady.nil
            go_simp
            refine hK _ _ ?_
            clear hK K
            refine wpAny_ready (rs := [11]) (by kernel_rfl) (by simp) ?_
            refine AllReady.cons rfl (fun K hK => ?_) AllReady.nil
            refine step_append_lies _ (by rfl) (.tmp 29) (.tmp 39) 22 (by rfl) W.heap.size 9 i0 _ 1 16 Try.underlying22 hi hz0 hz1 hz2 rfl (by omega) u5 i _ (by rfl) (OW.alloc _) ⟨wa.heap.size, 0, none⟩ 1 1 [str y] (by rfl) (by rfl) (World.news_of_block (cs := #[str y]) (t := 9) (fr := (0, 0)) (heap_alloc_new wa _)) (by simp [Value.oneCell']) (by omega) (by unfold maxLen; omega) (by omega) (by simp; omega) (wa.heap.size + 1) (by simp) ?_
            intro gg cap2 w2 hown2 hgrow hat hltg
            refine hK _ _ ?_
            clear hK K
            refine wpAny_ready (rs := [12]) (by kernel_rfl) (by simp) ?_
            refine AllReady.cons rfl (fun K hK => ?_) AllReady.nil
            go_simp
            refine hK _ _ ?_
            clear hK K
            refine wpAny_done (by kernel_rfl) ?_ _
            have BZ := (BW.alloc hza (.cells #[str y] 9)).grown hgrow (by simp; omega) (fun g hg => (OW.lt g hg).1)
            go_wp2
            go_roundw
            case rel => exact ⟨i + 1, by omega, by go_num, shT_own (by rw [← HY.out]; exact hown2), BZ⟩
            case measure => simp [intOf]; omega
      · go_simp
        refine hK _ _ ?_
        clear hK K
        have z8 := conv_ch wd wd.heap.size rfl i hi26 HC.out
        have z8b := conv_ch2 wd wd.heap.size rfl i (.cells (madeCells #[.int .u8 0] size) 5) hi26 HC.out
        have z3 := conv_made (wd.alloc (.cells #[.int .u8 (97 + (i : Int))] 5)) (wd.heap.size + 1) (by simp) size hs200 HZ.out
        refine wpAny_ready (rs := [2, 8]) (by kernel_rfl) (by simp) ?_
        refine AllReady.cons rfl (fun K hK => ?_) (AllReady.cons rfl (fun K hK => ?_) AllReady.nil)
        · go_simp
          refine hK _ _ ?_
          clear hK K
          refine wpAny_ready (rs := [3, 8]) (by kernel_rfl) (by simp) ?_
          refine AllReady.cons rfl (fun K hK => ?_) (AllReady.cons rfl (fun K hK => ?_) AllReady.nil)
          · go_simp
            refine hK _ _ ?_
            clear hK K
            refine wpAny_ready (rs := [8]) (by kernel_rfl) (by simp) ?_
            refine AllReady.cons rfl (fun K hK => ?_) AllReady.nil
            go_simp
            refine hK _ _ ?_
            clear hK K
            -- the text, its slice, the append
            have OW := (OD.out.alloc (.cells #[.int .u8 (97 + (i : Int))] 5)).alloc (.cells (madeCells #[.int .u8 0] size) 5)
            have BW := (BD.out.alloc hzd (.cells #[.int .u8 (97 + (i : Int))] 5)).alloc (by simp; omega) (.cells (madeCells #[.int .u8 0] size) 5)
            obtain ⟨wa, hwa⟩ : ∃ wa, wa = (wd.alloc (.cells #[.int .u8 (97 + (i : Int))] 5)).alloc (.cells (madeCells #[.int .u8 0] size) 5) := ⟨_, rfl⟩
            rw [← hwa] at OW BW ⊢
            have hza := BW.size
            clear hwa
            refine wpAny_ready (rs := [9]) (by kernel_rfl) (by simp) ?_
            refine AllReady.cons rfl (fun K hK => ?_) AllReady.nil
            go_simp
            refine hK _ _ ?_
            clear hK K
            refine wpAny_ready (rs := [10]) (by kernel_rfl) (by simp) ?_
            refine AllReady.cons rfl (fun K hK => ?_) AllReady.nil
            go_simp
            refine hK _ _ ?_
            clear hK K
            refine wpAny_ready (rs := [11]) (by kernel_rfl) (by simp) ?_
            refine AllReady.cons rfl (fun K hK => ?_) AllReady.nil
            refine step_append_lies _ (by rfl) (.tmp 29) (.tmp 39) 22 (by rfl) W.heap.size 9 i0 _ 1 16 Try.underlying22 hi hz0 hz1 hz2 rfl (by omega) u5 i _ (by rfl) (OW.alloc _) ⟨wa.heap.size, 0, none⟩ 1 1 [str y] (by rfl) (by rfl) (World.news_of_block (cs := #[str y]) (t := 9) (fr := (0, 0)) (heap_alloc_new wa _)) (by simp [Value.oneCell']) (by omega) (by unfold maxLen; omega) (by omega) (by simp; omega) (wa.heap.size + 1) (by simp) ?_
            intro gg cap2 w2 hown2 hgrow hat hltg
            refine hK _ _ ?_
            clear hK K
            refine wpAny_ready (rs := [12]) (by kernel_rfl) (by simp) ?_
            refine AllReady.cons rfl (fun K hK => ?_) AllReady.nil
            go_simp
            refine hK _ _ ?_
            clear hK K
            refine wpAny_done (by kernel_rfl) ?_ _
            have BZ := (BW.alloc hza (.cells #[str y] 9)).grown hgrow (by simp; omega) (fun g hg => (OW.lt g hg).1)
            go_wp2
            go_roundw
            case rel => exact ⟨i + 1, by omega, by go_num, shT_own (by rw [← HY.out]; exact hown2), BZ⟩
            case measure => simp [intOf]; omega
          · go_simp
            refine hK _ _ ?_
            clear hK K
            refine wpAny_ready (rs := [3]) (by kernel_rfl) (by simp) ?_
            refine AllReady.cons rfl (fun K hK => ?_) AllReady.nil
            go_simp
            refine hK _ _ ?_
            clear hK K
            -- the text, its slice, the append
            have OW := (OD.out.alloc (.cells #[.int .u8 (97 + (i : Int))] 5)).alloc (.cells (madeCells #[.int .u8 0] size) 5)
            have BW := (BD.out.alloc hzd (.cells #[.int .u8 (97 + (i : Int))] 5)).alloc (by simp; omega) (.cells (madeCells #[.int .u8 0] size) 5)
            obtain ⟨wa, hwa⟩ : ∃ wa, wa = (wd.alloc (.cells #[.int .u8 (97 + (i : Int))] 5)).alloc (.cells (madeCells #[.int .u8 0] size) 5) := ⟨_, rfl⟩
            rw [← hwa] at OW BW ⊢
            have hza := BW.size
            clear hwa
            refine wpAny_ready (rs := [9]) (by kernel_rfl) (by simp) ?_
            refine AllReady.cons rfl (fun K hK => ?_) AllReady.nil
            go_simp
            refine hK _ _ ?_
            clear hK K
            refine wpAny_ready (rs := [10]) (by kernel_rfl) (by simp) ?_
            refine AllReady.cons rfl (fun K hK => ?_) AllReady.nil
            go_simp
            refine hK _ _ ?_
            clear hK K
            refine wpAny_ready (rs := [11]) (by kernel_rfl) (by simp) ?_
            refine AllReady.cons rfl (fun K hK => ?_) AllReady.nil
            refine step_append_lies _ (by rfl) (.tmp 29) (.tmp 39) 22 (by rfl) W.heap.size 9 i0 _ 1 16 Try.underlying22 hi hz0 hz1 hz2 rfl (by omega) u5 i _ (by rfl) (OW.alloc _) ⟨wa.heap.size, 0, none⟩ 1 1 [str y] (by rfl) (by rfl) (World.news_of_block (cs := #[str y]) (t := 9) (fr := (0, 0)) (heap_alloc_new wa _)) (by simp [Value.oneCell']) (by omega) (by unfold maxLen; omega) (by omega) (by simp; omega) (wa.heap.size + 1) (by simp) ?_
            intro gg cap2 w2 hown2 hgrow hat hltg
            refine hK _ _ ?_
            clear hK K
            refine wpAny_ready (rs := [12]) (by kernel_rfl) (by simp) ?_
            refine AllReady.cons rfl (fun K hK => ?_) AllReady.nil
            go_simp
            refine hK _ _ ?_
            clear hK K
            refine wpAny_done (by kernel_rfl) ?_ _
            have BZ := (BW.alloc hza (.cells #[str y] 9)).grown hgrow (by simp; omega) (fun g hg => (OW.lt g hg).1)
            go_wp2
            go_roundw
            case rel => exact ⟨i + 1, by omega, by go_num, shT_own (by rw [← HY.out]; exact hown2), BZ⟩
            case measure => simp [intOf]; omega
        · go_simp
          refine hK _ _ ?_
          clear hK K
          refine wpAny_ready (rs := [2]) (by kernel_rfl) (by simp) ?_
          refine AllReady.cons rfl (fun K hK => ?_) AllReady.nil
          go_simp
          refine hK _ _ ?_
          clear hK K
          refine wpAny_ready (rs := [3]) (by kernel_rfl) (by simp) ?_
          refine AllReady.cons rfl (fun K hK => ?_) AllReady.nil
          go_simp
          refine hK _ _ ?_
          clear hK K
          -- the text, its slice, the append
          have OW := (OD.out.alloc (.cells #[.int .u8 (97 + (i : Int))] 5)).alloc (.cells (madeCells #[.int .u8 0] size) 5)
          have BW := (BD.out.alloc hzd (.cells #[.int .u8 (97 + (i : Int))] 5)).alloc (by simp; omega) (.cells (madeCells #[.int .u8 0] size) 5)
          obtain ⟨wa, hwa⟩ : ∃ wa, wa = (wd.alloc (.cells #[.int .u8 (97 + (i : Int))] 5)).alloc (.cells (madeCells #[.int .u8 0] size) 5) := ⟨_, rfl⟩
          rw [← hwa] at OW BW ⊢
          have hza := BW.size
          clear hwa
          refine wpAny_ready (rs := [9]) (by kernel_rfl) (by simp) ?_
          refine AllReady.cons rfl (fun K hK => ?_) AllReady.nil
          go_simp
          refine hK _ _ ?_
          clear hK K
          refine wpAny_ready (rs := [10]) (by kernel_rfl) (by simp) ?_
          refine AllReady.cons rfl (fun K hK => ?_) AllReady.nil
          go_simp
          refine hK _ _ ?_
          clear hK K
          refine wpAny_ready (rs := [11]) (by kernel_rfl) (by simp) ?_
          refine AllReady.cons rfl (fun K hK => ?_) AllReady.nil
          refine step_append_lies _ (by rfl) (.tmp 29) (.tmp 39) 22 (by rfl) W.heap.size 9 i0 _ 1 16 Try.underlying22 hi hz0 hz1 hz2 rfl (by omega) u5 i _ (by rfl) (OW.alloc _) ⟨wa.heap.size, 0, none⟩ 1 1 [str y] (by rfl) (by rfl) (World.news_of_block (cs := #[str y]) (t := 9) (fr := (0, 0)) (heap_alloc_new wa _)) (by simp [Value.oneCell']) (by omega) (by unfold maxLen; omega) (by omega) (by simp; omega) (wa.heap.size + 1) (by simp) ?_
          intro gg cap2 w2 hown2 hgrow hat hltg
          refine hK _ _ ?_
          clear hK K
          refine wpAny_ready (rs := [12]) (by kernel_rfl) (by simp) ?_
          refine AllReady.cons rfl (fun K hK => ?_) AllReady.nil
          go_simp
          refine hK _ _ ?_
          clear hK K
          refine wpAny_done (by kernel_rfl) ?_ _
          have BZ := (BW.alloc hza (.cells #[str y] 9)).grown hgrow (by simp; omega) (fun g hg => (OW.lt g hg).1)
          go_wp2
          go_roundw
          case rel => exact ⟨i + 1, by omega, by go_num, shT_own (by rw [← HY.out]; exact hown2), BZ⟩
          case measure => simp [intOf]; omega
    · obtain rfl : i = n := by omega
      have hm := sh_may (size := size) hn hs200
      have HT := hid (SlAt.own (f := str) (d := []) HO.out (sh_len size i).symm)
      have NW := hid (new_ok u5 (sh_L size i) wr HT.out hm)
      have BY := hid (fun p w h => bytes_any p (sh_L size i) w h hm)
      have hbl := sh_byt (size := size) hn i (Nat.le_refl _)
      have KN := hid (fun W => known_any W)
      have HM := hid hm
      rw [sh_len] at BY
      obtain ⟨q, hq⟩ : ∃ q, q = (i + 3) / 4 := ⟨_, rfl⟩
      rw [← hq] at hbl
      have hqs : q * size ≤ 7 * 200 := Nat.mul_le_mul (by omega) hs200
      obtain ⟨m, hm2⟩ : ∃ m, m = q * size := ⟨_, rfl⟩
      have hmI : (q : Int) * (size : Int) = (m : Int) := by rw [hm2]; simp
      rw [← hm2] at hbl hqs
      have hqI : ((i : Int) + 3) / 4 = (q : Int) := by omega
      have hqT : Int.tdiv ((i : Int) + 3) 4 = (q : Int) := by rw [Int.tdiv_eq_ediv_of_nonneg (by omega)]; exact hqI
      have hq7 : q ≤ 7 := by omega
      obtain ⟨ua, uc, rfl, _, _, _, _⟩ := HT.out.open
      clear hm hm2 hq mk1
      go_wp2_with fail
      refine NW.out.mono ?_
      rintro e w1 ⟨p, rfl, hb1, hD, _, _⟩
      have HD := hid hD
      have HB1 := hid (below_then HB.out hb1)
      clear hD hb1
      go_wp2_with fail
      refine (BY.out p w1 HD.out).mono ?_
      rintro e w2 ⟨v2, rfl, hb2, hown2⟩
      obtain ⟨va, vc, rfl, _, _, _, _⟩ := (byt_at hown2).open
      obtain ⟨N, hN⟩ : ∃ N, N = (Fr.byt (sh_L size i) i).length := ⟨_, rfl⟩
      rw [← hN] at hbl ⊢
      have hNI : ((N : Int) == 2 + 3 * (i : Int) + (m : Int)) = true := beq_iff_eq.2 (by omega)
      have HB2 := hid (below_then HB1.out hb2)
      clear hb2 hown2 hN
      go_wp2_with fail
      refine (KN.out _).mono ?_
      rintro e w3 ⟨rfl, hb3⟩
      have HB3 := hid (below_then HB2.out hb3)
      go_wp2
      go_ret
      exact ⟨rfl, HB3.out⟩
theorem frontShares_any (n size : Int) (W : World) : Calls Try.prog 11 #[.int .i64 n, .int .i64 size] W fun e W' => e = .returned (.bool true) ∧ Below W.heap.size W W' := by
  by_cases h : n < 1 ∨ (1 ≤ n ∧ 26 < n) ∨ (1 ≤ n ∧ n ≤ 26 ∧ size < 1) ∨ (1 ≤ n ∧ n ≤ 26 ∧ 1 ≤ size ∧ 200 < size)
  · exact shares_out n size W h
  · obtain ⟨n, rfl⟩ : ∃ k : Nat, n = k := ⟨n.toNat, by omega⟩
    obtain ⟨size, rfl⟩ : ∃ k : Nat, size = k := ⟨size.toNat, by omega⟩
    exact shares_in n size W (by omega) (by omega) (by omega) (by omega)

theorem frontShares_walk (H : Type) (enc : TypeId × Value → H) (W : World) (base : Nat) (args : Array Value) (ds gs : List (DataW H)) (before : List MemPlace)
    (hval : ∀ (j : Nat) t v, Try.f11.params[j]? = some t → args[j]? = some v → Value.okWide Try.prog W .any base t v)
    (hW : DataW.Whole enc Try.prog Try.f11.params.toList Rows.frontSharesSpec.vars false W args.toList ds gs before)
    (hz : (DataW.weightsEach Try.prog (Try.f11.params.toList ++ Rows.frontSharesSpec.plain.varTypes Try.prog) (ds ++ gs)).all (· ≤ reachBytes) = true)
    (hL : laidMetH Try.prog Rows.frontSharesRow.laid W) (hsh : W.ShapedOpen Try.prog) :
    Calls Try.prog 11 args W fun e W' => e = .returned (.bool true) ∧ Below W.heap.size W W' := by
  obtain ⟨p, q, hA, _, _, _, _⟩ := hW
  rw [Try.params11] at hA hval
  rw [Try.params11] at hz
  obtain ⟨v0, vs0, d0, ds0, p0, q0, hargs, rfl, rfl, h0, r0⟩ := trodAll_cons hA
  obtain ⟨v1, vs1, d1, ds1, p1, q1, rfl, rfl, rfl, h1, r1⟩ := trodAll_cons r0
  obtain ⟨rfl, rfl, rfl⟩ := trodAll_nil r1
  obtain rfl : args = #[v0, v1] := by cases args; simp_all
  obtain ⟨x0, rfl, rfl, rfl, w0⟩ := open_int Try.underlying3 (hval 0 3 v0 rfl rfl) h0
  have b0 := bounds_i64 w0
  obtain ⟨x1, rfl, rfl, rfl, w1⟩ := open_int Try.underlying3 (hval 1 3 v1 rfl rfl) h1
  have b1 := bounds_i64 w1
  exact frontShares_any x0 x1 W

theorem frontShares_lifted (os : Os) (started : os.Started) (H : Type) (enc : TypeId × Value → H) (F : Stop.Interp) :
    ReturnsInHanded {} Try.checked os 11 .any ((OpenSpec.ofChange Rows.frontSharesSpec).preRow enc Try.prog Try.f11 Rows.frontSharesRow.domain false Rows.frontSharesRow.laid) (((OpenSpec.ofChange Rows.frontSharesSpec).at F).post enc Try.prog Try.f11 false true false false) := by
  obtain ⟨places, hx⟩ : ∃ places, DataW.whole enc Try.prog ((World.holding Try.prog os ⟨#[], #[], []⟩).forCall (fun _ _ => 0) ⟨#[], #[.int .i64 0, .int .i64 0], []⟩).memory Try.f11.params.toList Rows.frontSharesSpec.vars false (#[.int .i64 0, .int .i64 0] : Array Value).toList 8 = some ([.lit (.int .i64 0), .lit (.int .i64 0)], [], places) := ⟨[], by kernel_rfl⟩
  refine returnsInHanded_of_row (C := Try.checked) (s := OpenSpec.ofChange Rows.frontSharesSpec) own started (by kernel_rfl) Try.func11
    (witness_row_at (enc := enc) (C := Try.checked) false (World.holding Try.prog os ⟨#[], #[], []⟩) #[.int .i64 0, .int .i64 0] rfl (by kernel_rfl) (by kernel_rfl) (by kernel_rfl)
      (OpenSpec.preRow_of_cond 8 hx (by kernel_rfl) (fun k hk => by cases hk) (by kernel_rfl) (laidMet_nil _ _))) ?_
  intro W base args ds gs before hval hW _ _ hz hL hsh _
  refine (frontShares_walk H enc W base args ds gs before hval hW hz hL hsh).mono fun e W' ⟨he, hb⟩ => ⟨_, he, ?_⟩
  exact law_post (fn := Try.f11) (s := Rows.frontSharesSpec) (tb := 4) rfl (fun ds hd => by match ds, hd with | [d0, d1], _ => rfl) rfl Try.underlying4 (by kernel_rfl) hW hb

theorem frontShares_said : Rows.FrontSharesSaid :=
  OpenClaim.holds_of_cond 11 Try.f11 rfl rfl rfl rfl rfl rfl rfl ⟨rfl, rfl, rfl, rfl, rfl⟩ rfl rfl rfl rfl rfl (by kernel_rfl) Try.func11 (by kernel_rfl)
    (of_decide_eq_true (by kernel_rfl)) (by unfold Func.isWrapper; first | (rw [if_pos (by decide +kernel)]; kernel_rfl) | (rw [if_neg (by decide +kernel)]; exact ⟨rfl, rfl⟩))
    (fun os started H enc _ F => by rw [OpenClaim.pre_eq_preRow]; exact frontShares_lifted os started H enc F)
end Go.Proofs.Ytdahfejecbcakaa
