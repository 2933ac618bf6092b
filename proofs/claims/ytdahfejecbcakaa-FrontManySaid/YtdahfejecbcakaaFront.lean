/- A dictionary of texts: New, Len, Locate, Extract. -/
import Derived.Test.YtdahfejecbcakaaTexts
import Derived.Test.YtdahfejecbcakaaFrMath
import Derived.Lib.SliceRun
namespace Go.Proofs.Ytdahfejecbcakaa
set_option linter.unusedVariables false
set_option linter.unusedSimpArgs false
set_option maxRecDepth 100000
open Go.ChangeShapes Go.WideShapes Go.ChangeAt Go.RowKit

theorem Try.info9 : (Try.prog.info? 9).map (fun i => (i.zero, i.size, i.bytes)) = some (some (.string ByteArray.empty), 1, 16) := by kernel_rfl
/-- Block p holds a dictionary of the texts L. -/
def IsDict (w : World) (p : Nat) (L : List (List UInt8)) : Prop := ∃ v, Blk w p [v] 51 ∧ TextsAt w v L
theorem IsDict.keep {w w' : World} {p : Nat} {L : List (List UInt8)} (h : IsDict w p L) (hb : Below w.heap.size w w') : IsDict w' p L := by
  obtain ⟨v, h1, h2⟩ := h
  exact ⟨v, h1.keep hb, h2.keep hb⟩
theorem texts_range (L : List (List UInt8)) (n : Nat) (hn : n = L.length) : (List.range n).map (fun i => str (L[i]?.getD [])) = L.map str := by
  subst hn
  refine List.ext_getElem (by simp) fun i h1 h2 => ?_
  simp [show i < L.length by simpa using h1]
/-- What lies in blocks from B on alone. -/
def From (B : Nat) (w : World) (v : Value) (L : List (List UInt8)) : Prop := ∀ w'', (∀ k, B ≤ k → k < w.heap.size → w''.heap[k]? = w.heap[k]?) → TextsAt w'' v L
theorem from_own {w : World} {B n : Nat} {v : Value} {L : List (List UInt8)} (h : w.ownsRow B 9 1 v n (L.map str)) (hn : n = L.length) : From B w v L := by
  intro w'' hw
  refine SlAt.own (base := B) (t := 9) (n := n) ?_ hn
  obtain ⟨h1, h2⟩ := h
  refine ⟨h1, ?_⟩
  rcases h2 with h2 | ⟨g, cap, cur, e, hg, hh, r⟩
  · exact .inl h2
  · exact .inr ⟨g, cap, cur, e, hg, by rw [hw g hg (lt_of_block hh)]; exact hh, r⟩
theorem clone_any (v : Value) (L : List (List UInt8)) (W : World) (h : TextsAt W v L) (hL : L.length ≤ 300) :
    Calls Try.prog 27 #[v] W fun e W' => ∃ v', e = .returned v' ∧ Below W.heap.size W W' ∧ TextsAt W' v' L ∧ From W.heap.size W' v' L := by
  obtain ⟨i0, hi, hz0, hz1, hz2⟩ := info_parts Try.info9
  obtain ⟨a, cap, rfl, hc1, hc2, hc3, hR⟩ := h.open
  obtain ⟨n, hn⟩ : ∃ n, n = L.length := ⟨_, rfl⟩
  rw [← hn] at hc1 hc3 hR hL ⊢
  cases a with
  | none =>
    obtain ⟨h1, h2⟩ := hc3 rfl
    have hl : L = [] := List.eq_nil_of_length_eq_zero (by omega)
    subst hl
    obtain rfl : n = 0 := h1
    obtain rfl : cap = 0 := h2
    clear h hc1 hc2 hc3 hR hi hz0 hz1 hz2 hn hL
    have he := fun W => Go.Lib.run_eql_slice_nil (P := Try.prog) W 22 9 none 0 0 0 0 Try.underlying22
    go_enter Try.func27, Try.ntmps27
    go_wp2
    go_ret
    exact ⟨_, rfl, Below.refl _ _, SlAt.nil _, fun _ _ => SlAt.nil _⟩
  | some a =>
    have HR := hid hR
    have HN := hid hn
    clear hc3 hR hn h
    have he := fun W => Go.Lib.run_eql_slice_nil (P := Try.prog) W 22 9 (some a) n cap 0 0 Try.underlying22
    go_enter Try.func27, Try.ntmps27
    go_wp2_with (at_builtin; refine wpList_append_row rfl (.tmp 5) (.tmp 6) 22 rfl W.heap.size 9 i0 _ 16 Try.underlying22 hi hz0 hz1 hz2 rfl (.slice (some ⟨W.heap.size, 0, none⟩) 0 0) 0 [] rfl ?own (some a) n cap (fun i => str (L.getD i [])) rfl ?nil ?row ?one ?b1 ?b2 ?base ?_)
    case own => exact World.ownsRow_made W #[] 0 (Nat.le_refl _) (by unfold maxLen; omega) rfl
    case nil => exact fun h => by cases h
    case row => exact HR.out.keep ((Below.refl _ _).alloc (Nat.le_refl _) _)
    case one => intro j _; rfl
    case b1 => unfold maxLen; omega
    case b2 => omega
    case base => simp
    intro v1 w1 hown hgr
    rw [texts_range L n HN.out] at hown
    have hb : Below W.heap.size W w1 := ((Below.refl W.heap.size W).alloc (Nat.le_refl _) _).grown hgr (by simp) (fun k hk => by
      simp only [Value.ownBlock, Option.some.injEq] at hk; omega)
    have HO := hid hown
    have HB := hid hb
    clear hown hgr hb
    go_wp2
    go_ret
    exact ⟨_, rfl, HB.out, SlAt.own HO.out HN.out, from_own HO.out HN.out⟩
/-! ### New -/
theorem new_ok (v : Value) (L : List (List UInt8)) (W : World) (h : TextsAt W v L) (hm : Fr.May L) :
    Calls Try.prog 13 #[v] W fun e W' => ∃ p, e = .returned (.tuple #[.pointer (some ⟨p, 0, none⟩), .int .i64 0]) ∧ Below W.heap.size W W' ∧ IsDict W' p L ∧ W.heap.size ≤ p ∧
      (∀ w'', (∀ k, W.heap.size ≤ k → k < W'.heap.size → w''.heap[k]? = W'.heap[k]?) → IsDict w'' p L) := by
  have CL := hid (clone_any v L W h hm.1)
  obtain ⟨a, cap, rfl, hc1, hc2, hc3, hR⟩ := h.open
  obtain ⟨n, hn⟩ : ∃ n, n = L.length := ⟨_, rfl⟩
  have hn3 : n ≤ 300 := by rw [hn]; exact hm.1
  have HM := hid (fun i (hi : i < n) => hm.2 i (by omega))
  rw [← hn] at hc1 hR CL ⊢
  clear hc3 h hm hn
  go_enter Try.func13, Try.ntmps13
  go_wp2
  go_loop [11, 4, 5] (fun s11 s4 s5 => ∃ i : Nat, i ≤ n ∧ s11 = .int .i64 i) (fun s11 _ _ => n - (intOf s11).toNat)
  case atStart => exact ⟨0, by omega, rfl⟩
  case round =>
    obtain ⟨i, hin, rfl⟩ := hrel
    by_cases hlt : i < n
    · obtain ⟨b, off, rfl, hc⟩ := hR.get hlt
      have c0 := hc i hlt
      obtain ⟨h1, h2, h3⟩ := HM.out i hlt
      unfold Fr.at_ at h1 h2 h3
      obtain ⟨x, hx⟩ : ∃ x, x = L.getD i [] := ⟨_, rfl⟩
      rw [← hx] at c0 h1 h2 h3
      have hx0 : (x == []) = false := beq_eq_false_iff_ne.2 (by intro e; rw [e] at h1; simp at h1)
      rcases Nat.eq_zero_or_pos i with h0 | h0
      · subst h0
        rw [Nat.add_zero] at c0
        clear hc hx h3
        go_wp2
        go_round
        case rel => exact ⟨1, by omega, by go_num⟩
        case measure => simp [intOf]; omega
      · have c1 := hc (i - 1) (by omega)
        have h4 := h3 h0
        obtain ⟨y, hy⟩ : ∃ y, y = L.getD (i - 1) [] := ⟨_, rfl⟩
        rw [← hy] at c1 h4
        have h4 : Op.bytesLess y x = true := h4
        clear hc hx hy h3
        go_wp2
        go_round
        case rel => exact ⟨i + 1, by omega, by go_num⟩
        case measure => simp [intOf]; omega
    · obtain rfl : i = n := by omega
      go_wp2_with fail
      refine CL.out.mono ?_
      rintro e w1 ⟨v', rfl, hb, hT, hF⟩
      obtain ⟨a2, cap2, rfl, _, _, _, _⟩ := hT.open
      have HT := hid hT
      have HF := hid hF
      have HB := hid hb
      clear hT hF
      go_wp2
      go_ret2
      refine ⟨w1.heap.size, rfl, HB.out.alloc hb.size _, ⟨_, Blk.new _ _ _, HT.out.keep ((Below.refl _ _).alloc (Nat.le_refl _) _)⟩, hb.size, fun w'' hw => ⟨.slice a2 L.length cap2, ?_, ?_⟩⟩
      · have := Blk.new w1 [.slice a2 L.length cap2] 51
        unfold Blk at *
        rw [hw _ hb.size (by simp)]; exact this
      · refine HF.out w'' fun k h1 h2 => ?_
        rw [hw k h1 (by simp; omega), Below.heap_alloc _ _ _ h2]
/-- A first one that is none, where there is one. -/
theorem first_bad {n : Nat} {p : Nat → Prop} (h : ¬ ∀ i, i < n → p i) : ∃ k, k < n ∧ ¬ p k ∧ ∀ j, j < k → p j := by
  induction n with
  | zero => exact absurd (fun i hi => by omega) h
  | succ n ih =>
    by_cases hn : ∀ i, i < n → p i
    · refine ⟨n, by omega, fun hp => h fun i hi => ?_, hn⟩
      by_cases he : i = n
      · rw [he]; exact hp
      · exact hn i (by omega)
    · obtain ⟨k, hk, h1, h2⟩ := ih hn
      exact ⟨k, by omega, h1, h2⟩
theorem bad_parts {L : List (List UInt8)} {k : Nat} (h : ¬ Fr.OkAt L k) (hk : ∀ j, j < k → Fr.OkAt L j) : (Fr.at_ L k).length = 0 ∨ (1 ≤ (Fr.at_ L k).length ∧ 250 < (Fr.at_ L k).length) ∨ (1 ≤ (Fr.at_ L k).length ∧ (Fr.at_ L k).length ≤ 250 ∧ 0 < k ∧ Op.bytesLess (Fr.at_ L (k - 1)) (Fr.at_ L k) = false) := by
  unfold Fr.OkAt at h
  by_cases h1 : 1 ≤ (Fr.at_ L k).length
  · by_cases h2 : (Fr.at_ L k).length ≤ 250
    · by_cases h3 : 0 < k
      · cases h4 : Op.bytesLess (Fr.at_ L (k - 1)) (Fr.at_ L k) with
        | false => exact .inr (.inr ⟨h1, h2, h3, rfl⟩)
        | true => exact absurd ⟨h1, h2, fun _ => h4⟩ h
      · exact absurd ⟨h1, h2, fun h => absurd h h3⟩ h
    · exact .inr (.inl ⟨h1, by omega⟩)
  · exact .inl (by omega)
theorem new_no1 (a : Option Addr) (n cap : Nat) (W : World) (hn : 300 < n) (hm : n ≤ 9223372036854775807) :
    Calls Try.prog 13 #[.slice a n cap] W fun e W' => e = .returned (.tuple #[.pointer none, .int .i64 1]) ∧ W = W' := by
  go_enter Try.func13, Try.ntmps13
  go_wp2
  go_ret2
  exact ⟨rfl, rfl⟩
theorem new_no2 (a : Option Addr) (n cap k : Nat) (L : List (List UInt8)) (W : World) (hn : n ≤ 300) (hk : k < n) (hb : ¬ Fr.OkAt L k) (hg : ∀ j, j < k → Fr.OkAt L j) (hlen : (Fr.at_ L k).length ≤ 9223372036854775807) (hR : RowAt W a n fun i => str (L.getD i [])) :
    Calls Try.prog 13 #[.slice a n cap] W fun e W' => e = .returned (.tuple #[.pointer none, .int .i64 1]) ∧ W = W' := by
  have HP := hid (bad_parts hb hg)
  have HM := hid hg
  clear hb hg
  go_enter Try.func13, Try.ntmps13
  go_wp2
  go_loop [11, 4, 5] (fun s11 s4 s5 => ∃ i : Nat, i ≤ k ∧ s11 = .int .i64 i) (fun s11 _ _ => k - (intOf s11).toNat)
  case atStart => exact ⟨0, by omega, rfl⟩
  case round =>
    obtain ⟨i, hin, rfl⟩ := hrel
    have hltn : i < n := by omega
    obtain ⟨b, off, rfl, hc⟩ := hR.get hltn
    have c0 := hc i hltn
    by_cases hlt : i < k
    · obtain ⟨h1, h2, h3⟩ := HM.out i hlt
      unfold Fr.at_ at h1 h2 h3
      obtain ⟨x, hx⟩ : ∃ x, x = L.getD i [] := ⟨_, rfl⟩
      rw [← hx] at c0 h1 h2 h3
      have hx0 : (x == []) = false := beq_eq_false_iff_ne.2 (by intro e; rw [e] at h1; simp at h1)
      rcases Nat.eq_zero_or_pos i with h0 | h0
      · subst h0
        rw [Nat.add_zero] at c0
        clear hc hx h3
        go_wp2
        go_round
        case rel => exact ⟨1, by omega, by go_num⟩
        case measure => simp [intOf]; omega
      · have c1 := hc (i - 1) (by omega)
        have h4 := h3 h0
        obtain ⟨y, hy⟩ : ∃ y, y = L.getD (i - 1) [] := ⟨_, rfl⟩
        rw [← hy] at c1 h4
        have h4 : Op.bytesLess y x = true := h4
        clear hc hx hy h3
        go_wp2
        go_round
        case rel => exact ⟨i + 1, by omega, by go_num⟩
        case measure => simp [intOf]; omega
    · obtain rfl : i = k := by omega
      have hp := HP.out
      unfold Fr.at_ at hp hlen
      obtain ⟨x, hx⟩ : ∃ x, x = L.getD i [] := ⟨_, rfl⟩
      rw [← hx] at c0 hp hlen
      rcases hp with h1 | ⟨h1, h2⟩ | ⟨h1, h2, h3, h4⟩
      · obtain rfl : x = [] := List.eq_nil_of_length_eq_zero h1
        rcases Nat.eq_zero_or_pos i with h0 | h0
        · subst h0
          rw [Nat.add_zero] at c0
          clear hc hx
          go_wp2
          go_ret2
          exact ⟨rfl, rfl⟩
        · clear hc hx
          go_wp2
          go_ret2
          exact ⟨rfl, rfl⟩
      · have hx0 : (x == []) = false := beq_eq_false_iff_ne.2 (by intro e; rw [e] at h1; simp at h1)
        rcases Nat.eq_zero_or_pos i with h0 | h0
        · subst h0
          rw [Nat.add_zero] at c0
          clear hc hx
          go_wp2
          go_ret2
          exact ⟨rfl, rfl⟩
        · clear hc hx
          go_wp2
          go_ret2
          exact ⟨rfl, rfl⟩
      · have hx0 : (x == []) = false := beq_eq_false_iff_ne.2 (by intro e; rw [e] at h1; simp at h1)
        have c1 := hc (i - 1) (by omega)
        obtain ⟨y, hy⟩ : ∃ y, y = L.getD (i - 1) [] := ⟨_, rfl⟩
        rw [← hy] at c1 h4
        clear hc hx hy
        go_wp2
        go_ret2
        exact ⟨rfl, rfl⟩
theorem new_no (v : Value) (L : List (List UInt8)) (W : World) (h : TextsAt W v L) (hl : ∀ i, (L.getD i []).length ≤ 140737488351232) (hm : ¬ Fr.May L) :
    Calls Try.prog 13 #[v] W fun e W' => e = .returned (.tuple #[.pointer none, .int .i64 1]) ∧ W = W' := by
  obtain ⟨a, cap, rfl, hc1, hc2, hc3, hR⟩ := h.open
  have hlen := h.len
  by_cases h3 : 300 < L.length
  · exact new_no1 a _ cap W h3 (by unfold maxLen at hlen; omega)
  · obtain ⟨k, hk, hb, hg⟩ := first_bad (n := L.length) (p := Fr.OkAt L) (fun h => hm ⟨by omega, h⟩)
    exact new_no2 a _ cap k L W (by omega) hk hb hg (by have := hl k; unfold Fr.at_; omega) hR
/-! ### Len, Extract -/
theorem list_any (p : Nat) (L : List (List UInt8)) (W : World) (h : IsDict W p L) : Calls Try.prog 28 #[.pointer (some ⟨p, 0, none⟩)] W fun e W' => (∃ v, e = .returned v ∧ TextsAt W v L ∧ Blk W p [v] 51) ∧ W = W' := by
  obtain ⟨v, B, hT⟩ := h
  have HT := hid hT
  have c0 := B.cell (i := 0) (v := v) rfl
  obtain ⟨a, cap, rfl, _, _, _, _⟩ := hT.open
  have HB := hid B
  clear hT B
  go_enter Try.func28, Try.ntmps28
  go_wp2
  go_ret
  exact ⟨⟨_, rfl, HT.out, HB.out⟩, rfl⟩
theorem list_nil (W : World) : Calls Try.prog 28 #[.pointer none] W fun e W' => e = .returned (.slice none 0 0) ∧ W = W' := by
  go_enter Try.func28, Try.ntmps28
  go_wp2
  go_ret
  exact ⟨rfl, rfl⟩
theorem dlen_any (p : Nat) (L : List (List UInt8)) (W : World) (h : IsDict W p L) : Calls Try.prog 25 #[.pointer (some ⟨p, 0, none⟩)] W fun e W' => e = .returned (.int .i64 L.length) ∧ W = W' := by
  have LI := hid (list_any p L W h)
  clear h
  go_enter Try.func25, Try.ntmps25
  go_wp2_with fail
  refine LI.out.mono ?_
  rintro e w' ⟨⟨v, rfl, hT, hB⟩, rfl⟩
  obtain ⟨a, cap, rfl, _, _, _, _⟩ := hT.open
  clear hT hB
  go_wp2
  go_ret
  exact ⟨rfl, rfl⟩
theorem dlen_nil (W : World) : Calls Try.prog 25 #[.pointer none] W fun e W' => e = .returned (.int .i64 0) ∧ W = W' := by
  have LI := hid (list_nil W)
  go_enter Try.func25, Try.ntmps25
  go_wp2_with fail
  refine LI.out.mono ?_
  rintro e w' ⟨rfl, rfl⟩
  go_wp2
  go_ret
  exact ⟨rfl, rfl⟩
theorem ext_any (p : Nat) (L : List (List UInt8)) (id : Int) (W : World) (h : IsDict W p L) (hid1 : -9223372036854775808 ≤ id) : Calls Try.prog 26 #[.pointer (some ⟨p, 0, none⟩), .int .i64 id] W fun e W' => e = .returned (str (Fr.ext L id)) ∧ W = W' := by
  have LN := hid (dlen_any p L W h)
  unfold Fr.ext
  by_cases h1 : id < 1
  · rw [if_pos (.inl h1)]
    go_enter Try.func26, Try.ntmps26
    go_wp2
    go_ret
    exact ⟨rfl, rfl⟩
  · obtain ⟨k, rfl⟩ : ∃ k : Nat, id = k := ⟨id.toNat, by omega⟩
    obtain ⟨v, B, hT⟩ := h
    have c0 := B.cell (i := 0) (v := v) rfl
    obtain ⟨a, cap, rfl, hc1, hc2, _, hR⟩ := hT.open
    obtain ⟨n, hn⟩ : ∃ n, n = L.length := ⟨_, rfl⟩
    rw [← hn] at LN c0 hR hc1 ⊢
    by_cases h2 : n < k
    · rw [if_pos (.inr (by omega))]
      clear hT B hn c0 hR
      go_enter Try.func26, Try.ntmps26
      go_wp2_with (go_at_call 25; refine LN.out.mono ?_; rintro e w' ⟨rfl, rfl⟩)
      go_ret
      exact ⟨rfl, rfl⟩
    · rw [if_neg (by omega)]
      obtain ⟨b, off, rfl, hc⟩ := hR.get (show k - 1 < n by omega)
      have c1 := hc (k - 1) (by omega)
      unfold Fr.at_
      rw [show ((k : Int)).toNat - 1 = k - 1 by omega]
      obtain ⟨x, hx⟩ : ∃ x, x = L.getD (k - 1) [] := ⟨_, rfl⟩
      rw [← hx] at c1 ⊢
      have hk1 : 1 ≤ k := by omega
      have hn63 : n ≤ 9223372036854775807 := by unfold maxLen at hc2; omega
      have hwr : IntKind.i64.wrap ((k : Int) - 1) = ((k - 1 : Nat) : Int) := by rw [IntKind.wrap_i64]; omega
      clear hT B hn hR hc hx
      go_enter Try.func26, Try.ntmps26
      go_wp2_with (go_at_call 25; refine LN.out.mono ?_; rintro e w' ⟨rfl, rfl⟩)
      go_ret
      exact ⟨rfl, rfl⟩
theorem ext_nil (id : Int) (W : World) : Calls Try.prog 26 #[.pointer none, .int .i64 id] W fun e W' => e = .returned (str []) ∧ W = W' := by
  have LN := hid (dlen_nil W)
  by_cases h1 : id < 1
  · go_enter Try.func26, Try.ntmps26
    go_wp2
    go_ret
    exact ⟨rfl, rfl⟩
  · have h2 : 0 < id := by omega
    go_enter Try.func26, Try.ntmps26
    go_wp2_with (go_at_call 25; refine LN.out.mono ?_; rintro e w' ⟨rfl, rfl⟩)
    go_ret
    exact ⟨rfl, rfl⟩
end Go.Proofs.Ytdahfejecbcakaa
