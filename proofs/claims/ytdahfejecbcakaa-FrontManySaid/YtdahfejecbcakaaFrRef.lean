/- The document's own dictionary: May, Locate, Extract, Prefix. -/
import Derived.Test.YtdahfejecbcakaaFront3
namespace Go.Proofs.Ytdahfejecbcakaa
set_option linter.unusedVariables false
set_option linter.unusedSimpArgs false
set_option maxRecDepth 100000
open Go.ChangeShapes Go.WideShapes Go.ChangeAt Go.RowKit

theorem rmay_ok (a : Option Addr) (n cap : Nat) (L : List (List UInt8)) (W : World) (hn : n ≤ 9223372036854775806) (hg : ∀ j, j < n → Fr.OkAt L j) (hR : RowAt W a n fun i => str (L.getD i [])) :
    Calls Try.prog 14 #[.slice a n cap] W fun e W' => e = .returned (.bool (decide (n ≤ 300))) ∧ ∃ q, W' = W.drewN q := by
  have HM := hid hg
  have HR := hid hR
  clear hg hR
  go_enter Try.func14, Try.ntmps14
  go_wp2
  go_loopw [3] (fun s3 wr => ∃ i q : Nat, i ≤ n ∧ s3 = .int .i64 i ∧ wr = W.drewN q) (fun s3 _ => n - (intOf s3).toNat)
  case atStart => exact ⟨0, 0, by omega, rfl, rfl⟩
  case round =>
    obtain ⟨i, q, hin, rfl, rfl⟩ := hrel
    by_cases hlt : i < n
    · obtain ⟨b, off, rfl, hc⟩ := HR.out.get hlt
      have c0 := hc i hlt
      obtain ⟨h1, h2, h3⟩ := HM.out i hlt
      unfold Fr.at_ at h1 h2 h3
      obtain ⟨x, hx⟩ : ∃ x, x = L.getD i [] := ⟨_, rfl⟩
      rw [← hx] at c0 h1 h2 h3
      have d1 : decide ((x.length : Int) < 1) = false := decide_eq_false (by omega)
      have d2 : decide ((250 : Int) < (x.length : Int)) = false := decide_eq_false (by omega)
      rcases Nat.eq_zero_or_pos i with h0 | h0
      · subst h0
        rw [Nat.add_zero] at c0
        clear hc hx h3
        go_wp2
        go_quiet (fail)
        go_wp2
        go_roundw
        case rel => exact ⟨1, _, by omega, by go_num, rfl⟩
        case measure => simp [intOf]; omega
      · have c1 := hc (i - 1) (by omega)
        have h4 := h3 h0
        obtain ⟨y, hy⟩ : ∃ y, y = L.getD (i - 1) [] := ⟨_, rfl⟩
        rw [← hy] at c1 h4
        have h4 : Op.bytesLess y x = true := h4
        have d3 : decide ((0 : Int) < (i : Int)) = true := decide_eq_true (by omega)
        clear hc hx hy h3
        go_wp2
        go_quiet (fail)
        go_wp2
        go_roundw
        case rel => exact ⟨i + 1, _, by omega, by go_num, rfl⟩
        case measure => simp [intOf]; omega
    · obtain rfl : i = n := by omega
      go_wp2
      go_ret
      exact ⟨ret_bool (by rw [decide_eq_decide]; omega), _, rfl⟩
theorem rmay_bad (a : Option Addr) (n cap k : Nat) (L : List (List UInt8)) (W : World) (hn : n ≤ 9223372036854775806) (hk : k < n) (hb : ¬ Fr.OkAt L k) (hg : ∀ j, j < k → Fr.OkAt L j) (hlen : (Fr.at_ L k).length ≤ 9223372036854775807) (hR : RowAt W a n fun i => str (L.getD i [])) :
    Calls Try.prog 14 #[.slice a n cap] W fun e W' => e = .returned (.bool false) ∧ ∃ q, W' = W.drewN q := by
  have HP := hid (bad_parts hb hg)
  have HM := hid hg
  have HR := hid hR
  clear hb hg hR
  go_enter Try.func14, Try.ntmps14
  go_wp2
  go_loopw [3] (fun s3 wr => ∃ i q : Nat, i ≤ k ∧ s3 = .int .i64 i ∧ wr = W.drewN q) (fun s3 _ => k - (intOf s3).toNat)
  case atStart => exact ⟨0, 0, by omega, rfl, rfl⟩
  case round =>
    obtain ⟨i, q, hin, rfl, rfl⟩ := hrel
    have hltn : i < n := by omega
    obtain ⟨b, off, rfl, hc⟩ := HR.out.get hltn
    have c0 := hc i hltn
    by_cases hlt : i < k
    · obtain ⟨h1, h2, h3⟩ := HM.out i hlt
      unfold Fr.at_ at h1 h2 h3
      obtain ⟨x, hx⟩ : ∃ x, x = L.getD i [] := ⟨_, rfl⟩
      rw [← hx] at c0 h1 h2 h3
      have d1 : decide ((x.length : Int) < 1) = false := decide_eq_false (by omega)
      have d2 : decide ((250 : Int) < (x.length : Int)) = false := decide_eq_false (by omega)
      rcases Nat.eq_zero_or_pos i with h0 | h0
      · subst h0
        rw [Nat.add_zero] at c0
        clear hc hx h3
        go_wp2
        go_quiet (fail)
        go_wp2
        go_roundw
        case rel => exact ⟨1, _, by omega, by go_num, rfl⟩
        case measure => simp [intOf]; omega
      · have c1 := hc (i - 1) (by omega)
        have h4 := h3 h0
        obtain ⟨y, hy⟩ : ∃ y, y = L.getD (i - 1) [] := ⟨_, rfl⟩
        rw [← hy] at c1 h4
        have h4 : Op.bytesLess y x = true := h4
        have d3 : decide ((0 : Int) < (i : Int)) = true := decide_eq_true (by omega)
        clear hc hx hy h3
        go_wp2
        go_quiet (fail)
        go_wp2
        go_roundw
        case rel => exact ⟨i + 1, _, by omega, by go_num, rfl⟩
        case measure => simp [intOf]; omega
    · obtain rfl : i = k := by omega
      have hp := HP.out
      unfold Fr.at_ at hp hlen
      obtain ⟨x, hx⟩ : ∃ x, x = L.getD i [] := ⟨_, rfl⟩
      rw [← hx] at c0 hp hlen
      rcases hp with h1 | ⟨h1, h2⟩ | ⟨h1, h2, h3, h4⟩
      · have d1 : decide ((x.length : Int) < 1) = true := decide_eq_true (by omega)
        rcases Nat.eq_zero_or_pos i with h0 | h0
        · subst h0
          rw [Nat.add_zero] at c0
          clear hc hx
          go_wp2
          go_quiet (fail)
          go_wp2
          go_ret
          exact ⟨rfl, _, World.drewN_drewN _ _ _⟩
        · have c1 := hc (i - 1) (by omega)
          have d3 : decide ((0 : Int) < (i : Int)) = true := decide_eq_true (by omega)
          clear hc hx
          go_wp2
          go_quiet (fail)
          go_wp2
          go_ret
          exact ⟨rfl, _, World.drewN_drewN _ _ _⟩
      · have d1 : decide ((x.length : Int) < 1) = false := decide_eq_false (by omega)
        have d2 : decide ((250 : Int) < (x.length : Int)) = true := decide_eq_true (by omega)
        rcases Nat.eq_zero_or_pos i with h0 | h0
        · subst h0
          rw [Nat.add_zero] at c0
          clear hc hx
          go_wp2
          go_quiet (fail)
          go_wp2
          go_ret
          exact ⟨rfl, _, World.drewN_drewN _ _ _⟩
        · have c1 := hc (i - 1) (by omega)
          have d3 : decide ((0 : Int) < (i : Int)) = true := decide_eq_true (by omega)
          clear hc hx
          go_wp2
          go_quiet (fail)
          go_wp2
          go_ret
          exact ⟨rfl, _, World.drewN_drewN _ _ _⟩
      · have c1 := hc (i - 1) (by omega)
        obtain ⟨y, hy⟩ : ∃ y, y = L.getD (i - 1) [] := ⟨_, rfl⟩
        rw [← hy] at c1 h4
        have d1 : decide ((x.length : Int) < 1) = false := decide_eq_false (by omega)
        have d2 : decide ((250 : Int) < (x.length : Int)) = false := decide_eq_false (by omega)
        have d3 : decide ((0 : Int) < (i : Int)) = true := decide_eq_true (by omega)
        clear hc hx hy
        go_wp2
        go_quiet (fail)
        go_wp2
        go_ret
        exact ⟨rfl, _, World.drewN_drewN _ _ _⟩
theorem rmay_any (v : Value) (L : List (List UInt8)) (W : World) (h : TextsAt W v L) (hl : ∀ i, (L.getD i []).length ≤ 140737488351232) (hn : L.length ≤ 9223372036854775806) :
    Calls Try.prog 14 #[v] W fun e W' => e = .returned (.bool (decide (Fr.May L))) ∧ ∃ q, W' = W.drewN q := by
  obtain ⟨a, cap, rfl, hc1, hc2, hc3, hR⟩ := h.open
  by_cases hg : ∀ j, j < L.length → Fr.OkAt L j
  · have := rmay_ok a L.length cap L W hn hg hR
    rwa [show decide (Fr.May L) = decide (L.length ≤ 300) from decide_eq_decide.2 ⟨fun h => h.1, fun h => ⟨h, hg⟩⟩]
  · obtain ⟨k, hk, hb, hg2⟩ := first_bad (n := L.length) (p := Fr.OkAt L) hg
    have := rmay_bad a L.length cap k L W hn hk hb hg2 (by have := hl k; unfold Fr.at_; omega) hR
    rwa [show decide (Fr.May L) = false from decide_eq_false (fun h => hg h.2)]
theorem rloc_any (v : Value) (L : List (List UInt8)) (t : List UInt8) (W : World) (h : TextsAt W v L) (hn : L.length ≤ 9223372036854775806) :
    Calls Try.prog 20 #[v, str t] W fun e W' => e = .returned (.int .i64 (Fr.loc L t : Nat)) ∧ W = W' := by
  obtain ⟨a, cap, rfl, hc1, hc2, hc3, hR⟩ := h.open
  obtain ⟨n, hnn⟩ : ∃ n, n = L.length := ⟨_, rfl⟩
  have HN := hid hnn
  rw [← hnn] at hR hn
  clear h hc1 hc3
  rw [← hnn]
  clear hnn
  go_enter Try.func20, Try.ntmps20
  go_wp2
  go_loop [5] (fun s5 => ∃ i : Nat, i ≤ n ∧ s5 = .int .i64 i ∧ Hid (∀ j, j < i → Fr.at_ L j ≠ t)) (fun s5 => n - (intOf s5).toNat)
  case atStart => exact ⟨0, by omega, rfl, fun j h => absurd h (Nat.not_lt_zero j)⟩
  case round =>
    obtain ⟨i, hin, rfl, I⟩ := hrel
    by_cases hlt : i < n
    · obtain ⟨b, off, rfl, hc⟩ := hR.get hlt
      have c0 := hc i hlt
      have HX := hid (show Fr.at_ L i = L.getD i [] from rfl)
      obtain ⟨x, hx⟩ : ∃ x, x = L.getD i [] := ⟨_, rfl⟩
      rw [← hx] at c0 HX
      by_cases hxt : x = t
      · have hb : (x == t) = true := beq_iff_eq.2 hxt
        have HT := hid hxt
        clear hc hx hxt
        go_wp2
        go_ret
        exact ⟨ret_int (by rw [Fr.loc_first (k := i) (by rw [← HN.out]; exact hlt) (by rw [HX.out]; exact HT.out) I.out]; omega), rfl⟩
      · have hb : (x == t) = false := beq_eq_false_iff_ne.2 hxt
        have HT := hid hxt
        clear hc hx hxt
        go_wp2
        go_round
        case rel =>
          refine ⟨i + 1, by omega, by go_num, fun j hj => ?_⟩
          by_cases e : j = i
          · rw [e, HX.out]; exact HT.out
          · exact I.out j (by omega)
        case measure => simp [intOf]; omega
    · obtain rfl : i = n := by omega
      go_wp2
      go_ret
      exact ⟨ret_int (by rw [Fr.loc_none (fun j hj => I.out j (by rw [HN.out]; exact hj))]; rfl), rfl⟩
theorem rext_any (v : Value) (L : List (List UInt8)) (id : Int) (W : World) (h : TextsAt W v L) (hid1 : -9223372036854775808 ≤ id) : Calls Try.prog 33 #[v, .int .i64 id] W fun e W' => e = .returned (str (Fr.ext L id)) ∧ W = W' := by
  obtain ⟨a, cap, rfl, hc1, hc2, hc3, hR⟩ := h.open
  unfold Fr.ext
  by_cases h1 : id < 1
  · rw [if_pos (.inl h1)]
    clear hR h
    go_enter Try.func33, Try.ntmps33
    go_wp2
    go_ret
    exact ⟨rfl, rfl⟩
  · obtain ⟨k, rfl⟩ : ∃ k : Nat, id = k := ⟨id.toNat, by omega⟩
    obtain ⟨n, hn⟩ : ∃ n, n = L.length := ⟨_, rfl⟩
    rw [← hn] at hR hc1 ⊢
    by_cases h2 : n < k
    · rw [if_pos (.inr (by omega))]
      clear hn hR h
      go_enter Try.func33, Try.ntmps33
      go_wp2
      go_ret
      exact ⟨rfl, rfl⟩
    · rw [if_neg (by omega)]
      obtain ⟨b, off, rfl, hc⟩ := hR.get (show k - 1 < n by omega)
      have c1 := hc (k - 1) (by omega)
      unfold Fr.at_
      rw [show ((k : Int)).toNat - 1 = k - 1 by omega]
      obtain ⟨x, hx⟩ : ∃ x, x = L.getD (k - 1) [] := ⟨_, rfl⟩
      rw [← hx] at c1 ⊢
      have hk1 : 1 ≤ k := by omega
      have hn63 : n ≤ 9223372036854775807 := by unfold maxLen at hc2; omega
      have hwr : IntKind.i64.wrap ((k : Int) - 1) = ((k - 1 : Nat) : Int) := by rw [IntKind.wrap_i64]; omega
      clear hn hR hc hx h
      go_enter Try.func33, Try.ntmps33
      go_wp2
      go_ret
      exact ⟨rfl, rfl⟩
theorem rpre_any (v : Value) (L : List (List UInt8)) (t : List UInt8) (W : World) (h : TextsAt W v L) (hl : ∀ i, (L.getD i []).length ≤ 140737488351232) (hn : L.length ≤ 9223372036854775806) (ht : t.length ≤ 9223372036854775807) :
    Calls Try.prog 17 #[v, str t] W fun e W' => e = .returned (.tuple #[.int .i64 ((Fr.prefK L t L.length).1 : Nat), .int .i64 ((Fr.prefK L t L.length).2 : Nat)]) ∧ W = W' := by
  obtain ⟨a, cap, rfl, hc1, hc2, hc3, hR⟩ := h.open
  obtain ⟨n, hnn⟩ : ∃ n, n = L.length := ⟨_, rfl⟩
  rw [← hnn] at hR hn ⊢
  have HL := hid hl
  clear h hc1 hc3 hnn hl
  go_enter Try.func17, Try.ntmps17
  go_wp2
  go_loop [6, 7, 8] (fun s6 s7 s8 => ∃ i x y : Nat, i ≤ n ∧ s8 = .int .i64 i ∧ s6 = .int .i64 x ∧ s7 = .int .i64 y ∧ Hid (Fr.prefK L t i = (x, y))) (fun _ _ s8 => n - (intOf s8).toNat)
  case atStart => exact ⟨0, 0, 0, by omega, rfl, rfl, rfl, rfl⟩
  case round =>
    obtain ⟨i, u, y, hin, rfl, rfl, rfl, I⟩ := hrel
    by_cases hlt : i < n
    · obtain ⟨b, off, rfl, hc⟩ := hR.get hlt
      have c0 := hc i hlt
      have hxl := HL.out i
      have HX := hid (show Fr.at_ L i = L.getD i [] from rfl)
      obtain ⟨x, hx⟩ : ∃ x, x = L.getD i [] := ⟨_, rfl⟩
      rw [← hx] at c0 HX hxl
      clear hc hx
      by_cases hle : t.length ≤ x.length
      · have e1 := ba_take x t.length
        have HP := hid (show Fr.hasP t x = (x.take t.length == t) by unfold Fr.hasP; rw [decide_eq_true hle, Bool.true_and])
        obtain ⟨z, hz⟩ : ∃ z, z = x.take t.length := ⟨_, rfl⟩
        rw [← hz] at e1 HP
        clear hz
        cases hb : (z == t) with
        | true =>
          have HB := hid hb
          by_cases hu : u = 0
          · subst hu
            go_wp2
            go_round
            case rel => exact ⟨i + 1, i + 1, i + 1, by omega, by go_num, by go_num, by go_num, by rw [Fr.prefK, I.out, HX.out, HP.out, HB.out]; rfl⟩
            case measure => simp [intOf]; omega
          · have hu0 : ((u : Int) == 0) = false := beq_eq_false_iff_ne.2 (by omega)
            go_wp2
            go_round
            case rel => exact ⟨i + 1, u, i + 1, by omega, by go_num, by go_num, by go_num, by rw [Fr.prefK, I.out, HX.out, HP.out, HB.out, if_pos rfl, if_neg hu]; rfl⟩
            case measure => simp [intOf]; omega
        | false =>
          have HB := hid hb
          go_wp2
          go_round
          case rel => exact ⟨i + 1, u, y, by omega, by go_num, by go_num, by go_num, by rw [Fr.prefK, I.out, HX.out, HP.out, HB.out]; rfl⟩
          case measure => simp [intOf]; omega
      · have HP := hid (show Fr.hasP t x = false by unfold Fr.hasP; rw [decide_eq_false hle, Bool.false_and])
        go_wp2
        go_round
        case rel => exact ⟨i + 1, u, y, by omega, by go_num, by go_num, by go_num, by rw [Fr.prefK, I.out, HX.out, HP.out]; rfl⟩
        case measure => simp [intOf]; omega
    · obtain rfl : i = n := by omega
      go_wp2
      go_ret2
      exact ⟨by rw [I.out]; rfl, rfl⟩
theorem rshared_any (a b : List UInt8) (W : World) (ha : a.length ≤ 9223372036854775806) (hb : b.length ≤ 9223372036854775806) :
    Calls Try.prog 35 #[str a, str b] W fun e W' => e = .returned (.int .i64 (Fr.sh a b : Nat)) ∧ ∃ q, W' = W.drewN q := by
  obtain ⟨hla, hlb⟩ := Fr.sh_le a b
  go_enter Try.func35, Try.ntmps35
  go_wp2
  go_loopw [5] (fun s5 wr => ∃ i q : Nat, i ≤ Fr.sh a b ∧ s5 = .int .i64 i ∧ wr = W.drewN q) (fun s5 _ => Fr.sh a b - (intOf s5).toNat)
  case atStart => exact ⟨0, 0, by omega, rfl, rfl⟩
  case round =>
    obtain ⟨i, q, hi, rfl, rfl⟩ := hrel
    by_cases hlt : i < Fr.sh a b
    · obtain ⟨c, h1, h2⟩ := Fr.sh_same hlt
      have g1 := fun p => ba_get a i c h1 p
      have g2 := fun p => ba_get b i c h2 p
      have hia : i < a.length := by omega
      have hib : i < b.length := by omega
      clear h1 h2
      go_wp2
      go_quiet (fail)
      go_wp2
      go_roundw
      case rel => exact ⟨i + 1, _, by omega, by go_num, rfl⟩
      case measure => simp [intOf]; omega
    · have hi' : i = Fr.sh a b := by omega
      have HI := hid hi'
      by_cases hia : i < a.length
      · by_cases hib : i < b.length
        · obtain ⟨c, h1⟩ : ∃ c, a[i]? = some c := ⟨_, List.getElem?_eq_getElem hia⟩
          obtain ⟨d, h2⟩ : ∃ c, b[i]? = some c := ⟨_, List.getElem?_eq_getElem hib⟩
          have hcd := Fr.sh_stop (c := c) (d := d) (by rw [← hi']; exact h1) (by rw [← hi']; exact h2)
          have hcd2 : ((c.toNat : Int) == (d.toNat : Int)) = false := beq_eq_false_iff_ne.2 (fun e => hcd (UInt8.toNat_inj.1 (by omega)))
          have g1 := fun p => ba_get a i c h1 p
          have g2 := fun p => ba_get b i d h2 p
          clear h1 h2 hcd hi'
          go_wp2
          go_quiet (fail)
          go_wp2
          go_ret
          exact ⟨ret_int (by rw [HI.out]), _, World.drewN_drewN _ _ _⟩
        · clear hi'
          go_wp2
          go_quiet (fail)
          go_wp2
          go_ret
          exact ⟨ret_int (by rw [HI.out]), _, World.drewN_drewN _ _ _⟩
      · clear hi'
        go_wp2
        go_quiet (fail)
        go_wp2
        go_ret
        exact ⟨ret_int (by rw [HI.out]), _, World.drewN_drewN _ _ _⟩
/-- How much the first k texts are. -/
def Fr.lsum (L : List (List UInt8)) : Nat → Nat
  | 0 => 0
  | k + 1 => Fr.lsum L k + 1 + (Fr.at_ L k).length
theorem Fr.lsum_mono (L : List (List UInt8)) {i j : Nat} (h : i ≤ j) : Fr.lsum L i ≤ Fr.lsum L j := by
  induction j with
  | zero => rw [show i = 0 by omega]; exact Nat.le_refl _
  | succ j ih =>
    by_cases e : i = j + 1
    · rw [e]; exact Nat.le_refl _
    · have := ih (by omega)
      show _ ≤ Fr.lsum L j + 1 + (Fr.at_ L j).length
      omega
theorem Fr.lsum_len (L : List (List UInt8)) : ∀ k, k ≤ Fr.lsum L k
  | 0 => Nat.le_refl _
  | k + 1 => by have := Fr.lsum_len L k; show _ ≤ Fr.lsum L k + 1 + _; omega
theorem Fr.lsum_at (L : List (List UInt8)) {i k : Nat} (h : i < k) : (Fr.at_ L i).length ≤ Fr.lsum L k := by
  have := Fr.lsum_mono L (show i + 1 ≤ k by omega)
  have e : Fr.lsum L (i + 1) = Fr.lsum L i + 1 + (Fr.at_ L i).length := rfl
  omega
theorem long_any (v : Value) (L : List (List UInt8)) (W : World) (h : TextsAt W v L) (hl : ∀ i, (L.getD i []).length ≤ 140737488351232) (hn : L.length ≤ 9223372036854775806) :
    Calls Try.prog 12 #[v] W fun e W' => e = .returned (.bool (decide (20000 < Fr.lsum L L.length))) ∧ W = W' := by
  obtain ⟨a, cap, rfl, hc1, hc2, hc3, hR⟩ := h.open
  obtain ⟨n, hnn⟩ : ∃ n, n = L.length := ⟨_, rfl⟩
  rw [← hnn] at hR hn ⊢
  have HL := hid hl
  clear h hc1 hc3 hnn hl
  go_enter Try.func12, Try.ntmps12
  go_wp2
  go_loop [3, 4] (fun s3 s4 => ∃ i x : Nat, i ≤ n ∧ s4 = .int .i64 i ∧ s3 = .int .i64 x ∧ Hid (x = Fr.lsum L i) ∧ x ≤ 140737488381233) (fun _ s4 => n - (intOf s4).toNat)
  case atStart => exact ⟨0, 0, by omega, rfl, rfl, rfl, by omega⟩
  case round =>
    obtain ⟨i, u, hin, rfl, rfl, I, hu⟩ := hrel
    by_cases hlt : i < n
    · by_cases hu2 : u ≤ 20000
      · obtain ⟨b, off, rfl, hc⟩ := hR.get hlt
        have c0 := hc i hlt
        have hxl := HL.out i
        have HX := hid (show Fr.at_ L i = L.getD i [] from rfl)
        obtain ⟨x, hx⟩ : ∃ x, x = L.getD i [] := ⟨_, rfl⟩
        rw [← hx] at c0 HX hxl
        clear hc hx
        go_wp2
        go_round
        case rel => exact ⟨i + 1, u + 1 + x.length, by omega, by go_num, by go_num, by show _ = Fr.lsum L i + 1 + (Fr.at_ L i).length; rw [HX.out, I.out], by omega⟩
        case measure => simp [intOf]; omega
      · have hm := Fr.lsum_mono L (show i ≤ n by omega)
        have HD := hid (show decide (20000 < Fr.lsum L n) = true from decide_eq_true (by have := I.out; omega))
        clear hm
        go_wp2
        go_ret
        exact ⟨ret_bool HD.out.symm, rfl⟩
    · obtain rfl : i = n := by omega
      have HD := hid (show decide (20000 < Fr.lsum L i) = decide (20000 < u) by rw [I.out])
      by_cases hu2 : u ≤ 20000
      · go_wp2
        go_ret
        exact ⟨ret_bool (by rw [HD.out, decide_eq_decide]; omega), rfl⟩
      · go_wp2
        go_ret
        exact ⟨ret_bool (by rw [HD.out, decide_eq_decide]; omega), rfl⟩
end Go.Proofs.Ytdahfejecbcakaa
