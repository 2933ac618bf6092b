/- A dictionary of texts: Locate, Prefix. -/
import Derived.Test.YtdahfejecbcakaaFront
import Derived.Shelf.Abstract
namespace Go.Proofs.Ytdahfejecbcakaa
set_option linter.unusedVariables false
set_option linter.unusedSimpArgs false
set_option maxRecDepth 100000
open Go.ChangeShapes Go.WideShapes Go.ChangeAt Go.RowKit

theorem cnan_any (a : List UInt8) (W : World) : Calls Try.prog 41 #[str a] W fun e W' => e = .returned (.bool false) ∧ W = W' := by
  go_enter Try.func41, Try.ntmps41
  go_wp2
  go_ret
  exact ⟨by simp, rfl⟩
theorem snan_any (a : List UInt8) (W : World) : Calls Try.prog 39 #[str a] W fun e W' => e = .returned (.bool false) ∧ W = W' := by
  go_enter Try.func39, Try.ntmps39
  go_wp2
  go_ret
  exact ⟨by simp, rfl⟩
theorem cless_any (a b : List UInt8) (W : World) : Calls Try.prog 38 #[str a, str b] W fun e W' => e = .returned (.bool (Op.bytesLess a b)) ∧ W = W' := by
  have NN := hid (fun x W => cnan_any x W)
  go_enter Try.func38, Try.ntmps38
  go_wp2_with (go_at_call 41; refine (NN.out _ _).mono ?_; rintro e w' ⟨rfl, rfl⟩)
  go_ret
  exact ⟨rfl, rfl⟩
/-- Is the text at a place the one that is asked for? -/
def Fr.fnd (L : List (List UInt8)) (t : List UInt8) (n r : Nat) : Bool := decide (r < n ∧ Fr.at_ L r = t)
theorem ret_nb {r : Int} {a b : Bool} (h : a = b) : Ending.returned (.tuple #[.int .i64 r, .bool a]) = .returned (.tuple #[.int .i64 r, .bool b]) := by rw [h]
theorem bs_any (v : Value) (L : List (List UInt8)) (t : List UInt8) (W : World) (h : TextsAt W v L) (hL : L.length ≤ 65536) (hs : ∀ a b, a ≤ b → b < L.length → Fr.lt (Fr.at_ L b) t = true → Fr.lt (Fr.at_ L a) t = true) :
    Calls Try.prog 29 #[v, str t] W fun e W' => ∃ r : Nat, e = .returned (.tuple #[.int .i64 r, .bool (Fr.fnd L t L.length r)]) ∧ r ≤ L.length ∧ (∀ j, j < r → Fr.lt (Fr.at_ L j) t = true) ∧ (∀ j, r ≤ j → j < L.length → Fr.lt (Fr.at_ L j) t = false) ∧ W = W' := by
  obtain ⟨a, cap, rfl, hc1, hc2, hc3, hR⟩ := h.open
  obtain ⟨n, hn⟩ : ∃ n, n = L.length := ⟨_, rfl⟩
  rw [← hn] at hc1 hc3 hR hL hs ⊢
  have HS := hid hs
  have CL := hid (fun a b W => cless_any a b W)
  have SN := hid (fun x W => snan_any x W)
  clear hs hn h
  go_enter Try.func29, Try.ntmps29
  go_wp2
  go_loop [7, 8, 9] (fun s7 s8 s9 => ∃ lo hi : Nat, s7 = .int .i64 lo ∧ s8 = .int .i64 hi ∧ lo ≤ hi ∧ hi ≤ n ∧ Hid ((∀ j, j < lo → Fr.lt (Fr.at_ L j) t = true) ∧ (∀ j, hi ≤ j → j < n → Fr.lt (Fr.at_ L j) t = false))) (fun s7 s8 _ => (intOf s8).toNat - (intOf s7).toNat)
  case atStart => exact ⟨0, n, rfl, rfl, Nat.zero_le _, Nat.le_refl _, fun j hj => absurd hj (Nat.not_lt_zero j), fun j h1 h2 => by omega⟩
  case round =>
    obtain ⟨lo, hi, rfl, rfl, hlh, hin, I⟩ := hrel
    by_cases hlt : lo < hi
    · obtain ⟨b, off, rfl, hc⟩ := hR.get (show lo < n by omega)
      obtain ⟨m, hm⟩ : ∃ m, m = (lo + hi) / 2 := ⟨_, rfl⟩
      have hmI : ((lo : Int) + (hi : Int)) / 2 = (m : Int) := by omega
      have hmn : m < n := by omega
      have hml : lo ≤ m := by omega
      have hmh : m < hi := by omega
      have c0 := hc m hmn
      have HX := hid (show Fr.at_ L m = L.getD m [] from rfl)
      obtain ⟨x, hx⟩ : ∃ x, x = L.getD m [] := ⟨_, rfl⟩
      rw [← hx] at c0 HX
      have CX := hid (fun W => CL.out x t W)
      cases hp : Op.bytesLess x t <;> rw [hp] at CX
      · have HP := hid hp
        clear hp hm hc hx
        go_wp2_with (go_at_call 38; refine (CX.out _).mono ?_; rintro e w' ⟨rfl, rfl⟩)
        go_round
        case rel =>
          refine ⟨lo, m, by go_num, by go_num, hml, by omega, I.out.1, fun j h1 h2 => ?_⟩
          cases hj : Fr.lt (Fr.at_ L j) t with
          | false => rfl
          | true =>
            have h3 := HS.out m j h1 h2 hj
            rw [HX.out] at h3
            exact absurd (HP.out.symm.trans h3) (by decide)
        case measure => simp [intOf]; omega
      · have HP := hid hp
        clear hp hm hc hx
        go_wp2_with (go_at_call 38; refine (CX.out _).mono ?_; rintro e w' ⟨rfl, rfl⟩)
        go_round
        case rel =>
          refine ⟨m + 1, hi, by go_num, by go_num, by omega, hin, fun j hj => ?_, I.out.2⟩
          by_cases hjl : j < lo
          · exact I.out.1 j hjl
          · refine HS.out j m (by omega) hmn ?_
            rw [HX.out]; exact HP.out
        case measure => simp [intOf]; omega
    · obtain rfl : lo = hi := by omega
      by_cases hln : lo < n
      · obtain ⟨b, off, rfl, hc⟩ := hR.get hln
        have c0 := hc lo hln
        have HX := hid (show Fr.at_ L lo = L.getD lo [] from rfl)
        obtain ⟨x, hx⟩ : ∃ x, x = L.getD lo [] := ⟨_, rfl⟩
        rw [← hx] at c0 HX
        by_cases hxt : x = t
        · have hb : (x == t) = true := beq_iff_eq.2 hxt
          have HT := hid hxt
          clear hc hx hxt
          go_wp2_with (go_at_call 39; refine (SN.out _ _).mono ?_; rintro e w' ⟨rfl, rfl⟩)
          go_ret2
          exact ⟨lo, ret_nb (show Fr.fnd L t n lo = true from decide_eq_true (show lo < n ∧ Fr.at_ L lo = t from ⟨hln, by rw [HX.out]; exact HT.out⟩)).symm, hin, I.out.1, I.out.2, rfl⟩
        · have hb : (x == t) = false := beq_eq_false_iff_ne.2 hxt
          have HT := hid hxt
          clear hc hx hxt
          go_wp2_with (go_at_call 39; refine (SN.out _ _).mono ?_; rintro e w' ⟨rfl, rfl⟩)
          go_ret2
          exact ⟨lo, ret_nb (show Fr.fnd L t n lo = false from decide_eq_false (show ¬ (lo < n ∧ Fr.at_ L lo = t) from fun h => HT.out (by rw [← HX.out]; exact h.2))).symm, hin, I.out.1, I.out.2, rfl⟩
      · go_wp2
        go_ret2
        exact ⟨lo, ret_nb (show Fr.fnd L t n lo = false from decide_eq_false (show ¬ (lo < n ∧ Fr.at_ L lo = t) from fun h => hln h.1)).symm, hin, I.out.1, I.out.2, rfl⟩
theorem may_mono {L : List (List UInt8)} (hm : Fr.May L) (t : List UInt8) : ∀ a b, a ≤ b → b < L.length → Fr.lt (Fr.at_ L b) t = true → Fr.lt (Fr.at_ L a) t = true := by
  intro a b hab hb h
  by_cases e : a = b
  · rw [e]; exact h
  · exact Fr.lt_trans (hm.lt (show a < b by omega) hb) h
theorem loc_any (p : Nat) (L : List (List UInt8)) (t : List UInt8) (W : World) (h : IsDict W p L) (hm : Fr.May L) :
    Calls Try.prog 19 #[.pointer (some ⟨p, 0, none⟩), str t] W fun e W' => e = .returned (.int .i64 (Fr.loc L t : Nat)) ∧ W = W' := by
  have LI := hid (list_any p L W h)
  have BS := hid (fun v h => bs_any v L t W h (by have := hm.1; omega) (may_mono hm t))
  have HM := hid hm
  have h300 := hm.1
  clear h hm
  go_enter Try.func19, Try.ntmps19
  go_wp2_with fail
  refine LI.out.mono ?_
  rintro e w' ⟨⟨v, rfl, hT, hB⟩, rfl⟩
  go_wp2_with fail
  refine (BS.out v hT).mono ?_
  rintro e w' ⟨r, rfl, hr, hlo, hhi, rfl⟩
  by_cases hf : r < L.length ∧ Fr.at_ L r = t
  · have e1 : Fr.loc L t = r + 1 := Fr.loc_first hf.1 hf.2 (fun j hj e => by
      have := hlo j hj
      rw [e, Fr.lt_irrefl] at this; cases this)
    have hd : Fr.fnd L t L.length r = true := decide_eq_true hf
    rw [hd]
    have HE := hid e1
    have hrl := hf.1
    clear hd e1 hf hlo hhi hT hB BS
    go_wp2
    go_ret
    exact ⟨ret_int (by rw [HE.out]; omega), rfl⟩
  · have e1 : Fr.loc L t = 0 := Fr.loc_none (fun j hj e => by
      rcases Nat.lt_or_ge j r with h1 | h1
      · have := hlo j h1
        rw [e, Fr.lt_irrefl] at this; cases this
      · by_cases e2 : j = r
        · exact hf ⟨by omega, by rw [← e2]; exact e⟩
        · have h2 := hhi r (Nat.le_refl _) (by omega)
          have h3 := HM.out.lt (show r < j by omega) hj
          rw [e] at h3
          rw [h2] at h3; cases h3)
    have hd : Fr.fnd L t L.length r = false := decide_eq_false hf
    rw [hd]
    have HE := hid e1
    clear hd e1 hf hlo hhi hT hB BS
    go_wp2
    go_ret
    exact ⟨ret_int (by rw [HE.out]; rfl), rfl⟩
/-! ### Prefix -/
theorem shas_any (s p : List UInt8) (W : World) (h1 : s.length ≤ 9223372036854775807) (h2 : p.length ≤ 9223372036854775807) : Calls Try.prog 40 #[str s, str p] W fun e W' => e = .returned (.bool (Fr.hasP p s)) ∧ W = W' := by
  unfold Fr.hasP
  by_cases h : p.length ≤ s.length
  · have e1 := ba_take s p.length
    obtain ⟨x, hx⟩ : ∃ x, x = s.take p.length := ⟨_, rfl⟩
    rw [← hx] at e1 ⊢
    rw [decide_eq_true h, Bool.true_and]
    clear hx
    go_enter Try.func40, Try.ntmps40
    go_wp2
    go_ret
    exact ⟨rfl, rfl⟩
  · rw [decide_eq_false h, Bool.false_and]
    go_enter Try.func40, Try.ntmps40
    go_wp2
    go_ret
    exact ⟨rfl, rfl⟩
theorem hasp_any (s p : List UInt8) (W : World) (h1 : s.length ≤ 9223372036854775807) (h2 : p.length ≤ 9223372036854775807) : Calls Try.prog 32 #[str s, str p] W fun e W' => e = .returned (.bool (Fr.hasP p s)) ∧ W = W' := by
  have SH := hid (shas_any s p W h1 h2)
  go_enter Try.func32, Try.ntmps32
  go_wp2_with (go_at_call 40; refine SH.out.mono ?_; rintro e w' ⟨rfl, rfl⟩)
  go_ret
  exact ⟨rfl, rfl⟩
theorem pref_any (b1 b2 : Nat) (a : Option Addr) (m cap i : Nat) (V : Nat → List UInt8) (t : List UInt8) (W : World) (h0 : W.cell? ⟨b1, 0, none⟩ = some (.slice a m cap)) (h1 : W.cell? ⟨b2, 0, none⟩ = some (str t))
    (hR : RowAt W a m fun i => str (V i)) (hi : i < m) (hm : m ≤ 65536) (hl : (V i).length ≤ 9223372036854775807) (ht : t.length ≤ 9223372036854775807) :
    Calls Try.prog 31 #[.int .i64 i, .pointer (some ⟨b1, 0, none⟩), .pointer (some ⟨b2, 0, none⟩)] W fun e W' => e = .returned (.bool (!Fr.hasP t (V i))) ∧ Below W.heap.size W W' := by
  obtain ⟨b, off, rfl, hc⟩ := hR.get hi
  have c0 := hc i hi
  obtain ⟨x, hx⟩ : ∃ x, x = V i := ⟨_, rfl⟩
  rw [← hx] at c0 hl ⊢
  have HP := hid (fun W => hasp_any x t W hl ht)
  clear hc hR hx
  go_enter Try.func31, Try.ntmps31
  go_wp2
  go_quiet (first | (go_at_call 32; exact drawn_same fun W hW => (HP.out W).mono fun _ _ h => ⟨h.1, h.2.symm⟩))
  go_wp2
  go_ret
  exact ⟨rfl, below_drawn (Below.refl _ _) _⟩
theorem search_any (g : Nat) (cb : Array Value) (n : Nat) (p : Nat → Bool) (w : World) (eg : ∀ args w, (callFunc g args).run Try.prog w = .ok (.enter g args) w) (hn : n ≤ 65536)
    (hf0 : ∀ W, Below w.heap.size w W → ∀ i : Nat, i < n → Calls Try.prog g (#[.int .i64 i] ++ cb) W fun e w' => e = .returned (.bool (p i)) ∧ Below W.heap.size W w')
    (hm0 : ∀ a b, a ≤ b → b < n → p a = true → p b = true) :
    Calls Try.prog 30 #[.int .i64 n, .func (.func g) #[] cb] w fun e w' => ∃ r : Nat, e = .returned (.int .i64 r) ∧ r ≤ n ∧ (∀ t, t < r → p t = false) ∧ (∀ t, r ≤ t → t < n → p t = true) ∧ Below w.heap.size w w' := by
  have HF := hid hf0
  have HM := hid hm0
  clear hf0 hm0
  go_enter Try.func30, Try.ntmps30
  go_wp2
  go_loopw [5, 6] (fun s5 s6 wr => ∃ lo hi : Nat, s5 = .int .i64 lo ∧ s6 = .int .i64 hi ∧ lo ≤ hi ∧ hi ≤ n ∧ Hid (Below w.heap.size w wr) ∧ Hid ((∀ t, t < lo → p t = false) ∧ (∀ t, hi ≤ t → t < n → p t = true))) (fun s5 s6 _ => (intOf s6).toNat - (intOf s5).toNat)
  case atStart => exact ⟨0, n, rfl, rfl, Nat.zero_le _, Nat.le_refl _, Below.refl _ _, fun t ht => absurd ht (Nat.not_lt_zero _), fun t h1 h2 => by omega⟩
  case round =>
    obtain ⟨lo, hi, rfl, rfl, hlh, hin, HB, I⟩ := hrel
    by_cases hlt : lo < hi
    · have hc := HF.out wr HB.out ((lo + hi) / 2) (by omega)
      rw [show (((lo + hi) / 2 : Nat) : Int) = ((lo : Int) + (hi : Int)) / 2 by omega] at hc
      cases hp : p ((lo + hi) / 2) <;> rw [hp] at hc
      · have HP := hid hp
        clear hp
        go_wp2_with (go_at_fn g; refine hc.mono ?_; rintro e w' ⟨rfl, hb'⟩)
        go_roundw
        case rel =>
          refine ⟨(lo + hi) / 2 + 1, hi, by go_num, rfl, by omega, hin, below_then HB.out hb', fun t ht => ?_, I.out.2⟩
          by_cases h : p t = true
          · have := HM.out t ((lo + hi) / 2) (by omega) (by omega) h
            rw [HP.out] at this; cases this
          · simpa using h
        case measure => simp [intOf]; omega
      · have HP := hid hp
        clear hp
        go_wp2_with (go_at_fn g; refine hc.mono ?_; rintro e w' ⟨rfl, hb'⟩)
        go_roundw
        case rel =>
          refine ⟨lo, (lo + hi) / 2, rfl, by go_num, by omega, by omega, below_then HB.out hb', I.out.1, fun t h1 h2 => HM.out _ t h1 h2 HP.out⟩
        case measure => simp [intOf]; omega
    · obtain rfl : lo = hi := by omega
      go_wp2
      go_ret
      exact ⟨lo, rfl, hin, I.out.1, I.out.2, HB.out⟩

theorem row_back {W : World} {a : Option Addr} {n r : Nat} {V : Nat → Value} (h : RowAt W a n V) (hr : r ≤ n) : RowAt W (a.map fun x => x.add r) (n - r) (fun i => V (r + i)) := by
  rcases h with h0 | ⟨b, off, rfl, hc⟩
  · exact Or.inl (by omega)
  · rcases Nat.eq_zero_or_pos (n - r) with h0 | h0
    · exact Or.inl h0
    · refine Or.inr ⟨b, off + r, ?_, fun i hi => ?_⟩
      · simp only [Option.map_some]
        rw [Addr.add_lit]
      · rw [Nat.add_assoc]
        exact hc (r + i) (by omega)
theorem pre_search (b1 b2 : Nat) (a : Option Addr) (m cap r : Nat) (L : List (List UInt8)) (t : List UInt8) (w : World) (h0 : w.cell? ⟨b1, 0, none⟩ = some (.slice a m cap)) (h1 : w.cell? ⟨b2, 0, none⟩ = some (str t))
    (hR : RowAt w a m fun i => str (L.getD (r + i) [])) (hmr : m = L.length - r) (hr : r ≤ L.length) (hm : Fr.May L) (ht : t.length ≤ 9223372036854775807)
    (hlo : ∀ j, j < r → Fr.lt (Fr.at_ L j) t = true) (hhi : ∀ j, r ≤ j → j < L.length → Fr.lt (Fr.at_ L j) t = false) :
    Calls Try.prog 30 #[.int .i64 m, .func (.func 31) #[] #[.pointer (some ⟨b1, 0, none⟩), .pointer (some ⟨b2, 0, none⟩)]] w fun e w' => ∃ n : Nat, e = .returned (.int .i64 n) ∧ n ≤ m ∧ Fr.prefK L t L.length = (if n = 0 then (0, 0) else (r + 1, r + n)) ∧ Below w.heap.size w w' := by
  have h300 := hm.1
  refine (search_any 31 #[.pointer (some ⟨b1, 0, none⟩), .pointer (some ⟨b2, 0, none⟩)] m (fun i => !Fr.hasP t (L.getD (r + i) [])) w ?eg ?hm ?hf ?mono).mono ?_
  case eg => intro args W; go_simp
  case hm => omega
  case hf =>
    intro W hW i hi
    exact pref_any b1 b2 a m cap i (fun i => L.getD (r + i) []) t W (below_keep hW h0) (below_keep hW h1) (hR.keep hW) hi (by omega) (by have := (hm.2 (r + i) (by omega)).2.1; unfold Fr.at_ at this; omega) ht
  case mono =>
    intro x y hxy hy hx
    simp only [Bool.not_eq_true'] at hx ⊢
    cases hp : Fr.hasP t (L.getD (r + y) []) with
    | false => rfl
    | true =>
      have e1 : Fr.lt (Fr.at_ L (r + x)) t = false := hhi (r + x) (by omega) (by omega)
      have e2 : Fr.lt (Fr.at_ L (r + y)) (Fr.at_ L (r + x)) = false := by
        by_cases e : x = y
        · rw [e]; exact Fr.lt_irrefl _
        · exact Fr.lt_asymm (hm.lt (show r + x < r + y by omega) (by omega))
      have := Fr.hasP_between e1 e2 hp
      unfold Fr.at_ at this
      rw [hx] at this; cases this
  · rintro e w' ⟨n, rfl, hn, h2, h3, hb⟩
    refine ⟨n, rfl, hn, ?_, hb⟩
    have key : ∀ j, j < L.length → Fr.hasP t (Fr.at_ L j) = decide (r ≤ j ∧ j < r + n) := by
      intro j hj
      rcases Nat.lt_or_ge j r with k1 | k1
      · rw [decide_eq_false (by omega)]
        cases hp : Fr.hasP t (Fr.at_ L j) with
        | false => rfl
        | true =>
          have e1 := Fr.not_lt_hasP hp
          rw [hlo j k1] at e1; cases e1
      · rcases Nat.lt_or_ge j (r + n) with k2 | k2
        · rw [decide_eq_true ⟨k1, k2⟩]
          have := h2 (j - r) (by omega)
          simp only [Bool.not_eq_false', show r + (j - r) = j by omega] at this
          exact this
        · rw [decide_eq_false (by omega)]
          have := h3 (j - r) (by omega) (by omega)
          simp only [Bool.not_eq_true', show r + (j - r) = j by omega] at this
          exact this
    rw [Fr.prefK_eq key L.length (Nat.le_refl _)]
    by_cases h0 : n = 0
    · rw [if_pos (.inr h0), if_pos h0]
    · rw [if_neg (by omega), if_neg h0, show min L.length (r + n) = r + n by omega]
theorem pre_any (p : Nat) (L : List (List UInt8)) (t : List UInt8) (W : World) (h : IsDict W p L) (hm : Fr.May L) (ht : t.length ≤ 9223372036854775807) :
    Calls Try.prog 16 #[.pointer (some ⟨p, 0, none⟩), str t] W fun e W' => e = .returned (.tuple #[.int .i64 ((Fr.prefK L t L.length).1 : Nat), .int .i64 ((Fr.prefK L t L.length).2 : Nat)]) ∧ Below W.heap.size W W' := by
  have LI := hid (fun W' (hW : Below W.heap.size W W') => list_any p L W' (h.keep hW))
  have BS := hid (fun v W' h => bs_any v L t W' h (by have := hm.1; omega) (may_mono hm t))
  have HM := hid hm
  have h300 := hm.1
  have HI := hid h
  clear h hm
  go_enter Try.func16, Try.ntmps16
  go_wp2_with fail
  refine (LI.out _ ((Below.refl _ _).alloc (Nat.le_refl _) _)).mono ?_
  rintro e w' ⟨⟨v, rfl, hT, hB⟩, rfl⟩
  go_wp2_with fail
  refine (BS.out v _ hT).mono ?_
  rintro e w' ⟨r, rfl, hr, hlo, hhi, rfl⟩
  obtain ⟨a, cap, rfl, hc1, hc2, hc3, hR⟩ := hT.open
  have HR := hid hR
  have HLO := hid hlo
  have HHI := hid hhi
  clear hR hlo hhi hT hB BS LI hc3
  have hs0 : (W.alloc (.cells #[str t] 9)).heap.size = W.heap.size + 1 := by simp
  by_cases hcr : cap = r
  · go_wp2_with fail
    refine (pre_search (W.heap.size + 1) W.heap.size a (L.length - r) 0 r L t _ (by simp [go_sem]) (by simp [go_sem]) (Or.inl (by omega)) rfl hr HM.out ht HLO.out HHI.out).mono ?_
    rintro e w3 ⟨n, rfl, hn, hK, hb⟩
    have HK := hid hK
    have HB := hid (((Below.refl W.heap.size W).alloc (Nat.le_refl _) (.cells #[str t] 9)).alloc (by simp) (.cells #[.slice a (L.length - r) 0] 22))
    have HB2 := hid (below_then HB.out hb)
    obtain rfl : n = 0 := by omega
    clear hK hb
    go_wp2
    go_ret2
    exact ⟨by rw [HK.out]; rfl, HB2.out⟩
  · go_wp2_with fail
    refine (pre_search (W.heap.size + 1) W.heap.size _ (L.length - r) (cap - r) r L t _ (by simp [go_sem]) (by simp [go_sem]) ((row_back HR.out hr).keep (((Below.refl _ _)).alloc (by simp) _)) rfl hr HM.out ht HLO.out HHI.out).mono ?_
    rintro e w3 ⟨n, rfl, hn, hK, hb⟩
    have HK := hid hK
    have HB := hid (((Below.refl W.heap.size W).alloc (Nat.le_refl _) (.cells #[str t] 9)).alloc (by simp) (.cells #[.slice (a.map fun x => x.add r) (L.length - r) (cap - r)] 22))
    have HB2 := hid (below_then HB.out hb)
    clear hK hb
    rcases Nat.eq_zero_or_pos n with h0 | h0
    · subst h0
      go_wp2
      go_ret2
      exact ⟨by rw [HK.out]; rfl, HB2.out⟩
    · have hn0 : ((n : Int) == 0) = false := beq_eq_false_iff_ne.2 (by omega)
      go_wp2
      go_ret2
      exact ⟨by rw [HK.out, if_neg (by omega)]; simp, HB2.out⟩
theorem pre_nil (t : List UInt8) (W : World) (ht : t.length ≤ 9223372036854775807) : Calls Try.prog 16 #[.pointer none, str t] W fun e W' => e = .returned (.tuple #[.int .i64 0, .int .i64 0]) ∧ Below W.heap.size W W' := by
  have LI := hid (fun W' => list_nil W')
  have BS := hid (fun W' => bs_any (.slice none 0 0) [] t W' (SlAt.nil _) (by simp) (fun a b _ h => by simp at h))
  have HM := hid (show Fr.May [] from ⟨by simp, fun i h => by simp at h⟩)
  go_enter Try.func16, Try.ntmps16
  go_wp2_with fail
  refine (LI.out _).mono ?_
  rintro e w' ⟨rfl, rfl⟩
  go_wp2_with fail
  refine (BS.out _).mono ?_
  rintro e w' ⟨r, rfl, hr, hlo, hhi, rfl⟩
  obtain rfl : r = 0 := by simpa using hr
  clear hlo hhi hr BS LI
  go_wp2_with fail
  refine (pre_search (W.heap.size + 1) W.heap.size none 0 0 0 [] t _ (by simp [go_sem]) (by simp [go_sem]) (Or.inl rfl) rfl (Nat.le_refl _) HM.out ht (fun j h => absurd h (Nat.not_lt_zero j)) (fun j _ h => by simp at h)).mono ?_
  rintro e w3 ⟨n, rfl, hn, hK, hb⟩
  have HB := hid (((Below.refl W.heap.size W).alloc (Nat.le_refl _) (.cells #[str t] 9)).alloc (by simp) (.cells #[.slice none 0 0] 22))
  have HB2 := hid (below_then HB.out hb)
  obtain rfl : n = 0 := by omega
  clear hK hb
  go_wp2
  go_ret2
  exact ⟨rfl, HB2.out⟩
end Go.Proofs.Ytdahfejecbcakaa
