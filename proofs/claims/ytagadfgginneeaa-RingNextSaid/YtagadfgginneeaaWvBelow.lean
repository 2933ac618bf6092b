/- A wave: how many of a range are below a number. -/
import Derived.Test.YtagadfgginneeaaWvAsk
import Derived.Deep.DeepCutAuto
namespace Go.Proofs.Ytagadfgginneeaa
set_option linter.unusedVariables false
set_option maxRecDepth 100000
set_option linter.unusedSimpArgs false
open Go.ChangeShapes Go.WideShapes Go.ChangeAt Go.RowKit

/-- A level, boxed, as worlds that have grown see it. -/
theorem lev_box (W : World) (a b : Value) (t : TypeId) : ∃ w2, w2 = W.alloc (.cells #[a, b] t) ∧ (∀ p : Later w2.heap.size w2, p.it.cell? ⟨W.heap.size, 0, none⟩ = some a) ∧ (∀ p : Later w2.heap.size w2, p.it.cell? ⟨W.heap.size, 1, none⟩ = some b) ∧ w2.cell? ⟨W.heap.size, 0, none⟩ = some a ∧ w2.cell? ⟨W.heap.size, 1, none⟩ = some b ∧ Hid (Below W.heap.size W w2) := by
  have h0 : (W.alloc (.cells #[a, b] t)).cell? ⟨W.heap.size, 0, none⟩ = some a := by simp [go_sem]
  have h1 : (W.alloc (.cells #[a, b] t)).cell? ⟨W.heap.size, 1, none⟩ = some b := by simp [go_sem]
  exact ⟨_, rfl, fun p => p.keep h0, fun p => p.keep h1, h0, h1, (Below.refl W.heap.size W).alloc (Nat.le_refl _) _⟩
theorem digit_at (u d : Nat) (hu : u < 9223372036854775808) : (bits BinOp.and IntKind.i64 ((u : Int) / 2 ^ d) 1 == 1) = u.testBit d := by
  rw [Bn.i64_bit u d hu]
  cases u.testBit d <;> rfl
theorem wbelow_low (v : Value) (a b : Nat) (x : Int) (w : World) (h : x ≤ 0) : Calls Try.prog 50 #[v, .int .i64 a, .int .i64 b, .int .i64 x] w fun e w' => e = .returned (.int .i64 0) ∧ Below w.heap.size w w' := by
  go_enter Try.func50, Try.ntmps50
  go_wp2
  go_ret
  exact ⟨rfl, Below.refl _ _⟩
theorem wbelow_high (p wd a b : Nat) (x : Int) (ad : Option Addr) (cap : Nat) (w : World) (hc : w.cell? ⟨p, 1, none⟩ = some (.slice ad wd cap)) (hw : wd ≤ 20) (h : ((2 ^ wd : Nat) : Int) ≤ x) (hab : a ≤ b) (hb : b ≤ 1000) :
    Calls Try.prog 50 #[.pointer (some ⟨p, 0, none⟩), .int .i64 a, .int .i64 b, .int .i64 x] w fun e w' => e = .returned (.int .i64 (b - a : Nat)) ∧ Below w.heap.size w w' := by
  have TP := hid (fun W (hW : W = w) => wtop_any p wd ad cap W (by rw [hW]; exact hc) hw)
  have h4 := Nat.two_pow_pos wd
  generalize 2 ^ wd = P at h h4 TP
  have h5 : 0 < x := by omega
  go_enter Try.func50, Try.ntmps50
  go_wp2_with (go_at_call 73; refine (TP.out _ rfl).mono ?_; rintro e w' ⟨rfl, rfl⟩)
  go_ret
  exact ⟨ret_int (by omega), Below.refl _ _⟩
set_option maxHeartbeats 1000000 in
theorem wbelow_mid (p a b u wd : Nat) (l : List Nat) (w : World) (h : IsWave w p l wd) (h0 : 0 < u) (hu : u < 2 ^ wd) (hab : a ≤ b) (hb : b ≤ l.length) :
    Calls Try.prog 50 #[.pointer (some ⟨p, 0, none⟩), .int .i64 a, .int .i64 b, .int .i64 u] w fun e w' => e = .returned (.int .i64 (Wv.belowR (Wv.seg l a b) u : Nat)) ∧ Below w.heap.size w w' := by
  obtain ⟨hw, hn, hlt, ad, cap, c0, c1, hL⟩ := h
  have TP := hid (fun W (hW : W = w) => wtop_any p wd ad cap W (by rw [hW]; exact c1) hw)
  have h20 : 2 ^ wd ≤ 1048576 := Nat.pow_le_pow_right (by omega) hw
  have HS := hid (show Wv.belowR (Wv.seg l a b) u = Wv.low (Wv.seg l a b) wd u by
    rw [Wv.low_all _ wd u (fun x hx => hlt x (by unfold Wv.seg at hx; exact List.mem_of_mem_take (List.mem_of_mem_drop hx))) hu, Wv.belowR_nat])
  have hle := Wv.belowR_le (Wv.seg l a b) u
  rw [Wv.seg_length l a b hb] at hle
  obtain ⟨R, hR⟩ : ∃ R, R = Wv.belowR (Wv.seg l a b) u := ⟨_, rfl⟩
  rw [← hR] at HS hle ⊢
  have HU := hid hu
  obtain ⟨P, hP⟩ : ∃ P, P = 2 ^ wd := ⟨_, rfl⟩
  rw [← hP] at TP h20 hu
  have HL := hid hL
  clear hR hP hL hlt
  go_enter Try.func50, Try.ntmps50
  go_wp2_with (go_at_call 73; refine (TP.out _ rfl).mono ?_; rintro e w' ⟨rfl, rfl⟩)
  go_loopw [1, 2, 9, 29] (fun s1 s2 s9 s29 wr => ∃ k n : Nat, k ≤ wd ∧ s29 = .int .i64 k ∧ s9 = .int .i64 n ∧ n ≤ R ∧ s1 = .int .i64 (Wv.at' l wd u a k : Nat) ∧ s2 = .int .i64 (Wv.at' l wd u b k : Nat) ∧ Hid (Below w'.heap.size w' wr) ∧ Hid (n + Wv.low (Wv.with' (Wv.seg l a b) wd u k) (wd - k) u = R)) (fun _ _ _ s29 _ => wd - (intOf s29).toNat)
  case atStart => exact ⟨0, 0, by omega, rfl, rfl, by omega, rfl, rfl, Below.refl _ _, by rw [HS.out, Nat.zero_add, Wv.with_zero]; rfl⟩
  case round =>
    obtain ⟨k, n, hk, rfl, rfl, hnR, rfl, rfl, HB, HI⟩ := hrel
    by_cases hkw : k < wd
    · obtain ⟨bl, rfl, hl⟩ : ∃ b, ad = some ⟨b, 0, none⟩ ∧ ∀ k, k < wd → LevAt w' b l wd k := by
        rcases HL.out with h | h
        · omega
        · exact h
      obtain ⟨pv, d0, d1, V⟩ := (hl k hkw).keep HB.out
      have c1' := below_keep HB.out c1
      have hm := Wv.at_mono l wd u a b k hab hb
      have hal := Wv.at_le l wd u b k hb
      have hlen := Wv.rows_length l wd k
      have hu2 : u < 9223372036854775808 := by omega
      have hlr : (Wv.rows l wd k).length ≤ 1000 := by rw [hlen]; exact hn
      have hla : Wv.at' l wd u a k ≤ (Wv.rows l wd k).length := by omega
      have hlb : Wv.at' l wd u b k ≤ (Wv.rows l wd k).length := by omega
      have DN := hid (fun (i : Nat) (hi : i ≤ (Wv.rows l wd k).length) (one : Bool) (W : World) (hW : Below wr.heap.size wr W) => wdown_any pv (Wv.rows l wd k) (wd - 1 - k) i one W (V.keep hW) hlr hi)
      have DA := hid (fun (one : Bool) (W : World) (hW : Below wr.heap.size wr W) => DN.out (Wv.at' l wd u a k) hla one W hW)
      have DB := hid (fun (one : Bool) (W : World) (hW : Below wr.heap.size wr W) => DN.out (Wv.at' l wd u b k) hlb one W hW)
      have ea : ∀ one, Wv.down (Wv.rows l wd k) (wd - 1 - k) (Wv.at' l wd u a k) one ≤ l.length := fun one => by have := Wv.down_le (Wv.rows l wd k) (wd - 1 - k) _ one hla; omega
      have eb : ∀ one, Wv.down (Wv.rows l wd k) (wd - 1 - k) (Wv.at' l wd u b k) one ≤ l.length := fun one => by have := Wv.down_le (Wv.rows l wd k) (wd - 1 - k) _ one hlb; omega
      have em : ∀ one, Wv.down (Wv.rows l wd k) (wd - 1 - k) (Wv.at' l wd u a k) one ≤ Wv.down (Wv.rows l wd k) (wd - 1 - k) (Wv.at' l wd u b k) one := fun one => Wv.down_mono _ _ _ _ _ hm hlb
      have es : ∀ one, Wv.down (Wv.rows l wd k) (wd - 1 - k) (Wv.at' l wd u b k) one - Wv.down (Wv.rows l wd k) (wd - 1 - k) (Wv.at' l wd u a k) one = ((Wv.with' (Wv.seg l a b) wd u k).filter fun n => n.testBit (wd - 1 - k) == one).length := fun one => by
        rw [Wv.down_sub _ _ _ _ _ hm hlb, Wv.seg_rows l wd u a b k hab hb]
      have hls := Wv.low_succ (Wv.with' (Wv.seg l a b) wd u k) (wd - 1 - k) u
      rw [show wd - 1 - k + 1 = wd - k by omega, ← Wv.with_succ] at hls
      have na : Wv.at' l wd u a (k + 1) = Wv.down (Wv.rows l wd k) (wd - 1 - k) (Wv.at' l wd u a k) (u.testBit (wd - 1 - k)) := rfl
      have nb : Wv.at' l wd u b (k + 1) = Wv.down (Wv.rows l wd k) (wd - 1 - k) (Wv.at' l wd u b k) (u.testBit (wd - 1 - k)) := rfl
      generalize Wv.down (Wv.rows l wd k) (wd - 1 - k) (Wv.at' l wd u a k) = dA at DA ea em es na
      generalize Wv.down (Wv.rows l wd k) (wd - 1 - k) (Wv.at' l wd u b k) = dB at DB eb em es nb
      generalize Wv.at' l wd u a k = A at *
      generalize Wv.at' l wd u b k = B at *
      generalize Wv.zeros (Wv.rows l wd k) (wd - 1 - k) = z at *
      have HLS := hid hls
      have HNA := hid na
      have HNB := hid nb
      have HES := hid es
      have HEA := hid ea
      have HEB := hid eb
      have HEM := hid em
      have HLEN := hid hlen
      have hA : A ≤ 1000 := by omega
      have hB : B ≤ 1000 := by omega
      have hR1 : R ≤ 1000 := by omega
      clear hls na nb es ea eb em hlen hla hlb hlr DN hl c1 HL
      go_upto_region 9 with fail
      obtain ⟨w2, hw2, e0, e1, e0', e1', HB2⟩ := lev_box wr (.pointer (some ⟨pv, 0, none⟩)) (.int .i64 (z : Nat)) 76
      rw [← hw2]
      have c2 := below_keep HB2.out c1'
      have HBB := hid (below_then HB.out HB2.out)
      have HS2 := hid (show w2.heap.size = wr.heap.size + 1 by rw [hw2]; simp)
      clear hw2 d0 d1
      go_upto_region 10 with fail
      rw [digit_at u (wd - 1 - k) hu2]
      cases hbit : u.testBit (wd - 1 - k)
      · rw [hbit] at HLS HNA HNB
        have HBIT := hid hbit
        clear hbit
        go_wp2
        have DA1 := hid (fun q : Later w2.heap.size w2 => DA.out false q.it (below_then HB2.out q.low))
        have DB1 := hid (fun q : Later w2.heap.size w2 => DB.out false q.it (below_then HB2.out q.low))
        refine wp_region_later w2.heap.size (by kernel_rfl) (by kernel_rfl) ?_
        repeat (go_big_quiet_step (first
          | (go_at_call 62; with_reducible exact Later.call (Nat.le_refl _) (DA1.out _))
          | (go_at_call 62; with_reducible exact Later.call (Nat.le_refl _) (DB1.out _))))
        refine wpQuiet_nil ?_
        rintro _ ⟨q, rfl⟩
        go_wp2
        go_roundw
        case rel => exact ⟨k + 1, n, by omega, by go_num, rfl, hnR, by rw [HNA.out], by rw [HNB.out], below_then HBB.out q.low, hid (by have h1 := HLS.out; rw [if_neg (by simp)] at h1; have := HI.out; rw [show wd - (k + 1) = wd - 1 - k by omega]; omega)⟩
        case measure => simp [intOf]; omega
      · rw [hbit] at HLS HNA HNB
        have HBIT := hid hbit
        have hdl := HEM.out false
        have hdb := HEB.out false
        have hsub := HES.out false
        have hls := HLS.out
        rw [if_pos rfl, ← hsub] at hls
        have HLS2 := hid hls
        have hnn : n + (dB false - dA false) ≤ R := by have := HI.out; omega
        clear hbit hsub hls
        have DA1 := hid (fun q : Later w2.heap.size w2 => DA.out false q.it (below_then HB2.out q.low))
        have DB1 := hid (fun q : Later w2.heap.size w2 => DB.out false q.it (below_then HB2.out q.low))
        have DA2 := hid (fun q : Later w2.heap.size w2 => DA.out true q.it (below_then HB2.out q.low))
        have DB2 := hid (fun q : Later w2.heap.size w2 => DB.out true q.it (below_then HB2.out q.low))
        generalize dA false = x1 at *
        generalize dB false = x2 at *
        go_wp2
        refine wp_region_later w2.heap.size (by kernel_rfl) (by kernel_rfl) ?_
        repeat (go_big_quiet_step (first
          | (go_at_call 62; with_reducible exact Later.call (Nat.le_refl _) (DA1.out _))
          | (go_at_call 62; with_reducible exact Later.call (Nat.le_refl _) (DB1.out _))))
        refine wpQuiet_nil ?_
        rintro _ ⟨q3, rfl⟩
        have g0 := fun q : Later q3.it.heap.size q3.it => q.keep (e0 q3)
        have g1 := fun q : Later q3.it.heap.size q3.it => q.keep (e1 q3)
        have HB3 := hid (below_then HB2.out q3.low)
        have DA3 := hid (fun q : Later q3.it.heap.size q3.it => DA.out true q.it (below_then HB3.out q.low))
        have DB3 := hid (fun q : Later q3.it.heap.size q3.it => DB.out true q.it (below_then HB3.out q.low))
        have HBC := hid (below_then HBB.out q3.low)
        generalize q3.it = w3 at *
        clear DA1 DB1 DA2 DB2 e0 e1 e0' e1' c2 q3
        go_wp2
        refine wp_region_later w3.heap.size (by kernel_rfl) (by kernel_rfl) ?_
        repeat (go_big_quiet_step (first
          | (go_at_call 62; with_reducible exact Later.call (Nat.le_refl _) (DA3.out _))
          | (go_at_call 62; with_reducible exact Later.call (Nat.le_refl _) (DB3.out _))))
        refine wpQuiet_nil ?_
        rintro _ ⟨q, rfl⟩
        go_wp2
        go_roundw
        case rel => exact ⟨k + 1, n + (x2 - x1), by omega, by go_num, by go_num, hnn, by rw [HNA.out], by rw [HNB.out], below_then HBC.out q.low, hid (by have := HLS2.out; have := HI.out; rw [show wd - (k + 1) = wd - 1 - k by omega]; omega)⟩
        case measure => simp [intOf]; omega
    · obtain rfl : k = wd := by omega
      go_wp2
      go_ret
      have := HI.out
      rw [Nat.sub_self, Wv.low_zero] at this
      exact ⟨ret_int (by omega), HB.out⟩

theorem wbelow_any (p a b wd : Nat) (x : Int) (l : List Nat) (w : World) (h : IsWave w p l wd) (hab : a ≤ b) (hb : b ≤ l.length) :
    Calls Try.prog 50 #[.pointer (some ⟨p, 0, none⟩), .int .i64 a, .int .i64 b, .int .i64 x] w fun e w' => e = .returned (.int .i64 (Wv.belowR (Wv.seg l a b) x : Nat)) ∧ Below w.heap.size w w' := by
  have hlt : ∀ y ∈ Wv.seg l a b, y < 2 ^ wd := fun y hy => h.2.2.1 y (by unfold Wv.seg at hy; exact List.mem_of_mem_take (List.mem_of_mem_drop hy))
  by_cases h0 : x ≤ 0
  · rw [Wv.belowR_low _ _ h0]; exact wbelow_low _ a b x w h0
  · by_cases h1 : ((2 ^ wd : Nat) : Int) ≤ x
    · rw [Wv.belowR_high _ wd x hlt h1, Wv.seg_length _ _ _ hb]
      obtain ⟨hw, hn, _, ad, cap, c0, c1, _⟩ := h
      exact wbelow_high p wd a b x ad cap w c1 hw h1 hab (by omega)
    · obtain ⟨u, rfl⟩ := Int.eq_ofNat_of_zero_le (show 0 ≤ x by omega)
      exact wbelow_mid p a b u wd l w h (by omega) (by omega) hab hb
end Go.Proofs.Ytagadfgginneeaa
