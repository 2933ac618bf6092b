/- The document's own answers of a row of numbers. -/
import Derived.Test.YtpjflmocbmmmaaaBitsAsk
import Derived.Test.YtpjflmocbmmmaaaWvMath
import Derived.Deep.DeepCutAuto
namespace Go.Proofs.Ytpjflmocbmmmaaa
set_option linter.unusedVariables false
set_option linter.unusedSimpArgs false
set_option maxRecDepth 100000
open Go.ChangeShapes Go.WideShapes Go.ChangeAt Go.RowKit
/-- A row of numbers lies there. -/
def NatsAt (w : World) (a : Option Addr) (l : List Nat) : Prop := RowAt w a l.length fun i => .int .i64 ((l.getD i 0 : Nat) : Int)
theorem NatsAt.keep {w w' : World} {a : Option Addr} {l : List Nat} (h : NatsAt w a l) (hb : Below w.heap.size w w') : NatsAt w' a l := RowAt.keep h hb
theorem rcut_any (a : Option Addr) (n cap : Nat) (l : List Nat) (fr ed : Int) (w : World) (hn : n = l.length) (h : NatsAt w a l) (hc : n ≤ cap) (hm : cap ≤ maxLen) (h1000 : n ≤ 1000000) :
    Calls Try.prog 40 #[.slice a n cap, .int .i64 fr, .int .i64 ed] w fun e w' => ∃ a' cap', e = .returned (.slice a' (Wv.rng l fr ed).length cap') ∧ NatsAt w' a' (Wv.rng l fr ed) ∧ w' = w := by
  have HH := hid h
  have hlen := Wv.rng_length l fr ed
  have HG := hid (Wv.rng_get l fr ed)
  rw [← hn] at hlen HG
  have hd : ∃ A B : Nat, A = (min (max fr 0) n).toNat ∧ B = (min (max ed 0) n).toNat ∧ (B ≤ A → (Wv.rng l fr ed).length = 0) ∧ (A < B → (Wv.rng l fr ed).length = B - A ∧ Wv.loEnd n fr ed = A) := by
    refine ⟨_, _, rfl, rfl, fun h => ?_, fun h => ?_⟩ <;> (rw [hlen]; unfold Wv.loEnd Wv.hiEnd; omega)
  obtain ⟨A, B, hA, hB, hz, hp⟩ := hd
  have HN := hid hn
  have HA := hid hA
  have HB := hid hB
  have hBn : B ≤ n := by omega
  have HZ := hid hz
  have HP := hid hp
  clear hlen h hn hA hB hz hp
  unfold maxLen at hm
  go_enter Try.func40, Try.ntmps40
  go_upto_region 1 with fail
  go_cut [7, 8] (fun s7 s8 wx => s7 = .int .i64 A ∧ s8 = .int .i64 B ∧ wx = w)
  case first =>
    go_wp2_with fail
    all_goals
      go_meet
      refine ⟨?_, ?_, rfl⟩ <;> (first | rfl | (congr 1; have := HA.out; have := HB.out; omega))
  case rest =>
    obtain ⟨rfl, rfl, rfl⟩ := hcut
    by_cases hab : B ≤ A
    · have HZ0 := hid (HZ.out hab)
      have hge : ¬ ((A : Int) < B) := by omega
      go_wp2
      go_ret
      exact ⟨none, ⟨0, by rw [HZ0.out]; rfl⟩, Or.inl HZ0.out, rfl⟩
    · obtain ⟨e1, e2⟩ := HP.out (by omega)
      have hlt : A < B := by omega
      have hn0 : 0 < n := by omega
      obtain ⟨b, off, hab, hcl⟩ := (HH.out).get (i := 0) (by rw [← HN.out]; exact hn0)
      subst hab
      have HCL := hid hcl
      have HE := hid (And.intro e1 e2)
      clear hcl e1 e2
      go_wp2
      go_ret
      refine ⟨some ⟨b, off + A, none⟩, cap - A, by rw [HE.out.1]; rfl, ?_, rfl⟩
      refine Or.inr ⟨b, off + A, rfl, fun i hi => ?_⟩
      have h1 := HE.out.1
      have h2 := HN.out
      show _ = some (Value.int .i64 (((Wv.rng l fr ed).getD i 0 : Nat) : Int))
      rw [HG.out i hi, HE.out.2, Nat.add_assoc]
      exact HCL.out (A + i) (by omega)
theorem rcount_any (a : Option Addr) (n cap : Nat) (l : List Nat) (fr ed lo hi : Int) (w : World) (hn : n = l.length) (h : NatsAt w a l) (hc : n ≤ cap) (hm : cap ≤ maxLen) (h1000 : n ≤ 1000000) :
    Calls Try.prog 21 #[.slice a n cap, .int .i64 fr, .int .i64 ed, .int .i64 lo, .int .i64 hi] w fun e w' => e = .returned (.int .i64 (Wv.cntR (Wv.rng l fr ed) lo hi : Nat)) ∧ w' = w := by
  have CT := hid (fun W (hW : W = w) => by rw [hW]; exact rcut_any a n cap l fr ed w hn h hc hm h1000 : ∀ W, W = w → Calls Try.prog 40 #[.slice a n cap, .int .i64 fr, .int .i64 ed] W fun e w' => ∃ a' cap', e = .returned (.slice a' (Wv.rng l fr ed).length cap') ∧ NatsAt w' a' (Wv.rng l fr ed) ∧ w' = w)
  have hsl : (Wv.rng l fr ed).length ≤ 1000000 := by have := Wv.rng_length l fr ed; have := Wv.hiEnd_le l.length ed; omega
  generalize Wv.rng l fr ed = s at *
  obtain ⟨m, hm0⟩ : ∃ m, m = s.length := ⟨_, rfl⟩
  have hcl := Wv.cntR_le s lo hi
  rw [← hm0] at CT hsl hcl
  have HM := hid hm0
  clear hm0 h hn
  go_enter Try.func21, Try.ntmps21
  go_wp2_with (go_at_call 40; refine (CT.out _ rfl).mono ?_; rintro e w' ⟨a', cap', rfl, hS, rfl⟩)
  have HS := hid hS
  clear hS
  go_loop [11, 13] (fun s11 s13 => ∃ i c : Nat, i ≤ m ∧ s13 = .int .i64 i ∧ s11 = .int .i64 c ∧ c ≤ i ∧ Hid (c = Wv.cntR (s.take i) lo hi)) (fun _ s13 => m - (intOf s13).toNat)
  case atStart => exact ⟨0, 0, by omega, rfl, rfl, by omega, rfl⟩
  case round =>
    obtain ⟨i, c, him, rfl, rfl, hci, HC⟩ := hrel
    by_cases hlt : i < m
    · obtain ⟨b, off, rfl, hc0⟩ := (HS.out).get (i := i) (by rw [← HM.out]; exact hlt)
      have c0 := hc0 i (by rw [← HM.out]; exact hlt)
      have hst := Wv.cntR_take s lo hi i (by rw [← HM.out]; exact hlt)
      rw [← HC.out] at hst
      obtain ⟨x, hx⟩ : ∃ x, x = s.getD i 0 := ⟨_, rfl⟩
      rw [← hx] at c0 hst
      have hltI : (i : Int) < m := by omega
      have HST := hid hst
      clear hst hx hc0 hcl
      by_cases h1 : lo ≤ (x : Int)
      · by_cases h2 : (x : Int) ≤ hi
        · have HX := hid (And.intro h1 h2)
          go_wp2
          go_round
          case rel => exact ⟨i + 1, c + 1, by omega, by go_num, by go_num, by omega, hid (by rw [HST.out, if_pos HX.out])⟩
          case measure => simp [intOf]; omega
        · have HX := hid (show ¬ (lo ≤ (x : Int) ∧ (x : Int) ≤ hi) by omega)
          go_wp2
          go_round
          case rel => exact ⟨i + 1, c, by omega, by go_num, rfl, by omega, hid (by rw [HST.out, if_neg HX.out]; rfl)⟩
          case measure => simp [intOf]; omega
      · have HX := hid (show ¬ (lo ≤ (x : Int) ∧ (x : Int) ≤ hi) by omega)
        go_wp2
        go_round
        case rel => exact ⟨i + 1, c, by omega, by go_num, rfl, by omega, hid (by rw [HST.out, if_neg HX.out]; rfl)⟩
        case measure => simp [intOf]; omega
    · obtain rfl : i = m := by omega
      go_wp2
      go_ret
      have := HC.out
      rw [HM.out, List.take_length] at this
      exact ⟨ret_int (by rw [this]), rfl⟩
theorem rnext_any (a : Option Addr) (n cap : Nat) (l : List Nat) (fr ed v : Int) (w : World) (hn : n = l.length) (h : NatsAt w a l) (hc : n ≤ cap) (hm : cap ≤ maxLen) (h1000 : n ≤ 1000000) :
    Calls Try.prog 23 #[.slice a n cap, .int .i64 fr, .int .i64 ed, .int .i64 v] w fun e w' => e = .returned (.int .i64 (Wv.nxt (Wv.rng l fr ed) v)) ∧ w' = w := by
  have CT := hid (fun W (hW : W = w) => by rw [hW]; exact rcut_any a n cap l fr ed w hn h hc hm h1000 : ∀ W, W = w → Calls Try.prog 40 #[.slice a n cap, .int .i64 fr, .int .i64 ed] W fun e w' => ∃ a' cap', e = .returned (.slice a' (Wv.rng l fr ed).length cap') ∧ NatsAt w' a' (Wv.rng l fr ed) ∧ w' = w)
  have hsl : (Wv.rng l fr ed).length ≤ 1000000 := by have := Wv.rng_length l fr ed; have := Wv.hiEnd_le l.length ed; omega
  generalize Wv.rng l fr ed = s at *
  obtain ⟨m, hm0⟩ : ∃ m, m = s.length := ⟨_, rfl⟩
  rw [← hm0] at CT hsl
  have HM := hid hm0
  clear hm0 h hn
  go_enter Try.func23, Try.ntmps23
  go_wp2_with (go_at_call 40; refine (CT.out _ rfl).mono ?_; rintro e w' ⟨a', cap', rfl, hS, rfl⟩)
  have HS := hid hS
  clear hS
  go_loop [9, 11] (fun s9 s11 => ∃ (i : Nat) (c : Int), i ≤ m ∧ s11 = .int .i64 i ∧ s9 = .int .i64 c ∧ Hid (c = Wv.nxt (s.take i) v)) (fun _ s11 => m - (intOf s11).toNat)
  case atStart => exact ⟨0, -1, by omega, rfl, rfl, rfl⟩
  case round =>
    obtain ⟨i, c, him, rfl, rfl, HC⟩ := hrel
    by_cases hlt : i < m
    · obtain ⟨b, off, rfl, hc0⟩ := (HS.out).get (i := i) (by rw [← HM.out]; exact hlt)
      have c0 := hc0 i (by rw [← HM.out]; exact hlt)
      have hst := Wv.nxt_take s v i (by rw [← HM.out]; exact hlt)
      rw [← HC.out] at hst
      obtain ⟨x, hx⟩ : ∃ x, x = s.getD i 0 := ⟨_, rfl⟩
      rw [← hx] at c0 hst
      have hltI : (i : Int) < m := by omega
      have HST := hid hst
      clear hst hx hc0
      by_cases h1 : v ≤ (x : Int)
      · by_cases h2 : c < 0
        · have HX := hid (show v ≤ (x : Int) ∧ (c < 0 ∨ (x : Int) < c) by omega)
          go_wp2
          go_round
          case rel => exact ⟨i + 1, x, by omega, by go_num, rfl, hid (by rw [HST.out, if_pos HX.out])⟩
          case measure => simp [intOf]; omega
        · have h2' : 0 ≤ c := by omega
          by_cases h3 : (x : Int) < c
          · have HX := hid (show v ≤ (x : Int) ∧ (c < 0 ∨ (x : Int) < c) by omega)
            go_wp2
            go_round
            case rel => exact ⟨i + 1, x, by omega, by go_num, rfl, hid (by rw [HST.out, if_pos HX.out])⟩
            case measure => simp [intOf]; omega
          · have HX := hid (show ¬ (v ≤ (x : Int) ∧ (c < 0 ∨ (x : Int) < c)) by omega)
            go_wp2
            go_round
            case rel => exact ⟨i + 1, c, by omega, by go_num, rfl, hid (by rw [HST.out, if_neg HX.out])⟩
            case measure => simp [intOf]; omega
      · have HX := hid (show ¬ (v ≤ (x : Int) ∧ (c < 0 ∨ (x : Int) < c)) by omega)
        go_wp2
        go_round
        case rel => exact ⟨i + 1, c, by omega, by go_num, rfl, hid (by rw [HST.out, if_neg HX.out])⟩
        case measure => simp [intOf]; omega
    · obtain rfl : i = m := by omega
      go_wp2
      go_ret
      have := HC.out
      rw [HM.out, List.take_length] at this
      exact ⟨ret_int (by rw [this]), rfl⟩
theorem rrank_any (a : Option Addr) (n cap : Nat) (l : List Nat) (v k : Int) (w : World) (hn : n = l.length) (h : NatsAt w a l) (h1000 : n ≤ 1000000) :
    Calls Try.prog 17 #[.slice a n cap, .int .i64 v, .int .i64 k] w fun e w' => e = .returned (.int .i64 (Wv.cntR (Wv.rng l 0 k) v v : Nat)) ∧ w' = w := by
  have hK := Wv.rng_zero l k
  rw [← hn] at hK
  rw [hK]
  have hle := Wv.hiEnd_le n k
  have hh : (Wv.hiEnd n k : Int) = max 0 (min k n) := by unfold Wv.hiEnd; omega
  generalize Wv.hiEnd n k = K at *
  have HN := hid hn
  have HS := hid h
  have HH := hid hh
  clear hn hK h hh
  go_enter Try.func17, Try.ntmps17
  go_wp2
  go_loop [7, 8] (fun s7 s8 => ∃ i c : Nat, i ≤ K ∧ s8 = .int .i64 i ∧ s7 = .int .i64 c ∧ c ≤ i ∧ Hid (c = Wv.cntR (l.take i) v v)) (fun _ s8 => K - (intOf s8).toNat)
  case atStart => exact ⟨0, 0, by omega, rfl, rfl, by omega, rfl⟩
  case round =>
    obtain ⟨i, c, hik, rfl, rfl, hci, HC⟩ := hrel
    by_cases hlt : i < K
    · have h1 : (i : Int) < k := by have := HH.out; omega
      have h2 : i < n := by omega
      obtain ⟨b, off, rfl, hc0⟩ := (HS.out).get (i := i) (by rw [← HN.out]; exact h2)
      have c0 := hc0 i (by rw [← HN.out]; exact h2)
      have hst := Wv.cntR_take l v v i (by rw [← HN.out]; exact h2)
      rw [← HC.out] at hst
      obtain ⟨x, hx⟩ : ∃ x, x = l.getD i 0 := ⟨_, rfl⟩
      rw [← hx] at c0 hst
      have HST := hid hst
      clear hst hx hc0
      by_cases hxv : (x : Int) = v
      · have hb : ((x : Int) == v) = true := by rw [beq_iff_eq]; exact hxv
        have HX := hid hxv
        clear hxv
        go_wp2
        go_round
        case rel => exact ⟨i + 1, c + 1, by omega, by go_num, by go_num, by omega, hid (by rw [HST.out, if_pos (by have := HX.out; omega)])⟩
        case measure => simp [intOf]; omega
      · have hb : ((x : Int) == v) = false := by rw [beq_eq_false_iff_ne]; exact hxv
        have HX := hid hxv
        clear hxv
        go_wp2
        go_round
        case rel => exact ⟨i + 1, c, by omega, by go_num, rfl, by omega, hid (by rw [HST.out, if_neg (by have := HX.out; omega)]; rfl)⟩
        case measure => simp [intOf]; omega
    · obtain rfl : i = K := by omega
      have hor : k ≤ (i : Int) ∨ ((i : Int) < k ∧ n ≤ i) := by have := HH.out; omega
      have := HC.out
      have HC2 := hid this
      clear this HC
      rcases hor with h1 | ⟨h1, h2⟩
      · go_wp2
        go_ret
        exact ⟨ret_int (by rw [HC2.out]), rfl⟩
      · go_wp2
        go_ret
        exact ⟨ret_int (by rw [HC2.out]), rfl⟩
theorem rsel_any (a : Option Addr) (n cap : Nat) (l : List Nat) (v k : Int) (w : World) (hn : n = l.length) (h : NatsAt w a l) (h1000 : n ≤ 1000000) :
    Calls Try.prog 19 #[.slice a n cap, .int .i64 v, .int .i64 k] w fun e w' => e = .returned (.int .i64 (Bm.sel (Wv.eqs l v) k)) ∧ w' = w := by
  have HN := hid hn
  have HS := hid h
  clear hn h
  go_enter Try.func19, Try.ntmps19
  go_wp2
  go_loop [7, 8] (fun s7 s8 => ∃ i c : Nat, i ≤ n ∧ s8 = .int .i64 i ∧ s7 = .int .i64 c ∧ c ≤ i ∧ Hid (c = Bm.cnt (Wv.eqs l v) i) ∧ Hid (∀ j, j < i → (Wv.eqs l v).getD j false = true → (Bm.cnt (Wv.eqs l v) j : Int) ≠ k)) (fun _ s8 => n - (intOf s8).toNat)
  case atStart => exact ⟨0, 0, by omega, rfl, rfl, by omega, (Bm.cnt_zero _).symm, hid (fun j hj => absurd hj (Nat.not_lt_zero _))⟩
  case round =>
    obtain ⟨i, c, hin, rfl, rfl, hci, HC, HJ⟩ := hrel
    by_cases hlt : i < n
    · obtain ⟨b, off, rfl, hc0⟩ := (HS.out).get (i := i) (by rw [← HN.out]; exact hlt)
      have c0 := hc0 i (by rw [← HN.out]; exact hlt)
      have hst := Bm.cnt_succ (Wv.eqs l v) i
      have hg := Wv.eqs_get l v i (by rw [← HN.out]; exact hlt)
      obtain ⟨x, hx⟩ : ∃ x, x = l.getD i 0 := ⟨_, rfl⟩
      rw [← hx] at c0 hg
      rw [hg, ← HC.out] at hst
      have HST := hid hst
      have HG := hid hg
      clear hst hx hc0 hg
      by_cases hxv : (x : Int) = v
      · have hb : ((x : Int) == v) = true := by rw [beq_iff_eq]; exact hxv
        have HX := hid hxv
        clear hxv
        by_cases hck : (c : Int) = k
        · have hb2 : ((c : Int) == k) = true := by rw [beq_iff_eq]; exact hck
          have HK := hid hck
          clear hck
          go_wp2
          go_ret
          exact ⟨ret_int (Bm.sel_eq (by rw [HG.out, HX.out]; simp) (by rw [← HC.out]; exact HK.out)).symm, rfl⟩
        · have hb2 : ((c : Int) == k) = false := by rw [beq_eq_false_iff_ne]; exact hck
          have HK := hid hck
          clear hck
          go_wp2
          go_round
          case rel =>
            refine ⟨i + 1, c + 1, by omega, by go_num, by go_num, by omega, hid (by rw [HST.out, HX.out]; simp), hid (fun j hj hb => ?_)⟩
            by_cases hji : j < i
            · exact HJ.out j hji hb
            · obtain rfl : j = i := by omega
              rw [← HC.out]; exact HK.out
          case measure => simp [intOf]; omega
      · have hb : ((x : Int) == v) = false := by rw [beq_eq_false_iff_ne]; exact hxv
        have HX := hid hxv
        clear hxv
        go_wp2
        go_round
        case rel =>
          refine ⟨i + 1, c, by omega, by go_num, rfl, by omega, hid (by rw [HST.out, if_neg (by have := HX.out; simpa using this)]; rfl), hid (fun j hj hb => ?_)⟩
          by_cases hji : j < i
          · exact HJ.out j hji hb
          · obtain rfl : j = i := by omega
            rw [HG.out] at hb; exact absurd (by simpa using hb) HX.out
        case measure => simp [intOf]; omega
    · obtain rfl : i = n := by omega
      go_wp2
      go_ret
      exact ⟨ret_int (Bm.sel_none fun j hj hb => HJ.out j (by rw [Wv.eqs_length] at hj; rw [HN.out]; exact hj) hb).symm, rfl⟩
end Go.Proofs.Ytpjflmocbmmmaaa
