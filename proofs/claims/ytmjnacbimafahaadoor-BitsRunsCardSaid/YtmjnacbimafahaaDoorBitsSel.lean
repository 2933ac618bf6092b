/- sort.Search, and the places of ones. -/
import Derived.Test.YtmjnacbimafahaaDoorBitsAsk
import Derived.Shelf.Abstract
namespace Go.Proofs.YtmjnacbimafahaaDoor
set_option linter.unusedVariables false
open Go.ChangeShapes Go.WideShapes Go.ChangeAt Go.RowKit

theorem search_any (g : Nat) (cb : Array Value) (n : Nat) (p : Nat → Bool) (w : World) (eg : ∀ args w, (callFunc g args).run Tryd.prog w = .ok (.enter g args) w) (hn : n ≤ 65536)
    (hf0 : ∀ W, Below w.heap.size w W → ∀ i : Nat, i < n → Calls Tryd.prog g (#[.int .i64 i] ++ cb) W fun e w' => e = .returned (.bool (p i)) ∧ Below W.heap.size W w')
    (hm0 : ∀ a b, a ≤ b → b < n → p a = true → p b = true) :
    Calls Tryd.prog 21 #[.int .i64 n, .func (.func g) #[] cb] w fun e w' => ∃ r : Nat, e = .returned (.int .i64 r) ∧ r ≤ n ∧ (∀ t, t < r → p t = false) ∧ (∀ t, r ≤ t → t < n → p t = true) ∧ Below w.heap.size w w' := by
  have HF := hid hf0
  have HM := hid hm0
  clear hf0 hm0
  go_enter Tryd.func21, Tryd.ntmps21
  go_wp2
  go_loopw [5, 6] (fun s5 s6 wr => ∃ lo hi : Nat, s5 = .int .i64 lo ∧ s6 = .int .i64 hi ∧ lo ≤ hi ∧ hi ≤ n ∧ Hid (Below w.heap.size w wr) ∧ Hid ((∀ t, t < lo → p t = false) ∧ (∀ t, hi ≤ t → t < n → p t = true))) (fun s5 s6 _ => (intOf s6).toNat - (intOf s5).toNat)
  case atStart => exact ⟨0, n, rfl, rfl, Nat.zero_le _, Nat.le_refl _, Below.refl _ _, fun t ht => absurd ht (Nat.not_lt_zero _), fun t h1 h2 => by omega⟩
  case round =>
    obtain ⟨lo, hi, rfl, rfl, hlh, hin, HB, I⟩ := hrel
    by_cases hlt : lo < hi
    · have hc := HF.out wr HB.out ((lo + hi) / 2) (by omega)
      rw [show (((lo + hi) / 2 : Nat) : Int) = ((lo : Int) + (hi : Int)) / 2 by omega] at hc
      cases hp : p ((lo + hi) / 2) <;> rw [hp] at hc
      · have HP := hid hp
        clear hp
        go_wp2_with (go_at_fn g; refine hc.mono ?_; rintro e w' ⟨rfl, hb'⟩)
        go_roundw
        case rel =>
          refine ⟨(lo + hi) / 2 + 1, hi, by go_num, rfl, by omega, hin, below_then HB.out hb', fun t ht => ?_, I.out.2⟩
          by_cases h : p t = true
          · have := HM.out t ((lo + hi) / 2) (by omega) (by omega) h
            rw [HP.out] at this; cases this
          · simpa using h
        case measure => simp [intOf]; omega
      · have HP := hid hp
        clear hp
        go_wp2_with (go_at_fn g; refine hc.mono ?_; rintro e w' ⟨rfl, hb'⟩)
        go_roundw
        case rel =>
          refine ⟨lo, (lo + hi) / 2, rfl, by go_num, by omega, by omega, below_then HB.out hb', I.out.1, fun t h1 h2 => HM.out _ t h1 h2 HP.out⟩
        case measure => simp [intOf]; omega
    · obtain rfl : lo = hi := by omega
      go_wp2
      go_ret
      exact ⟨lo, rfl, hin, I.out.1, I.out.2, HB.out⟩

/-- math/bits' table lies in its variable. -/
def Tab (w : World) : Prop := TabAt 0 Lib.deBruijn64tab w
theorem Tab.keep {w w' : World} (h : Tab w) (hb : Below w.heap.size w w') : Tab w' := fun j hj => below_keep hb (h j hj)
theorem tz_core (x z idx : Nat) (w : World) (hx1 : ((x : Int) == 0) = false) (key : IntKind.u64.wrap (bits BinOp.and IntKind.u64 (x : Int) (IntKind.u64.wrap (-(x : Int))) * 285870213051353865) / 288230376151711744 = (idx : Int))
    (hi : idx < 64) (hk : z < 64) (hcell : w.cell? ⟨0, idx, none⟩ = some (.int .u8 z)) :
    Calls Tryd.prog 23 #[.int .u64 x] w fun e w' => e = .returned (.int .i64 z) ∧ w' = w := by
  go_enter Tryd.func23, Tryd.ntmps23
  go_wp2_with (simp only [key])
  go_ret
  exact ⟨rfl, rfl⟩
theorem tz_any (x : Nat) (hx : x < 18446744073709551616) (hx0 : 0 < x) (w : World) (hT : Tab w) :
    Calls Tryd.prog 23 #[.int .u64 x] w fun e w' => e = .returned (.int .i64 (Bm.nth 64 x 0 : Nat)) ∧ w' = w := by
  obtain ⟨hlow, hk⟩ := Lib.lowest_bit 64 x (by omega) hx
  obtain ⟨hi, htab⟩ := Lib.deBruijn64_at _ hk
  have hcell := hT _ hi
  rw [htab] at hcell
  rw [← Bm.ctz_nth' x hx0]
  exact tz_core x _ _ w (by simp; omega) (tz64_key x _ hx (by omega) hlow) hi hk hcell

theorem selF_any (bv bk p ba m ah : Nat) (i : Nat) (k : Int) (w : World) (h0 : w.cell? ⟨bv, 0, none⟩ = some (.pointer (some ⟨p, 0, none⟩))) (h1 : w.cell? ⟨bk, 0, none⟩ = some (.int .i64 k))
    (h2 : w.cell? ⟨p, 2, none⟩ = some (.slice (some ⟨ba, 0, none⟩) (m + 1) (m + 1))) (hi : i < m) (hm : m ≤ 65536) (h3 : w.cell? ⟨ba, i + 1, none⟩ = some (.int .i64 ah)) :
    Calls Tryd.prog 22 #[.int .i64 i, .pointer (some ⟨bv, 0, none⟩), .pointer (some ⟨bk, 0, none⟩)] w fun e w' => e = .returned (.bool (decide (k < ah))) ∧ Below w.heap.size w w' := by
  have hi' : (i : Int) + 1 < (m : Int) + 1 := by omega
  go_enter Tryd.func22, Tryd.ntmps22
  go_wp2
  go_quiet (fail)
  go_wp2
  go_ret
  exact ⟨rfl, below_drawn (Below.refl _ _) _⟩

theorem sel_low (p : Nat) (l : List Bool) (k : Int) (w : World) (h : IsVec w p l) (hl : l.length ≤ 4096) (hk : k < 0 ∨ (Bm.rank l l.length : Int) ≤ k) :
    Calls Tryd.prog 15 #[.pointer (some ⟨p, 0, none⟩), .int .i64 k] w fun e w' => e = .returned (.int .i64 (-1)) ∧ Below w.heap.size w w' := by
  by_cases h0 : k < 0
  · go_enter Tryd.func15, Tryd.ntmps15
    go_wp2
    go_quiet (fail)
    go_wp2
    go_ret
    exact ⟨rfl, below_drawn (((Below.refl _ _).alloc (Nat.le_refl _) _).alloc (by simp) _) _⟩
  · have hk' : (Bm.rank l l.length : Int) ≤ k := by omega
    have hk0 : decide (k < 0) = false := by simpa using h0
    clear hk
    go_enter Tryd.func15, Tryd.ntmps15
    go_wp2
    generalize hw1 : (w.alloc (.cells #[.pointer (some ⟨p, 0, none⟩)] 23)).alloc (.cells #[.int .i64 k] 3) = w1
    have hb1 : Below w.heap.size w w1 := by rw [← hw1]; exact ((Below.refl _ _).alloc (Nat.le_refl _) _).alloc (by simp) _
    have c0 : w1.cell? ⟨w.heap.size, 0, none⟩ = some (.pointer (some ⟨p, 0, none⟩)) := by rw [← hw1]; simp [go_sem]
    have c1 : w1.cell? ⟨w.heap.size + 1, 0, none⟩ = some (.int .i64 k) := by rw [← hw1]; simp [go_sem]
    have HV := hid (h.keep hb1)
    clear hw1
    go_quiet (first | (go_at_call 11; exact drawn_same fun W hW => len_any _ l _ (HV.out.keep (by rw [hW]; exact below_drawn (Below.refl _ _) _))) | (go_at_call 13; exact drawn_some fun W hW => rank_any _ l _ _ (HV.out.keep (by rw [hW]; exact below_drawn (Below.refl _ _) _)) hl))
    go_wp2
    go_ret
    exact ⟨rfl, below_drawn hb1 _⟩

theorem sel_hit (p : Nat) (l : List Bool) (k : Nat) (w : World) (h : IsVec w p l) (hT : Tab w) (hl : l.length ≤ 4096) (hk : k < Bm.rank l l.length) :
    Calls Tryd.prog 15 #[.pointer (some ⟨p, 0, none⟩), .int .i64 k] w fun e w' => e = .returned (.int .i64 (Bm.sel l k)) ∧ Below w.heap.size w w' := by
  have hk0 : decide ((k : Int) < 0) = false := by simp
  have hk' : ¬ Bm.rank l l.length ≤ k := by omega
  have hkd : decide (Bm.rank l l.length ≤ k) = false := by simpa using hk'
  go_enter Tryd.func15, Tryd.ntmps15
  go_wp2
  generalize hw1 : (w.alloc (.cells #[.pointer (some ⟨p, 0, none⟩)] 23)).alloc (.cells #[.int .i64 k] 3) = w1
  have hb1 : Below w.heap.size w w1 := by rw [← hw1]; exact ((Below.refl _ _).alloc (Nat.le_refl _) _).alloc (by simp) _
  have c0 : w1.cell? ⟨w.heap.size, 0, none⟩ = some (.pointer (some ⟨p, 0, none⟩)) := by rw [← hw1]; simp [go_sem]
  have c1 : w1.cell? ⟨w.heap.size + 1, 0, none⟩ = some (.int .i64 k) := by rw [← hw1]; simp [go_sem]
  have HV := hid (h.keep hb1)
  clear hw1
  go_quiet (first | (go_at_call 11; exact drawn_same fun W hW => len_any _ l _ (HV.out.keep (by rw [hW]; exact below_drawn (Below.refl _ _) _))) | (go_at_call 13; exact drawn_some fun W hW => rank_any _ l _ _ (HV.out.keep (by rw [hW]; exact below_drawn (Below.refl _ _) _)) hl))
  obtain ⟨w2, hw2⟩ : ∃ w2, w2 = w1.drewN nq := ⟨_, rfl⟩
  rw [← hw2]
  have hb2 : Below w.heap.size w w2 := by rw [hw2]; exact below_drawn hb1 _
  have d0 : w2.cell? ⟨w.heap.size, 0, none⟩ = some (.pointer (some ⟨p, 0, none⟩)) := by rw [hw2]; simpa using c0
  have d1 : w2.cell? ⟨w.heap.size + 1, 0, none⟩ = some (.int .i64 k) := by rw [hw2]; simpa using c1
  clear hw2 c0 c1 HV hb1
  have hT2 := hT.keep hb2
  obtain ⟨bw, ba, m, h1, h2, h3, h4, h5⟩ := h.keep hb2
  have e1 : w2.cell? ⟨p, 1, none⟩ = some (.slice (some ⟨bw, 0, none⟩) m m) := h3.cell (by simp)
  have e2 : w2.cell? ⟨p, 2, none⟩ = some (.slice (some ⟨ba, 0, none⟩) (m + 1) (m + 1)) := h3.cell (by simp)
  have ea : ∀ i, i ≤ m → w2.cell? ⟨ba, i, none⟩ = some (.int .i64 (Bm.cnt l (64 * i))) := fun i hi => h5.cell (by rw [List.getElem?_map, List.getElem?_range (by omega)]; rfl)
  have EA := hid ea
  have hm : m ≤ 65 := by omega
  clear ea
  go_wp2_with fail
  refine (search_any 22 #[.pointer (some ⟨w.heap.size, 0, none⟩), .pointer (some ⟨w.heap.size + 1, 0, none⟩)] m (fun i => decide ((k : Int) < Bm.cnt l (64 * (i + 1)))) _ ?eg ?hm ?hf ?mono).mono ?_
  rotate_left 4
  rintro e w3 ⟨r, rfl, hr, hlo, hhi, hb3⟩
  case eg => intro args W; go_simp
  case hm => omega
  case hf =>
    intro W hW i hi
    exact selF_any _ _ p ba m _ i k W (below_keep hW d0) (below_keep hW d1) (below_keep hW e2) hi (by omega) (below_keep hW (EA.out (i + 1) (by omega)))
  case mono =>
    intro a b hab hb ha
    have := Bm.cnt_mono l (show 64 * (a + 1) ≤ 64 * (b + 1) by omega)
    simp only [decide_eq_true_eq] at ha ⊢
    omega
  have hrm : r < m := by
    rcases Nat.lt_or_ge r m with h' | h'
    · exact h'
    · exfalso
      obtain rfl : r = m := by omega
      unfold Bm.rank at hk
      rw [show ((l.length : Int)).toNat = l.length from Int.toNat_natCast _] at hk
      have hpos : 0 < r := by
        rcases Nat.eq_zero_or_pos r with h0 | h0
        · have := Bm.cnt_le l l.length; omega
        · exact h0
      have := hlo (r - 1) (by omega)
      simp only [decide_eq_false_iff_not, Int.not_lt, show r - 1 + 1 = r by omega] at this
      have e := Bm.cnt_over l (show l.length ≤ 64 * r by omega)
      omega
  have hah : Bm.cnt l (64 * r) ≤ k := by
    rcases Nat.eq_zero_or_pos r with h0 | h0
    · subst h0; simp [Bm.cnt_zero]
    · have := hlo (r - 1) (by omega)
      simp only [decide_eq_false_iff_not, Int.not_lt, show r - 1 + 1 = r by omega] at this
      omega
  have hup : k < Bm.cnt l (64 * (r + 1)) := by
    have := hhi r (Nat.le_refl _) hrm
    simp only [decide_eq_true_eq] at this
    omega
  have hpw := Bm.pop_word l r 64 (Nat.le_refl _)
  rw [show 64 * r + 64 = 64 * (r + 1) by omega] at hpw
  obtain ⟨hsel, hnth⟩ := Bm.sel_word l r (k - Bm.cnt l (64 * r)) k (by omega) (by omega)
  have HSEL := hid (And.intro hsel hnth)
  have hdp : k - Bm.cnt l (64 * r) < Bm.pop 64 (Bm.word l r) := by omega
  have hkb : k ≤ 4096 := by have := Bm.cnt_le_all l (64 * (r + 1)); have := Bm.cnt_le l l.length; omega
  obtain ⟨ah, hah0⟩ : ∃ ah, ah = Bm.cnt l (64 * r) := ⟨_, rfl⟩
  rw [← hah0] at HSEL hdp hah
  have f0 := below_keep hb3 d0
  have f1 := below_keep hb3 d1
  have f2 := below_keep hb3 e1
  have f3 := below_keep hb3 e2
  have f4 : w3.cell? ⟨ba, r, none⟩ = some (.int .i64 ah) := by rw [hah0]; exact below_keep hb3 (EA.out r (by omega))
  have f5 : w3.cell? ⟨bw, r, none⟩ = some (.int .u64 (Bm.word l r)) := below_keep hb3 (h4.cell (by rw [List.getElem?_map, List.getElem?_range hrm]; rfl))
  have hT3 := hT2.keep hb3
  have hb4 := hb2.trans (hb3.mono hb2.size)
  have hwl := Bm.word_lt l r
  obtain ⟨wd, hwd⟩ : ∃ wd, wd = Bm.word l r := ⟨_, rfl⟩
  rw [← hwd] at HSEL hdp f5 hwl
  have HDP := hid hdp
  clear hlo hhi hpw hsel hnth hdp hup hah0 hwd d0 d1 e1 e2 EA h3 h4 h5 hT2 hb2 hb3 hk hk' hkd
  have hrm' : r < m + 1 := by omega
  have hri : (r : Int) < (m : Int) + 1 := by omega
  have hrj : (r : Int) < (m : Int) := by omega
  go_wp2
  go_quiet (fail)
  go_wp2
  obtain ⟨w4, hw4⟩ : ∃ w4, w4 = w3.drewN nq := ⟨_, rfl⟩
  rw [← hw4]
  have hT4 : Tab w4 := by rw [hw4]; exact hT3.keep (below_drawn (Below.refl _ _) _)
  have hb5 : Below w.heap.size w w4 := by rw [hw4]; exact below_drawn hb4 _
  clear hw4 f0 f1 f2 f3 f4 f5 hT3 hb4
  go_loopw [6, 40] (fun s6 s40 wr => ∃ t rest : Nat, s40 = .int .i64 t ∧ s6 = .int .u64 rest ∧ t ≤ k - ah ∧ rest < 18446744073709551616 ∧ wr = w4 ∧ Hid (Bm.nth 64 rest (k - ah - t) = Bm.nth 64 wd (k - ah) ∧ k - ah - t < Bm.pop 64 rest)) (fun _ s40 _ => k - ah - (intOf s40).toNat)
  case atStart => exact ⟨0, wd, rfl, rfl, Nat.zero_le _, hwl, rfl, rfl, HDP.out⟩
  case round =>
    obtain ⟨t, rest, rfl, rfl, ht, hrl, rfl, HI⟩ := hrel
    have hr0 := Bm.pop_pos 64 rest (Nat.lt_of_le_of_lt (Nat.zero_le _) HI.out.2)
    by_cases hlt : t < k - ah
    · have hlt' : (t : Int) < (k : Int) - ah := by omega
      have hcl := Bm.clr_go rest hr0 hrl
      rw [show (rest : Int) - 1 = ((rest - 1 : Nat) : Int) by omega, Bm.wrap_u64_small _ (by omega), show ((rest - 1 : Nat) : Int) = (rest : Int) - 1 by omega] at hcl
      have HC := hid hcl
      have hcle := Bm.clr_le rest
      obtain ⟨c, hc⟩ : ∃ c, c = Bm.clr rest := ⟨_, rfl⟩
      rw [← hc] at HC hcle
      have HC2 := hid hc
      clear hc hcl
      go_wp2
      go_roundw
      case rel =>
        refine ⟨t + 1, c, by go_num, by rw [HC.out], by omega, by omega, by trivial, ?_⟩
        have hq := HI.out
        have h64 : rest < 2 ^ 64 := by simpa using hrl
        refine ⟨?_, ?_⟩
        · rw [HC2.out, Bm.nth_clr 64 rest _ h64 (by omega), show k - ah - (t + 1) + 1 = k - ah - t by omega]; exact hq.1
        · rw [HC2.out, Bm.pop_clr 64 rest h64]; omega
      case measure => simp [intOf]; omega
    · have hlt' : ¬ (t : Int) < (k : Int) - ah := by omega
      have hn64 := Bm.nth_lt 64 rest (k - ah - t) HI.out.2
      have he : k - ah - t = 0 := by omega
      rw [he] at HI hn64
      have HE := hid (show Bm.nth 64 rest 0 = Bm.nth 64 wd (k - ah) from HI.out.1)
      obtain ⟨z, hz⟩ : ∃ z, z = Bm.nth 64 rest 0 := ⟨_, rfl⟩
      have hzl : z < 64 := by rw [hz]; exact hn64.1
      have TZ := hid (fun W (hW : W = wr) => tz_any rest hrl hr0 W (by rw [hW]; exact hT4))
      rw [← hz] at HE TZ
      clear hz hn64 HI he
      go_wp2_with (go_at_call 23; refine (TZ.out _ rfl).mono ?_; rintro e w' ⟨rfl, rfl⟩)
      go_ret
      exact ⟨ret_int (by rw [HSEL.out.1, ← HE.out]; omega), hb5⟩

theorem sel_any (p : Nat) (l : List Bool) (k : Int) (w : World) (h : IsVec w p l) (hT : Tab w) (hl : l.length ≤ 4096) :
    Calls Tryd.prog 15 #[.pointer (some ⟨p, 0, none⟩), .int .i64 k] w fun e w' => e = .returned (.int .i64 (Bm.sel l k)) ∧ Below w.heap.size w w' := by
  by_cases hk : k < 0 ∨ (Bm.rank l l.length : Int) ≤ k
  · have e : Bm.sel l k = -1 := Bm.sel_low (by simpa [Bm.rank] using hk)
    rw [e]
    exact sel_low p l k w h hl hk
  · obtain ⟨j, rfl⟩ := Int.eq_ofNat_of_zero_le (show 0 ≤ k by omega)
    exact sel_hit p l j w h hT hl (by omega)
theorem sel_nil (k : Int) (w : World) : Calls Tryd.prog 15 #[.pointer none, .int .i64 k] w fun e w' => e = .returned (.int .i64 (-1)) ∧ Below w.heap.size w w' := by
  by_cases h0 : k < 0
  · go_enter Tryd.func15, Tryd.ntmps15
    go_wp2
    go_quiet (fail)
    go_wp2
    go_ret
    exact ⟨rfl, below_drawn (((Below.refl _ _).alloc (Nat.le_refl _) _).alloc (by simp) _) _⟩
  · have hk0 : decide (k < 0) = false := by simpa using h0
    have hk' : 0 ≤ k := by omega
    go_enter Tryd.func15, Tryd.ntmps15
    go_wp2
    go_quiet (first | (go_at_call 11; exact drawn_same fun W hW => len_nil _) | (go_at_call 13; exact drawn_same fun W hW => rank_nil _ _))
    go_wp2
    go_ret
    exact ⟨rfl, below_drawn (((Below.refl _ _).alloc (Nat.le_refl _) _).alloc (by simp) _) _⟩
theorem next_any (p : Nat) (l : List Bool) (i : Int) (w : World) (h : IsVec w p l) (hT : Tab w) (hl : l.length ≤ 4096) :
    Calls Tryd.prog 17 #[.pointer (some ⟨p, 0, none⟩), .int .i64 i] w fun e w' => e = .returned (.int .i64 (Bm.next l i)) ∧ Below w.heap.size w w' := by
  have R := hid (rank_any p l i w h hl)
  have S := hid (fun W (hW : Below w.heap.size w W) => sel_any p l (Bm.rank l i : Nat) W (h.keep hW) (hT.keep hW) hl)
  unfold Bm.next
  go_enter Tryd.func17, Tryd.ntmps17
  go_wp2_with fail
  refine R.out.mono ?_
  rintro e w' ⟨rfl, n, rfl⟩
  go_wp2_with fail
  refine (S.out _ (below_drawn (Below.refl _ _) _)).mono ?_
  rintro e w' ⟨rfl, hb⟩
  go_wp2
  go_ret
  exact ⟨rfl, (below_drawn (Below.refl _ _) _).trans hb⟩
theorem next_nil (i : Int) (w : World) : Calls Tryd.prog 17 #[.pointer none, .int .i64 i] w fun e w' => e = .returned (.int .i64 (-1)) ∧ Below w.heap.size w w' := by
  go_enter Tryd.func17, Tryd.ntmps17
  go_wp2_with fail
  refine (rank_nil _ _).mono ?_
  rintro e w' ⟨rfl, rfl⟩
  go_wp2_with fail
  refine (sel_nil _ _).mono ?_
  rintro e w' ⟨rfl, hb⟩
  go_wp2
  go_ret
  exact ⟨rfl, hb⟩
theorem get_nil (i : Int) (w : World) : Calls Tryd.prog 12 #[.pointer none, .int .i64 i] w fun e w' => e = .returned (.bool false) ∧ w' = w := by
  by_cases h0 : i < 0
  · go_enter Tryd.func12, Tryd.ntmps12
    go_wp2
    go_ret
    exact ⟨rfl, rfl⟩
  · have h1 : 0 ≤ i := by omega
    go_enter Tryd.func12, Tryd.ntmps12
    go_wp2_with (go_at_call 11; refine (len_nil _).mono ?_; rintro e w' ⟨rfl, rfl⟩)
    go_ret
    exact ⟨rfl, rfl⟩
end Go.Proofs.YtmjnacbimafahaaDoor
