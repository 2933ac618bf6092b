/- The document's reader: what it holds, what its steps leave; its small steps. -/
import Derived.Test.YtemkbmhcohijnaaGreatDoorTmRIs
import Derived.Deep.LoopGhost
namespace Go.Proofs.YtemkbmhcohijnaaGreatDoor
set_option linter.unusedVariables false
set_option linter.unusedSimpArgs false
set_option maxRecDepth 100000
open Go.ChangeShapes Go.WideShapes Go.ChangeAt Go.RowKit

/-- Block q holds a reader: what is left, does it err. -/
def Rd (w : World) (q : Nat) (s : List UInt8) (e : Bool) : Prop := Blk w q [str s, .bool e] 43
abbrev rdp (q : Nat) : Value := .pointer (some ⟨q, 0, none⟩)
theorem Rd.cells {w : World} {q : Nat} {s : List UInt8} {e : Bool} (h : Rd w q s e) : w.cell? ⟨q, 0, none⟩ = some (str s) ∧ w.cell? ⟨q, 1, none⟩ = some (.bool e) ∧ w.frozen? ⟨q, 0, none⟩ = false ∧ w.frozen? ⟨q, 1, none⟩ = false :=
  ⟨Blk.cell h rfl, Blk.cell h rfl, Blk.free h 0, Blk.free h 1⟩
theorem Rd.keep {w w' : World} {q : Nat} {s : List UInt8} {e : Bool} (h : Rd w q s e) (hb : Below w.heap.size w w') : Rd w' q s e := Blk.keep h hb
theorem Rd.set0 {w : World} {q : Nat} {s t : List UInt8} {e : Bool} (h : Rd w q s e) : Rd (w.setCell ⟨q, 0, none⟩ (str t)) q t e := Blk.set h 0 _
theorem Rd.set1 {w : World} {q : Nat} {s : List UInt8} {e f : Bool} (h : Rd w q s e) : Rd (w.setCell ⟨q, 1, none⟩ (.bool f)) q s f := Blk.set h 1 _
/-- All but block q is as it was. -/
def But (q : Nat) (w w' : World) : Prop := w.grownBy w' (some q)
theorem But.refl (q : Nat) (w : World) : But q w w := ⟨rfl, rfl, rfl, Nat.le_refl _, fun _ _ _ => rfl⟩
theorem But.trans {q : Nat} {a b c : World} (h : But q a b) (k : But q b c) : But q a c :=
  ⟨k.os.trans h.os, k.tape.trans h.tape, k.output.trans h.output, Nat.le_trans h.size k.size, fun i hi hn => (k.block i (Nat.lt_of_lt_of_le hi h.size) hn).trans (h.block i hi hn)⟩
theorem But.below {q : Nat} {a b : World} (h : Below a.heap.size a b) : But q a b := ⟨h.os, h.tape, h.output, h.size, fun i hi _ => h.block i hi⟩
theorem But.set (q : Nat) (w : World) (i : Nat) (v : Value) : But q w (w.setCell ⟨q, i, none⟩ v) :=
  ⟨rfl, rfl, rfl, by simp, fun k hk hn => Below.heap_setCell _ _ _ _ (by simpa using fun e => hn (by rw [e]))⟩
theorem But.drawn (q : Nat) (w : World) (n : Nat) : But q w (w.drewN n) := ⟨rfl, rfl, rfl, Nat.le_refl _, fun _ _ _ => rfl⟩
theorem But.into {q : Nat} {a b c : World} (hb : Below a.heap.size a b) (h : But q b c) (hq : a.heap.size ≤ q) : Below a.heap.size a c :=
  hb.grown h hb.size (fun k hk => by cases hk; exact hq)
theorem But.blk {q k : Nat} {w w' : World} {A : List Value} {t : TypeId} (h : Blk w k A t) (hb : But q w w') (hk : k ≠ q) : Blk w' k A t := by
  unfold Blk; rw [hb.block k h.lt (by simpa using hk)]; exact h
theorem rfail_any (q : Nat) (s : List UInt8) (e : Bool) (w : World) (h : Rd w q s e) :
    Calls Tryz.prog 34 #[rdp q] w fun x w' => x = .returned (.tuple #[]) ∧ Rd w' q [] true ∧ But q w w' := by
  obtain ⟨c0, c1, f0, f1⟩ := h.cells
  go_enter Tryz.func34, Tryz.ntmps34
  go_wp2
  refine bodyPost_end (v := .tuple #[]) (by kernel_rfl) rfl ?_
  exact ⟨rfl, (h.set0).set1, (But.set q w 0 _).trans (But.set q _ 1 _)⟩
theorem rhas_any (q : Nat) (s p : List UInt8) (e : Bool) (w : World) (hr : Rd w q s e) (hl : s.length ≤ 9223372036854775807) (hp : p.length ≤ 9223372036854775807) :
    Calls Tryz.prog 19 #[rdp q, str p] w fun x w' => x = .returned (.bool (decide (s.take p.length = p))) ∧ w = w' := by
  obtain ⟨c0, c1, f0, f1⟩ := hr.cells
  clear c1 f0 f1 hr
  by_cases h : p.length ≤ s.length
  · have hz : (p.length : Int) ≤ (s.length : Int) := by omega
    have ht := ba_take s p.length
    have hx : ((s.take p.length) == p) = decide (s.take p.length = p) := by
      rw [Bool.eq_iff_iff]; simp
    go_enter Tryz.func19, Tryz.ntmps19
    go_wp2
    go_ret
    exact ⟨by simp, rfl⟩
  · have hz : (s.length : Int) < (p.length : Int) := by omega
    have HN := hid (show decide (s.take p.length = p) = false by
      rw [decide_eq_false_iff_not]; intro he; have := congrArg List.length he; rw [List.length_take] at this; omega)
    go_enter Tryz.func19, Tryz.ntmps19
    go_wp2
    go_ret
    exact ⟨by rw [HN.out]; rfl, rfl⟩
def blankC (c : UInt8) : Bool := c == 32 || c == 9
theorem blankC_true {c : UInt8} (h : c.toNat = 32 ∨ c.toNat = 9) : blankC c = true := by
  unfold blankC
  rcases h with h | h
  · rw [UInt8.toNat_inj.1 (show c.toNat = (32 : UInt8).toNat from h)]; rfl
  · rw [UInt8.toNat_inj.1 (show c.toNat = (9 : UInt8).toNat from h)]; rfl
theorem blankC_false {c : UInt8} (h : c.toNat ≠ 32 ∧ c.toNat ≠ 9) : blankC c = false := by
  unfold blankC
  rw [Bool.or_eq_false_iff, beq_eq_false_iff_ne, beq_eq_false_iff_ne]
  exact ⟨fun e => h.1 (by rw [e]; rfl), fun e => h.2 (by rw [e]; rfl)⟩
theorem rblanks_any (q : Nat) (s : List UInt8) (e : Bool) (w : World) (hr : Rd w q s e) (hl : s.length ≤ 9223372036854775807) :
    Calls Tryz.prog 18 #[rdp q] w fun x w' => x = .returned (.tuple #[]) ∧ Rd w' q (s.dropWhile blankC) e ∧ But q w w' := by
  have HR := hid hr
  clear hr
  go_enter Tryz.func18, Tryz.ntmps18
  go_wp2
  go_loopg [] s.length (fun gk wr => ∃ t : List UInt8, t.length ≤ gk ∧ t.length ≤ s.length ∧ Hid (Rd wr q t e) ∧ Hid (But q w wr) ∧ Hid (t.dropWhile blankC = s.dropWhile blankC))
  case atStart => exact ⟨s, by omega, by omega, HR, But.refl _ _, rfl⟩
  case round =>
    obtain ⟨t, hg, hts, HT, HB, HD⟩ := hrel
    obtain ⟨c0, c1, f0, f1⟩ := HT.out.cells
    cases t with
    | nil =>
      go_wp2
      refine bodyPost_end (v := .tuple #[]) (by kernel_rfl) rfl ?_
      exact ⟨rfl, by rw [← HD.out]; exact HT.out, HB.out⟩
    | cons c u =>
      have hcc := fun q => ba_get (c :: u) 0 c rfl q
      have hem : ((c :: u : List UInt8) != []) = true := rfl
      have hlu : u.length + 1 ≤ gk := by simpa using hg
      have hlu2 : u.length + 1 ≤ 9223372036854775807 := by simp only [List.length_cons] at hts; omega
      have hex : (⟨(c :: u).toArray⟩ : ByteArray).extract 1 (u.length + 1) = ⟨u.toArray⟩ := ba_tail c u
      by_cases h : c.toNat = 32 ∨ c.toNat = 9
      · have HD2 := hid (show u.dropWhile blankC = s.dropWhile blankC by rw [← HD.out, List.dropWhile_cons, blankC_true h]; rfl)
        have HT2 := hid (HT.out.set0 (t := u))
        have HB2 := hid (HB.out.trans (But.set q wr 0 (str u)))
        have hus : u.length ≤ s.length := by simp only [List.length_cons] at hts; omega
        clear hg hts
        rcases h with h | h
        · have b1 : ((c.toNat : Int) == 32) = true := beq_iff_eq.2 (by omega)
          clear h
          go_wp2
          go_roundg u.length
          case measure => omega
          case rel => exact ⟨u, by omega, hus, HT2, HB2, HD2⟩
        · have b1 : ((c.toNat : Int) == 32) = false := beq_eq_false_iff_ne.2 (by omega)
          have b2 : ((c.toNat : Int) == 9) = true := beq_iff_eq.2 (by omega)
          clear h
          go_wp2
          go_roundg u.length
          case measure => omega
          case rel => exact ⟨u, by omega, hus, HT2, HB2, HD2⟩
      · have HD2 := hid (show c :: u = s.dropWhile blankC by rw [← HD.out, List.dropWhile_cons, blankC_false (by omega)]; rfl)
        have b1 : ((c.toNat : Int) == 32) = false := beq_eq_false_iff_ne.2 (by omega)
        have b2 : ((c.toNat : Int) == 9) = false := beq_eq_false_iff_ne.2 (by omega)
        clear h
        go_wp2
        refine bodyPost_end (v := .tuple #[]) (by kernel_rfl) rfl ?_
        exact ⟨rfl, by rw [← HD2.out]; exact HT.out, HB.out⟩
/-- A letter or digit, or -, where that may stand. -/
def alp (d : Bool) (c : UInt8) : Bool := Tm.alnum c || (d && c == 45)
theorem alp_false : alp false = Tm.alnum := by funext c; simp [alp]
theorem alp_true : alp true = Tm.alnumD := by funext c; simp [alp, Tm.alnumD]
theorem takeWhile_at (p : UInt8 → Bool) : ∀ (s : List UInt8) (n : Nat), n ≤ s.length → (s.take n).all p = true → (∀ c, s[n]? = some c → p c = false) → s.takeWhile p = s.take n ∧ s.dropWhile p = s.drop n
  | [], 0, _, _, _ => ⟨rfl, rfl⟩
  | [], n + 1, h, _, _ => by simp at h
  | c :: s, 0, _, _, h => by have := h c rfl; simp [this]
  | c :: s, n + 1, hn, ha, h => by
    rw [List.take_succ_cons, List.all_cons, Bool.and_eq_true] at ha
    have ih := takeWhile_at p s n (by simpa using hn) ha.2 (fun d hd => h d (by simpa using hd))
    simp [ha.1, ih.1, ih.2]
set_option maxHeartbeats 1000000 in
theorem rrun_any (q : Nat) (s : List UInt8) (e d : Bool) (w : World) (hr : Rd w q s e) (hl : s.length ≤ 9223372036854775806) :
    Calls Tryz.prog 31 #[rdp q, .bool d] w fun x w' => x = .returned (str (s.takeWhile (alp d))) ∧ Rd w' q (s.dropWhile (alp d)) e ∧ But q w w' := by
  have HR := hid hr
  obtain ⟨c0, c1, f0, f1⟩ := hr.cells
  clear hr
  go_enter Tryz.func31, Tryz.ntmps31
  go_wp2
  go_loop [5] (fun s5 => ∃ n : Nat, n ≤ s.length ∧ s5 = .int .i64 n ∧ Hid ((s.take n).all (alp d) = true)) (fun s5 => s.length - (intOf s5).toNat)
  case atStart => exact ⟨0, by omega, rfl, by simp [Hid]⟩
  case round =>
    obtain ⟨n, hn, rfl, HA⟩ := hrel
    have hex1 : (⟨s.toArray⟩ : ByteArray).extract 0 n = ⟨(s.take n).toArray⟩ := ba_take s n
    have hex2 : (⟨s.toArray⟩ : ByteArray).extract n s.length = ⟨(s.drop n).toArray⟩ := ba_drop s n
    by_cases hlt : n < s.length
    · obtain ⟨c, hc⟩ : ∃ c, s[n]? = some c := ⟨_, List.getElem?_eq_getElem hlt⟩
      have hcc := fun q => ba_get s n c hc q
      have HS := hid (fun hf => all_step (f := alp d) HA.out hc hf)
      have HN := hid (fun (hf : alp d c = false) => takeWhile_at (alp d) s n hn HA.out (fun c' hc' => by rw [hc] at hc'; cases hc'; exact hf))
      have HU := hid (show alp d c = (Tm.alnum c || (d && c == 45)) from rfl)
      have AL := hid (fun w => (ralnum_any c w).mono (R' := fun e w' => e = .returned (.bool (Tm.alnum c)) ∧ w = w') fun _ _ h => ⟨h.1, h.2.symm⟩)
      obtain ⟨a, ha⟩ : ∃ a, a = Tm.alnum c := ⟨_, rfl⟩
      rw [← ha] at AL HU
      have hb : ((c.toNat : Int) == 45) = (c == 45) := by
        rw [Bool.eq_iff_iff, beq_iff_eq, beq_iff_eq]
        constructor
        · intro h; exact UInt8.toNat_inj.1 (show c.toNat = (45 : UInt8).toNat by show c.toNat = 45; omega)
        · rintro rfl; rfl
      obtain ⟨b, hbb⟩ : ∃ b, b = (c == 45) := ⟨_, rfl⟩
      rw [← hbb] at HU hb
      clear hc HA ha hbb
      cases a <;> cases d <;> cases b
      all_goals
        go_wp2_with (go_at_call 51; refine (AL.out _).mono ?_; rintro x w' ⟨rfl, rfl⟩)
      all_goals first
        | (go_round
           case rel => exact ⟨n + 1, by omega, by go_num, HS.out (by rw [HU.out]; rfl)⟩
           case measure => simp [intOf]; omega)
        | (have h2 := HN.out (by rw [HU.out]; rfl)
           go_ret
           exact ⟨by rw [h2.1]; rfl, by rw [h2.2]; exact HR.out.set0, But.set q w 0 _⟩)
    · obtain rfl : n = s.length := by omega
      have HT := hid (takeWhile_at (alp d) s s.length hn HA.out (fun c' hc' => by simp at hc'))
      clear HA
      go_wp2
      go_ret
      exact ⟨by rw [HT.out.1, List.take_length]; rfl, by rw [HT.out.2, List.drop_length]; exact HR.out.set0 (t := []), But.set q w 0 _⟩
end Go.Proofs.YtemkbmhcohijnaaGreatDoor
