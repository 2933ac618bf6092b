/- LnRd, LnHex, LnEsc, LnUp, LnSmall. -/
import Derived.Test.YtjaebndajhppgaaGreatDoorTmRIs
import Derived.Deep.LoopGhost
import Derived.Test.YtjaebndajhppgaaGreatDoorGTm2
import Derived.Laws.Cover4
import Derived.Laws.IdiomStrings
namespace Go.Proofs.YtjaebndajhppgaaGreatDoor
set_option linter.unusedVariables false
set_option linter.unusedSimpArgs false
set_option maxRecDepth 100000
open Go.ChangeShapes Go.WideShapes Go.ChangeAt Go.RowKit

/-- Block q holds a reader: what is left, does it err. -/
def Rd (w : World) (q : Nat) (s : List UInt8) (e : Bool) : Prop := Blk w q [str s, .bool e] 202
abbrev rdp (q : Nat) : Value := .pointer (some ⟨q, 0, none⟩)
theorem Rd.cells {w : World} {q : Nat} {s : List UInt8} {e : Bool} (h : Rd w q s e) : w.cell? ⟨q, 0, none⟩ = some (str s) ∧ w.cell? ⟨q, 1, none⟩ = some (.bool e) ∧ w.frozen? ⟨q, 0, none⟩ = false ∧ w.frozen? ⟨q, 1, none⟩ = false :=
  ⟨Blk.cell h rfl, Blk.cell h rfl, Blk.free h 0, Blk.free h 1⟩
theorem Rd.keep {w w' : World} {q : Nat} {s : List UInt8} {e : Bool} (h : Rd w q s e) (hb : Below w.heap.size w w') : Rd w' q s e := Blk.keep h hb
theorem Rd.set0 {w : World} {q : Nat} {s t : List UInt8} {e : Bool} (h : Rd w q s e) : Rd (w.setCell ⟨q, 0, none⟩ (str t)) q t e := Blk.set h 0 _
theorem Rd.set1 {w : World} {q : Nat} {s : List UInt8} {e f : Bool} (h : Rd w q s e) : Rd (w.setCell ⟨q, 1, none⟩ (.bool f)) q s f := Blk.set h 1 _
/-- All but block q is as it was. -/
def But (q : Nat) (w w' : World) : Prop := w.grownBy w' (some q)
theorem But.refl (q : Nat) (w : World) : But q w w := ⟨rfl, rfl, rfl, Nat.le_refl _, fun _ _ _ => rfl⟩
theorem But.trans {q : Nat} {a b c : World} (h : But q a b) (k : But q b c) : But q a c :=
  ⟨k.os.trans h.os, k.tape.trans h.tape, k.output.trans h.output, Nat.le_trans h.size k.size, fun i hi hn => (k.block i (Nat.lt_of_lt_of_le hi h.size) hn).trans (h.block i hi hn)⟩
theorem But.below {q : Nat} {a b : World} (h : Below a.heap.size a b) : But q a b := ⟨h.os, h.tape, h.output, h.size, fun i hi _ => h.block i hi⟩
theorem But.set (q : Nat) (w : World) (i : Nat) (v : Value) : But q w (w.setCell ⟨q, i, none⟩ v) :=
  ⟨rfl, rfl, rfl, by simp, fun k hk hn => Below.heap_setCell _ _ _ _ (by simpa using fun e => hn (by rw [e]))⟩
theorem But.drawn (q : Nat) (w : World) (n : Nat) : But q w (w.drewN n) := ⟨rfl, rfl, rfl, Nat.le_refl _, fun _ _ _ => rfl⟩
theorem But.into {q : Nat} {a b c : World} (hb : Below a.heap.size a b) (h : But q b c) (hq : a.heap.size ≤ q) : Below a.heap.size a c :=
  hb.grown h hb.size (fun k hk => by cases hk; exact hq)
theorem But.blk {q k : Nat} {w w' : World} {A : List Value} {t : TypeId} (h : Blk w k A t) (hb : But q w w') (hk : k ≠ q) : Blk w' k A t := by
  unfold Blk; rw [hb.block k h.lt (by simpa using hk)]; exact h
theorem rfail_any (q : Nat) (s : List UInt8) (e : Bool) (w : World) (h : Rd w q s e) :
    Calls Tryz.prog 186 #[rdp q] w fun x w' => x = .returned (.tuple #[]) ∧ Rd w' q [] true ∧ But q w w' := by
  obtain ⟨c0, c1, f0, f1⟩ := h.cells
  go_enter Tryz.func186, Tryz.ntmps186
  go_wp2
  refine bodyPost_end (v := .tuple #[]) (by kernel_rfl) rfl ?_
  exact ⟨rfl, (h.set0).set1, (But.set q w 0 _).trans (But.set q _ 1 _)⟩
theorem rhas_any (q : Nat) (s p : List UInt8) (e : Bool) (w : World) (hr : Rd w q s e) (hl : s.length ≤ 9223372036854775807) (hp : p.length ≤ 9223372036854775807) :
    Calls Tryz.prog 134 #[rdp q, str p] w fun x w' => x = .returned (.bool (decide (s.take p.length = p))) ∧ w = w' := by
  obtain ⟨c0, c1, f0, f1⟩ := hr.cells
  clear c1 f0 f1 hr
  by_cases h : p.length ≤ s.length
  · have hz : (p.length : Int) ≤ (s.length : Int) := by omega
    have ht := ba_take s p.length
    have hx : ((s.take p.length) == p) = decide (s.take p.length = p) := by
      rw [Bool.eq_iff_iff]; simp
    go_enter Tryz.func134, Tryz.ntmps134
    go_wp2
    go_ret
    exact ⟨by simp, rfl⟩
  · have hz : (s.length : Int) < (p.length : Int) := by omega
    have HN := hid (show decide (s.take p.length = p) = false by
      rw [decide_eq_false_iff_not]; intro he; have := congrArg List.length he; rw [List.length_take] at this; omega)
    go_enter Tryz.func134, Tryz.ntmps134
    go_wp2
    go_ret
    exact ⟨by rw [HN.out]; rfl, rfl⟩
def blankC (c : UInt8) : Bool := c == 32 || c == 9
theorem blankC_true {c : UInt8} (h : c.toNat = 32 ∨ c.toNat = 9) : blankC c = true := by
  unfold blankC
  rcases h with h | h
  · rw [UInt8.toNat_inj.1 (show c.toNat = (32 : UInt8).toNat from h)]; rfl
  · rw [UInt8.toNat_inj.1 (show c.toNat = (9 : UInt8).toNat from h)]; rfl
theorem blankC_false {c : UInt8} (h : c.toNat ≠ 32 ∧ c.toNat ≠ 9) : blankC c = false := by
  unfold blankC
  rw [Bool.or_eq_false_iff, beq_eq_false_iff_ne, beq_eq_false_iff_ne]
  exact ⟨fun e => h.1 (by rw [e]; rfl), fun e => h.2 (by rw [e]; rfl)⟩
theorem rblanks_any (q : Nat) (s : List UInt8) (e : Bool) (w : World) (hr : Rd w q s e) (hl : s.length ≤ 9223372036854775807) :
    Calls Tryz.prog 133 #[rdp q] w fun x w' => x = .returned (.tuple #[]) ∧ Rd w' q (s.dropWhile blankC) e ∧ But q w w' := by
  have HR := hid hr
  clear hr
  go_enter Tryz.func133, Tryz.ntmps133
  go_wp2
  go_loopg [] s.length (fun gk wr => ∃ t : List UInt8, t.length ≤ gk ∧ t.length ≤ s.length ∧ Hid (Rd wr q t e) ∧ Hid (But q w wr) ∧ Hid (t.dropWhile blankC = s.dropWhile blankC))
  case atStart => exact ⟨s, by omega, by omega, HR, But.refl _ _, rfl⟩
  case round =>
    obtain ⟨t, hg, hts, HT, HB, HD⟩ := hrel
    obtain ⟨c0, c1, f0, f1⟩ := HT.out.cells
    cases t with
    | nil =>
      go_wp2
      refine bodyPost_end (v := .tuple #[]) (by kernel_rfl) rfl ?_
      exact ⟨rfl, by rw [← HD.out]; exact HT.out, HB.out⟩
    | cons c u =>
      have hcc := fun q => ba_get (c :: u) 0 c rfl q
      have hem : ((c :: u : List UInt8) != []) = true := rfl
      have hlu : u.length + 1 ≤ gk := by simpa using hg
      have hlu2 : u.length + 1 ≤ 9223372036854775807 := by simp only [List.length_cons] at hts; omega
      have hex : (⟨(c :: u).toArray⟩ : ByteArray).extract 1 (u.length + 1) = ⟨u.toArray⟩ := ba_tail c u
      by_cases h : c.toNat = 32 ∨ c.toNat = 9
      · have HD2 := hid (show u.dropWhile blankC = s.dropWhile blankC by rw [← HD.out, List.dropWhile_cons, blankC_true h]; rfl)
        have HT2 := hid (HT.out.set0 (t := u))
        have HB2 := hid (HB.out.trans (But.set q wr 0 (str u)))
        have hus : u.length ≤ s.length := by simp only [List.length_cons] at hts; omega
        clear hg hts
        rcases h with h | h
        · have b1 : ((c.toNat : Int) == 32) = true := beq_iff_eq.2 (by omega)
          clear h
          go_wp2
          go_roundg u.length
          case measure => omega
          case rel => exact ⟨u, by omega, hus, HT2, HB2, HD2⟩
        · have b1 : ((c.toNat : Int) == 32) = false := beq_eq_false_iff_ne.2 (by omega)
          have b2 : ((c.toNat : Int) == 9) = true := beq_iff_eq.2 (by omega)
          clear h
          go_wp2
          go_roundg u.length
          case measure => omega
          case rel => exact ⟨u, by omega, hus, HT2, HB2, HD2⟩
      · have HD2 := hid (show c :: u = s.dropWhile blankC by rw [← HD.out, List.dropWhile_cons, blankC_false (by omega)]; rfl)
        have b1 : ((c.toNat : Int) == 32) = false := beq_eq_false_iff_ne.2 (by omega)
        have b2 : ((c.toNat : Int) == 9) = false := beq_eq_false_iff_ne.2 (by omega)
        clear h
        go_wp2
        refine bodyPost_end (v := .tuple #[]) (by kernel_rfl) rfl ?_
        exact ⟨rfl, by rw [← HD2.out]; exact HT.out, HB.out⟩
/-- A letter or digit, or -, where that may stand. -/
def alp (d : Bool) (c : UInt8) : Bool := Tm.alnum c || (d && c == 45)
theorem alp_false : alp false = Tm.alnum := by funext c; simp [alp]
theorem alp_true : alp true = Tm.alnumD := by funext c; simp [alp, Tm.alnumD]
theorem takeWhile_at (p : UInt8 → Bool) : ∀ (s : List UInt8) (n : Nat), n ≤ s.length → (s.take n).all p = true → (∀ c, s[n]? = some c → p c = false) → s.takeWhile p = s.take n ∧ s.dropWhile p = s.drop n
  | [], 0, _, _, _ => ⟨rfl, rfl⟩
  | [], n + 1, h, _, _ => by simp at h
  | c :: s, 0, _, _, h => by have := h c rfl; simp [this]
  | c :: s, n + 1, hn, ha, h => by
    rw [List.take_succ_cons, List.all_cons, Bool.and_eq_true] at ha
    have ih := takeWhile_at p s n (by simpa using hn) ha.2 (fun d hd => h d (by simpa using hd))
    simp [ha.1, ih.1, ih.2]
set_option maxHeartbeats 1000000 in
theorem rrun_any (q : Nat) (s : List UInt8) (e d : Bool) (w : World) (hr : Rd w q s e) (hl : s.length ≤ 9223372036854775806) :
    Calls Tryz.prog 184 #[rdp q, .bool d] w fun x w' => x = .returned (str (s.takeWhile (alp d))) ∧ Rd w' q (s.dropWhile (alp d)) e ∧ But q w w' := by
  have HR := hid hr
  obtain ⟨c0, c1, f0, f1⟩ := hr.cells
  clear hr
  go_enter Tryz.func184, Tryz.ntmps184
  go_wp2
  go_loop [5] (fun s5 => ∃ n : Nat, n ≤ s.length ∧ s5 = .int .i64 n ∧ Hid ((s.take n).all (alp d) = true)) (fun s5 => s.length - (intOf s5).toNat)
  case atStart => exact ⟨0, by omega, rfl, by simp [Hid]⟩
  case round =>
    obtain ⟨n, hn, rfl, HA⟩ := hrel
    have hex1 : (⟨s.toArray⟩ : ByteArray).extract 0 n = ⟨(s.take n).toArray⟩ := ba_take s n
    have hex2 : (⟨s.toArray⟩ : ByteArray).extract n s.length = ⟨(s.drop n).toArray⟩ := ba_drop s n
    by_cases hlt : n < s.length
    · obtain ⟨c, hc⟩ : ∃ c, s[n]? = some c := ⟨_, List.getElem?_eq_getElem hlt⟩
      have hcc := fun q => ba_get s n c hc q
      have HS := hid (fun hf => all_step (f := alp d) HA.out hc hf)
      have HN := hid (fun (hf : alp d c = false) => takeWhile_at (alp d) s n hn HA.out (fun c' hc' => by rw [hc] at hc'; cases hc'; exact hf))
      have HU := hid (show alp d c = (Tm.alnum c || (d && c == 45)) from rfl)
      have AL := hid (fun w => (ralnum_any c w).mono (R' := fun e w' => e = .returned (.bool (Tm.alnum c)) ∧ w = w') fun _ _ h => ⟨h.1, h.2.symm⟩)
      obtain ⟨a, ha⟩ : ∃ a, a = Tm.alnum c := ⟨_, rfl⟩
      rw [← ha] at AL HU
      have hb : ((c.toNat : Int) == 45) = (c == 45) := by
        rw [Bool.eq_iff_iff, beq_iff_eq, beq_iff_eq]
        constructor
        · intro h; exact UInt8.toNat_inj.1 (show c.toNat = (45 : UInt8).toNat by show c.toNat = 45; omega)
        · rintro rfl; rfl
      obtain ⟨b, hbb⟩ : ∃ b, b = (c == 45) := ⟨_, rfl⟩
      rw [← hbb] at HU hb
      clear hc HA ha hbb
      cases a <;> cases d <;> cases b
      all_goals
        go_wp2_with (go_at_call 191; refine (AL.out _).mono ?_; rintro x w' ⟨rfl, rfl⟩)
      all_goals first
        | (go_round
           case rel => exact ⟨n + 1, by omega, by go_num, HS.out (by rw [HU.out]; rfl)⟩
           case measure => simp [intOf]; omega)
        | (have h2 := HN.out (by rw [HU.out]; rfl)
           go_ret
           exact ⟨by rw [h2.1]; rfl, by rw [h2.2]; exact HR.out.set0, But.set q w 0 _⟩)
    · obtain rfl : n = s.length := by omega
      have HT := hid (takeWhile_at (alp d) s s.length hn HA.out (fun c' hc' => by simp at hc'))
      clear HA
      go_wp2
      go_ret
      exact ⟨by rw [HT.out.1, List.take_length]; rfl, by rw [HT.out.2, List.drop_length]; exact HR.out.set0 (t := []), But.set q w 0 _⟩
end Go.Proofs.YtjaebndajhppgaaGreatDoor
namespace Go.Proofs.YtjaebndajhppgaaGreatDoor
set_option linter.unusedVariables false
set_option linter.unusedSimpArgs false
set_option maxRecDepth 100000
open Go.ChangeShapes Go.WideShapes Go.ChangeAt Go.RowKit

theorem pow16 (i : Nat) (h : i < 8) : 16 ^ i ≤ 268435456 := by
  rcases (show i = 0 ∨ i = 1 ∨ i = 2 ∨ i = 3 ∨ i = 4 ∨ i = 5 ∨ i = 6 ∨ i = 7 by omega) with rfl | rfl | rfl | rfl | rfl | rfl | rfl | rfl <;> decide
theorem hexL_step (k : Nat) (s : List UInt8) (i x : Nat) (c : UInt8) (h : s[i]? = some c) : Tm.hexL (k + 1) (s.drop i) x = match Tm.hexc c with
    | none => none
    | some d => Tm.hexL k (s.drop (i + 1)) (x * 16 + d) := by
  obtain ⟨hl, e⟩ := List.getElem?_eq_some_iff.1 h
  rw [List.drop_eq_getElem_cons hl, e]
  rfl
theorem hexL_short : ∀ (n : Nat) (s : List UInt8) (x : Nat), s.length < n → Tm.hexL n s x = none
  | 0, s, x, h => by omega
  | n + 1, [], x, h => rfl
  | n + 1, c :: t, x, h => by
    unfold Tm.hexL
    cases Tm.hexc c with
    | none => rfl
    | some d => exact hexL_short n t _ (by simpa using h)
def hexOk (r : Option Nat) : Option Nat := match r with
  | none => none
  | some x => if 1114111 < x ∨ (55296 ≤ x ∧ x ≤ 57343) then none else some x
/-- What hex answers. -/
def hexZ (r : Option Nat) : Int := match r with
  | none => -1
  | some x => x
theorem hexc_dig {c : UInt8} (h : 48 ≤ c.toNat ∧ c.toNat ≤ 57) : Tm.hexc c = some (c.toNat - 48) := by unfold Tm.hexc; rw [if_pos h]
theorem hexc_low {c : UInt8} (h : 97 ≤ c.toNat ∧ c.toNat ≤ 102) : Tm.hexc c = some (c.toNat - 87) := by unfold Tm.hexc; rw [if_neg (by omega), if_pos h]
theorem hexc_cap {c : UInt8} (h : 65 ≤ c.toNat ∧ c.toNat ≤ 70) : Tm.hexc c = some (c.toNat - 55) := by unfold Tm.hexc; rw [if_neg (by omega), if_neg (by omega), if_pos h]
theorem hexc_no {c : UInt8} (h : c.toNat < 48 ∨ (57 < c.toNat ∧ c.toNat < 65) ∨ (70 < c.toNat ∧ c.toNat < 97) ∨ 102 < c.toNat) : Tm.hexc c = none := by unfold Tm.hexc; rw [if_neg (by omega), if_neg (by omega), if_neg (by omega)]
set_option maxHeartbeats 2000000 in
theorem rhex_any (s : List UInt8) (n : Nat) (w : World) (hn : n ≤ 8) (hl : s.length ≤ 9223372036854775807) :
    Calls Tryz.prog 247 #[str s, .int .i64 (n : Nat)] w fun e w' => e = .returned (.int .i32 (hexZ (Tm.hexR n s))) ∧ w = w' := by
  by_cases hs : s.length < n
  · have HE := hid (show Tm.hexR n s = none by unfold Tm.hexR; rw [hexL_short n s 0 hs])
    have hz : (s.length : Int) < (n : Int) := by omega
    go_enter Tryz.func247, Tryz.ntmps247
    go_wp2
    go_ret
    exact ⟨by rw [HE.out]; rfl, rfl⟩
  · obtain ⟨ANS, hA⟩ : ∃ a, a = Tm.hexL n s 0 := ⟨_, rfl⟩
    have HR := hid (show Tm.hexR n s = hexOk ANS by rw [hA]; rfl)
    have HA := hid (show ANS = Tm.hexL (n - 0) (s.drop 0) 0 from hA)
    have hz : (n : Int) ≤ (s.length : Int) := by omega
    clear hA
    go_enter Tryz.func247, Tryz.ntmps247
    go_wp2
    go_loop [5, 6, 7] (fun s5 s6 _ => ∃ i x : Nat, i ≤ n ∧ s6 = .int .i64 i ∧ s5 = .int .i64 x ∧ Hid (x < 16 ^ i) ∧ Hid (ANS = Tm.hexL (n - i) (s.drop i) x)) (fun _ s6 _ => n - (intOf s6).toNat)
    case atStart => exact ⟨0, 0, by omega, rfl, rfl, (by decide : (0 : Nat) < 16 ^ 0), HA⟩
    case round =>
      obtain ⟨i, x, hi, rfl, rfl, HX, HL⟩ := hrel
      by_cases hlt : i < n
      · have hx : x < 268435456 := Nat.lt_of_lt_of_le HX.out (pow16 i (by omega))
        obtain ⟨c, hc⟩ : ∃ c, s[i]? = some c := ⟨_, List.getElem?_eq_getElem (by omega)⟩
        have hcc := fun q => ba_get s i c hc q
        have HS := hid (hexL_step (n - (i + 1)) s i x c hc)
        have HLx := hid (show ANS = Tm.hexL (n - (i + 1) + 1) (s.drop i) x by rw [HL.out]; congr 1; omega)
        have HP := hid (fun d (hd : d < 16) => show x * 16 + d < 16 ^ (i + 1) by have := HX.out; rw [Nat.pow_succ]; omega)
        have hc256 : c.toNat < 256 := c.toNat_lt
        clear hc HX HL
        rcases (show (c.toNat < 48 ∨ (57 < c.toNat ∧ c.toNat < 65) ∨ (70 < c.toNat ∧ c.toNat < 97) ∨ 102 < c.toNat) ∨ (48 ≤ c.toNat ∧ c.toNat ≤ 57) ∨ (97 ≤ c.toNat ∧ c.toNat ≤ 102) ∨ (65 ≤ c.toNat ∧ c.toNat ≤ 70) by omega) with h | ⟨h, h'⟩ | ⟨h, h'⟩ | ⟨h, h'⟩
        · have HF := hid (show Tm.hexR n s = none by rw [HR.out, HLx.out, HS.out, hexc_no h]; rfl)
          rcases h with h | ⟨h, h'⟩ | ⟨h, h'⟩ | h
          all_goals
            go_wp2
            go_ret
            exact ⟨by rw [HF.out]; rfl, rfl⟩
        · have HF := hid (show ANS = Tm.hexL (n - (i + 1)) (s.drop (i + 1)) (x * 16 + (c.toNat - 48)) by rw [HLx.out, HS.out, hexc_dig ⟨h, h'⟩])
          have HP1 := hid (HP.out (c.toNat - 48) (by omega))
          clear HS HLx HP
          go_wp2
          go_round
          case rel => exact ⟨i + 1, x * 16 + (c.toNat - 48), by omega, by go_num, by congr 1; omega, HP1, HF⟩
          case measure => simp [intOf]; omega
        · have HF := hid (show ANS = Tm.hexL (n - (i + 1)) (s.drop (i + 1)) (x * 16 + (c.toNat - 87)) by rw [HLx.out, HS.out, hexc_low ⟨h, h'⟩])
          have HP1 := hid (HP.out (c.toNat - 87) (by omega))
          clear HS HLx HP
          go_wp2
          go_round
          case rel => exact ⟨i + 1, x * 16 + (c.toNat - 87), by omega, by go_num, by congr 1; omega, HP1, HF⟩
          case measure => simp [intOf]; omega
        · have HF := hid (show ANS = Tm.hexL (n - (i + 1)) (s.drop (i + 1)) (x * 16 + (c.toNat - 55)) by rw [HLx.out, HS.out, hexc_cap ⟨h, h'⟩])
          have HP1 := hid (HP.out (c.toNat - 55) (by omega))
          clear HS HLx HP
          go_wp2
          go_round
          case rel => exact ⟨i + 1, x * 16 + (c.toNat - 55), by omega, by go_num, by congr 1; omega, HP1, HF⟩
          case measure => simp [intOf]; omega
      · obtain rfl : i = n := by omega
        have HF := hid (show ANS = some x by rw [HL.out, Nat.sub_self]; rfl)
        have hx : x < 4294967296 := Nat.lt_of_lt_of_le HX.out (Nat.le_trans (Nat.pow_le_pow_right (by omega) hn) (by decide))
        clear HX HL
        rcases (show 1114111 < x ∨ (x ≤ 1114111 ∧ 55296 ≤ x ∧ x ≤ 57343) ∨ x < 55296 ∨ (x ≤ 1114111 ∧ 57343 < x) by omega) with h | ⟨h, h2, h3⟩ | h | ⟨h, h2⟩
        · have HG := hid (show Tm.hexR i s = none by rw [HR.out, HF.out]; unfold hexOk; simp only; rw [if_pos (.inl h)])
          clear HR HF
          go_wp2
          go_ret
          exact ⟨by rw [HG.out]; rfl, rfl⟩
        · have HG := hid (show Tm.hexR i s = none by rw [HR.out, HF.out]; unfold hexOk; simp only; rw [if_pos (.inr ⟨h2, h3⟩)])
          clear HR HF
          go_wp2
          go_ret
          exact ⟨by rw [HG.out]; rfl, rfl⟩
        · have HG := hid (show Tm.hexR i s = some x by rw [HR.out, HF.out]; unfold hexOk; simp only; rw [if_neg (by omega)])
          clear HR HF
          go_wp2
          go_ret
          exact ⟨by rw [HG.out]; rfl, rfl⟩
        · have HG := hid (show Tm.hexR i s = some x by rw [HR.out, HF.out]; unfold hexOk; simp only; rw [if_neg (by omega)])
          clear HR HF
          go_wp2
          go_ret
          exact ⟨by rw [HG.out]; rfl, rfl⟩
end Go.Proofs.YtjaebndajhppgaaGreatDoor
namespace Go.Proofs.YtjaebndajhppgaaGreatDoor
set_option linter.unusedVariables false
set_option linter.unusedSimpArgs false
set_option maxRecDepth 100000
open Go.ChangeShapes Go.WideShapes Go.ChangeAt Go.RowKit

def escT (r : Option (List UInt8 × Nat)) : List UInt8 := match r with
  | none => []
  | some p => p.1
def escN (r : Option (List UInt8 × Nat)) : Nat := match r with
  | none => 0
  | some p => p.2
theorem runesBytes_one (r : Nat) : Value.string (runesBytes [(r : Int)]) = str (Tm.runeT r) := by
  unfold runesBytes Tm.runeT str
  simp only [List.foldl_cons, List.foldl_nil]
  generalize Utf8.encode (r : Int) = B
  have : ByteArray.empty ++ B = ⟨B.data.toList.toArray⟩ := by
    apply ByteArray.ext
    rw [ByteArray.data_append]
    simp
  rw [this]
theorem conv_rune1 (w : World) (r : Nat) : (convert 251 9 (.slice (some ⟨w.heap.size, 0, none⟩) 1 1)).run Tryz.prog (w.alloc (.cells #[.int .i32 (r : Int)] 21)) = .ok (str (Tm.runeT r)) (w.alloc (.cells #[.int .i32 (r : Int)] 21)) := by
  rw [← runesBytes_one]
  exact run_convert_runes (P := Tryz.prog) _ 251 9 21 ⟨w.heap.size, 0, none⟩ 1 1 [(r : Int)] (Nat.le_refl 1) Tryz.underlying251 Tryz.underlying21 Tryz.underlying9 (fun j hj => by
    rw [add_cell rfl, Nat.zero_add, cell_new]
    match j, hj with
    | 0, _ => rfl
    | j + 1, h => exact absurd h (by simp))
/-- The letters behind a backslash, and what they stand for. -/
def escFr : List UInt8 := [34, 92, 110, 114, 116, 98, 102, 39]
def escTo : List UInt8 := [34, 92, 10, 13, 9, 8, 12, 39]
theorem letter_at : ∀ k : Fin 8, Tm.letter (escFr.getD k.val 0) = some (escTo.getD k.val 0) := by decide
theorem letter_no (c : UInt8) (h : ∀ j, j < 8 → escFr.getD j 0 ≠ c) : Tm.letter c = none := by
  have e : ∀ j, j < 8 → c ≠ escFr.getD j 0 := fun j hj he => h j hj he.symm
  have e0 : c ≠ 34 := e 0 (by omega)
  have e1 : c ≠ 92 := e 1 (by omega)
  have e2 : c ≠ 110 := e 2 (by omega)
  have e3 : c ≠ 114 := e 3 (by omega)
  have e4 : c ≠ 116 := e 4 (by omega)
  have e5 : c ≠ 98 := e 5 (by omega)
  have e6 : c ≠ 102 := e 6 (by omega)
  have e7 : c ≠ 39 := e 7 (by omega)
  unfold Tm.letter
  rw [if_neg e0, if_neg e1, if_neg e2, if_neg e3, if_neg e4, if_neg e5, if_neg e6, if_neg e7]
theorem resc_hex (c : UInt8) (t : List UInt8) (lit : Bool) (n : Nat) (h : (c = 117 ∧ n = 4) ∨ (c = 85 ∧ n = 8)) (w : World) (hl : (c :: t).length ≤ 9223372036854775807) :
    Calls Tryz.prog 225 #[str (c :: t), .bool lit] w fun e w' => e = .returned (.tuple #[str (escT ((Tm.hexR n t).map fun x => (Tm.runeT x, n + 1))), .int .i64 (escN ((Tm.hexR n t).map fun x => (Tm.runeT x, n + 1)))]) ∧ Below w.heap.size w w' := by
  have HX := hid (fun w => rhex_any t n w (by omega) (by simp only [List.length_cons] at hl; omega))
  have hcc := fun q => ba_get (c :: t) 0 c rfl q
  have hem : ((c :: t : List UInt8) == []) = false := rfl
  have hlu2 : t.length + 1 ≤ 9223372036854775807 := by simpa using hl
  have hex : (⟨(c :: t).toArray⟩ : ByteArray).extract 1 (t.length + 1) = ⟨t.toArray⟩ := ba_tail c t
  clear hl
  cases hr : Tm.hexR n t with
  | none =>
    rw [hr] at HX
    rcases h with ⟨rfl, rfl⟩ | ⟨rfl, rfl⟩
    all_goals
      clear hr
      go_enter Tryz.func225, Tryz.ntmps225
      go_wp2_with (go_at_call 247; refine (HX.out _).mono ?_; rintro e w' ⟨rfl, rfl⟩)
      go_ret2
      exact ⟨rfl, Below.refl _ _⟩
  | some x =>
    rw [hr] at HX
    have HX2 : Hid (∀ w, Calls Tryz.prog 247 #[str t, .int .i64 (n : Nat)] w fun e w' => e = .returned (.int .i32 (x : Int)) ∧ w = w') := HX
    have cv := conv_rune1 w x
    rw [Option.map_some]
    obtain ⟨R, hR⟩ : ∃ R, R = Tm.runeT x := ⟨_, rfl⟩
    rw [← hR] at cv ⊢
    rw [show escT (some (R, n + 1)) = R from rfl, show escN (some (R, n + 1)) = n + 1 from rfl]
    clear hR
    have hx0 : (0 : Int) ≤ (x : Int) := by omega
    clear HX
    rcases h with ⟨rfl, rfl⟩ | ⟨rfl, rfl⟩
    all_goals
      clear hr
      go_enter Tryz.func225, Tryz.ntmps225
      go_wp2_with (go_at_call 247; refine (HX2.out _).mono ?_; rintro e w' ⟨rfl, rfl⟩)
      go_ret2
      exact ⟨rfl, (Below.refl _ _).alloc (Nat.le_refl _) _⟩
set_option maxHeartbeats 1000000 in
theorem resc_letter (c : UInt8) (t : List UInt8) (lit : Bool) (h : c ≠ 117 ∧ c ≠ 85) (w : World) (hl : (c :: t).length ≤ 9223372036854775807) :
    Calls Tryz.prog 225 #[str (c :: t), .bool lit] w fun e w' => e = .returned (.tuple #[str (escT (if lit then (Tm.letter c).map (fun d => ([d], 1)) else none)), .int .i64 (escN (if lit then (Tm.letter c).map (fun d => ([d], 1)) else none))]) ∧ Below w.heap.size w w' := by
  have hcc := fun q => ba_get (c :: t) 0 c rfl q
  have hem : ((c :: t : List UInt8) == []) = false := rfl
  have n1 : c.toNat ≠ 117 := fun e => h.1 (UInt8.toNat_inj.1 e)
  have n2 : c.toNat ≠ 85 := fun e => h.2 (UInt8.toNat_inj.1 e)
  have b1 : ((c.toNat : Int) == 117) = false := beq_eq_false_iff_ne.2 (by omega)
  have b2 : ((c.toNat : Int) == 85) = false := beq_eq_false_iff_ne.2 (by omega)
  have hlu2 : t.length + 1 ≤ 9223372036854775807 := by simpa using hl
  clear n1 n2 h hl
  cases lit
  · go_enter Tryz.func225, Tryz.ntmps225
    go_wp2
    go_loop [10] (fun s10 => s10 = .int .i64 0) (fun _ => 0)
    case atStart => rfl
    case round =>
      subst hrel
      go_wp2
      go_ret2
      exact ⟨rfl, Below.refl _ _⟩
  · go_enter Tryz.func225, Tryz.ntmps225
    go_wp2
    go_loopw [10] (fun s10 wr => ∃ i : Nat, i ≤ 8 ∧ s10 = .int .i64 i ∧ Hid (∀ j, j < i → escFr.getD j 0 ≠ c) ∧ Hid (∃ q, wr = w.drewN q)) (fun s10 _ => 8 - (intOf s10).toNat)
    case atStart => exact ⟨0, by omega, rfl, fun j hj => by omega, 0, rfl⟩
    case round =>
      obtain ⟨i, hi, rfl, HN, HQ⟩ := hrel
      obtain ⟨q, hq⟩ := HQ.out
      subst hq
      clear HQ
      by_cases hlt : i < 8
      · have HD := hid (letter_at ⟨i, hlt⟩)
        have g1 : escFr[i]? = some (escFr.getD i 0) := by have : i < escFr.length := hlt; simp [List.getD, this]
        have g2 : escTo[i]? = some (escTo.getD i 0) := by have : i < escTo.length := hlt; simp [List.getD, this]
        have hff := fun q => ba_get escFr i _ g1 q
        have ht2 : (⟨escTo.toArray⟩ : ByteArray).extract i (i + 1) = ⟨[escTo.getD i 0].toArray⟩ := by
          rw [ba_extract, show i + 1 - i = 1 by omega]
          obtain ⟨hl2, e2⟩ := List.getElem?_eq_some_iff.1 g2
          rw [List.drop_eq_getElem_cons hl2, e2]; rfl
        have HNX := hid (show escFr.getD i 0 ≠ c → ∀ j, j < i + 1 → escFr.getD j 0 ≠ c from fun hne j hj => by
          by_cases he : j = i
          · rw [he]; exact hne
          · exact HN.out j (by omega))
        obtain ⟨d, hd⟩ : ∃ d, d = escFr.getD i 0 := ⟨_, rfl⟩
        obtain ⟨f, hf⟩ : ∃ f, f = escTo.getD i 0 := ⟨_, rfl⟩
        simp only at HD
        rw [← hd] at hff HNX HD
        rw [← hf] at ht2 HD
        unfold escFr at hff
        unfold escTo at ht2
        have hiz : (i : Int) < 8 := by omega
        have hi0 : (0 : Int) ≤ (i : Int) := by omega
        clear hd hf g1 g2 HN
        by_cases hcd : d = c
        · subst hcd
          have be : ((d.toNat : Int) == (d.toNat : Int)) = true := by simp
          have HL := hid (show (Tm.letter d).map (fun d => (([d] : List UInt8), 1)) = some ([f], 1) by rw [HD.out]; rfl)
          go_wp2
          go_quiet (fail)
          go_wp2
          go_ret2
          exact ⟨by rw [HL.out]; rfl, below_drawn (Below.refl _ _) _⟩
        · have be : ((c.toNat : Int) == (d.toNat : Int)) = false := beq_eq_false_iff_ne.2 (fun e => hcd (UInt8.toNat_inj.1 (by omega)))
          have HNY := hid (HNX.out hcd)
          clear hcd
          go_wp2
          go_quiet (fail)
          go_wp2
          go_roundw
          case rel => exact ⟨i + 1, by omega, by go_num, HNY, q + nq, by first | rfl | rw [World.drewN_drewN]⟩
          case measure => simp [intOf]; omega
      · obtain rfl : i = 8 := by omega
        have HL := hid (show (Tm.letter c).map (fun d => (([d] : List UInt8), 1)) = none by rw [letter_no c HN.out]; rfl)
        clear HN
        go_wp2
        go_ret2
        exact ⟨by rw [HL.out]; rfl, below_drawn (Below.refl _ _) q⟩
theorem resc_any (s : List UInt8) (lit : Bool) (w : World) (hl : s.length ≤ 9223372036854775807) :
    Calls Tryz.prog 225 #[str s, .bool lit] w fun e w' => e = .returned (.tuple #[str (escT (Tm.esc1 lit s)), .int .i64 (escN (Tm.esc1 lit s))]) ∧ Below w.heap.size w w' := by
  cases s with
  | nil =>
    go_enter Tryz.func225, Tryz.ntmps225
    go_wp2
    go_ret2
    exact ⟨rfl, Below.refl _ _⟩
  | cons c t =>
    have e0 : Tm.esc1 lit (c :: t) = if c = 117 then (Tm.hexR 4 t).map (fun x => (Tm.runeT x, 5)) else if c = 85 then (Tm.hexR 8 t).map (fun x => (Tm.runeT x, 9)) else if lit then (Tm.letter c).map (fun d => ([d], 1)) else none := rfl
    rw [e0]
    by_cases h1 : c = 117
    · rw [if_pos h1]; exact resc_hex c t lit 4 (.inl ⟨h1, rfl⟩) w hl
    · rw [if_neg h1]
      by_cases h2 : c = 85
      · rw [if_pos h2]; exact resc_hex c t lit 8 (.inr ⟨h2, rfl⟩) w hl
      · rw [if_neg h2]; exact resc_letter c t lit ⟨h1, h2⟩ w hl
end Go.Proofs.YtjaebndajhppgaaGreatDoor
namespace Go.Proofs.YtjaebndajhppgaaGreatDoor
set_option linter.unusedVariables false
set_option linter.unusedSimpArgs false
set_option maxRecDepth 100000
open Go.ChangeShapes Go.WideShapes Go.ChangeAt Go.RowKit

namespace Tm
theorem up_fuel (e : UInt8) (lit : Bool) : ∀ (f g : Nat) (s : T), s.length < f → s.length < g → up f e lit s = up g e lit s
  | 0, g, s, h, _ => by omega
  | f + 1, 0, s, _, h => by omega
  | f + 1, g + 1, [], _, _ => rfl
  | f + 1, g + 1, c :: t, hf, hg => by
    unfold up
    simp only [List.length_cons] at hf hg
    rw [up_fuel e lit f g t (by omega) (by omega)]
    cases h : esc1 lit t with
    | none => rfl
    | some p =>
      obtain ⟨x, n⟩ := p
      simp only
      rw [up_fuel e lit f g (t.drop n) (by rw [List.length_drop]; omega) (by rw [List.length_drop]; omega)]
/-- What stands up to a sign, and what behind it. -/
def upU (e : UInt8) (lit : Bool) (s : T) : Option (T × T) := up (s.length + 1) e lit s
theorem upU_nil (e : UInt8) (lit : Bool) : upU e lit [] = none := rfl
theorem upU_cons (e : UInt8) (lit : Bool) (c : UInt8) (t : T) : upU e lit (c :: t) = if c = e then some ([], t) else if c = 92 then (match esc1 lit t with
      | none => none
      | some (x, n) => (upU e lit (t.drop n)).map (fun r => (x ++ r.1, r.2)))
    else if c = 10 ∨ c = 13 then none else (upU e lit t).map (fun r => (c :: r.1, r.2)) := by
  show up (t.length + 1 + 1) e lit (c :: t) = _
  rw [up]
  unfold upU
  cases h : esc1 lit t with
  | none => rfl
  | some p =>
    obtain ⟨x, n⟩ := p
    simp only
    rw [up_fuel e lit (t.length + 1) ((t.drop n).length + 1) (t.drop n) (by rw [List.length_drop]; omega) (by omega)]
theorem runeT_len (x : Nat) : (runeT x).length ≤ 4 := by
  have := encode_size_le (x : Int)
  unfold runeT
  simpa using this
theorem hexR_len {n : Nat} {s : T} {x : Nat} (h : hexR n s = some x) : n ≤ s.length := by
  rcases Nat.lt_or_ge s.length n with hl | hl
  · unfold hexR at h; rw [hexL_short n s 0 hl] at h; cases h
  · exact hl
theorem esc1_len {lit : Bool} {s x : T} {n : Nat} (h : esc1 lit s = some (x, n)) : 1 ≤ n ∧ n ≤ s.length ∧ x.length ≤ 4 := by
  cases s with
  | nil => cases h
  | cons c t =>
    have e0 : esc1 lit (c :: t) = if c = 117 then (hexR 4 t).map (fun x => (runeT x, 5)) else if c = 85 then (hexR 8 t).map (fun x => (runeT x, 9)) else if lit then (letter c).map (fun d => ([d], 1)) else none := rfl
    rw [e0] at h
    split at h
    · cases hr : hexR 4 t with
      | none => rw [hr] at h; cases h
      | some y =>
        rw [hr] at h
        simp only [Option.map_some, Option.some.injEq, Prod.mk.injEq] at h
        have := hexR_len hr
        have := runeT_len y
        obtain ⟨rfl, rfl⟩ := h
        simp only [List.length_cons]; omega
    · split at h
      · cases hr : hexR 8 t with
        | none => rw [hr] at h; cases h
        | some y =>
          rw [hr] at h
          simp only [Option.map_some, Option.some.injEq, Prod.mk.injEq] at h
          have := hexR_len hr
          have := runeT_len y
          obtain ⟨rfl, rfl⟩ := h
          simp only [List.length_cons]; omega
      · split at h
        · cases hr : letter c with
          | none => rw [hr] at h; cases h
          | some y =>
            rw [hr] at h
            simp only [Option.map_some, Option.some.injEq, Prod.mk.injEq] at h
            obtain ⟨rfl, rfl⟩ := h
            simp
        · cases h
end Tm
def upT (r : Option (List UInt8 × List UInt8)) : List UInt8 := match r with
  | none => []
  | some p => p.1
def upR (r : Option (List UInt8 × List UInt8)) : List UInt8 := match r with
  | none => []
  | some p => p.2
def upE (b : Bool) (r : Option (List UInt8 × List UInt8)) : Bool := match r with
  | none => true
  | some _ => b
theorem ba_from (l : List UInt8) (n : Nat) : (⟨l.toArray⟩ : ByteArray).extract n l.length = ⟨(l.drop n).toArray⟩ := ba_drop l n
set_option maxHeartbeats 4000000 in
theorem rup_any (q : Nat) (s : List UInt8) (b : Bool) (e : UInt8) (lit : Bool) (w : World) (hr : Rd w q s b) (hl : s.length ≤ 1000000000) (he : e ≠ 92) (h10 : e ≠ 10 ∧ e ≠ 13) :
    Calls Tryz.prog 183 #[rdp q, .int .u8 (e.toNat : Nat), .bool lit] w fun x w' => x = .returned (str (upT (Tm.upU e lit s))) ∧ Rd w' q (upR (Tm.upU e lit s)) (upE b (Tm.upU e lit s)) ∧ But q w w' := by
  have HR := hid hr
  obtain ⟨ANS, hA⟩ : ∃ a, a = Tm.upU e lit s := ⟨_, rfl⟩
  rw [← hA]
  have HA := hid (show ANS = (Tm.upU e lit (s.drop 0)).map (fun r => ([] ++ r.1, r.2)) by rw [hA, List.drop_zero]; cases Tm.upU e lit s <;> rfl)
  have FA := hid (fun w (h : Rd w q s b) => rfail_any q s b w h)
  clear hA hr
  go_enter Tryz.func183, Tryz.ntmps183
  go_wp2
  go_loopw [7, 8, 9, 10, 11] (fun s7 s8 _ _ _ wr => ∃ (out : List UInt8) (i : Nat), s7 = str out ∧ s8 = .int .i64 i ∧ i ≤ s.length ∧ out.length ≤ 4 * i ∧ Hid (ANS = (Tm.upU e lit (s.drop i)).map (fun r => (out ++ r.1, r.2))) ∧ Hid (Below w.heap.size w wr)) (fun _ s8 _ _ _ _ => s.length - (intOf s8).toNat)
  case atStart => exact ⟨[], 0, rfl, rfl, by omega, by simp, HA, Below.refl _ _⟩
  case round =>
    obtain ⟨out, i, rfl, rfl, hi, ho, HP, HB⟩ := hrel
    obtain ⟨c0, c1, f0, f1⟩ := (HR.out.keep HB.out).cells
    have HRr := hid (HR.out.keep HB.out)
    by_cases hlt : i < s.length
    · obtain ⟨c, hc⟩ : ∃ c, s[i]? = some c := ⟨_, List.getElem?_eq_getElem hlt⟩
      have hcc := fun q => ba_get s i c hc q
      have HC := hid (show Tm.upU e lit (s.drop i) = _ by
        obtain ⟨hl2, e2⟩ := List.getElem?_eq_some_iff.1 hc
        rw [List.drop_eq_getElem_cons hl2, e2, Tm.upU_cons])
      have hex1 : (⟨s.toArray⟩ : ByteArray).extract (i + 1) s.length = ⟨(s.drop (i + 1)).toArray⟩ := ba_drop s (i + 1)
      have hex2 : (⟨s.toArray⟩ : ByteArray).extract i (i + 1) = ⟨[c].toArray⟩ := by
        rw [ba_extract, show i + 1 - i = 1 by omega]
        obtain ⟨hl2, e2⟩ := List.getElem?_eq_some_iff.1 hc
        rw [List.drop_eq_getElem_cons hl2, e2]; rfl
      have HDL := hid (show (s.drop (i + 1)).length + (i + 1) = s.length by rw [List.length_drop]; omega)
      have hap := ba_append out [c]
      obtain ⟨r, hrr⟩ : ∃ r, r = s.drop (i + 1) := ⟨_, rfl⟩
      have HRR := hid hrr
      rw [← hrr] at HC hex1 HDL
      clear hc hrr
      have hce : ((c.toNat : Int) == (e.toNat : Int)) = decide (c = e) := by
        rw [Bool.eq_iff_iff, beq_iff_eq, decide_eq_true_iff]
        exact ⟨fun h => UInt8.toNat_inj.1 (by omega), fun h => by rw [h]⟩
      by_cases h1 : c = e
      · have HF := hid (show ANS = some (out, r) by rw [HP.out, HC.out, if_pos h1]; simp)
        rw [decide_eq_true h1] at hce
        clear h1 HP HC hap hex2
        go_wp2
        go_ret
        exact ⟨by rw [HF.out]; rfl, by rw [HF.out]; exact HRr.out.set0, (But.below HB.out).trans (But.set q wr 0 _)⟩
      rw [decide_eq_false h1] at hce
      by_cases h2 : c = 92
      · have hb2 : ((c.toNat : Int) == 92) = true := beq_iff_eq.2 (by rw [h2]; rfl)
        have ES := hid (fun w => resc_any r lit w (by have := HDL.out; omega))
        cases hes : Tm.esc1 lit r with
        | none =>
          have HF := hid (show ANS = none by rw [HP.out, HC.out, if_neg h1, if_pos h2, hes]; rfl)
          have ES2 : Hid (∀ w, Calls Tryz.prog 225 #[str r, .bool lit] w fun e w' => e = .returned (.tuple #[str [], .int .i64 0]) ∧ Below w.heap.size w w') := by rw [hes] at ES; exact ES
          clear h1 h2 HP HC hes ES hap hex2 HRR
          go_wp2_with fail
          refine (ES2.out _).mono ?_
          rintro x w2 ⟨rfl, hb⟩
          have HB2 := hid (below_then HB.out hb)
          have FA2 := hid (FA.out w2 (HRr.out.keep hb))
          clear hb
          go_wp2_with fail
          refine FA2.out.mono ?_
          rintro x w3 ⟨rfl, hr3, hb3⟩
          have HR3 := hid hr3
          have HB3 := hid hb3
          clear hr3 hb3
          go_wp2
          go_ret
          exact ⟨by rw [HF.out]; rfl, by rw [HF.out]; exact HR3.out, (But.below HB2.out).trans HB3.out⟩
        | some p =>
          obtain ⟨x, n⟩ := p
          obtain ⟨hn1, hn2, hn3⟩ := Tm.esc1_len hes
          have hdl := HDL.out
          have HF := hid (show ANS = (Tm.upU e lit (s.drop (i + n + 1))).map (fun r => (out ++ x ++ r.1, r.2)) by
            rw [HP.out, HC.out, if_neg h1, if_pos h2, hes, HRR.out]
            simp only [Option.map_map]
            rw [List.drop_drop, show i + 1 + n = i + n + 1 by omega]
            congr 1
            funext z; simp [Function.comp])
          have ES2 : Hid (∀ w, Calls Tryz.prog 225 #[str r, .bool lit] w fun e w' => e = .returned (.tuple #[str x, .int .i64 (n : Nat)]) ∧ Below w.heap.size w w') := by rw [hes] at ES; exact ES
          have hn0 : ((n : Int) == 0) = false := beq_eq_false_iff_ne.2 (by omega)
          have hap2 := ba_append out x
          have hin : i + n + 1 ≤ s.length := by omega
          have hox : (out ++ x).length ≤ 4 * (i + n + 1) := by rw [List.length_append]; omega
          have HOX := hid hox
          clear h1 h2 HP HC hes ES hap hex2 HRR hox hdl
          go_wp2_with fail
          refine (ES2.out _).mono ?_
          rintro z w2 ⟨rfl, hb⟩
          have HB2 := hid (below_then HB.out hb)
          clear hb
          go_wp2
          go_roundw
          case rel => exact ⟨out ++ x, i + n + 1, by rfl, by go_num, by omega, HOX.out, HF, HB2⟩
          case measure => simp [intOf]; omega
      · have hb2 : ((c.toNat : Int) == 92) = false := beq_eq_false_iff_ne.2 (fun h => h2 (UInt8.toNat_inj.1 (show c.toNat = (92 : UInt8).toNat by show c.toNat = 92; omega)))
        by_cases h3 : c = 10 ∨ c = 13
        · have HF := hid (show ANS = none by rw [HP.out, HC.out, if_neg h1, if_neg h2, if_pos h3]; rfl)
          have FA2 := hid (FA.out wr HRr.out)
          rcases h3 with h3 | h3
          · have hb3 : ((c.toNat : Int) == 10) = true := beq_iff_eq.2 (by rw [h3]; rfl)
            clear h1 h2 h3 HP HC hap hex2 HRR
            go_wp2_with fail
            refine FA2.out.mono ?_
            rintro x w3 ⟨rfl, hr3, hb3⟩
            have HR3 := hid hr3
            have HB3 := hid hb3
            clear hr3 hb3
            go_wp2
            go_ret
            exact ⟨by rw [HF.out]; rfl, by rw [HF.out]; exact HR3.out, (But.below HB.out).trans HB3.out⟩
          · have hb3 : ((c.toNat : Int) == 10) = false := by rw [h3]; rfl
            have hb4 : ((c.toNat : Int) == 13) = true := beq_iff_eq.2 (by rw [h3]; rfl)
            clear h1 h2 h3 HP HC hap hex2 HRR
            go_wp2_with fail
            refine FA2.out.mono ?_
            rintro x w3 ⟨rfl, hr3, hb3⟩
            have HR3 := hid hr3
            have HB3 := hid hb3
            clear hr3 hb3
            go_wp2
            go_ret
            exact ⟨by rw [HF.out]; rfl, by rw [HF.out]; exact HR3.out, (But.below HB.out).trans HB3.out⟩
        · have HF := hid (show ANS = (Tm.upU e lit (s.drop (i + 1))).map (fun r => (out ++ [c] ++ r.1, r.2)) by
            rw [HP.out, HC.out, if_neg h1, if_neg h2, if_neg h3, HRR.out]
            simp only [Option.map_map]
            congr 1
            funext z; simp [Function.comp])
          have hb3 : ((c.toNat : Int) == 10) = false := beq_eq_false_iff_ne.2 (fun h => h3 (.inl (UInt8.toNat_inj.1 (show c.toNat = (10 : UInt8).toNat by show c.toNat = 10; omega))))
          have hb4 : ((c.toNat : Int) == 13) = false := beq_eq_false_iff_ne.2 (fun h => h3 (.inr (UInt8.toNat_inj.1 (show c.toNat = (13 : UInt8).toNat by show c.toNat = 13; omega))))
          have HOX := hid (show (out ++ [c]).length ≤ 4 * (i + 1) by rw [List.length_append]; simp; omega)
          clear h1 h2 h3 HP HC HRR
          go_wp2
          go_roundw
          case rel => exact ⟨out ++ [c], i + 1, by rfl, by go_num, by omega, HOX.out, HF, HB⟩
          case measure => simp [intOf]; omega
    · obtain rfl : i = s.length := by omega
      have HF := hid (show ANS = none by rw [HP.out, List.drop_length]; rfl)
      have FA2 := hid (FA.out wr HRr.out)
      clear HP
      go_wp2_with fail
      refine FA2.out.mono ?_
      rintro x w3 ⟨rfl, hr3, hb3⟩
      have HR3 := hid hr3
      have HB3 := hid hb3
      clear hr3 hb3
      go_wp2
      go_ret
      exact ⟨by rw [HF.out]; rfl, by rw [HF.out]; exact HR3.out, (But.below HB.out).trans HB3.out⟩
end Go.Proofs.YtjaebndajhppgaaGreatDoor
namespace Go.Proofs.YtjaebndajhppgaaGreatDoor
set_option linter.unusedVariables false
set_option linter.unusedSimpArgs false
set_option maxRecDepth 100000
open Go.ChangeShapes Go.WideShapes Go.ChangeAt Go.RowKit

/-- A block, its cells and its mark. -/
def BlkF (w : World) (b : Nat) (A : List Value) (t : TypeId) (fr : Nat × Nat) : Prop := w.heap[b]? = some (.cells A.toArray t fr)
theorem BlkF.lt {w : World} {b : Nat} {A : List Value} {t : TypeId} {fr : Nat × Nat} (h : BlkF w b A t fr) : b < w.heap.size := lt_of_block h
theorem BlkF.cell {w : World} {b : Nat} {A : List Value} {t : TypeId} {fr : Nat × Nat} (h : BlkF w b A t fr) {i : Nat} {v : Value} (hv : A[i]? = some v) : w.cell? ⟨b, i, none⟩ = some v := by
  unfold BlkF at h; simp [World.cell?, h, hv]
theorem BlkF.free {w : World} {b : Nat} {A : List Value} {t : TypeId} {fr : Nat × Nat} (h : BlkF w b A t fr) (i : Nat) (hi : i < fr.1) : w.frozen? ⟨b, i, none⟩ = false := by
  unfold BlkF at h; simp [World.frozen?, h]; omega
theorem BlkF.set {w : World} {b : Nat} {A : List Value} {t : TypeId} {fr : Nat × Nat} (h : BlkF w b A t fr) (i : Nat) (v : Value) : BlkF (w.setCell ⟨b, i, none⟩ v) b (A.set i v) t fr := by
  have hlt := h.lt
  unfold BlkF at *
  have h' : w.heap[b] = .cells A.toArray t fr := by simpa [Array.getElem?_eq_getElem hlt] using h
  show (w.heap.modify b _)[b]? = _
  rw [Array.getElem?_eq_getElem (by simpa using hlt), Array.getElem_modify_self, h']
  simp
theorem size_of_text2 (l : List UInt8) : (⟨l.toArray⟩ : ByteArray).size = l.length := rfl
theorem lower_low {c : UInt8} (h : c.toNat < 65 ∨ 90 < c.toNat) : Tm.lower c = c := by unfold Tm.lower; rw [if_neg (by omega)]
theorem lower_cap {c : UInt8} (h : 65 ≤ c.toNat ∧ c.toNat ≤ 90) : (Tm.lower c).toNat = c.toNat + 32 := by
  unfold Tm.lower; rw [if_pos h]; simp; omega
/-- The first i of them small. -/
def lowN (s : List UInt8) (i : Nat) : List UInt8 := (s.take i).map Tm.lower ++ s.drop i
theorem lowN_len (s : List UInt8) (i : Nat) : (lowN s i).length = s.length := by unfold lowN; rw [List.length_append, List.length_map, List.length_take, List.length_drop]; omega
theorem lowN_at {s : List UInt8} {i : Nat} {c : UInt8} (h : s[i]? = some c) : (lowN s i)[i]? = some c := by
  obtain ⟨hl, e⟩ := List.getElem?_eq_some_iff.1 h
  unfold lowN
  rw [List.getElem?_append_right (by simp; omega)]
  simp [show min i s.length = i by omega, h]
theorem lowN_step {s : List UInt8} {i : Nat} {c : UInt8} (h : s[i]? = some c) : lowN s (i + 1) = (lowN s i).set i (Tm.lower c) := by
  obtain ⟨hl, e⟩ := List.getElem?_eq_some_iff.1 h
  unfold lowN
  rw [List.set_append_right _ _ (by simp; omega), List.take_add_one, h]
  simp [show min i s.length = i by omega]
  rw [List.drop_eq_getElem_cons hl]; rfl
theorem lowN_same {s : List UInt8} {i : Nat} {c : UInt8} (h : s[i]? = some c) (hc : Tm.lower c = c) : lowN s (i + 1) = lowN s i := by
  rw [lowN_step h, hc]
  obtain ⟨hl, e⟩ := List.getElem?_eq_some_iff.1 (lowN_at h)
  rw [← e]; simp
theorem lowN_all (s : List UInt8) : lowN s s.length = s.map Tm.lower := by unfold lowN; simp
theorem byv_set (A : List UInt8) (pad : List Value) (i : Nat) (c : UInt8) (h : i < A.length) : (A.map byv ++ pad).set i (byv c) = (A.set i c).map byv ++ pad := by
  rw [List.set_append_left _ _ (by simpa using h), List.map_set]
theorem byv_get {A : List UInt8} {pad : List Value} {i : Nat} {c : UInt8} (h : A[i]? = some c) : (A.map byv ++ pad)[i]? = some (byv c) := by
  obtain ⟨hl, e⟩ := List.getElem?_eq_some_iff.1 h
  rw [List.getElem?_append_left (by simpa using hl)]
  simp [h]
set_option maxHeartbeats 1000000 in
theorem rsmall_any (s : List UInt8) (w : World) (hl : s.length ≤ 1000000000) :
    Calls Tryz.prog 226 #[str s] w fun e w' => e = .returned (str (s.map Tm.lower)) ∧ Below w.heap.size w w' := by
  have h0 := run_bytes_of_string (P := Tryz.prog) w 9 32 5 ⟨s.toArray⟩ Tryz.underlying9 Tryz.underlying32 Tryz.underlying5
  obtain ⟨cap, hcap⟩ : ∃ c, c = grownCap w (⟨s.toArray⟩ : ByteArray).size 0 5 := ⟨_, rfl⟩
  have hge : s.length ≤ cap := by rw [hcap]; exact grownCap_ge _ _ _ _
  rw [← hcap, size_of_text2] at h0
  obtain ⟨pad, hpad⟩ : ∃ pad : List Value, (bytesRow ⟨s.toArray⟩ cap).toList = s.map byv ++ pad := ⟨List.replicate (cap - s.length) (.int .u8 0), by simp [bytesRow, byv, Function.comp_def]; rfl⟩
  have hsz : s.length ≤ (bytesRow ⟨s.toArray⟩ cap).size := by rw [← Array.length_toList, hpad]; simp
  obtain ⟨fr, hfr⟩ : ∃ fr, fr = ((bytesRow ⟨s.toArray⟩ cap).size, (bytesRow ⟨s.toArray⟩ cap).size + 1) := ⟨_, rfl⟩
  rw [← hfr] at h0
  have hfr1 : s.length ≤ fr.1 := by rw [hfr]; exact hsz
  obtain ⟨w1, hw1⟩ : ∃ w1, w1 = w.drew.alloc (.cells (bytesRow ⟨s.toArray⟩ cap) 5 fr) := ⟨_, rfl⟩
  rw [← hw1] at h0
  have HB1 := hid (show BlkF w1 w.heap.size ((lowN s 0).map byv ++ pad) 5 fr by
    rw [show lowN s 0 = s by simp [lowN], ← hpad, hw1]
    have := heap_alloc_new w.drew (.cells (bytesRow ⟨s.toArray⟩ cap) 5 fr)
    unfold BlkF; rw [Array.toArray_toList]; exact this)
  have HW1 := hid (show Below w.heap.size w w1 by rw [hw1]; exact (Below.refl _ _).drew.alloc (Nat.le_refl _) _)
  clear hcap hpad hsz hfr hw1
  go_enter Tryz.func226, Tryz.ntmps226
  go_wp2
  go_loopw [4] (fun s4 wr => ∃ i : Nat, i ≤ s.length ∧ s4 = .int .i64 i ∧ Hid (BlkF wr w.heap.size ((lowN s i).map byv ++ pad) 5 fr) ∧ Hid (Below w.heap.size w wr)) (fun s4 _ => s.length - (intOf s4).toNat)
  case atStart => exact ⟨0, by omega, rfl, HB1, HW1⟩
  case round =>
    obtain ⟨i, hi, rfl, HK, HB⟩ := hrel
    by_cases hlt : i < s.length
    · obtain ⟨c, hc⟩ : ∃ c, s[i]? = some c := ⟨_, List.getElem?_eq_getElem hlt⟩
      have c0 : wr.cell? ⟨w.heap.size, i, none⟩ = some (.int .u8 (c.toNat : Nat)) := HK.out.cell (byv_get (lowN_at hc))
      have f0 := HK.out.free i (by omega)
      have hc256 : c.toNat < 256 := c.toNat_lt
      by_cases h : 65 ≤ c.toNat ∧ c.toNat ≤ 90
      · have hlo := lower_cap h
        have HS := hid (show BlkF (wr.setCell ⟨w.heap.size, i, none⟩ (.int .u8 ((c.toNat : Int) + 32))) w.heap.size ((lowN s (i + 1)).map byv ++ pad) 5 fr by
          have := HK.out.set i (byv (Tm.lower c))
          rw [byv_set _ _ _ _ (by rw [lowN_len]; exact hlt), ← lowN_step hc] at this
          have e : byv (Tm.lower c) = .int .u8 ((c.toNat : Int) + 32) := by unfold byv; rw [hlo]; congr 1
          rwa [e] at this)
        have HB2 := hid (show Below w.heap.size w (wr.setCell ⟨w.heap.size, i, none⟩ (.int .u8 ((c.toNat : Int) + 32))) from HB.out.setCell (Nat.le_refl _) _)
        obtain ⟨h1, h2⟩ := h
        clear hc hlo
        go_wp2
        go_roundw
        case rel => exact ⟨i + 1, by omega, by go_num, HS, HB2⟩
        case measure => simp [intOf]; omega
      · have HS := hid (show BlkF wr w.heap.size ((lowN s (i + 1)).map byv ++ pad) 5 fr by rw [lowN_same hc (lower_low (by omega))]; exact HK.out)
        clear hc
        rcases (show c.toNat < 65 ∨ 90 < c.toNat by omega) with h3 | h3
        all_goals
          clear h
          go_wp2
          go_roundw
          case rel => exact ⟨i + 1, by omega, by go_num, HS, HB⟩
          case measure => simp [intOf]; omega
    · obtain rfl : i = s.length := by omega
      have cv := conv_bytes (P := Tryz.prog) wr 32 5 9 Tryz.underlying32 Tryz.underlying5 Tryz.underlying9 (some ⟨w.heap.size, 0, none⟩) s.length cap ((s.map Tm.lower).map UInt8.toNat) (by simp) (Or.inr ⟨_, _, rfl, fun j hj => by
        rw [Nat.zero_add]
        have hj' : j < (s.map Tm.lower).length := by simpa using hj
        have := HK.out.cell (byv_get (pad := pad) (A := lowN s s.length) (i := j) (c := (s.map Tm.lower)[j]) (by rw [lowN_all]; exact List.getElem?_eq_getElem hj'))
        rw [this]
        simp [byv, List.getD, hj]⟩)
      rw [strOf_toNat] at cv
      go_wp2
      go_ret
      exact ⟨rfl, HB.out⟩
end Go.Proofs.YtjaebndajhppgaaGreatDoor
