/- The document's reader: what stands behind a backslash. -/
import Derived.Test.YtemkbmhcohijnaaGreatDoorLnHex
import Derived.Laws.Cover4
namespace Go.Proofs.YtemkbmhcohijnaaGreatDoor
set_option linter.unusedVariables false
set_option linter.unusedSimpArgs false
set_option maxRecDepth 100000
open Go.ChangeShapes Go.WideShapes Go.ChangeAt Go.RowKit

def escT (r : Option (List UInt8 × Nat)) : List UInt8 := match r with
  | none => []
  | some p => p.1
def escN (r : Option (List UInt8 × Nat)) : Nat := match r with
  | none => 0
  | some p => p.2
theorem runesBytes_one (r : Nat) : Value.string (runesBytes [(r : Int)]) = str (Tm.runeT r) := by
  unfold runesBytes Tm.runeT str
  simp only [List.foldl_cons, List.foldl_nil]
  generalize Utf8.encode (r : Int) = B
  have : ByteArray.empty ++ B = ⟨B.data.toList.toArray⟩ := by
    apply ByteArray.ext
    rw [ByteArray.data_append]
    simp
  rw [this]
theorem conv_rune1 (w : World) (r : Nat) : (convert 92 9 (.slice (some ⟨w.heap.size, 0, none⟩) 1 1)).run Tryz.prog (w.alloc (.cells #[.int .i32 (r : Int)] 21)) = .ok (str (Tm.runeT r)) (w.alloc (.cells #[.int .i32 (r : Int)] 21)) := by
  rw [← runesBytes_one]
  exact run_convert_runes (P := Tryz.prog) _ 92 9 21 ⟨w.heap.size, 0, none⟩ 1 1 [(r : Int)] (Nat.le_refl 1) Tryz.underlying92 Tryz.underlying21 Tryz.underlying9 (fun j hj => by
    rw [add_cell rfl, Nat.zero_add, cell_new]
    match j, hj with
    | 0, _ => rfl
    | j + 1, h => exact absurd h (by simp))
/-- The letters behind a backslash, and what they stand for. -/
def escFr : List UInt8 := [34, 92, 110, 114, 116, 98, 102, 39]
def escTo : List UInt8 := [34, 92, 10, 13, 9, 8, 12, 39]
theorem letter_at : ∀ k : Fin 8, Tm.letter (escFr.getD k.val 0) = some (escTo.getD k.val 0) := by decide
theorem letter_no (c : UInt8) (h : ∀ j, j < 8 → escFr.getD j 0 ≠ c) : Tm.letter c = none := by
  have e : ∀ j, j < 8 → c ≠ escFr.getD j 0 := fun j hj he => h j hj he.symm
  have e0 : c ≠ 34 := e 0 (by omega)
  have e1 : c ≠ 92 := e 1 (by omega)
  have e2 : c ≠ 110 := e 2 (by omega)
  have e3 : c ≠ 114 := e 3 (by omega)
  have e4 : c ≠ 116 := e 4 (by omega)
  have e5 : c ≠ 98 := e 5 (by omega)
  have e6 : c ≠ 102 := e 6 (by omega)
  have e7 : c ≠ 39 := e 7 (by omega)
  unfold Tm.letter
  rw [if_neg e0, if_neg e1, if_neg e2, if_neg e3, if_neg e4, if_neg e5, if_neg e6, if_neg e7]
theorem resc_hex (c : UInt8) (t : List UInt8) (lit : Bool) (n : Nat) (h : (c = 117 ∧ n = 4) ∨ (c = 85 ∧ n = 8)) (w : World) (hl : (c :: t).length ≤ 9223372036854775807) :
    Calls Tryz.prog 50 #[str (c :: t), .bool lit] w fun e w' => e = .returned (.tuple #[str (escT ((Tm.hexR n t).map fun x => (Tm.runeT x, n + 1))), .int .i64 (escN ((Tm.hexR n t).map fun x => (Tm.runeT x, n + 1)))]) ∧ Below w.heap.size w w' := by
  have HX := hid (fun w => rhex_any t n w (by omega) (by simp only [List.length_cons] at hl; omega))
  have hcc := fun q => ba_get (c :: t) 0 c rfl q
  have hem : ((c :: t : List UInt8) == []) = false := rfl
  have hlu2 : t.length + 1 ≤ 9223372036854775807 := by simpa using hl
  have hex : (⟨(c :: t).toArray⟩ : ByteArray).extract 1 (t.length + 1) = ⟨t.toArray⟩ := ba_tail c t
  clear hl
  cases hr : Tm.hexR n t with
  | none =>
    rw [hr] at HX
    rcases h with ⟨rfl, rfl⟩ | ⟨rfl, rfl⟩
    all_goals
      clear hr
      go_enter Tryz.func50, Tryz.ntmps50
      go_wp2_with (go_at_call 71; refine (HX.out _).mono ?_; rintro e w' ⟨rfl, rfl⟩)
      go_ret2
      exact ⟨rfl, Below.refl _ _⟩
  | some x =>
    rw [hr] at HX
    have HX2 : Hid (∀ w, Calls Tryz.prog 71 #[str t, .int .i64 (n : Nat)] w fun e w' => e = .returned (.int .i32 (x : Int)) ∧ w = w') := HX
    have cv := conv_rune1 w x
    rw [Option.map_some]
    obtain ⟨R, hR⟩ : ∃ R, R = Tm.runeT x := ⟨_, rfl⟩
    rw [← hR] at cv ⊢
    rw [show escT (some (R, n + 1)) = R from rfl, show escN (some (R, n + 1)) = n + 1 from rfl]
    clear hR
    have hx0 : (0 : Int) ≤ (x : Int) := by omega
    clear HX
    rcases h with ⟨rfl, rfl⟩ | ⟨rfl, rfl⟩
    all_goals
      clear hr
      go_enter Tryz.func50, Tryz.ntmps50
      go_wp2_with (go_at_call 71; refine (HX2.out _).mono ?_; rintro e w' ⟨rfl, rfl⟩)
      go_ret2
      exact ⟨rfl, (Below.refl _ _).alloc (Nat.le_refl _) _⟩
set_option maxHeartbeats 1000000 in
theorem resc_letter (c : UInt8) (t : List UInt8) (lit : Bool) (h : c ≠ 117 ∧ c ≠ 85) (w : World) (hl : (c :: t).length ≤ 9223372036854775807) :
    Calls Tryz.prog 50 #[str (c :: t), .bool lit] w fun e w' => e = .returned (.tuple #[str (escT (if lit then (Tm.letter c).map (fun d => ([d], 1)) else none)), .int .i64 (escN (if lit then (Tm.letter c).map (fun d => ([d], 1)) else none))]) ∧ Below w.heap.size w w' := by
  have hcc := fun q => ba_get (c :: t) 0 c rfl q
  have hem : ((c :: t : List UInt8) == []) = false := rfl
  have n1 : c.toNat ≠ 117 := fun e => h.1 (UInt8.toNat_inj.1 e)
  have n2 : c.toNat ≠ 85 := fun e => h.2 (UInt8.toNat_inj.1 e)
  have b1 : ((c.toNat : Int) == 117) = false := beq_eq_false_iff_ne.2 (by omega)
  have b2 : ((c.toNat : Int) == 85) = false := beq_eq_false_iff_ne.2 (by omega)
  have hlu2 : t.length + 1 ≤ 9223372036854775807 := by simpa using hl
  clear n1 n2 h hl
  cases lit
  · go_enter Tryz.func50, Tryz.ntmps50
    go_wp2
    go_loop [10] (fun s10 => s10 = .int .i64 0) (fun _ => 0)
    case atStart => rfl
    case round =>
      subst hrel
      go_wp2
      go_ret2
      exact ⟨rfl, Below.refl _ _⟩
  · go_enter Tryz.func50, Tryz.ntmps50
    go_wp2
    go_loopw [10] (fun s10 wr => ∃ i : Nat, i ≤ 8 ∧ s10 = .int .i64 i ∧ Hid (∀ j, j < i → escFr.getD j 0 ≠ c) ∧ Hid (∃ q, wr = w.drewN q)) (fun s10 _ => 8 - (intOf s10).toNat)
    case atStart => exact ⟨0, by omega, rfl, fun j hj => by omega, 0, rfl⟩
    case round =>
      obtain ⟨i, hi, rfl, HN, HQ⟩ := hrel
      obtain ⟨q, hq⟩ := HQ.out
      subst hq
      clear HQ
      by_cases hlt : i < 8
      · have HD := hid (letter_at ⟨i, hlt⟩)
        have g1 : escFr[i]? = some (escFr.getD i 0) := by have : i < escFr.length := hlt; simp [List.getD, this]
        have g2 : escTo[i]? = some (escTo.getD i 0) := by have : i < escTo.length := hlt; simp [List.getD, this]
        have hff := fun q => ba_get escFr i _ g1 q
        have ht2 : (⟨escTo.toArray⟩ : ByteArray).extract i (i + 1) = ⟨[escTo.getD i 0].toArray⟩ := by
          rw [ba_extract, show i + 1 - i = 1 by omega]
          obtain ⟨hl2, e2⟩ := List.getElem?_eq_some_iff.1 g2
          rw [List.drop_eq_getElem_cons hl2, e2]; rfl
        have HNX := hid (show escFr.getD i 0 ≠ c → ∀ j, j < i + 1 → escFr.getD j 0 ≠ c from fun hne j hj => by
          by_cases he : j = i
          · rw [he]; exact hne
          · exact HN.out j (by omega))
        obtain ⟨d, hd⟩ : ∃ d, d = escFr.getD i 0 := ⟨_, rfl⟩
        obtain ⟨f, hf⟩ : ∃ f, f = escTo.getD i 0 := ⟨_, rfl⟩
        simp only at HD
        rw [← hd] at hff HNX HD
        rw [← hf] at ht2 HD
        unfold escFr at hff
        unfold escTo at ht2
        have hiz : (i : Int) < 8 := by omega
        have hi0 : (0 : Int) ≤ (i : Int) := by omega
        clear hd hf g1 g2 HN
        by_cases hcd : d = c
        · subst hcd
          have be : ((d.toNat : Int) == (d.toNat : Int)) = true := by simp
          have HL := hid (show (Tm.letter d).map (fun d => (([d] : List UInt8), 1)) = some ([f], 1) by rw [HD.out]; rfl)
          go_wp2
          go_quiet (fail)
          go_wp2
          go_ret2
          exact ⟨by rw [HL.out]; rfl, below_drawn (Below.refl _ _) _⟩
        · have be : ((c.toNat : Int) == (d.toNat : Int)) = false := beq_eq_false_iff_ne.2 (fun e => hcd (UInt8.toNat_inj.1 (by omega)))
          have HNY := hid (HNX.out hcd)
          clear hcd
          go_wp2
          go_quiet (fail)
          go_wp2
          go_roundw
          case rel => exact ⟨i + 1, by omega, by go_num, HNY, q + nq, by first | rfl | rw [World.drewN_drewN]⟩
          case measure => simp [intOf]; omega
      · obtain rfl : i = 8 := by omega
        have HL := hid (show (Tm.letter c).map (fun d => (([d] : List UInt8), 1)) = none by rw [letter_no c HN.out]; rfl)
        clear HN
        go_wp2
        go_ret2
        exact ⟨by rw [HL.out]; rfl, below_drawn (Below.refl _ _) q⟩
theorem resc_any (s : List UInt8) (lit : Bool) (w : World) (hl : s.length ≤ 9223372036854775807) :
    Calls Tryz.prog 50 #[str s, .bool lit] w fun e w' => e = .returned (.tuple #[str (escT (Tm.esc1 lit s)), .int .i64 (escN (Tm.esc1 lit s))]) ∧ Below w.heap.size w w' := by
  cases s with
  | nil =>
    go_enter Tryz.func50, Tryz.ntmps50
    go_wp2
    go_ret2
    exact ⟨rfl, Below.refl _ _⟩
  | cons c t =>
    have e0 : Tm.esc1 lit (c :: t) = if c = 117 then (Tm.hexR 4 t).map (fun x => (Tm.runeT x, 5)) else if c = 85 then (Tm.hexR 8 t).map (fun x => (Tm.runeT x, 9)) else if lit then (Tm.letter c).map (fun d => ([d], 1)) else none := rfl
    rw [e0]
    by_cases h1 : c = 117
    · rw [if_pos h1]; exact resc_hex c t lit 4 (.inl ⟨h1, rfl⟩) w hl
    · rw [if_neg h1]
      by_cases h2 : c = 85
      · rw [if_pos h2]; exact resc_hex c t lit 8 (.inr ⟨h2, rfl⟩) w hl
      · rw [if_neg h2]; exact resc_letter c t lit ⟨h1, h2⟩ w hl
end Go.Proofs.YtemkbmhcohijnaaGreatDoor
