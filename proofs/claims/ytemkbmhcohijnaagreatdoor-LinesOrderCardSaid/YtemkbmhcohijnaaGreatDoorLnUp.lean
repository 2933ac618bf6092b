/- The document's reader: what stands up to a sign. -/
import Derived.Test.YtemkbmhcohijnaaGreatDoorLnEsc
namespace Go.Proofs.YtemkbmhcohijnaaGreatDoor
set_option linter.unusedVariables false
set_option linter.unusedSimpArgs false
set_option maxRecDepth 100000
open Go.ChangeShapes Go.WideShapes Go.ChangeAt Go.RowKit

namespace Tm
theorem up_fuel (e : UInt8) (lit : Bool) : ∀ (f g : Nat) (s : T), s.length < f → s.length < g → up f e lit s = up g e lit s
  | 0, g, s, h, _ => by omega
  | f + 1, 0, s, _, h => by omega
  | f + 1, g + 1, [], _, _ => rfl
  | f + 1, g + 1, c :: t, hf, hg => by
    unfold up
    simp only [List.length_cons] at hf hg
    rw [up_fuel e lit f g t (by omega) (by omega)]
    cases h : esc1 lit t with
    | none => rfl
    | some p =>
      obtain ⟨x, n⟩ := p
      simp only
      rw [up_fuel e lit f g (t.drop n) (by rw [List.length_drop]; omega) (by rw [List.length_drop]; omega)]
/-- What stands up to a sign, and what behind it. -/
def upU (e : UInt8) (lit : Bool) (s : T) : Option (T × T) := up (s.length + 1) e lit s
theorem upU_nil (e : UInt8) (lit : Bool) : upU e lit [] = none := rfl
theorem upU_cons (e : UInt8) (lit : Bool) (c : UInt8) (t : T) : upU e lit (c :: t) = if c = e then some ([], t) else if c = 92 then (match esc1 lit t with
      | none => none
      | some (x, n) => (upU e lit (t.drop n)).map (fun r => (x ++ r.1, r.2)))
    else if c = 10 ∨ c = 13 then none else (upU e lit t).map (fun r => (c :: r.1, r.2)) := by
  show up (t.length + 1 + 1) e lit (c :: t) = _
  rw [up]
  unfold upU
  cases h : esc1 lit t with
  | none => rfl
  | some p =>
    obtain ⟨x, n⟩ := p
    simp only
    rw [up_fuel e lit (t.length + 1) ((t.drop n).length + 1) (t.drop n) (by rw [List.length_drop]; omega) (by omega)]
theorem runeT_len (x : Nat) : (runeT x).length ≤ 4 := by
  have := encode_size_le (x : Int)
  unfold runeT
  simpa using this
theorem hexR_len {n : Nat} {s : T} {x : Nat} (h : hexR n s = some x) : n ≤ s.length := by
  rcases Nat.lt_or_ge s.length n with hl | hl
  · unfold hexR at h; rw [hexL_short n s 0 hl] at h; cases h
  · exact hl
theorem esc1_len {lit : Bool} {s x : T} {n : Nat} (h : esc1 lit s = some (x, n)) : 1 ≤ n ∧ n ≤ s.length ∧ x.length ≤ 4 := by
  cases s with
  | nil => cases h
  | cons c t =>
    have e0 : esc1 lit (c :: t) = if c = 117 then (hexR 4 t).map (fun x => (runeT x, 5)) else if c = 85 then (hexR 8 t).map (fun x => (runeT x, 9)) else if lit then (letter c).map (fun d => ([d], 1)) else none := rfl
    rw [e0] at h
    split at h
    · cases hr : hexR 4 t with
      | none => rw [hr] at h; cases h
      | some y =>
        rw [hr] at h
        simp only [Option.map_some, Option.some.injEq, Prod.mk.injEq] at h
        have := hexR_len hr
        have := runeT_len y
        obtain ⟨rfl, rfl⟩ := h
        simp only [List.length_cons]; omega
    · split at h
      · cases hr : hexR 8 t with
        | none => rw [hr] at h; cases h
        | some y =>
          rw [hr] at h
          simp only [Option.map_some, Option.some.injEq, Prod.mk.injEq] at h
          have := hexR_len hr
          have := runeT_len y
          obtain ⟨rfl, rfl⟩ := h
          simp only [List.length_cons]; omega
      · split at h
        · cases hr : letter c with
          | none => rw [hr] at h; cases h
          | some y =>
            rw [hr] at h
            simp only [Option.map_some, Option.some.injEq, Prod.mk.injEq] at h
            obtain ⟨rfl, rfl⟩ := h
            simp
        · cases h
end Tm
def upT (r : Option (List UInt8 × List UInt8)) : List UInt8 := match r with
  | none => []
  | some p => p.1
def upR (r : Option (List UInt8 × List UInt8)) : List UInt8 := match r with
  | none => []
  | some p => p.2
def upE (b : Bool) (r : Option (List UInt8 × List UInt8)) : Bool := match r with
  | none => true
  | some _ => b
theorem ba_from (l : List UInt8) (n : Nat) : (⟨l.toArray⟩ : ByteArray).extract n l.length = ⟨(l.drop n).toArray⟩ := ba_drop l n
set_option maxHeartbeats 4000000 in
theorem rup_any (q : Nat) (s : List UInt8) (b : Bool) (e : UInt8) (lit : Bool) (w : World) (hr : Rd w q s b) (hl : s.length ≤ 1000000000) (he : e ≠ 92) (h10 : e ≠ 10 ∧ e ≠ 13) :
    Calls Tryz.prog 30 #[rdp q, .int .u8 (e.toNat : Nat), .bool lit] w fun x w' => x = .returned (str (upT (Tm.upU e lit s))) ∧ Rd w' q (upR (Tm.upU e lit s)) (upE b (Tm.upU e lit s)) ∧ But q w w' := by
  have HR := hid hr
  obtain ⟨ANS, hA⟩ : ∃ a, a = Tm.upU e lit s := ⟨_, rfl⟩
  rw [← hA]
  have HA := hid (show ANS = (Tm.upU e lit (s.drop 0)).map (fun r => ([] ++ r.1, r.2)) by rw [hA, List.drop_zero]; cases Tm.upU e lit s <;> rfl)
  have FA := hid (fun w (h : Rd w q s b) => rfail_any q s b w h)
  clear hA hr
  go_enter Tryz.func30, Tryz.ntmps30
  go_wp2
  go_loopw [7, 8, 9, 10, 11] (fun s7 s8 _ _ _ wr => ∃ (out : List UInt8) (i : Nat), s7 = str out ∧ s8 = .int .i64 i ∧ i ≤ s.length ∧ out.length ≤ 4 * i ∧ Hid (ANS = (Tm.upU e lit (s.drop i)).map (fun r => (out ++ r.1, r.2))) ∧ Hid (Below w.heap.size w wr)) (fun _ s8 _ _ _ _ => s.length - (intOf s8).toNat)
  case atStart => exact ⟨[], 0, rfl, rfl, by omega, by simp, HA, Below.refl _ _⟩
  case round =>
    obtain ⟨out, i, rfl, rfl, hi, ho, HP, HB⟩ := hrel
    obtain ⟨c0, c1, f0, f1⟩ := (HR.out.keep HB.out).cells
    have HRr := hid (HR.out.keep HB.out)
    by_cases hlt : i < s.length
    · obtain ⟨c, hc⟩ : ∃ c, s[i]? = some c := ⟨_, List.getElem?_eq_getElem hlt⟩
      have hcc := fun q => ba_get s i c hc q
      have HC := hid (show Tm.upU e lit (s.drop i) = _ by
        obtain ⟨hl2, e2⟩ := List.getElem?_eq_some_iff.1 hc
        rw [List.drop_eq_getElem_cons hl2, e2, Tm.upU_cons])
      have hex1 : (⟨s.toArray⟩ : ByteArray).extract (i + 1) s.length = ⟨(s.drop (i + 1)).toArray⟩ := ba_drop s (i + 1)
      have hex2 : (⟨s.toArray⟩ : ByteArray).extract i (i + 1) = ⟨[c].toArray⟩ := by
        rw [ba_extract, show i + 1 - i = 1 by omega]
        obtain ⟨hl2, e2⟩ := List.getElem?_eq_some_iff.1 hc
        rw [List.drop_eq_getElem_cons hl2, e2]; rfl
      have HDL := hid (show (s.drop (i + 1)).length + (i + 1) = s.length by rw [List.length_drop]; omega)
      have hap := ba_append out [c]
      obtain ⟨r, hrr⟩ : ∃ r, r = s.drop (i + 1) := ⟨_, rfl⟩
      have HRR := hid hrr
      rw [← hrr] at HC hex1 HDL
      clear hc hrr
      have hce : ((c.toNat : Int) == (e.toNat : Int)) = decide (c = e) := by
        rw [Bool.eq_iff_iff, beq_iff_eq, decide_eq_true_iff]
        exact ⟨fun h => UInt8.toNat_inj.1 (by omega), fun h => by rw [h]⟩
      by_cases h1 : c = e
      · have HF := hid (show ANS = some (out, r) by rw [HP.out, HC.out, if_pos h1]; simp)
        rw [decide_eq_true h1] at hce
        clear h1 HP HC hap hex2
        go_wp2
        go_ret
        exact ⟨by rw [HF.out]; rfl, by rw [HF.out]; exact HRr.out.set0, (But.below HB.out).trans (But.set q wr 0 _)⟩
      rw [decide_eq_false h1] at hce
      by_cases h2 : c = 92
      · have hb2 : ((c.toNat : Int) == 92) = true := beq_iff_eq.2 (by rw [h2]; rfl)
        have ES := hid (fun w => resc_any r lit w (by have := HDL.out; omega))
        cases hes : Tm.esc1 lit r with
        | none =>
          have HF := hid (show ANS = none by rw [HP.out, HC.out, if_neg h1, if_pos h2, hes]; rfl)
          have ES2 : Hid (∀ w, Calls Tryz.prog 50 #[str r, .bool lit] w fun e w' => e = .returned (.tuple #[str [], .int .i64 0]) ∧ Below w.heap.size w w') := by rw [hes] at ES; exact ES
          clear h1 h2 HP HC hes ES hap hex2 HRR
          go_wp2_with fail
          refine (ES2.out _).mono ?_
          rintro x w2 ⟨rfl, hb⟩
          have HB2 := hid (below_then HB.out hb)
          have FA2 := hid (FA.out w2 (HRr.out.keep hb))
          clear hb
          go_wp2_with fail
          refine FA2.out.mono ?_
          rintro x w3 ⟨rfl, hr3, hb3⟩
          have HR3 := hid hr3
          have HB3 := hid hb3
          clear hr3 hb3
          go_wp2
          go_ret
          exact ⟨by rw [HF.out]; rfl, by rw [HF.out]; exact HR3.out, (But.below HB2.out).trans HB3.out⟩
        | some p =>
          obtain ⟨x, n⟩ := p
          obtain ⟨hn1, hn2, hn3⟩ := Tm.esc1_len hes
          have hdl := HDL.out
          have HF := hid (show ANS = (Tm.upU e lit (s.drop (i + n + 1))).map (fun r => (out ++ x ++ r.1, r.2)) by
            rw [HP.out, HC.out, if_neg h1, if_pos h2, hes, HRR.out]
            simp only [Option.map_map]
            rw [List.drop_drop, show i + 1 + n = i + n + 1 by omega]
            congr 1
            funext z; simp [Function.comp])
          have ES2 : Hid (∀ w, Calls Tryz.prog 50 #[str r, .bool lit] w fun e w' => e = .returned (.tuple #[str x, .int .i64 (n : Nat)]) ∧ Below w.heap.size w w') := by rw [hes] at ES; exact ES
          have hn0 : ((n : Int) == 0) = false := beq_eq_false_iff_ne.2 (by omega)
          have hap2 := ba_append out x
          have hin : i + n + 1 ≤ s.length := by omega
          have hox : (out ++ x).length ≤ 4 * (i + n + 1) := by rw [List.length_append]; omega
          have HOX := hid hox
          clear h1 h2 HP HC hes ES hap hex2 HRR hox hdl
          go_wp2_with fail
          refine (ES2.out _).mono ?_
          rintro z w2 ⟨rfl, hb⟩
          have HB2 := hid (below_then HB.out hb)
          clear hb
          go_wp2
          go_roundw
          case rel => exact ⟨out ++ x, i + n + 1, by rfl, by go_num, by omega, HOX.out, HF, HB2⟩
          case measure => simp [intOf]; omega
      · have hb2 : ((c.toNat : Int) == 92) = false := beq_eq_false_iff_ne.2 (fun h => h2 (UInt8.toNat_inj.1 (show c.toNat = (92 : UInt8).toNat by show c.toNat = 92; omega)))
        by_cases h3 : c = 10 ∨ c = 13
        · have HF := hid (show ANS = none by rw [HP.out, HC.out, if_neg h1, if_neg h2, if_pos h3]; rfl)
          have FA2 := hid (FA.out wr HRr.out)
          rcases h3 with h3 | h3
          · have hb3 : ((c.toNat : Int) == 10) = true := beq_iff_eq.2 (by rw [h3]; rfl)
            clear h1 h2 h3 HP HC hap hex2 HRR
            go_wp2_with fail
            refine FA2.out.mono ?_
            rintro x w3 ⟨rfl, hr3, hb3⟩
            have HR3 := hid hr3
            have HB3 := hid hb3
            clear hr3 hb3
            go_wp2
            go_ret
            exact ⟨by rw [HF.out]; rfl, by rw [HF.out]; exact HR3.out, (But.below HB.out).trans HB3.out⟩
          · have hb3 : ((c.toNat : Int) == 10) = false := by rw [h3]; rfl
            have hb4 : ((c.toNat : Int) == 13) = true := beq_iff_eq.2 (by rw [h3]; rfl)
            clear h1 h2 h3 HP HC hap hex2 HRR
            go_wp2_with fail
            refine FA2.out.mono ?_
            rintro x w3 ⟨rfl, hr3, hb3⟩
            have HR3 := hid hr3
            have HB3 := hid hb3
            clear hr3 hb3
            go_wp2
            go_ret
            exact ⟨by rw [HF.out]; rfl, by rw [HF.out]; exact HR3.out, (But.below HB.out).trans HB3.out⟩
        · have HF := hid (show ANS = (Tm.upU e lit (s.drop (i + 1))).map (fun r => (out ++ [c] ++ r.1, r.2)) by
            rw [HP.out, HC.out, if_neg h1, if_neg h2, if_neg h3, HRR.out]
            simp only [Option.map_map]
            congr 1
            funext z; simp [Function.comp])
          have hb3 : ((c.toNat : Int) == 10) = false := beq_eq_false_iff_ne.2 (fun h => h3 (.inl (UInt8.toNat_inj.1 (show c.toNat = (10 : UInt8).toNat by show c.toNat = 10; omega))))
          have hb4 : ((c.toNat : Int) == 13) = false := beq_eq_false_iff_ne.2 (fun h => h3 (.inr (UInt8.toNat_inj.1 (show c.toNat = (13 : UInt8).toNat by show c.toNat = 13; omega))))
          have HOX := hid (show (out ++ [c]).length ≤ 4 * (i + 1) by rw [List.length_append]; simp; omega)
          clear h1 h2 h3 HP HC HRR
          go_wp2
          go_roundw
          case rel => exact ⟨out ++ [c], i + 1, by rfl, by go_num, by omega, HOX.out, HF, HB⟩
          case measure => simp [intOf]; omega
    · obtain rfl : i = s.length := by omega
      have HF := hid (show ANS = none by rw [HP.out, List.drop_length]; rfl)
      have FA2 := hid (FA.out wr HRr.out)
      clear HP
      go_wp2_with fail
      refine FA2.out.mono ?_
      rintro x w3 ⟨rfl, hr3, hb3⟩
      have HR3 := hid hr3
      have HB3 := hid hb3
      clear hr3 hb3
      go_wp2
      go_ret
      exact ⟨by rw [HF.out]; rfl, by rw [HF.out]; exact HR3.out, (But.below HB.out).trans HB3.out⟩
end Go.Proofs.YtemkbmhcohijnaaGreatDoor
