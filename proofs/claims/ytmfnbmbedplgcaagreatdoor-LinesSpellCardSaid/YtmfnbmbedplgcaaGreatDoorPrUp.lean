/- The program's reader of a line: what stands up to a sign. -/
import Derived.Test.YtmfnbmbedplgcaaGreatDoorPrEsc2
import Derived.Test.YtmfnbmbedplgcaaGreatDoorTmEnc
import Derived.Test.YtmfnbmbedplgcaaGreatDoorTmEsc
import Derived.WalkMore
namespace Go.Proofs.YtmfnbmbedplgcaaGreatDoor
set_option linter.unusedVariables false
set_option linter.unusedSimpArgs false
set_option maxRecDepth 100000
open Go.ChangeShapes Go.WideShapes Go.ChangeAt Go.RowKit
theorem Pr.lt {w : World} {q : Nat} {l : List UInt8} {i : Nat} (h : Pr w q l i) : q < w.heap.size := Blk.lt h
theorem own_but {q B n : Nat} {w w' : World} {v : Value} {t : TypeId} {xs : List Value} (h : w.ownsRow B t 1 v n xs) (hb : But q w w') (hq : q < B) : w'.ownsRow B t 1 v n xs := by
  refine h.kept hb ?_
  cases hv : v.ownBlock with
  | none => exact .inl rfl
  | some k => refine .inr ?_; have := (h.lt k hv).1; simp; omega
theorem but_grown {q : Nat} {w w1 w2 : World} {o : Option Nat} (h : But q w w1) (hg : w1.grownBy w2 o) (ho : ∀ k, o = some k → w.heap.size ≤ k) : But q w w2 := by
  refine ⟨hg.os.trans h.os, hg.tape.trans h.tape, hg.output.trans h.output, Nat.le_trans h.size hg.size, fun i hi hn => ?_⟩
  rw [hg.block i (Nat.lt_of_lt_of_le hi h.size) ?_]
  · exact h.block i hi hn
  · intro e; have := ho i e.symm; omega
theorem Pr.grown {q i : Nat} {l : List UInt8} {w w' : World} {o : Option Nat} (h : Pr w q l i) (hg : w.grownBy w' o) (ho : ∀ k, o = some k → k ≠ q) : Pr w' q l i := by
  have hk := hg.block q (Blk.lt h) (fun e => ho q e.symm rfl)
  unfold Pr Blk at *
  rw [hk]; exact h
theorem grown_alloc {w w' : World} {o : Obj} {b : Option Nat} (h : (w.alloc o).grownBy w' b) : w.grownBy w' b :=
  ⟨h.os, h.tape, h.output, by have := h.size; simp at this; omega, fun k hk hn => by rw [h.block k (by simp; omega) hn]; exact Below.heap_alloc _ _ _ hk⟩
theorem escR_ok {lit : Bool} {s : List UInt8} {x n : Nat} (h : escR lit s = some (x, n)) : Tm.okRune x ∧ x ≤ 1114111 := by
  have hx : ∀ k t, Tm.hexR k t = some x → Tm.okRune x ∧ x ≤ 1114111 := by
    intro k t hk
    unfold Tm.hexR at hk
    split at hk
    · cases hk
    · rename_i y _
      split at hk
      · cases hk
      · simp only [Option.some.injEq] at hk
        unfold Tm.okRune; omega
  cases s with
  | nil => cases h
  | cons c t =>
    unfold escR at h
    simp only at h
    split at h
    · cases hr : Tm.hexR 4 t with
      | none => rw [hr] at h; cases h
      | some y => rw [hr] at h; simp only [Option.map_some, Option.some.injEq, Prod.mk.injEq] at h; rw [h.1] at hr; exact hx 4 t hr
    · split at h
      · cases hr : Tm.hexR 8 t with
        | none => rw [hr] at h; cases h
        | some y => rw [hr] at h; simp only [Option.map_some, Option.some.injEq, Prod.mk.injEq] at h; rw [h.1] at hr; exact hx 8 t hr
      · split at h
        · cases hr : Tm.letter c with
          | none => rw [hr] at h; cases h
          | some y =>
            rw [hr] at h; simp only [Option.map_some, Option.some.injEq, Prod.mk.injEq] at h
            have := letter_small hr
            unfold Tm.okRune; omega
        · cases h
theorem rune_cells {x : Nat} (h : Tm.okRune x) : Lib.runeCells (x : Int) = (Tm.runeT x).map byv := by
  show Lib.runeCells (x : Int) = (Tm.enc x).map byv
  rw [Tm.enc_eq x h]
  unfold Tm.okRune at h
  unfold Lib.runeCells
  by_cases h1 : x < 128
  · rw [if_pos h1, Lib.encodeRuneZ_one (by omega) (by omega)]
    simp only [List.map_cons, List.map_nil, byv, Tm.nat_of _ (show x < 256 by omega)]
  rw [if_neg h1]
  by_cases h2 : x < 2048
  · rw [if_pos h2, Lib.encodeRuneZ_two (by omega) (by omega)]
    simp only [List.map_cons, List.map_nil, byv, Tm.nat_of _ (show 192 + x / 64 < 256 by omega), Tm.nat_of _ (show 128 + x % 64 < 256 by omega)]
    congr 2
  rw [if_neg h2]
  by_cases h3 : x < 65536
  · rw [if_pos h3, Lib.encodeRuneZ_three (by omega)]
    simp only [List.map_cons, List.map_nil, byv, Tm.nat_of _ (show 224 + x / 4096 < 256 by omega), Tm.nat_of _ (show 128 + x / 64 % 64 < 256 by omega), Tm.nat_of _ (show 128 + x % 64 < 256 by omega)]
    congr 2
  rw [if_neg h3, Lib.encodeRuneZ_four (by omega) (by omega)]
  simp only [List.map_cons, List.map_nil, byv, Tm.nat_of _ (show 240 + x / 262144 < 256 by omega), Tm.nat_of _ (show 128 + x / 4096 % 64 < 256 by omega), Tm.nat_of _ (show 128 + x / 64 % 64 < 256 by omega), Tm.nat_of _ (show 128 + x % 64 < 256 by omega)]
  congr 2
/-- What stands up to a sign, as the program answers. -/
def upVal (r : Option (List UInt8 × List UInt8)) : Value := .tuple #[str (upT r), .bool r.isSome]
/-- What it leaves. -/
def UpPost (q : Nat) (l : List UInt8) (r : Option (List UInt8 × List UInt8)) (w : World) (x : Ending) (w' : World) : Prop :=
  x = .returned (upVal r) ∧ (∃ j, j ≤ l.length ∧ (r ≠ none → l.drop j = upR r) ∧ Pr w' q l j) ∧ But q w w'
set_option maxHeartbeats 4000000 in
theorem pup_any (q : Nat) (l : List UInt8) (i : Nat) (e : UInt8) (lit : Bool) (w : World) (hE : ErrAt w) (hq : q ≠ 4) (hr : Pr w q l i) (hl : l.length ≤ 10000000) (hi : i ≤ l.length) (he : e ≠ 92) (h10 : e ≠ 10 ∧ e ≠ 13) :
    Calls Tryz.prog 76 #[rdp q, .int .u8 (e.toNat : Nat), .bool lit] w (UpPost q l (Tm.upU e lit (l.drop i)) w) := by
  obtain ⟨i0, hi0, hz0, hz1, hz2⟩ := info_parts Tryz.info5
  have hqb : q < w.heap.size := hr.lt
  have HR := hid hr
  obtain ⟨ANS, hA⟩ : ∃ a, a = Tm.upU e lit (l.drop i) := ⟨_, rfl⟩
  rw [← hA]
  have HA := hid (show ANS = (Tm.upU e lit (l.drop i)).map (fun r => ([] ++ r.1, r.2)) by rw [hA]; cases Tm.upU e lit (l.drop i) <;> rfl)
  have ES := hid (fun (W : World) (j : Nat) (hB : But q w W) (hr : Pr W q l j) (hj : j ≤ l.length) => pesc_any q lit l j W (hE.but hB hq) hq hr (by omega) hj)
  clear hA hr hE
  go_enter Tryz.func76, Tryz.ntmps76
  go_wp2
  go_step3
  go_wp2
  go_step3
  go_wp2
  go_loopg [8, 9, 10, 11] l.length (fun gk s8 s9 s10 s11 wr => ∃ (out : List UInt8) (j : Nat), j ≤ l.length ∧ l.length - j ≤ gk ∧ out.length ≤ 4 * j ∧ Hid (Pr wr q l j) ∧ Hid (But q w wr) ∧ Hid (wr.ownsRow w.heap.size 5 1 s8 out.length (out.map byv)) ∧ Hid (ANS = (Tm.upU e lit (l.drop j)).map (fun r => (out ++ r.1, r.2))))
  case atStart => exact ⟨[], i, hi, by omega, by simp, HR, But.refl _ _, World.ownsRow_nil _ _ _ _, HA⟩
  case round =>
    obtain ⟨out, j, hj, hg, ho, HT, HB, HO, HP⟩ := hrel
    obtain ⟨c0, c1, f0, f1⟩ := HT.out.cells
    have hzr := HB.out.size
    match hd : l.drop j with
    | [] =>
      have hjl : j = l.length := by have := drop_none l j hd; omega
      have HF := hid (show ANS = none by rw [HP.out, hd]; rfl)
      subst hjl
      have hjb : decide ((l.length : Int) < (l.length : Int)) = false := decide_eq_false (by omega)
      clear hd HP
      go_wp2
      go_quiet (fail)
      go_wp2
      go_ret2
      exact ⟨by rw [HF.out]; rfl, ⟨l.length, Nat.le_refl _, fun h => absurd HF.out h, HT.out⟩, HB.out.trans (But.drawn q wr _)⟩
    | c :: u =>
      obtain ⟨hjl, hget, hdu⟩ := drop_get l j c u hd
      have hcc := fun q => ba_get l j c hget q
      have hjI : (j : Int) < (l.length : Int) := by omega
      have hjb : decide ((j : Int) < (l.length : Int)) = true := decide_eq_true hjI
      have HC := hid (show Tm.upU e lit (l.drop j) = _ by rw [hd, Tm.upU_cons])
      have HDU := hid hdu
      have hce : ((c.toNat : Int) == (e.toNat : Int)) = decide (c = e) := by
        rw [Bool.eq_iff_iff, beq_iff_eq, decide_eq_true_iff]
        exact ⟨fun h => UInt8.toNat_inj.1 (by omega), fun h => by rw [h]⟩
      clear hd hdu hget
      by_cases h1 : c = e
      · have HF := hid (show ANS = some (out, u) by rw [HP.out, HC.out, if_pos h1]; simp)
        rw [decide_eq_true h1] at hce
        have CV := hid (fun (W : World) (h : W.ownsRow w.heap.size 5 1 u8 out.length (out.map byv)) => conv_own h rfl)
        clear h1 HP HC
        go_wp2
        go_quiet (fail)
        obtain ⟨n1, hn1⟩ : ∃ n, n = nq := ⟨_, rfl⟩
        subst hn1
        go_wp2
        go_quiet (fail)
        have cv := CV.out ((wr.drewN (n1 + nq)).setCell ⟨q, 1, none⟩ (.int .i64 ((j : Int) + 1))) (own_but HO.out ((But.drawn q wr (n1 + nq)).trans (But.set q _ 1 (.int .i64 ((j : Int) + 1)))) hqb)
        go_wp2
        rw [Exit.noGoto_ret]
        go_ret2
        exact ⟨by rw [HF.out]; rfl, ⟨j + 1, hjl, fun _ => by rw [HF.out]; exact HDU.out, Pr.to (w := wr.drewN (n1 + nq)) HT.out (j + 1)⟩, HB.out.trans ((But.drawn q wr (n1 + nq)).trans (But.set q _ 1 _))⟩
      rw [decide_eq_false h1] at hce
      by_cases h2 : c = 92
      · have hb10 : ((c.toNat : Int) == 10) = false := by rw [h2]; rfl
        have hb13 : ((c.toNat : Int) == 13) = false := by rw [h2]; rfl
        have hb92 : ((c.toNat : Int) == 92) = true := by rw [h2]; rfl
        have ES2 := hid (fun (W : World) hB hr => ES.out W (j + 1) hB hr hjl)
        rw [HDU.out] at ES2
        cases hes : escR lit u with
        | none =>
          have HF := hid (show ANS = none by rw [HP.out, HC.out, if_neg h1, if_pos h2, esc1_escR, hes]; rfl)
          rw [hes] at ES2
          have ES3 : Hid (∀ W, But q w W → Pr W q l (j + 1) → Calls Tryz.prog 90 #[rdp q, .bool lit] W fun x w' => x = .returned (.tuple #[.int .i32 0, .bool false]) ∧ (∃ k, k ≤ l.length ∧ (∀ p : Nat × Nat, none = some p → k = j + 1 + p.2) ∧ Pr w' q l k) ∧ But q W w') := ES2
          clear h1 h2 HP HC hes ES2
          go_wp2
          go_quiet (fail)
          obtain ⟨n1, hn1⟩ : ∃ n, n = nq := ⟨_, rfl⟩
          subst hn1
          go_wp2
          go_quiet (fail)
          have HBs := hid (HB.out.trans ((But.drawn q wr (n1 + nq)).trans (But.set q _ 1 (.int .i64 ((j : Int) + 1)))))
          have HRs := hid (Pr.to (w := wr.drewN (n1 + nq)) HT.out (j + 1))
          go_wp2_with fail
          refine (ES3.out _ HBs.out HRs.out).mono ?_
          rintro x w3 ⟨rfl, ⟨k, hk, _, hr3⟩, hb3⟩
          have HR3 := hid hr3
          have HB3 := hid (HBs.out.trans hb3)
          clear hr3 hb3
          go_wp2
          try rw [Exit.noGoto_ret]
          go_ret2
          exact ⟨by rw [HF.out]; rfl, ⟨k, hk, fun h => absurd HF.out h, HR3.out⟩, HB3.out⟩
        | some p =>
          obtain ⟨x, n⟩ := p
          have hlen := Tm.esc1_len (lit := lit) (s := u) (x := Tm.runeT x) (n := n) (by rw [esc1_escR, hes]; rfl)
          obtain ⟨hok, hmx⟩ := escR_ok hes
          have hul : u.length + (j + 1) = l.length := by rw [← HDU.out, List.length_drop]; omega
          have HF := hid (show ANS = (Tm.upU e lit (l.drop (j + 1 + n))).map (fun r => ((out ++ Tm.runeT x) ++ r.1, r.2)) by
            rw [HP.out, HC.out, if_neg h1, if_pos h2, esc1_escR, hes]
            simp only [Option.map_some, Option.map_map]
            rw [← HDU.out, List.drop_drop]
            congr 1
            funext z; simp [Function.comp])
          rw [hes] at ES2
          have ES3 : Hid (∀ W, But q w W → Pr W q l (j + 1) → Calls Tryz.prog 90 #[rdp q, .bool lit] W fun y w' => y = .returned (.tuple #[.int .i32 (x : Nat), .bool true]) ∧ (∃ k, k ≤ l.length ∧ (∀ p : Nat × Nat, some (x, n) = some p → k = j + 1 + p.2) ∧ Pr w' q l k) ∧ But q W w') := ES2
          have AR := hid (fun (W : World) (h : W.ownsRow w.heap.size 5 1 u8 out.length (out.map byv)) (hz : w.heap.size ≤ W.heap.size) => Tryz.utf8_AppendRune_plain w.heap.size u8 out.length (out.map byv) (x : Int) (by omega) (by omega) W h (by omega) hz)
          rw [rune_cells hok, List.length_map, ← List.map_append, ← List.length_append] at AR
          have hol : (out ++ Tm.runeT x).length ≤ 4 * (j + 1 + n) := by rw [List.length_append]; omega
          have hjn : j + 1 + n ≤ l.length := by omega
          obtain ⟨out2, ho2⟩ : ∃ o, o = out ++ Tm.runeT x := ⟨_, rfl⟩
          rw [← ho2] at HF AR hol
          clear h1 h2 HP HC hes ES2 hlen ho2
          go_wp2
          go_quiet (fail)
          obtain ⟨n1, hn1⟩ : ∃ n, n = nq := ⟨_, rfl⟩
          subst hn1
          go_wp2
          go_quiet (fail)
          have HBx := hid ((But.drawn q wr (n1 + nq)).trans (But.set q _ 1 (.int .i64 ((j : Int) + 1))))
          have HRs := hid (Pr.to (w := wr.drewN (n1 + nq)) HT.out (j + 1))
          go_wp2_with fail
          refine (ES3.out _ (HB.out.trans HBx.out) HRs.out).mono ?_
          rintro y w3 ⟨rfl, ⟨k, hk, hkp, hr3⟩, hb3⟩
          have HR3 := hid hr3
          have HB3 := hid (HB.out.trans (HBx.out.trans hb3))
          have HO3 := hid (own_but HO.out (HBx.out.trans hb3) hqb)
          have hk2 : k = j + 1 + n := hkp (x, n) rfl
          subst hk2
          clear hr3 hb3 hkp
          go_wp2_with fail
          refine (AR.out _ HO3.out HB3.out.size).mono ?_
          rintro y w4 ⟨v4, rfl, ho4, o4, hg4⟩
          have HO4 := hid ho4
          have HR4 := hid (HR3.out.grown (grown_alloc hg4) (fun k hk => by have := (HO3.out.lt k hk).1; omega))
          have HB4 := hid (but_grown HB3.out (grown_alloc hg4) (fun k hk => (HO3.out.lt k hk).1))
          clear ho4 hg4
          go_wp2
          go_roundg (l.length - (j + 1 + n))
          case measure => omega
          case rel => exact ⟨out2, j + 1 + n, hjn, Nat.le_refl _, hol, HR4, HB4, HO4, HF⟩
      · have hb92 : ((c.toNat : Int) == 92) = false := beq_eq_false_iff_ne.2 (fun h => h2 (UInt8.toNat_inj.1 (show c.toNat = (92 : UInt8).toNat by show c.toNat = 92; omega)))
        by_cases h3 : c = 10 ∨ c = 13
        · have HF := hid (show ANS = none by rw [HP.out, HC.out, if_neg h1, if_neg h2, if_pos h3]; rfl)
          rcases h3 with h3 | h3
          · have hb10 : ((c.toNat : Int) == 10) = true := by rw [h3]; rfl
            clear h1 h2 h3 HP HC
            go_wp2
            go_quiet (fail)
            obtain ⟨n1, hn1⟩ : ∃ n, n = nq := ⟨_, rfl⟩
            subst hn1
            go_wp2
            go_quiet (fail)
            go_wp2
            try rw [Exit.noGoto_ret]
            go_ret2
            exact ⟨by rw [HF.out]; rfl, ⟨j + 1, hjl, fun h => absurd HF.out h, Pr.to (w := wr.drewN (n1 + nq)) HT.out (j + 1)⟩, HB.out.trans ((But.drawn q wr (n1 + nq)).trans (But.set q _ 1 _))⟩
          · have hb10 : ((c.toNat : Int) == 10) = false := by rw [h3]; rfl
            have hb13 : ((c.toNat : Int) == 13) = true := by rw [h3]; rfl
            clear h1 h2 h3 HP HC
            go_wp2
            go_quiet (fail)
            obtain ⟨n1, hn1⟩ : ∃ n, n = nq := ⟨_, rfl⟩
            subst hn1
            go_wp2
            go_quiet (fail)
            go_wp2
            try rw [Exit.noGoto_ret]
            go_ret2
            exact ⟨by rw [HF.out]; rfl, ⟨j + 1, hjl, fun h => absurd HF.out h, Pr.to (w := wr.drewN (n1 + nq)) HT.out (j + 1)⟩, HB.out.trans ((But.drawn q wr (n1 + nq)).trans (But.set q _ 1 _))⟩
        · have hb10 : ((c.toNat : Int) == 10) = false := beq_eq_false_iff_ne.2 (fun h => h3 (.inl (UInt8.toNat_inj.1 (show c.toNat = (10 : UInt8).toNat by show c.toNat = 10; omega))))
          have hb13 : ((c.toNat : Int) == 13) = false := beq_eq_false_iff_ne.2 (fun h => h3 (.inr (UInt8.toNat_inj.1 (show c.toNat = (13 : UInt8).toNat by show c.toNat = 13; omega))))
          have HF := hid (show ANS = (Tm.upU e lit (l.drop (j + 1))).map (fun r => ((out ++ [c]) ++ r.1, r.2)) by
            rw [HP.out, HC.out, if_neg h1, if_neg h2, if_neg h3, HDU.out]
            simp only [Option.map_map]
            congr 1
            funext z; simp [Function.comp])
          have hol : (out ++ [c]).length ≤ 4 * (j + 1) := by rw [List.length_append]; simp; omega
          have hom : (out ++ [c]).length = out.length + 1 := by simp
          have hmp : (out ++ [c]).map byv = out.map byv ++ [byv c] := by simp
          obtain ⟨out2, ho2⟩ : ∃ o, o = out ++ [c] := ⟨_, rfl⟩
          rw [← ho2] at HF hol hom hmp
          clear h1 h2 h3 HP HC ho2
          go_wp2
          go_quiet (fail)
          obtain ⟨n1, hn1⟩ : ∃ n, n = nq := ⟨_, rfl⟩
          subst hn1
          go_wp2
          go_quiet (fail)
          have HBx := hid ((But.drawn q wr (n1 + nq)).trans (But.set q _ 1 (.int .i64 ((j : Int) + 1))))
          have HRs := hid (Pr.to (w := wr.drewN (n1 + nq)) HT.out (j + 1))
          have HO3 := hid (own_but HO.out HBx.out hqb)
          have HB3 := hid (HB.out.trans HBx.out)
          go_wp2_with (at_builtin; refine wpList_append_many rfl (.tmp 60) (.tmp 62) 57 rfl w.heap.size 5 i0 _ 1 Tryz.underlying57 hi0 hz0 hz1 hz2 rfl u8 _ _ [byv c] 1 (by rfl) ((wr.drewN (n1 + nq)).setCell ⟨q, 1, none⟩ (.int .i64 ((j : Int) + 1))) rfl rfl HO3.out wr.heap.size ?hh rfl ?one ?b1 ?b2 ?base ?_)
          case hh => simp
          case one => intro u hu; simp at hu; rw [hu]; rfl
          case b1 => unfold maxLen; omega
          case b2 => omega
          case base => exact HB3.out.size
          intro v4 w4 ho4 hg4 _
          have HO4 := hid ho4
          rw [← hom, ← hmp] at HO4
          have HR4 := hid (HRs.out.grown hg4 (fun k hk => by have := (HO3.out.lt k hk).1; omega))
          have HB4 := hid (but_grown HB3.out hg4 (fun k hk => (HO3.out.lt k hk).1))
          clear ho4 hg4
          go_wp2
          go_roundg (l.length - (j + 1))
          case measure => omega
          case rel => exact ⟨out2, j + 1, hjl, Nat.le_refl _, hol, HR4, HB4, HO4, HF⟩
end Go.Proofs.YtmfnbmbedplgcaaGreatDoor
