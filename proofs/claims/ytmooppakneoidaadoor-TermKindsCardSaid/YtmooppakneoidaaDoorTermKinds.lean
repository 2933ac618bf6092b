/- TermKinds: terms of unlike kinds of one text are not one; what is beside their own may not be, for every input. -/
import Derived.Test.YtmooppakneoidaaDoorTmLaid
import Derived.Test.YtmooppakneoidaaDoorTmRIs
import Derived.Test.YtmooppakneoidaaDoorTmCmp
namespace Go.Proofs.YtmooppakneoidaaDoor
set_option linter.unusedVariables false
set_option linter.unusedSimpArgs false
set_option maxRecDepth 100000
open Go.ChangeShapes Go.WideShapes Go.ChangeAt Go.RowKit

theorem kinds_out (p : List UInt8) (W : World) (hl : p.length ≤ 9223372036854775807) (hV : Vars W) (h : Tm.label p = false) :
    Calls Tryd.prog 7 #[str p] W fun e W' => e = .returned (.bool true) ∧ Below W.heap.size W W' := by
  have C := hid (ris_any 2 p [] W hl (by decide) hV)
  rw [show Tm.is 2 p [] = false by unfold Tm.is; simp [h]] at C
  go_enter Tryd.func7, Tryd.ntmps7
  go_wp2_with (go_at_call 11; refine C.out.mono ?_; rintro e w' ⟨rfl, hb⟩)
  go_ret
  exact ⟨rfl, hb⟩
theorem alnum_low {c : UInt8} (h : Tm.alnum c = true) : c.toNat < 128 ∧ Tm.irune c.toNat = true := by
  unfold Tm.alnum Tm.small Tm.digit at h
  simp only [Bool.or_eq_true, Bool.and_eq_true, decide_eq_true_eq] at h
  refine ⟨by omega, ?_⟩
  unfold Tm.irune
  rw [show ([34, 60, 62, 92, 94, 96, 123, 124, 125] : List Nat).contains c.toNat = false by simp; omega, decide_eq_true (show 33 ≤ c.toNat by omega), decide_eq_true (show c.toNat ≤ 126 by omega)]
  simp
theorem alnum_valid : ∀ {s : List UInt8}, s.all Tm.alnum = true → Lib.validD s = true
  | [], _ => rfl
  | c :: s, h => by
    rw [List.all_cons, Bool.and_eq_true] at h
    rw [Lib.validD_cons _ _ (alnum_low h.1).1, alnum_valid h.2]
theorem alnum_runes : ∀ {s : List UInt8} (n : Nat), s.all Tm.alnum = true → Tm.runesAll Tm.irune n s = true
  | [], n, _ => Tm.runesAll_nil _ n
  | c :: s, 0, _ => rfl
  | c :: s, n + 1, h => by
    rw [List.all_cons, Bool.and_eq_true] at h
    have hc := alnum_low h.1
    rw [Tm.runesAll_step _ _ _ (by simp), Lib.decodeL_ascii _ _ hc.1]
    simp only [List.drop_succ_cons, List.drop_zero]
    rw [alnum_runes n h.2, hc.2]; rfl
theorem label_parts {s : List UInt8} (h : Tm.label s = true) : 1 ≤ s.length ∧ s.length ≤ 8 ∧ s.all Tm.alnum = true := by
  unfold Tm.label at h
  simp only [Bool.and_eq_true, decide_eq_true_eq] at h
  exact ⟨h.1.1, h.1.2, h.2⟩
theorem label_iri {s : List UInt8} (h : Tm.label s = true) : Tm.isIRI s = true := by
  obtain ⟨h1, h2, h3⟩ := label_parts h
  unfold Tm.isIRI
  rw [alnum_valid h3, alnum_runes _ h3, decide_eq_true h1, decide_eq_true (show s.length ≤ 60 by omega)]; rfl
theorem label_text {s : List UInt8} (h : Tm.label s = true) : Tm.text s = true := by
  obtain ⟨h1, h2, h3⟩ := label_parts h
  unfold Tm.text
  rw [alnum_valid h3, decide_eq_true (show s.length ≤ 30 by omega)]; rfl
/-- What stands beside each kind's text. -/
def kx (i : Nat) : List UInt8 := if i = 3 then [101, 110] else if i = 4 then [97, 58, 98] else []
theorem kx_len (i : Nat) : (kx i).length ≤ 3 := by unfold kx; repeat' split
                                                   all_goals simp
theorem kx_is {s : List UInt8} (h : Tm.label s = true) (i : Nat) (hi : i < 5) : Tm.is ((i : Int) + 1) s (kx i) = true := by
  rcases (show i = 0 ∨ i = 1 ∨ i = 2 ∨ i = 3 ∨ i = 4 by omega) with rfl | rfl | rfl | rfl | rfl
  · show Tm.is 1 s [] = true; unfold Tm.is; simp [label_iri h]
  · show Tm.is 2 s [] = true; unfold Tm.is; simp [h]
  · show Tm.is 3 s [] = true; unfold Tm.is; simp [label_text h]
  · show Tm.is 4 s [101, 110] = true; unfold Tm.is; simp [label_text h]; decide
  · show Tm.is 5 s [97, 58, 98] = true; unfold Tm.is; simp [label_text h]; decide
theorem kx_not {s : List UInt8} (i : Nat) (hi : i < 5) : Tm.is ((i : Int) + 1) s (kx i ++ [60]) = false := by
  rcases (show i = 0 ∨ i = 1 ∨ i = 2 ∨ i = 3 ∨ i = 4 by omega) with rfl | rfl | rfl | rfl | rfl
  · show Tm.is 1 s [60] = false; rfl
  · show Tm.is 2 s [60] = false; rfl
  · show Tm.is 3 s [60] = false; rfl
  · show Tm.is 4 s [101, 110, 60] = false; unfold Tm.is; simp [show Tm.lang [101, 110, 60] = false by decide]
  · show Tm.is 5 s [97, 58, 98, 60] = false; unfold Tm.is; simp [show Tm.isIRI [97, 58, 98, 60] = false by decide]
theorem kx_read {s : List UInt8} (h : Tm.label s = true) (i : Nat) (hi : i < 5) : (Tm.rterm (Tm.show ((i : Int) + 1) s (kx i))).map (·.1) = some (i + 1) := by
  obtain ⟨h1, h2, h3⟩ := label_parts h
  have hn : Tm.noSign s := Tm.isIRI_sign (label_iri h)
  have ha : ∀ c ∈ s, Tm.alnum c = true := List.all_eq_true.1 h3
  rw [show (i : Int) + 1 = ((i + 1 : Nat) : Int) by omega, Tm.show_some (by omega)]
  rcases (show i = 0 ∨ i = 1 ∨ i = 2 ∨ i = 3 ∨ i = 4 by omega) with rfl | rfl | rfl | rfl | rfl
  · rw [show kx 0 = [] from rfl, Tm.rterm_iri hn]; rfl
  · rw [show kx 1 = [] from rfl, Tm.rterm_blank ha]; rfl
  · rw [show kx 2 = [] from rfl, Tm.rterm_plain]; rfl
  · rw [show kx 3 = [101, 110] from rfl, Tm.rterm_lang (by decide)]; rfl
  · rw [show kx 4 = [97, 58, 98] from rfl, Tm.rterm_typed (Tm.isIRI_sign (by decide))]; rfl
theorem kx_cmp {s : List UInt8} (h : Tm.label s = true) (i k : Nat) (hi : i < 5) (hk : k < 5) : (Tm.cmp (Tm.show ((i : Int) + 1) s (kx i)) (Tm.show ((k : Int) + 1) s (kx k)) == 0) = ((i : Int) == (k : Int)) := by
  rw [Bool.eq_iff_iff, beq_iff_eq, beq_iff_eq, Tm.cmp_zero]
  constructor
  · intro e
    have h1 := kx_read h i hi
    rw [e, kx_read h k hk] at h1
    simp at h1; omega
  · intro e
    obtain rfl : i = k := by omega
    rfl
theorem kinds_cells (w1 w2 : World) (p : List UInt8) (h : w2 = w1.alloc (Obj.cells #[Value.int IntKind.i64 1, str p, Value.string { data := #[] }, Value.int IntKind.i64 2, str p, Value.string { data := #[] }, Value.int IntKind.i64 3, str p, Value.string { data := #[] }, Value.int IntKind.i64 4, str p, Value.string { data := #[101, 110] }, Value.int IntKind.i64 5, str p, Value.string { data := #[97, 58, 98] }] 23)) (i : Nat) (hi : i < 5) :
    w2.cell? ⟨w1.heap.size, i * 3, none⟩ = some (.int .i64 ((i : Int) + 1)) ∧ w2.cell? ⟨w1.heap.size, i * 3 + 1, none⟩ = some (str p) ∧ w2.cell? ⟨w1.heap.size, i * 3 + 2, none⟩ = some (str (kx i)) := by
  subst h
  rw [cell_new, cell_new, cell_new]
  rcases (show i = 0 ∨ i = 1 ∨ i = 2 ∨ i = 3 ∨ i = 4 by omega) with rfl | rfl | rfl | rfl | rfl
  all_goals exact ⟨rfl, rfl, rfl⟩
set_option maxHeartbeats 4000000 in
theorem kinds_in (p : List UInt8) (W : World) (hl : p.length ≤ 9223372036854775807) (hV : Vars W) (h : Tm.label p = true) :
    Calls Tryd.prog 7 #[str p] W fun e W' => e = .returned (.bool true) ∧ Below W.heap.size W W' := by
  have C := hid (ris_any 2 p [] W hl (by decide) hV)
  rw [show Tm.is 2 p [] = true by unfold Tm.is; simp [h]] at C
  have HV := hid hV
  have IS := hid (fun (i : Nat) (hi : i < 5) w hV => by
    have := tis_any ((i : Int) + 1) p (kx i) w hl (by have := kx_len i; omega) hV
    rwa [kx_is h i hi] at this)
  have NO := hid (fun (i : Nat) (hi : i < 5) w hV => by
    have := tis_any ((i : Int) + 1) p (kx i ++ [60]) w hl (by have := kx_len i; rw [List.length_append]; simp; omega) hV
    rwa [kx_not i hi] at this)
  have hp8 := (label_parts h).2.1
  have CM := hid (fun (i k : Nat) (hi : i < 5) (hk : k < 5) w => tcmp_any ((i : Int) + 1) ((k : Int) + 1) p (kx i) p (kx k) w (by omega) (by have := kx_len i; omega) (by omega) (by have := kx_len k; omega))
  have HC := hid (fun (i k : Nat) hi hk => kx_cmp h i k hi hk)
  have HX := hid kx_len
  have N0 := hid (fun w h => tis_any 0 p [] w hl (by decide) h)
  rw [show Tm.is 0 p [] = false from rfl] at N0
  have N6 := hid (fun w h => tis_any 6 p [] w hl (by decide) h)
  rw [show Tm.is 6 p [] = false from rfl] at N6
  have KN := hid (fun w h => known_any w h)
  clear hV h hl
  go_enter Tryd.func7, Tryd.ntmps7
  go_wp2_with fail
  refine C.out.mono ?_
  rintro e w1 ⟨rfl, hb⟩
  have HB1 := hid hb
  clear hb C
  go_wp2_with fail
  obtain ⟨w2, hw2⟩ : ∃ w2, w2 = w1.alloc (Obj.cells #[Value.int IntKind.i64 1, str p, Value.string { data := #[] }, Value.int IntKind.i64 2, str p, Value.string { data := #[] }, Value.int IntKind.i64 3, str p, Value.string { data := #[] }, Value.int IntKind.i64 4, str p, Value.string { data := #[101, 110] }, Value.int IntKind.i64 5, str p, Value.string { data := #[97, 58, 98] }] 23) := ⟨_, rfl⟩
  have HC2 := hid (fun i (hi : i < 5) => kinds_cells w1 w2 p hw2 i hi)
  have HB2 := hid (show Below W.heap.size W w2 by rw [hw2]; exact HB1.out.alloc HB1.out.size _)
  rw [← hw2]
  clear hw2 HB1
  go_loopw [4, 5, 6] (fun s4 _ _ wr => ∃ i : Nat, i ≤ 5 ∧ s4 = .int .i64 i ∧ Hid (Below w2.heap.size w2 wr)) (fun s4 _ _ _ => 5 - (intOf s4).toNat)
  case atStart => exact ⟨0, by omega, rfl, Below.refl _ _⟩
  case round =>
    obtain ⟨i, hi5, rfl, HR⟩ := hrel
    by_cases hi : i < 5
    · obtain ⟨a0, a1, a2⟩ := HC2.out i hi
      have A0 := hid a0
      have A1 := hid a1
      have A2 := hid a2
      clear a0 a1 a2
      obtain ⟨wo, hwo⟩ : ∃ wo, wo = wr := ⟨_, rfl⟩
      subst hwo
      go_wp2_with fail
      go_loopw [5] (fun s5 wr => ∃ k : Nat, k ≤ 5 ∧ s5 = .int .i64 k ∧ Hid (Below w2.heap.size w2 wr)) (fun s5 _ => 5 - (intOf s5).toNat)
      case atStart => exact ⟨0, by omega, rfl, HR⟩
      case round =>
        obtain ⟨k, hk5, rfl, HRk⟩ := hrel
        by_cases hk : k < 5
        · obtain ⟨b0, b1, b2⟩ := HC2.out k hk
          have ka0 := fun q : Later wr.heap.size wr => q.keep (below_keep HRk.out A0.out)
          have ka1 := fun q : Later wr.heap.size wr => q.keep (below_keep HRk.out A1.out)
          have ka2 := fun q : Later wr.heap.size wr => q.keep (below_keep HRk.out A2.out)
          have kb0 := fun q : Later wr.heap.size wr => q.keep (below_keep HRk.out b0)
          have kb1 := fun q : Later wr.heap.size wr => q.keep (below_keep HRk.out b1)
          have kb2 := fun q : Later wr.heap.size wr => q.keep (below_keep HRk.out b2)
          clear b0 b1 b2
          have CC := hid (fun w => CM.out i k hi hk w)
          have hcc := HC.out i k hi hk
          obtain ⟨X, hX⟩ : ∃ X, X = kx i := ⟨_, rfl⟩
          obtain ⟨Y, hY⟩ : ∃ Y, Y = kx k := ⟨_, rfl⟩
          rw [← hX] at CC hcc ka2
          rw [← hY] at CC hcc kb2
          obtain ⟨c, hc⟩ : ∃ c, c = Tm.cmp (Tm.show ((i : Int) + 1) p X) (Tm.show ((k : Int) + 1) p Y) := ⟨_, rfl⟩
          rw [← hc] at CC hcc
          have hi0 : (0 : Int) ≤ (i : Int) := by omega
          have hk0 : (0 : Int) ≤ (k : Int) := by omega
          have hiz : (i : Int) < 5 := by omega
          have hkz : (k : Int) < 5 := by omega
          obtain ⟨b, hb⟩ : ∃ b, b = ((i : Int) == (k : Int)) := ⟨_, rfl⟩
          rw [← hb] at hcc
          have hbb := hb.symm
          clear hX hY hc hb
          cases b
          all_goals
            go_wp2_with fail
            refine wp_region_later wr.heap.size (by kernel_rfl) (by kernel_rfl) ?_
            repeat (go_big_quiet_step ((go_at_call 14; with_reducible exact Later.call (Nat.le_refl _) (CC.out _))))
            refine wpQuiet_nil ?_
            rintro _ ⟨q, rfl⟩
            have HP := hid (below_then HRk.out q.low)
            clear ka0 ka1 ka2 kb0 kb1 kb2
            go_wp2
            go_roundw
            case rel => exact ⟨k + 1, by omega, by go_num, HP⟩
            case measure => simp [intOf]; omega
        · obtain rfl : k = 5 := by omega
          have HV3 := hid (HV.out.keep (below_then HB2.out HRk.out))
          have a0 := below_keep HRk.out A0.out
          have a1 := below_keep HRk.out A1.out
          have a2 := below_keep HRk.out A2.out
          have hi0 : (0 : Int) ≤ (i : Int) := by omega
          have hiz : (i : Int) < 5 := by omega
          have hx3 := HX.out i
          have IS1 := hid (fun w h => IS.out i hi w h)
          have NO1 := hid (fun w h => NO.out i hi w h)
          obtain ⟨X, hX⟩ : ∃ X, X = kx i := ⟨_, rfl⟩
          rw [← hX] at IS1 NO1 a2 hx3
          have AP := ba_append X [60]
          clear hX
          have d0 := fun o => (below_keep ((Below.refl wr.heap.size wr).alloc (Nat.le_refl _) o) a0)
          have d1 := fun o => (below_keep ((Below.refl wr.heap.size wr).alloc (Nat.le_refl _) o) a1)
          have d2 := fun o => (below_keep ((Below.refl wr.heap.size wr).alloc (Nat.le_refl _) o) a2)
          go_wp2_with fail
          refine (IS1.out _ (HV3.out.keep ((Below.refl _ _).alloc (Nat.le_refl _) _))).mono ?_
          rintro e w3 ⟨rfl, hb⟩
          obtain ⟨k0, k1, k2, hB⟩ := tm_cells hb
          have HR2 := hid (below_then HRk.out hB)
          have HV4 := hid (HV3.out.keep hB)
          clear hb hB d0 d1 d2 a0 a1 a2
          go_wp2_with fail
          refine (NO1.out _ HV4.out).mono ?_
          rintro e w4 ⟨rfl, hb⟩
          have HR3 := hid (below_then HR2.out hb)
          clear hb k0 k1 k2
          go_wp2
          go_roundw
          case rel => exact ⟨i + 1, by omega, by go_num, HR3⟩
          case measure => simp [intOf]; omega
    · obtain rfl : i = 5 := by omega
      have HV5 := hid (HV.out.keep (below_then HB2.out HR.out))
      have HB5 := hid (below_then HB2.out HR.out)
      go_wp2_with fail
      refine (N0.out _ HV5.out).mono ?_
      rintro e w3 ⟨rfl, hb⟩
      have HB6 := hid (below_then HB5.out hb)
      clear hb
      go_wp2_with fail
      refine (N6.out _ (HV.out.keep HB6.out)).mono ?_
      rintro e w4 ⟨rfl, hb⟩
      have HB7 := hid (below_then HB6.out hb)
      clear hb
      go_wp2_with fail
      refine (KN.out _ (HV.out.keep HB7.out)).mono ?_
      rintro e w5 ⟨rfl, hb⟩
      have HB8 := hid (below_then HB7.out hb)
      clear hb
      go_wp2
      go_ret
      exact ⟨rfl, HB8.out⟩
theorem termKinds_any (p : List UInt8) (W : World) (hl : p.length ≤ 9223372036854775807) (hV : Vars W) :
    Calls Tryd.prog 7 #[str p] W fun e W' => e = .returned (.bool true) ∧ Below W.heap.size W W' := by
  cases h : Tm.label p
  · exact kinds_out p W hl hV h
  · exact kinds_in p W hl hV h

theorem termKinds_walk (H : Type) (enc : TypeId × Value → H) (W : World) (base : Nat) (args : Array Value) (ds gs : List (DataW H)) (before : List MemPlace)
    (hval : ∀ (j : Nat) t v, Tryd.f7.params[j]? = some t → args[j]? = some v → Value.okWide Tryd.prog W .any base t v)
    (hW : DataW.Whole enc Tryd.prog Tryd.f7.params.toList Rows.termKindsSpec.vars false W args.toList ds gs before)
    (hz : (DataW.weightsEach Tryd.prog (Tryd.f7.params.toList ++ Rows.termKindsSpec.plain.varTypes Tryd.prog) (ds ++ gs)).all (· ≤ reachBytes) = true)
    (hL : laidMetH Tryd.prog Rows.termKindsRow.laid W) (hsh : W.ShapedOpen Tryd.prog) :
    Calls Tryd.prog 7 args W fun e W' => e = .returned (.bool true) ∧ Below W.heap.size W W' := by
  obtain ⟨p, q, hA, _, _, _, _⟩ := hW
  rw [Tryd.params7] at hA hval
  rw [Tryd.params7] at hz
  obtain ⟨v0, vs0, d0, ds0, p0, q0, hargs, rfl, rfl, h0, r0⟩ := trodAll_cons hA
  obtain ⟨rfl, rfl, rfl⟩ := trodAll_nil r0
  obtain rfl : args = #[v0] := by cases args; simp_all
  obtain ⟨x0, rfl, rfl, rfl, w0⟩ := Go.ChangeMaps.open_string Tryd.underlying9 (hval 0 9 v0 rfl rfl) h0
  rw [str_of x0]
  exact termKinds_any x0.data.toList W (by rw [show x0.data.toList.length = x0.size from Array.length_toList]; unfold maxLen at w0; omega) (vars_of hL hsh)

theorem termKinds_lifted (os : Os) (started : os.Started) (H : Type) (enc : TypeId × Value → H) (F : Stop.Interp) :
    ReturnsInHanded {} Tryd.checked os 7 .any ((OpenSpec.ofChange Rows.termKindsSpec).preRow enc Tryd.prog Tryd.f7 Rows.termKindsRow.domain false Rows.termKindsRow.laid) (((OpenSpec.ofChange Rows.termKindsSpec).at F).post enc Tryd.prog Tryd.f7 false true false false) := by
  obtain ⟨places, hx⟩ : ∃ places, DataW.whole enc Tryd.prog ((laidWorld os).forCall (fun _ _ => 0) ⟨#[], #[.string ByteArray.empty], []⟩).memory Tryd.f7.params.toList Rows.termKindsSpec.vars false (#[.string ByteArray.empty] : Array Value).toList 8 = some ([.lit (.string [])], [], places) := ⟨[], by kernel_rfl⟩
  refine returnsInHanded_of_row (C := Tryd.checked) (s := OpenSpec.ofChange Rows.termKindsSpec) own started (by kernel_rfl) Tryd.func7
    (witness_row_at (enc := enc) (C := Tryd.checked) false (laidWorld os) #[.string ByteArray.empty] rfl (by kernel_rfl) (by kernel_rfl) (by kernel_rfl)
      (OpenSpec.preRow_of_cond 8 hx (by kernel_rfl) (fun k hk => by cases hk) (by kernel_rfl) (laidMet_of_run' 8 (by kernel_rfl) (by kernel_rfl)))) ?_
  intro W base args ds gs before hval hW _ _ hz hL hsh _
  refine (termKinds_walk H enc W base args ds gs before hval hW hz hL hsh).mono fun e W' ⟨he, hb⟩ => ⟨_, he, ?_⟩
  exact law_post (fn := Tryd.f7) (s := Rows.termKindsSpec) (tb := 4) rfl (fun ds hd => by match ds, hd with | [d0], _ => rfl) rfl Tryd.underlying4 (by kernel_rfl) hW hb

theorem termKinds_said : Rows.TermKindsSaid :=
  OpenClaim.holds_of_cond 7 Tryd.f7 rfl rfl rfl rfl rfl rfl rfl ⟨rfl, rfl, rfl, rfl, rfl⟩ rfl rfl rfl rfl rfl (by kernel_rfl) Tryd.func7 (by kernel_rfl)
    (of_decide_eq_true (by kernel_rfl)) (by unfold Func.isWrapper; first | (rw [if_pos (by decide +kernel)]; kernel_rfl) | (rw [if_neg (by decide +kernel)]; exact ⟨rfl, rfl⟩))
    (fun os started H enc _ F => by rw [OpenClaim.pre_eq_preRow]; exact termKinds_lifted os started H enc F)

theorem termKinds_plain (f : FuncId) (fn : Func) (hf : Tryd.pinned.checked.prog.funcNamed Rows.termKindsRow.func = some f) (hfn : Tryd.pinned.checked.prog.funcs[f]? = some fn) :
    false = Tryd.pinned.checked.prog.looks [] ∧ ∀ (j : Nat) t, fn.params[j]? = some t → Tryd.pinned.checked.prog.wantsStandIn t = false := by
  obtain rfl : f = 7 := Option.some.inj ((show Tryd.prog.funcNamed Rows.termKindsRow.func = some 7 by kernel_rfl).symm.trans hf) |>.symm
  obtain rfl : fn = Tryd.f7 := (Option.some.inj (Tryd.func7.symm.trans hfn)).symm
  refine ⟨by kernel_rfl, fun j t ht => ?_⟩
  have h := Array.mem_of_getElem? ht
  have hall : Tryd.f7.params.all (fun t => !Tryd.prog.wantsStandIn t) = true := by kernel_rfl
  have := Array.all_eq_true_iff_forall_mem.1 hall t h
  show Tryd.prog.wantsStandIn t = false
  simpa using this

/-- THE STATEMENT. -/
theorem termKinds_card : Rows.TermKindsCardSaid :=
  Claim7.holds_tied_plain_at .later [] _ _ _ _ termKinds_said (fun _ h => by cases h) (by kernel_rfl) (fun _ h => by cases h) termKinds_row_tie rfl ⟨rfl, rfl⟩ (by kernel_rfl) rfl termKinds_plain (by kernel_rfl)
end Go.Proofs.YtmooppakneoidaaDoor
