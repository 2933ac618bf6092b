/- BoxIDs: IDs rise, none twice, and are not noughts; so many sections there may be, for every input. -/
import Derived.Test.YtgbhnkiballeeaaBxLaw
import Derived.Test.YtgbhnkiballeeaaBxRUnp
import Derived.Deep.AppendLies
import Derived.Deep.DeepCutAuto
namespace Go.Proofs.Ytgbhnkiballeeaa
set_option linter.unusedVariables false
set_option linter.unusedSimpArgs false
set_option maxRecDepth 100000
open Go.ChangeShapes Go.WideShapes Go.ChangeAt Go.RowKit

theorem Try.idinfo42 : (Try.prog.info? 42).map (fun i => (i.zero, i.size, i.bytes)) = some (some (.agg #[.int .i64 0, .slice none 0 0]), 2, 32) := by kernel_rfl
theorem mul_small (i : Nat) (s : Int) (hi : i ≤ 12) (h1 : -2 ≤ s) (h2 : s ≤ 100) : -24 ≤ (i : Int) * s ∧ (i : Int) * s ≤ 1200 := by
  rcases (show i = 0 ∨ i = 1 ∨ i = 2 ∨ i = 3 ∨ i = 4 ∨ i = 5 ∨ i = 6 ∨ i = 7 ∨ i = 8 ∨ i = 9 ∨ i = 10 ∨ i = 11 ∨ i = 12 by omega) with rfl | rfl | rfl | rfl | rfl | rfl | rfl | rfl | rfl | rfl | rfl | rfl | rfl <;> omega
/-- The sections that are built. -/
def ids (f s : Int) (i : Nat) : List Bx.Sec := (List.range i).map fun (j : Nat) => (f + (j : Int) * s, [j])
theorem ids_length (f s : Int) (i : Nat) : (ids f s i).length = i := by simp [ids]
theorem ids_snoc (f s : Int) (i : Nat) : ids f s (i + 1) = ids f s i ++ [(f + (i : Int) * s, [i])] := by simp [ids, List.range_succ]
theorem ids_sizes (f s : Int) (i : Nat) : Bx.sizes (ids f s i) = i := by
  induction i with
  | zero => rfl
  | succ i ih => rw [ids_snoc, sizes_append, ih]; rfl
theorem ids_bytes (f s : Int) (i : Nat) (hi : i ≤ 256) : Bx.Bytes (ids f s i) := fun x hx => by
  simp only [ids, List.mem_map, List.mem_range] at hx
  obtain ⟨j, hj, rfl⟩ := hx
  exact list_lt (fun y hy => by simp at hy; omega)
def lastI : Int → List Bx.Sec → Int
  | p, [] => p
  | _, s :: L => lastI s.1 L
theorem lastI_snoc (L : List Bx.Sec) (s : Bx.Sec) : ∀ p, lastI p (L ++ [s]) = s.1 := by
  induction L with
  | nil => intro p; rfl
  | cons x L ih => intro p; exact ih x.1
theorem rise_snoc (L : List Bx.Sec) (s : Bx.Sec) : ∀ p, Bx.rise p (L ++ [s]) ↔ Bx.rise p L ∧ lastI p L < s.1 ∧ s.1 ≤ 255 := by
  induction L with
  | nil => intro p; simp [Bx.rise, lastI]
  | cons x L ih => intro p; simp only [List.cons_append, Bx.rise, lastI, ih]; simp only [and_assoc]
theorem rise_ids (f s : Int) (i : Nat) : Bx.rise 0 (ids f s (i + 1)) ↔ Bx.rise 0 (ids f s i) ∧ 1 ≤ f + (i : Int) * s ∧ f + (i : Int) * s ≤ 255 ∧ (i = 0 ∨ 0 < s) := by
  rw [ids_snoc, rise_snoc]
  cases i with
  | zero => simp [ids, lastI, Bx.rise]; omega
  | succ k =>
    have e : f + ((k + 1 : Nat) : Int) * s = f + (k : Int) * s + s := by
      rw [Int.natCast_add, Int.add_mul]; omega
    rw [e]
    have hl : lastI 0 (ids f s (k + 1)) = f + (k : Int) * s := by rw [ids_snoc, lastI_snoc]
    rw [hl]
    constructor
    · rintro ⟨h1, h2, h3⟩
      have := Bx.rise_mem h1 (f + (k : Int) * s, [k]) (by rw [ids_snoc]; simp)
      simp only at this
      exact ⟨h1, by omega, h3, Or.inr (by omega)⟩
    · rintro ⟨h1, h2, h3, h4⟩
      exact ⟨h1, by omega, h3⟩
theorem ids_may (f s : Int) (n : Nat) (hn : n ≤ 12) : Bx.mayB (ids f s n) = (decide (n ≤ 8) && Bx.riseB 0 (ids f s n)) := by
  unfold Bx.mayB
  have ht : Bx.total (ids f s n) ≤ 100000 := by unfold Bx.total; rw [ids_length, ids_sizes]; omega
  rw [ids_length, decide_eq_true ht, Bool.and_true]
theorem riseB_ids (f s : Int) (i : Nat) : Bx.riseB 0 (ids f s (i + 1)) = (Bx.riseB 0 (ids f s i) && (decide (1 ≤ f + (i : Int) * s) && (decide (f + (i : Int) * s ≤ 255) && (decide (i = 0) || decide (0 < s))))) := by
  have h := rise_ids f s i
  rw [← Bx.riseB_iff, ← Bx.riseB_iff] at h
  cases h1 : Bx.riseB 0 (ids f s (i + 1)) <;> cases h2 : Bx.riseB 0 (ids f s i) <;> simp [h1, h2] at h ⊢ <;> first | exact h | omega
theorem boxIDs_out (x f s : Int) (W : World) (h : x < 0 ∨ (0 ≤ x ∧ 12 < x) ∨ (0 ≤ x ∧ x ≤ 12 ∧ f < -5) ∨ (0 ≤ x ∧ x ≤ 12 ∧ -5 ≤ f ∧ 300 < f) ∨ (0 ≤ x ∧ x ≤ 12 ∧ -5 ≤ f ∧ f ≤ 300 ∧ s < -2) ∨ (0 ≤ x ∧ x ≤ 12 ∧ -5 ≤ f ∧ f ≤ 300 ∧ -2 ≤ s ∧ 100 < s)) :
    Calls Try.prog 8 #[.int .i64 x, .int .i64 f, .int .i64 s] W fun e W' => e = .returned (.bool true) ∧ Below W.heap.size W W' := by
  rcases h with h | ⟨h, h1⟩ | ⟨h, h1, h2⟩ | ⟨h, h1, h2, h3⟩ | ⟨h, h1, h2, h3, h4⟩ | ⟨h, h1, h2, h3, h4, h5⟩
  all_goals
    go_enter Try.func8, Try.ntmps8
    go_wp2
    go_ret
    exact ⟨rfl, Below.refl _ _⟩
set_option maxHeartbeats 2000000 in
theorem boxIDs_in (n : Nat) (f s : Int) (W : World) (hn : n ≤ 12) (h1 : -5 ≤ f) (h2 : f ≤ 300) (h3 : -2 ≤ s) (h4 : s ≤ 100) :
    Calls Try.prog 8 #[.int .i64 n, .int .i64 f, .int .i64 s] W fun e W' => e = .returned (.bool true) ∧ Below W.heap.size W W' := by
  obtain ⟨is, hsi, hsz0, hsz1, hsz2⟩ := info_parts Try.idinfo42
  go_enter Try.func8, Try.ntmps8
  go_wp2
  go_loopw [7, 8, 9] (fun s7 s8 s9 wr => ∃ (i : Nat) (v : Value) (A : List Value) (r : Bool), i ≤ n ∧ s9 = .int .i64 i ∧ s7 = v ∧ s8 = .bool r ∧ Hid (A.length = i * 2) ∧ Hid (r = (decide (n ≤ 8) && Bx.riseB 0 (ids f s i))) ∧
    Hid (wr.ownsRow W.heap.size 42 2 v i A) ∧ Hid (RowCells W.heap.size wr v (ids f s i) A) ∧ Hid (Below W.heap.size W wr)) (fun _ _ s9 _ => n - (intOf s9).toNat)
  case atStart => exact ⟨0, .slice none 0 0, [], _, by omega, rfl, rfl, rfl, hid rfl, hid (by rw [show Bx.riseB 0 (ids f s 0) = true from rfl, Bool.and_true, decide_eq_decide]; omega), hid ⟨rfl, Or.inl ⟨rfl, rfl⟩⟩, hid (fun j hj => absurd hj (Nat.not_lt_zero _)), Below.refl _ _⟩
  case round =>
    obtain ⟨i, v, A, r, hin, rfl, hv, hr, HAL, HRR, HO, HR, HB⟩ := hrel
    have hv2 := hv.symm
    subst hv2
    have hr2 := hr.symm
    subst hr2
    clear hv hr
    by_cases hlt : i < n
    · have hltI : (i : Int) < n := by omega
      obtain ⟨m1, m2⟩ := mul_small i s (by omega) h3 h4
      have HST := hid (riseB_ids f s i)
      have HSN := hid (ids_snoc f s i)
      have hi256 : (i : Int) % 256 = i := by omega
      obtain ⟨p, hp⟩ : ∃ p : Int, p = (i : Int) * s := ⟨_, rfl⟩
      rw [← hp] at m1 m2 HST HSN
      have HP := hid hp
      have hps : (i : Int) * s = p := hp.symm
      clear hp
      go_upto_region 9 with fail
      obtain ⟨d, hd⟩ : ∃ d : Int, d = f + p := ⟨_, rfl⟩
      rw [← hd] at HST HSN ⊢
      have hdb : -29 ≤ d ∧ d ≤ 1500 := by omega
      obtain ⟨r2, hr2⟩ : ∃ r2, r2 = (r && (decide (1 ≤ d) && (decide (d ≤ 255) && (decide (i = 0) || decide (0 < s))))) := ⟨_, rfl⟩
      have HR2 := hid (show r2 = (decide (n ≤ 8) && Bx.riseB 0 (ids f s (i + 1))) by rw [hr2, HST.out, HRR.out, Bool.and_assoc])
      clear hd HST HRR hps
      go_cut [8] (fun s8 wx => s8 = .bool r2 ∧ wx = wr)
      case first =>
        cases r with
        | false =>
          rw [Bool.false_and] at hr2
          subst hr2
          go_wp2_with fail
          go_meet
          exact ⟨rfl, rfl⟩
        | true =>
          rw [Bool.true_and] at hr2
          rcases (show d < 1 ∨ (1 ≤ d ∧ 255 < d) ∨ (1 ≤ d ∧ d ≤ 255 ∧ i = 0) ∨ (1 ≤ d ∧ d ≤ 255 ∧ i ≠ 0 ∧ 0 < s) ∨ (1 ≤ d ∧ d ≤ 255 ∧ i ≠ 0 ∧ s ≤ 0) by omega) with k1 | ⟨k1, k2⟩ | ⟨k1, k2, k3⟩ | ⟨k1, k2, k3, k4⟩ | ⟨k1, k2, k3, k4⟩
          · have b1 : decide (1 ≤ d) = false := decide_eq_false (by omega)
            rw [b1, Bool.false_and] at hr2
            subst hr2
            go_wp2_with fail
            go_meet
            exact ⟨rfl, rfl⟩
          · have b1 : decide (1 ≤ d) = true := decide_eq_true k1
            have b2 : decide (d ≤ 255) = false := decide_eq_false (by omega)
            rw [b1, b2, Bool.true_and, Bool.false_and] at hr2
            subst hr2
            go_wp2_with fail
            go_meet
            exact ⟨rfl, rfl⟩
          · have b1 : decide (1 ≤ d) = true := decide_eq_true k1
            have b2 : decide (d ≤ 255) = true := decide_eq_true k2
            have b3 : ((i : Int) == 0) = true := beq_iff_eq.2 (by omega)
            rw [b1, b2, Bool.true_and, Bool.true_and, decide_eq_true k3, Bool.true_or] at hr2
            subst hr2
            clear k3
            go_wp2_with fail
            go_meet
            exact ⟨rfl, rfl⟩
          · have b1 : decide (1 ≤ d) = true := decide_eq_true k1
            have b2 : decide (d ≤ 255) = true := decide_eq_true k2
            have b3 : ((i : Int) == 0) = false := beq_eq_false_iff_ne.2 (by omega)
            have b4 : decide (0 < s) = true := decide_eq_true k4
            rw [b1, b2, b4, Bool.true_and, Bool.true_and, Bool.or_true] at hr2
            subst hr2
            clear k3
            go_wp2_with fail
            go_meet
            exact ⟨rfl, rfl⟩
          · have b1 : decide (1 ≤ d) = true := decide_eq_true k1
            have b2 : decide (d ≤ 255) = true := decide_eq_true k2
            have b3 : ((i : Int) == 0) = false := beq_eq_false_iff_ne.2 (by omega)
            have b4 : decide (0 < s) = false := decide_eq_false (by omega)
            rw [b1, b2, b4, Bool.true_and, Bool.true_and, decide_eq_false k3, Bool.or_false] at hr2
            subst hr2
            clear k3
            go_wp2_with fail
            go_meet
            exact ⟨rfl, rfl⟩
      case rest =>
        obtain ⟨hs8, hww⟩ := hcut
        subst hs8
        have hww' := hww.symm
        subst hww'
        clear hww hr2
        have hz := HB.out.size
        go_wp2_with (at_builtin; refine wpList_append_blk rfl (.tmp 64) (.tmp 70) 22 rfl W.heap.size 42 is _ 2 32 Try.underlying22 hsi hsz0 hsz1 hsz2 rfl (by decide) v i A rfl ((HO.out.alloc _).alloc _) (some ⟨wr.heap.size + 1, 0, none⟩) 1 1 [.int .i64 d, .slice (some ⟨wr.heap.size, 0, none⟩) 1 1] rfl ?nil rfl ?news ?one ?b1 ?b2 ?base ?_)
        case nil => intro h; cases h
        case news =>
          intro ad had j u hj
          cases had
          rw [add_cell rfl, Nat.zero_add, World.cell?_alloc_at _ _ _ _ (by simp)]
          simpa using hj
        case one => intro u hu; simp at hu; rcases hu with rfl | rfl <;> rfl
        case b1 => unfold maxLen; omega
        case b2 => omega
        case base => simp; omega
        intro v2 w2 g1 g2 g3
        have HB2 := hid (((HB.out.alloc hz _).alloc (by simp; omega) _).grown g2 (by simp; omega) (fun k hk => (HO.out.lt k hk).1))
        have hbel := (((Below.refl wr.heap.size wr).alloc (Nat.le_refl _) (.cells #[.int .u8 (i : Nat)] 5)).alloc (by simp) (.cells #[.int .i64 d, .slice (some ⟨wr.heap.size, 0, none⟩) 1 1] 42))
        have hby : Fresh wr.heap.size (wr.alloc (.cells #[.int .u8 (i : Nat)] 5)) (fun W => BytesAt W (.slice (some ⟨wr.heap.size, 0, none⟩) 1 1) [i]) :=
          fun w'' hw => SlAt.blk (f := u8v) (d := 0) (l := [i]) (n := 1) (W := w'') (b := wr.heap.size) (t := 5) (A := [.int .u8 (i : Nat)]) (by
            have hb0 : Blk (wr.alloc (.cells #[.int .u8 (i : Nat)] 5)) wr.heap.size [.int .u8 (i : Nat)] 5 := Blk.new' rfl rfl
            have hlt := hb0.lt
            unfold Blk at *
            rw [hw wr.heap.size (Nat.le_refl _) hlt]; exact hb0) rfl (fun j hj => by
            obtain rfl : j = 0 := by omega
            rfl) 1 (Nat.le_refl _) (by unfold maxLen; omega)
        have HR3 := hid (show RowCells W.heap.size w2 v2 (ids f s (i + 1)) (A ++ [.int .i64 d, .slice (some ⟨wr.heap.size, 0, none⟩) 1 1]) by
          rw [HSN.out]
          exact (HR.out.keep hbel).snoc (d, [i]) (.slice (some ⟨wr.heap.size, 0, none⟩) 1 1) (by rw [ids_length]; exact HAL.out)
            ((hby.keep ((Below.refl _ _).alloc (Nat.le_refl _) _)).beside hz (fun k hk => (HO.out.lt k hk).2)) g2 g3)
        have HO2 := hid g1
        have HAL2 := hid (show (A ++ [Value.int .i64 d, .slice (some ⟨wr.heap.size, 0, none⟩) 1 1]).length = (i + 1) * 2 by rw [List.length_append, HAL.out]; show i * 2 + 2 = _; omega)
        clear g1 g2 g3 hby hbel HSN HR HO HAL
        go_wp2
        go_roundw
        case rel => exact ⟨i + 1, v2, _, r2, by omega, by go_num, rfl, rfl, HAL2, HR2, HO2, HR3, HB2⟩
        case measure => simp [intOf]; omega
    · obtain rfl : i = n := by omega
      have hrm : r = Bx.mayB (ids f s i) := by rw [HRR.out, ids_may f s i hn]
      have HL := hid (ids_length f s i)
      have HFS := hid (HR.out.secs (by rw [HL.out]; exact HO.out))
      have HSZ := hid (ids_sizes f s i)
      have HBY := hid (ids_bytes f s i (by omega))
      have HBD := hid (show ∀ x ∈ ids f s i, -9223372036854775808 ≤ x.1 ∧ x.1 ≤ 9223372036854775807 ∧ x.2.length ≤ 140737488351232 from fun x hx => by
        simp only [ids, List.mem_map, List.mem_range] at hx
        obtain ⟨j, hj, rfl⟩ := hx
        obtain ⟨m1, m2⟩ := mul_small j s (by omega) h3 h4
        simp only [List.length_singleton]
        omega)
      generalize ids f s i = D at *
      obtain ⟨a6, c6, hv6, _⟩ := SecsAt.open HFS.out.it
      subst hv6
      rw [HL.out] at HFS ⊢
      obtain ⟨T, hT⟩ : ∃ T, T = Bx.total D := ⟨_, rfl⟩
      have hTI : ((T : Int) == 9 + 8 * (i : Int)) = true := by
        rw [beq_iff_eq, hT]; unfold Bx.total; rw [HL.out, HSZ.out]; omega
      clear HRR HAL HO HR
      by_cases hM : Bx.May D
      · have hrt : r = true := by rw [hrm, Bx.mayB_iff]; exact hM
        subst hrt
        have PK := hid (bpack_ok a6 i c6 D wr HL.out.symm HFS.out.it hM HBY.out)
        rw [← hT] at PK
        clear hM hrm hT HL HSZ
        go_wp2_with (first
          | (go_at_call 12; refine PK.out.mono ?_; rintro e w2 ⟨v2, rfl, hB2, hown⟩; obtain ⟨a2, c2, rfl, _⟩ := rowAt_own hown; clear hown)
          | (go_at_call 14; refine (known_any _).mono ?_; rintro e w6 ⟨rfl, hB6⟩))
        go_ret
        exact ⟨rfl, below_then (below_then HB.out hB2) hB6⟩
      · have hrt : r = false := by
          rw [hrm]
          cases hh : Bx.mayB D with
          | false => rfl
          | true => exact absurd ((Bx.mayB_iff D).1 hh) hM
        subst hrt
        have PK := hid (bpack_no a6 i c6 D wr HL.out.symm HFS.out.it HBD.out hM)
        clear hM hrm hT HL HSZ hTI
        go_wp2_with (first
          | (go_at_call 12; refine PK.out.mono ?_; rintro e w2 ⟨rfl, hB2⟩)
          | (go_at_call 14; refine (known_any _).mono ?_; rintro e w6 ⟨rfl, hB6⟩))
        go_ret
        exact ⟨rfl, below_then (below_then HB.out hB2) hB6⟩

theorem boxIDs_walk (H : Type) (enc : TypeId × Value → H) (W : World) (base : Nat) (args : Array Value) (ds gs : List (DataW H)) (before : List MemPlace)
    (hval : ∀ (j : Nat) t v, Try.f8.params[j]? = some t → args[j]? = some v → Value.okWide Try.prog W .any base t v)
    (hW : DataW.Whole enc Try.prog Try.f8.params.toList Rows.boxIDsSpec.vars false W args.toList ds gs before)
    (hz : (DataW.weightsEach Try.prog (Try.f8.params.toList ++ Rows.boxIDsSpec.plain.varTypes Try.prog) (ds ++ gs)).all (· ≤ reachBytes) = true)
    (hL : laidMetH Try.prog Rows.boxIDsRow.laid W) (hsh : W.ShapedOpen Try.prog) :
    Calls Try.prog 8 args W fun e W' => e = .returned (.bool true) ∧ Below W.heap.size W W' := by
  obtain ⟨p, q, hA, _, _, _, _⟩ := hW
  rw [Try.params8] at hA hval
  rw [Try.params8] at hz
  obtain ⟨v0, vs0, d0, ds0, p0, q0, hargs, rfl, rfl, h0, r0⟩ := trodAll_cons hA
  obtain ⟨v1, vs1, d1, ds1, p1, q1, rfl, rfl, rfl, h1, r1⟩ := trodAll_cons r0
  obtain ⟨v2, vs2, d2, ds2, p2, q2, rfl, rfl, rfl, h2, r2⟩ := trodAll_cons r1
  obtain ⟨rfl, rfl, rfl⟩ := trodAll_nil r2
  obtain rfl : args = #[v0, v1, v2] := by cases args; simp_all
  obtain ⟨x0, rfl, rfl, rfl, w0⟩ := open_int Try.underlying3 (hval 0 3 v0 rfl rfl) h0
  have b0 := bounds_i64 w0
  obtain ⟨x1, rfl, rfl, rfl, w1⟩ := open_int Try.underlying3 (hval 1 3 v1 rfl rfl) h1
  have b1 := bounds_i64 w1
  obtain ⟨x2, rfl, rfl, rfl, w2⟩ := open_int Try.underlying3 (hval 2 3 v2 rfl rfl) h2
  have b2 := bounds_i64 w2
  by_cases ho : x0 < 0 ∨ (0 ≤ x0 ∧ 12 < x0) ∨ (0 ≤ x0 ∧ x0 ≤ 12 ∧ x1 < -5) ∨ (0 ≤ x0 ∧ x0 ≤ 12 ∧ -5 ≤ x1 ∧ 300 < x1) ∨ (0 ≤ x0 ∧ x0 ≤ 12 ∧ -5 ≤ x1 ∧ x1 ≤ 300 ∧ x2 < -2) ∨ (0 ≤ x0 ∧ x0 ≤ 12 ∧ -5 ≤ x1 ∧ x1 ≤ 300 ∧ -2 ≤ x2 ∧ 100 < x2)
  · exact boxIDs_out x0 x1 x2 W ho
  · obtain ⟨n, rfl⟩ : ∃ n : Nat, x0 = n := ⟨x0.toNat, by omega⟩
    exact boxIDs_in n x1 x2 W (by omega) (by omega) (by omega) (by omega) (by omega)

theorem boxIDs_lifted (os : Os) (started : os.Started) (H : Type) (enc : TypeId × Value → H) (F : Stop.Interp) :
    ReturnsInHanded {} Try.checked os 8 .any ((OpenSpec.ofChange Rows.boxIDsSpec).preRow enc Try.prog Try.f8 Rows.boxIDsRow.domain false Rows.boxIDsRow.laid) (((OpenSpec.ofChange Rows.boxIDsSpec).at F).post enc Try.prog Try.f8 false true false false) := by
  obtain ⟨places, hx⟩ : ∃ places, DataW.whole enc Try.prog ((World.holding Try.prog os ⟨#[], #[], []⟩).forCall (fun _ _ => 0) ⟨#[], #[.int .i64 0, .int .i64 0, .int .i64 0], []⟩).memory Try.f8.params.toList Rows.boxIDsSpec.vars false (#[.int .i64 0, .int .i64 0, .int .i64 0] : Array Value).toList 8 = some ([.lit (.int .i64 0), .lit (.int .i64 0), .lit (.int .i64 0)], [], places) := ⟨[], by kernel_rfl⟩
  refine returnsInHanded_of_row (C := Try.checked) (s := OpenSpec.ofChange Rows.boxIDsSpec) own started (by kernel_rfl) Try.func8
    (witness_row_at (enc := enc) (C := Try.checked) false (World.holding Try.prog os ⟨#[], #[], []⟩) #[.int .i64 0, .int .i64 0, .int .i64 0] rfl (by kernel_rfl) (by kernel_rfl) (by kernel_rfl)
      (OpenSpec.preRow_of_cond 8 hx (by kernel_rfl) (fun k hk => by cases hk) (by kernel_rfl) (laidMet_nil _ _))) ?_
  intro W base args ds gs before hval hW _ _ hz hL hsh _
  refine (boxIDs_walk H enc W base args ds gs before hval hW hz hL hsh).mono fun e W' ⟨he, hb⟩ => ⟨_, he, ?_⟩
  exact law_post (fn := Try.f8) (s := Rows.boxIDsSpec) (tb := 4) rfl (fun ds hd => by match ds, hd with | [d0, d1, d2], _ => rfl) rfl Try.underlying4 (by kernel_rfl) hW hb

theorem boxIDs_said : Rows.BoxIDsSaid :=
  OpenClaim.holds_of_cond 8 Try.f8 rfl rfl rfl rfl rfl rfl rfl ⟨rfl, rfl, rfl, rfl, rfl⟩ rfl rfl rfl rfl rfl (by kernel_rfl) Try.func8 (by kernel_rfl)
    (of_decide_eq_true (by kernel_rfl)) (by unfold Func.isWrapper; first | (rw [if_pos (by decide +kernel)]; kernel_rfl) | (rw [if_neg (by decide +kernel)]; exact ⟨rfl, rfl⟩))
    (fun os started H enc _ F => by rw [OpenClaim.pre_eq_preRow]; exact boxIDs_lifted os started H enc F)
end Go.Proofs.Ytgbhnkiballeeaa
