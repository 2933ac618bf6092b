/- FrontOfNothing: a nil Dict has no texts; what is handed in is not kept, for every input. -/
import Derived.Test.YtdahfejecbcakaaFrLaw
namespace Go.Proofs.Ytdahfejecbcakaa
set_option linter.unusedVariables false
set_option linter.unusedSimpArgs false
set_option maxRecDepth 100000
open Go.ChangeShapes Go.WideShapes Go.ChangeAt Go.RowKit

theorem loc_nil (t : List UInt8) (W : World) : Calls Try.prog 19 #[.pointer none, str t] W fun e W' => e = .returned (.int .i64 0) ∧ W = W' := by
  have LI := hid (list_nil W)
  have BS := hid (bs_any (.slice none 0 0) [] t W (SlAt.nil _) (by simp) (fun a b _ h => by simp at h))
  go_enter Try.func19, Try.ntmps19
  go_wp2_with fail
  refine LI.out.mono ?_
  rintro e w' ⟨rfl, rfl⟩
  go_wp2_with fail
  refine BS.out.mono ?_
  rintro e w' ⟨r, rfl, hr, hlo, hhi, rfl⟩
  have hd : Fr.fnd [] t ([] : List (List UInt8)).length r = false := by unfold Fr.fnd; exact decide_eq_false (by simp)
  rw [hd]
  clear hlo hhi hr BS hd
  go_wp2
  go_ret
  exact ⟨rfl, rfl⟩
theorem bytes_nil (W : World) : Calls Try.prog 21 #[.pointer none] W fun e W' => e = .returned (.slice none 0 0) ∧ W = W' := by
  go_enter Try.func21, Try.ntmps21
  go_wp2
  go_ret
  exact ⟨rfl, rfl⟩
def nL : List (List UInt8) := [[97], [98]]
theorem nL_may : Fr.May nL := by decide
theorem frontOfNothing_any (s : List UInt8) (id : Int) (W : World) (hs : s.length ≤ 9223372036854775807) (hid1 : -9223372036854775808 ≤ id) :
    Calls Try.prog 8 #[str s, .int .i64 id] W fun e W' => e = .returned (.bool true) ∧ Below W.heap.size W W' := by
  by_cases h3 : 300 < s.length
  · go_enter Try.func8, Try.ntmps8
    go_wp2
    go_ret
    exact ⟨rfl, Below.refl _ _⟩
  · have PN := hid (fun W => pre_nil s W hs)
    have LN := hid (fun W => dlen_nil W)
    have LC := hid (fun W => loc_nil s W)
    have BN := hid (fun W => bytes_nil W)
    have EN := hid (fun W => ext_nil id W)
    have KN := hid (fun W => known_any W)
    go_enter Try.func8, Try.ntmps8
    go_wp2_with fail
    refine (PN.out _).mono ?_
    rintro e w1 ⟨rfl, hb1⟩
    have HT := hid (show TextsAt (w1.alloc (.cells #[str [97], str [98]] 9)) (.slice (some ⟨w1.heap.size, 0, none⟩) 2 2) nL from SlAt.built rfl rfl rfl (by unfold maxLen; omega))
    have NW := hid (new_ok _ nL _ HT.out nL_may)
    have HB1 := hid hb1
    have hz1 := hb1.size
    clear hb1
    go_wp2_with fail
    refine NW.out.mono ?_
    rintro e w2 ⟨p, rfl, hb2, hD, hp, hkey⟩
    have B2 := (Blk.new w1 [str [97], str [98]] 9).keep hb2
    have c0 := B2.cell (i := 0) (v := str [97]) rfl
    have f0 := B2.free 0
    have HD := hid (hkey (w2.setCell ⟨w1.heap.size, 0, none⟩ (str [122])) (fun k h1 h2 => Below.heap_setCell _ _ _ _ (by simp at h1 ⊢; omega)))
    have HB2 := hid ((below_then (below_then HB1.out ((Below.refl w1.heap.size w1).alloc (Nat.le_refl _) (.cells #[str [97], str [98]] 9))) hb2).setCell (p := ⟨w1.heap.size, 0, none⟩) (by show W.heap.size ≤ w1.heap.size; exact hz1) (str [122]))
    have EX := hid (ext_any p nL 1 _ HD.out (by omega))
    rw [show Fr.ext nL 1 = [97] by decide] at EX
    clear hb2 hD hp hkey B2
    go_wp2_with fail
    refine (LN.out _).mono ?_
    rintro e w' ⟨rfl, rfl⟩
    go_wp2_with fail
    refine (LC.out _).mono ?_
    rintro e w' ⟨rfl, rfl⟩
    go_wp2_with fail
    refine (BN.out _).mono ?_
    rintro e w' ⟨rfl, rfl⟩
    go_wp2_with fail
    refine (EN.out _).mono ?_
    rintro e w' ⟨rfl, rfl⟩
    go_wp2_with fail
    refine EX.out.mono ?_
    rintro e w' ⟨rfl, rfl⟩
    go_wp2_with fail
    refine (KN.out _).mono ?_
    rintro e w' ⟨rfl, hk⟩
    have HB := hid (below_then HB2.out hk)
    go_wp2
    go_ret
    exact ⟨rfl, HB.out⟩

theorem frontOfNothing_walk (H : Type) (enc : TypeId × Value → H) (W : World) (base : Nat) (args : Array Value) (ds gs : List (DataW H)) (before : List MemPlace)
    (hval : ∀ (j : Nat) t v, Try.f8.params[j]? = some t → args[j]? = some v → Value.okWide Try.prog W .any base t v)
    (hW : DataW.Whole enc Try.prog Try.f8.params.toList Rows.frontOfNothingSpec.vars false W args.toList ds gs before)
    (hz : (DataW.weightsEach Try.prog (Try.f8.params.toList ++ Rows.frontOfNothingSpec.plain.varTypes Try.prog) (ds ++ gs)).all (· ≤ reachBytes) = true)
    (hL : laidMetH Try.prog Rows.frontOfNothingRow.laid W) (hsh : W.ShapedOpen Try.prog) :
    Calls Try.prog 8 args W fun e W' => e = .returned (.bool true) ∧ Below W.heap.size W W' := by
  obtain ⟨p, q, hA, _, _, _, _⟩ := hW
  rw [Try.params8] at hA hval
  rw [Try.params8] at hz
  obtain ⟨v0, vs0, d0, ds0, p0, q0, hargs, rfl, rfl, h0, r0⟩ := trodAll_cons hA
  obtain ⟨v1, vs1, d1, ds1, p1, q1, rfl, rfl, rfl, h1, r1⟩ := trodAll_cons r0
  obtain ⟨rfl, rfl, rfl⟩ := trodAll_nil r1
  obtain rfl : args = #[v0, v1] := by cases args; simp_all
  obtain ⟨x0, rfl, rfl, rfl, w0⟩ := Go.ChangeMaps.open_string Try.underlying9 (hval 0 9 v0 rfl rfl) h0
  obtain ⟨x1, rfl, rfl, rfl, w1⟩ := open_int Try.underlying3 (hval 1 3 v1 rfl rfl) h1
  have b1 := bounds_i64 w1
  rw [str_of x0]
  exact frontOfNothing_any x0.data.toList x1 W (by rw [show x0.data.toList.length = x0.size from Array.length_toList]; unfold maxLen at w0; omega) (by omega)

theorem frontOfNothing_lifted (os : Os) (started : os.Started) (H : Type) (enc : TypeId × Value → H) (F : Stop.Interp) :
    ReturnsInHanded {} Try.checked os 8 .any ((OpenSpec.ofChange Rows.frontOfNothingSpec).preRow enc Try.prog Try.f8 Rows.frontOfNothingRow.domain false Rows.frontOfNothingRow.laid) (((OpenSpec.ofChange Rows.frontOfNothingSpec).at F).post enc Try.prog Try.f8 false true false false) := by
  obtain ⟨places, hx⟩ : ∃ places, DataW.whole enc Try.prog ((World.holding Try.prog os ⟨#[], #[], []⟩).forCall (fun _ _ => 0) ⟨#[], #[.string ByteArray.empty, .int .i64 0], []⟩).memory Try.f8.params.toList Rows.frontOfNothingSpec.vars false (#[.string ByteArray.empty, .int .i64 0] : Array Value).toList 8 = some ([.lit (.string []), .lit (.int .i64 0)], [], places) := ⟨[], by kernel_rfl⟩
  refine returnsInHanded_of_row (C := Try.checked) (s := OpenSpec.ofChange Rows.frontOfNothingSpec) own started (by kernel_rfl) Try.func8
    (witness_row_at (enc := enc) (C := Try.checked) false (World.holding Try.prog os ⟨#[], #[], []⟩) #[.string ByteArray.empty, .int .i64 0] rfl (by kernel_rfl) (by kernel_rfl) (by kernel_rfl)
      (OpenSpec.preRow_of_cond 8 hx (by kernel_rfl) (fun k hk => by cases hk) (by kernel_rfl) (laidMet_nil _ _))) ?_
  intro W base args ds gs before hval hW _ _ hz hL hsh _
  refine (frontOfNothing_walk H enc W base args ds gs before hval hW hz hL hsh).mono fun e W' ⟨he, hb⟩ => ⟨_, he, ?_⟩
  exact law_post (fn := Try.f8) (s := Rows.frontOfNothingSpec) (tb := 4) rfl (fun ds hd => by match ds, hd with | [d0, d1], _ => rfl) rfl Try.underlying4 (by kernel_rfl) hW hb

theorem frontOfNothing_said : Rows.FrontOfNothingSaid :=
  OpenClaim.holds_of_cond 8 Try.f8 rfl rfl rfl rfl rfl rfl rfl ⟨rfl, rfl, rfl, rfl, rfl⟩ rfl rfl rfl rfl rfl (by kernel_rfl) Try.func8 (by kernel_rfl)
    (of_decide_eq_true (by kernel_rfl)) (by unfold Func.isWrapper; first | (rw [if_pos (by decide +kernel)]; kernel_rfl) | (rw [if_neg (by decide +kernel)]; exact ⟨rfl, rfl⟩))
    (fun os started H enc _ F => by rw [OpenClaim.pre_eq_preRow]; exact frontOfNothing_lifted os started H enc F)
end Go.Proofs.Ytdahfejecbcakaa
