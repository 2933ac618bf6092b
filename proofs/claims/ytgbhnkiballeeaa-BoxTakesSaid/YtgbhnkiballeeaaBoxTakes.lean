/- BoxTakes: any bytes are taken, or refused, as the document takes them, for every input. -/
import Derived.Test.YtgbhnkiballeeaaBxLaw
import Derived.Test.YtgbhnkiballeeaaBxRUnp
import Derived.Deep.AppendLies
import Derived.Deep.DeepCutAuto
namespace Go.Proofs.Ytgbhnkiballeeaa
set_option linter.unusedVariables false
set_option linter.unusedSimpArgs false
set_option maxRecDepth 100000
open Go.ChangeShapes Go.WideShapes Go.ChangeAt Go.RowKit

theorem list_map_range (l : List Nat) (n : Nat) (hn : n = l.length) : (List.range n).map (fun i => u8v (l.getD i 0)) = l.map u8v := by
  subst hn
  refine List.ext_getElem (by simp) fun i h1 h2 => ?_
  simp [List.getD, show i < l.length by simpa using h1]

theorem boxTakes_out (a : Option Addr) (n cap : Nat) (W : World) (hn : 5000 < n) (hnm : n ≤ 9223372036854775807) :
    Calls Try.prog 4 #[.slice a n cap] W fun e W' => e = .returned (.bool true) ∧ Below W.heap.size W W' := by
  go_enter Try.func4, Try.ntmps4
  go_wp2
  go_ret
  exact ⟨rfl, Below.refl _ _⟩
set_option maxHeartbeats 1000000 in
theorem boxTakes_in (a : Option Addr) (n cap : Nat) (b : List Nat) (W : World) (hn : n = b.length) (h : BytesAt W (.slice a n cap) b) (hb : ∀ i, b.getD i 0 < 256) (h5 : n ≤ 5000) :
    Calls Try.prog 4 #[.slice a n cap] W fun e W' => e = .returned (.bool true) ∧ Below W.heap.size W W' := by
  obtain ⟨i0, hi, hz0, hz1, hz2⟩ := info_parts Try.info5
  have HN := hid hn
  have HS := hid h
  have HB := hid hb
  clear hn h hb
  have RUF := hid (fun w6 (hW : Below W.heap.size W w6) (_ : True) => runp_any a n cap b w6 HN.out (HS.out.keep hW) HB.out h5)
  go_enter Try.func4, Try.ntmps4
  go_wp2_with (at_builtin; refine wpList_append_row rfl (.tmp 11) (.tmp 12) 24 rfl W.heap.size 5 i0 _ 1 Try.underlying24 hi hz0 hz1 hz2 rfl (.slice (some ⟨W.heap.size, 0, none⟩) 0 0) 0 [] rfl ?own a n cap (fun i => u8v (b.getD i 0)) rfl ?nil ?row ?one ?b1 ?b2 ?base ?_)
  case own => exact World.ownsRow_made W #[] 0 (Nat.le_refl _) (by unfold maxLen; omega) rfl
  case nil =>
    obtain ⟨a', c', e, _, _, hn, _⟩ := SlAt.open HS.out
    simp only [Value.slice.injEq] at e
    obtain ⟨rfl, _, rfl⟩ := e
    intro h; have := hn h; exact ⟨by rw [HN.out]; exact this.1, this.2⟩
  case row => exact (SlAt.row HS.out).2.keep ((Below.refl _ _).alloc (Nat.le_refl _) _)
  case one => intro j _; rfl
  case b1 => unfold maxLen; omega
  case b2 => omega
  case base => simp
  intro v5 w5 hown hgr
  have HB5 := hid (show Below W.heap.size W w5 from ((Below.refl W.heap.size W).alloc (Nat.le_refl _) _).grown hgr (by simp) (fun k hk => by
    simp only [Value.ownBlock, Option.some.injEq] at hk; omega))
  have HO5 := hid (show w5.ownsRow W.heap.size 5 1 v5 n (b.map u8v) by rw [← list_map_range b n HN.out]; simpa [List.getD] using hown)
  obtain ⟨a5, c5, rfl, _⟩ := rowAt_own HO5.out
  have UN := hid (bunp_any a5 n c5 b w5 HN.out (own_bytes HO5.out HN.out) HB.out)
  clear hown hgr
  by_cases hu : ∃ L, Bx.unp b = some L
  · obtain ⟨L, hL⟩ := hu
    have HU := hid hL
    have hML := Bx.unp_some.1 hL
    have HL8 := hid hML.1.1
    have HBY := hid (show Bx.Bytes L from bytes_of_file (by
      rw [hML.2]; intro x hx
      obtain ⟨i, hi, rfl⟩ := List.getElem_of_mem hx
      have := HB.out i
      rwa [List.getD, List.getElem?_eq_getElem hi] at this))
    clear hL hML
    go_wp2_with fail
    refine UN.out.mono ?_
    rintro e w6 ⟨hB6, hE⟩
    obtain ⟨v6, rfl, hF6⟩ := ends_some hE HU.out
    obtain ⟨a6, c6, rfl, _⟩ := SecsAt.open hF6.it
    have HF6 := hid hF6
    have HB6 := hid (below_then HB5.out hB6)
    have RU := hid (RUF.out w6 HB6.out trivial)
    clear hE hF6 hB6 UN
    go_wp2_with fail
    refine RU.out.mono ?_
    rintro e w7 ⟨hB7, hE⟩
    obtain ⟨v7, rfl, hF7⟩ := ends_some hE HU.out
    obtain ⟨a7, c7, rfl, _⟩ := SecsAt.open hF7.it
    have HB7 := hid (below_then HB6.out hB7)
    have SM := hid (rsame_any (.slice a6 L.length c6) (.slice a7 L.length c7) L L w7 (HF6.out.keep hB7).it hF7.it HBY.out HBY.out (by have := HL8.out; omega) true (by simp))
    clear hE hF7 hB7 RU
    go_wp2_with (first
      | (go_at_call 17; refine SM.out.mono ?_; rintro e w8 ⟨rfl, hB8⟩)
      | (go_at_call 14; refine (known_any _).mono ?_; rintro e w9 ⟨rfl, hB9⟩))
    go_ret
    exact ⟨rfl, below_then (below_then HB7.out hB8) hB9⟩
  · have HU := hid (show Bx.unp b = none by
      cases hh : Bx.unp b with
      | none => rfl
      | some L => exact absurd ⟨L, hh⟩ hu)
    clear hu
    go_wp2_with fail
    refine UN.out.mono ?_
    rintro e w6 ⟨hB6, hE⟩
    have he := ends_none hE HU.out
    subst he
    have HB6 := hid (below_then HB5.out hB6)
    have RU := hid (RUF.out w6 HB6.out trivial)
    clear hE hB6 UN
    go_wp2_with fail
    refine RU.out.mono ?_
    rintro e w7 ⟨hB7, hE⟩
    have he := ends_none hE HU.out
    subst he
    have HB7 := hid (below_then HB6.out hB7)
    have SM := hid (rsame_any (.slice none 0 0) (.slice none 0 0) [] [] w7 (SecsAt.nil w7) (SecsAt.nil w7) (fun s hs => by cases hs) (fun s hs => by cases hs) (by decide) true (by simp))
    clear hE hB7 RU
    go_wp2_with (first
      | (go_at_call 17; refine SM.out.mono ?_; rintro e w8 ⟨rfl, hB8⟩)
      | (go_at_call 14; refine (known_any _).mono ?_; rintro e w9 ⟨rfl, hB9⟩))
    go_ret
    exact ⟨rfl, below_then (below_then HB7.out hB8) hB9⟩

theorem boxTakes_walk (H : Type) (enc : TypeId × Value → H) (W : World) (base : Nat) (args : Array Value) (ds gs : List (DataW H)) (before : List MemPlace)
    (hval : ∀ (j : Nat) t v, Try.f4.params[j]? = some t → args[j]? = some v → Value.okWide Try.prog W .any base t v)
    (hW : DataW.Whole enc Try.prog Try.f4.params.toList Rows.boxTakesSpec.vars false W args.toList ds gs before)
    (hz : (DataW.weightsEach Try.prog (Try.f4.params.toList ++ Rows.boxTakesSpec.plain.varTypes Try.prog) (ds ++ gs)).all (· ≤ reachBytes) = true)
    (hL : laidMetH Try.prog Rows.boxTakesRow.laid W) (hsh : W.ShapedOpen Try.prog) :
    Calls Try.prog 4 args W fun e W' => e = .returned (.bool true) ∧ Below W.heap.size W W' := by
  obtain ⟨p, q, hA, _, _, _, _⟩ := hW
  rw [Try.params4] at hA hval
  rw [Try.params4] at hz
  obtain ⟨v0, vs0, d0, ds0, p0, q0, hargs, rfl, rfl, h0, r0⟩ := trodAll_cons hA
  obtain ⟨rfl, rfl, rfl⟩ := trodAll_nil r0
  obtain rfl : args = #[v0] := by cases args; simp_all
  obtain ⟨l0, L0, b0, z0⟩ := arg_bytes Try.underlying24 Try.underlying5 (show Try.prog.cellsOf 5 = 1 ∧ Try.prog.bytesOf 5 = 1 by exact ⟨by kernel_rfl, by kernel_rfl⟩) (hval 0 24 v0 rfl rfl) h0 (sized_arg hz (j := 0) (t := 24) (d := d0) rfl rfl)
  obtain ⟨a, cap, rfl, h1, h2, h3, hr⟩ := id L0
  have hnm : l0.length ≤ 9223372036854775807 := by unfold maxLen at h2; omega
  by_cases h5 : 5000 < l0.length
  · exact boxTakes_out a _ cap W h5 hnm
  · exact boxTakes_in a _ cap l0 W rfl L0 b0 (by omega)

theorem boxTakes_lifted (os : Os) (started : os.Started) (H : Type) (enc : TypeId × Value → H) (F : Stop.Interp) :
    ReturnsInHanded {} Try.checked os 4 .any ((OpenSpec.ofChange Rows.boxTakesSpec).preRow enc Try.prog Try.f4 Rows.boxTakesRow.domain false Rows.boxTakesRow.laid) (((OpenSpec.ofChange Rows.boxTakesSpec).at F).post enc Try.prog Try.f4 false true false false) := by
  obtain ⟨places, hx⟩ : ∃ places, DataW.whole enc Try.prog ((World.holding Try.prog os ⟨#[], #[], []⟩).forCall (fun _ _ => 0) ⟨#[], #[.slice none 0 0], []⟩).memory Try.f4.params.toList Rows.boxTakesSpec.vars false (#[.slice none 0 0] : Array Value).toList 8 = some ([.nil], [], places) := ⟨[], by kernel_rfl⟩
  refine returnsInHanded_of_row (C := Try.checked) (s := OpenSpec.ofChange Rows.boxTakesSpec) own started (by kernel_rfl) Try.func4
    (witness_row_at (enc := enc) (C := Try.checked) false (World.holding Try.prog os ⟨#[], #[], []⟩) #[.slice none 0 0] rfl (by kernel_rfl) (by kernel_rfl) (by kernel_rfl)
      (OpenSpec.preRow_of_cond 8 hx (by kernel_rfl) (fun k hk => by cases hk) (by kernel_rfl) (laidMet_nil _ _))) ?_
  intro W base args ds gs before hval hW _ _ hz hL hsh _
  refine (boxTakes_walk H enc W base args ds gs before hval hW hz hL hsh).mono fun e W' ⟨he, hb⟩ => ⟨_, he, ?_⟩
  exact law_post (fn := Try.f4) (s := Rows.boxTakesSpec) (tb := 4) rfl (fun ds hd => by match ds, hd with | [d0], _ => rfl) rfl Try.underlying4 (by kernel_rfl) hW hb

theorem boxTakes_said : Rows.BoxTakesSaid :=
  OpenClaim.holds_of_cond 4 Try.f4 rfl rfl rfl rfl rfl rfl rfl ⟨rfl, rfl, rfl, rfl, rfl⟩ rfl rfl rfl rfl rfl (by kernel_rfl) Try.func4 (by kernel_rfl)
    (of_decide_eq_true (by kernel_rfl)) (by unfold Func.isWrapper; first | (rw [if_pos (by decide +kernel)]; kernel_rfl) | (rw [if_neg (by decide +kernel)]; exact ⟨rfl, rfl⟩))
    (fun os started H enc _ F => by rw [OpenClaim.pre_eq_preRow]; exact boxTakes_lifted os started H enc F)
end Go.Proofs.Ytgbhnkiballeeaa
