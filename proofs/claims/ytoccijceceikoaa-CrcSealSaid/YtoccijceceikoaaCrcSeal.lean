/- CrcSeal: bytes with their sum behind, the highest byte first, have the sum nought, for every input. -/
import Derived.Test.YtoccijceceikoaaCrcRef
namespace Go.Proofs.Ytoccijceceikoaa
set_option linter.unusedVariables false
set_option linter.unusedSimpArgs false
set_option maxRecDepth 100000
open Go.ChangeShapes Go.WideShapes Go.ChangeAt Go.RowKit

theorem two_rows {W : World} {v u : Value} {l k : List Nat} (h : BytesAt W v l) (hu : BytesAt W u k) {b : Nat} (hb : W.heap.size = b) (t : TypeId) : BRowsAt (W.alloc (.cells #[v, u] t)) (.slice (some ⟨b, 0, none⟩) 2 2) [l, k] := by
  have hk : Below W.heap.size W (W.alloc (.cells #[v, u] t)) := (Below.refl _ _).alloc (Nat.le_refl _) _
  refine ⟨fun i => if i = 0 then v else u, SlV.built hb (fun i hi => ?_) (by unfold maxLen; omega), fun i hi => ?_⟩
  · rcases (by omega : i = 0 ∨ i = 1) with rfl | rfl <;> rfl
  · rcases (by simp at hi; omega : i = 0 ∨ i = 1) with rfl | rfl
    · exact h.keep hk
    · exact hu.keep hk
theorem three_lt {s : Nat} {l : List Nat} (h : ∀ i, l.getD i 0 < 256) : ∀ i j, ([l, [s / 65536 % 256, s / 256 % 256, s % 256]].getD i []).getD j 0 < 256 := by
  intro i j
  match i with
  | 0 => exact h j
  | 1 =>
    match j with
    | 0 => exact Nat.mod_lt _ (by omega)
    | 1 => exact Nat.mod_lt _ (by omega)
    | 2 => exact Nat.mod_lt _ (by omega)
    | j + 3 => simp [List.getD]
  | i + 2 => simp [List.getD]
theorem sum_sealed (l : List Nat) (h : ∀ i, l.getD i 0 < 256) : Cr.sum [l, [Cr.sum l / 65536 % 256, Cr.sum l / 256 % 256, Cr.sum l % 256]].flatten = 0 := by
  have := Cr.seal0 (Cr.sum l) (Cr.sum_lt l h)
  rw [← this]
  show Cr.run Cr.start _ = _
  rw [show [l, [Cr.sum l / 65536 % 256, Cr.sum l / 256 % 256, Cr.sum l % 256]].flatten = l ++ [Cr.sum l / 65536 % 256, Cr.sum l / 256 % 256, Cr.sum l % 256] by simp, Cr.run_append]
  rfl
theorem crcSeal_any (v : Value) (l : List Nat) (W : World) (h : BytesAt W v l) (hl : ∀ i, l.getD i 0 < 256) :
    Calls Try.prog 6 #[v] W fun e W' => e = .returned (.bool true) ∧ Below W.heap.size W W' := by
  obtain ⟨a, cap, rfl, h1, h2, h3, hr⟩ := id h
  obtain ⟨n, hn⟩ : ∃ n, n = l.length := ⟨_, rfl⟩
  rw [← hn] at h1 h ⊢
  have hnm : n ≤ 9223372036854775807 := by unfold maxLen at h2; omega
  by_cases hb : 2000 < n
  · clear h hr hn h3
    go_enter Try.func6, Try.ntmps6
    go_wp2
    go_ret
    exact ⟨rfl, Below.refl _ _⟩
  · have C1 := hid (csum_one h hl rfl)
    have hslt := Cr.sum_lt l hl
    have SS := sum_sealed l hl
    have HLT := hid (three_lt (s := Cr.sum l) hl)
    have hb1 : Below W.heap.size W (W.alloc (.cells #[.slice a n cap] 22)) := (Below.refl _ _).alloc (Nat.le_refl _) _
    have H1 := hid (h.keep hb1)
    have HB1 := hid hb1
    have KN := hid (fun W' => known_any W')
    obtain ⟨s, hs⟩ : ∃ s : Nat, s = Cr.sum l := ⟨_, rfl⟩
    rw [← hs] at C1 hslt HLT SS
    have C2 := hid (fun W' v' (hv : BRowsAt W' v' [l, [s / 65536 % 256, s / 256 % 256, s % 256]]) => csum_any v' _ W' hv HLT.out)
    rw [SS] at C2
    have x1 : IntKind.u8.wrap ((s : Int) / 65536) = ((s / 65536 % 256 : Nat) : Int) := by rw [IntKind.wrap_u8']; omega
    have x2 : IntKind.u8.wrap ((s : Int) / 256) = ((s / 256 % 256 : Nat) : Int) := by rw [IntKind.wrap_u8']; omega
    have x3 : IntKind.u8.wrap (s : Int) = ((s % 256 : Nat) : Int) := by rw [IntKind.wrap_u8']; omega
    clear h hr hn h3 hs hb1 SS
    go_enter Try.func6, Try.ntmps6
    go_wp2_with fail
    refine C1.out.mono ?_
    rintro e w' ⟨rfl, rfl⟩
    go_wp2_with fail
    have B3 : BytesAt ((W.alloc (.cells #[.slice a n cap] 22)).alloc (.cells #[.int .u8 ((s : Int) / 65536 % 256), .int .u8 ((s : Int) / 256 % 256), .int .u8 ((s : Int) % 256)] 5)) (.slice (some ⟨W.heap.size + 1, 0, none⟩) 3 3) [s / 65536 % 256, s / 256 % 256, s % 256] :=
      SlAt.built (by simp) rfl (by simp [u8v]) (by unfold maxLen; omega)
    have R2 := two_rows (H1.out.keep ((Below.refl _ _).alloc (Nat.le_refl _) _)) B3 (b := W.heap.size + 1 + 1) (by simp) 22
    have C3 := hid (C2.out _ _ R2)
    have HB2 := hid (((HB1.out.alloc (by simp) (.cells #[.int .u8 ((s : Int) / 65536 % 256), .int .u8 ((s : Int) / 256 % 256), .int .u8 ((s : Int) % 256)] 5))).alloc (by simp; omega) (.cells #[.slice a n cap, .slice (some ⟨W.heap.size + 1, 0, none⟩) 3 3] 22))
    clear B3 R2 C2 H1 HB1
    refine C3.out.mono ?_
    rintro e w' ⟨rfl, rfl⟩
    go_wp2_with (go_at_call 11; refine (KN.out _).mono ?_; rintro e w' ⟨rfl, hb⟩; have HB3 := hid (below_then HB2.out hb); clear hb)
    go_ret
    exact ⟨rfl, HB3.out⟩

theorem crcSeal_walk (H : Type) (enc : TypeId × Value → H) (W : World) (base : Nat) (args : Array Value) (ds gs : List (DataW H)) (before : List MemPlace)
    (hval : ∀ (j : Nat) t v, Try.f6.params[j]? = some t → args[j]? = some v → Value.okWide Try.prog W .any base t v)
    (hW : DataW.Whole enc Try.prog Try.f6.params.toList Rows.crcSealSpec.vars false W args.toList ds gs before)
    (hz : (DataW.weightsEach Try.prog (Try.f6.params.toList ++ Rows.crcSealSpec.plain.varTypes Try.prog) (ds ++ gs)).all (· ≤ reachBytes) = true)
    (hL : laidMetH Try.prog Rows.crcSealRow.laid W) (hsh : W.ShapedOpen Try.prog) :
    Calls Try.prog 6 args W fun e W' => e = .returned (.bool true) ∧ Below W.heap.size W W' := by
  obtain ⟨p, q, hA, _, _, _, _⟩ := hW
  rw [Try.params6] at hA hval
  rw [Try.params6] at hz
  obtain ⟨v0, vs0, d0, ds0, p0, q0, hargs, rfl, rfl, h0, r0⟩ := trodAll_cons hA
  obtain ⟨rfl, rfl, rfl⟩ := trodAll_nil r0
  obtain rfl : args = #[v0] := by cases args; simp_all
  obtain ⟨l0, L0, b0, z0⟩ := arg_bytes Try.underlying22 Try.underlying5 (show Try.prog.cellsOf 5 = 1 ∧ Try.prog.bytesOf 5 = 1 by exact ⟨by kernel_rfl, by kernel_rfl⟩) (hval 0 22 v0 rfl rfl) h0 (sized_arg hz (j := 0) (t := 22) (d := d0) rfl rfl)
  exact crcSeal_any v0 l0 W L0 b0

theorem crcSeal_lifted (os : Os) (started : os.Started) (H : Type) (enc : TypeId × Value → H) (F : Stop.Interp) :
    ReturnsInHanded {} Try.checked os 6 .any ((OpenSpec.ofChange Rows.crcSealSpec).preRow enc Try.prog Try.f6 Rows.crcSealRow.domain false Rows.crcSealRow.laid) (((OpenSpec.ofChange Rows.crcSealSpec).at F).post enc Try.prog Try.f6 false true false false) := by
  obtain ⟨places, hx⟩ : ∃ places, DataW.whole enc Try.prog ((World.holding Try.prog os ⟨#[], #[], []⟩).forCall (fun _ _ => 0) ⟨#[], #[.slice none 0 0], []⟩).memory Try.f6.params.toList Rows.crcSealSpec.vars false (#[.slice none 0 0] : Array Value).toList 8 = some ([.nil], [], places) := ⟨[], by kernel_rfl⟩
  refine returnsInHanded_of_row (C := Try.checked) (s := OpenSpec.ofChange Rows.crcSealSpec) own started (by kernel_rfl) Try.func6
    (witness_row_at (enc := enc) (C := Try.checked) false (World.holding Try.prog os ⟨#[], #[], []⟩) #[.slice none 0 0] rfl (by kernel_rfl) (by kernel_rfl) (by kernel_rfl)
      (OpenSpec.preRow_of_cond 8 hx (by kernel_rfl) (fun k hk => by cases hk) (by kernel_rfl) (laidMet_nil _ _))) ?_
  intro W base args ds gs before hval hW _ _ hz hL hsh _
  refine (crcSeal_walk H enc W base args ds gs before hval hW hz hL hsh).mono fun e W' ⟨he, hb⟩ => ⟨_, he, ?_⟩
  exact law_post (fn := Try.f6) (s := Rows.crcSealSpec) (tb := 4) rfl (fun ds hd => by match ds, hd with | [d0], _ => rfl) rfl Try.underlying4 (by kernel_rfl) hW hb

theorem crcSeal_said : Rows.CrcSealSaid :=
  OpenClaim.holds_of_cond 6 Try.f6 rfl rfl rfl rfl rfl rfl rfl ⟨rfl, rfl, rfl, rfl, rfl⟩ rfl rfl rfl rfl rfl (by kernel_rfl) Try.func6 (by kernel_rfl)
    (of_decide_eq_true (by kernel_rfl)) (by unfold Func.isWrapper; first | (rw [if_pos (by decide +kernel)]; kernel_rfl) | (rw [if_neg (by decide +kernel)]; exact ⟨rfl, rfl⟩))
    (fun os started H enc _ F => by rw [OpenClaim.pre_eq_preRow]; exact crcSeal_lifted os started H enc F)
end Go.Proofs.Ytoccijceceikoaa
