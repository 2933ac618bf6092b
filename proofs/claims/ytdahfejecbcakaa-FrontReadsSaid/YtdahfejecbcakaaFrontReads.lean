/- FrontReads: any bytes as a Dict, if they are just one's, for every input. -/
import Derived.Test.YtdahfejecbcakaaFrRead4
namespace Go.Proofs.Ytdahfejecbcakaa
set_option linter.unusedVariables false
set_option linter.unusedSimpArgs false
set_option maxRecDepth 100000
open Go.ChangeShapes Go.WideShapes Go.ChangeAt Go.RowKit

theorem bytes_range (l : List Nat) (n : Nat) (hn : n = l.length) : (List.range n).map (fun i => u8v (l[i]?.getD 0)) = l.map u8v := by
  subst hn
  refine List.ext_getElem (by simp) fun i h1 h2 => ?_
  simp [show i < l.length by simpa using h1]
theorem reads_out (a : Option Addr) (n cap : Nat) (W : World) (h : 5000 < n) : Calls Try.prog 4 #[.slice a n cap] W fun e W' => e = .returned (.bool true) ∧ Below W.heap.size W W' := by
  go_enter Try.func4, Try.ntmps4
  go_wp2
  go_ret
  exact ⟨rfl, Below.refl _ _⟩
set_option maxHeartbeats 4000000 in
theorem reads_in (a : Option Addr) (n cap : Nat) (b : List Nat) (W : World) (hn : n = b.length) (h5 : n ≤ 5000) (h : BytesAt W (.slice a n cap) b) (hb : ∀ i, b.getD i 0 < 256) :
    Calls Try.prog 4 #[.slice a n cap] W fun e W' => e = .returned (.bool true) ∧ Below W.heap.size W W' := by
  obtain ⟨i0, hi, hz0, hz1, hz2⟩ := info_parts Try.info5
  have KN := hid (fun W' => known_any W')
  have HN := hid hn
  have HL := hid hb
  have HA := hid h
  obtain ⟨a', cap', e1, _, _, hnil, hr⟩ := h.open
  rw [← hn] at e1 hnil hr
  obtain ⟨rfl, rfl⟩ : a = a' ∧ cap = cap' := by simpa using e1
  have HNIL := hid hnil
  have HR := hid hr
  clear hn hb h hnil hr e1
  go_enter Try.func4, Try.ntmps4
  go_wp2_with (at_builtin; refine wpList_append_row rfl (.tmp 11) (.tmp 12) 35 rfl W.heap.size 5 i0 _ 1 Try.underlying35 hi hz0 hz1 hz2 rfl (.slice (some ⟨W.heap.size, 0, none⟩) 0 0) 0 [] rfl ?own a n cap (fun i => u8v (b.getD i 0)) rfl ?nil ?row ?one ?b1 ?b2 ?base ?_)
  case own => exact World.ownsRow_made W #[] 0 (Nat.le_refl _) (by unfold maxLen; omega) rfl
  case nil => exact HNIL.out
  case row => exact HR.out.keep ((Below.refl _ _).alloc (Nat.le_refl _) _)
  case one => intro j _; rfl
  case b1 => unfold maxLen; omega
  case b2 => omega
  case base => simp
  intro v1 w1 hown hgr
  rw [bytes_range b n HN.out] at hown
  have hb1 : Below W.heap.size W w1 := ((Below.refl W.heap.size W).alloc (Nat.le_refl _) _).grown hgr (by simp) (fun k hk => by
    simp only [Value.ownBlock, Option.some.injEq] at hk; omega)
  have HB1 := hid hb1
  have RA := hid (read_any v1 b w1 (SlAt.own hown HN.out) HL.out)
  clear hown hgr hb1
  go_wp2_with fail
  refine RA.out.mono ?_
  rintro e w2 ⟨hb2, hr2⟩
  have HB2 := hid (below_then HB1.out hb2)
  have RR := hid (rread_any (.slice a n cap) b w2 (HA.out.keep HB2.out) HL.out (by rw [← HN.out]; omega))
  clear hb2 RA
  rcases hr2 with ⟨hres, rfl⟩ | ⟨L, p, hres, hm, hbyt, rfl, hD⟩
  · have HRS := hid hres
    clear hres
    go_wp2_with fail
    refine RR.out.mono ?_
    rintro e w3 ⟨hb3, hr3⟩
    rcases hr3 with ⟨hres, rfl⟩ | ⟨L, u, hres, rfl, hT⟩
    · have HB3 := hid (below_then HB2.out hb3)
      clear hb3 hres RR
      go_wp2
      refine wp_region_drawn_tail 16 (by kernel_rfl) (by kernel_rfl) ?_
      simp only [List.take_succ_cons, List.take_zero, List.drop_succ_cons, List.drop_zero]
      repeat (go_big_quiet_step (fail))
      refine wpQuiet_nil ?_
      rintro _ ⟨nq, rfl⟩
      go_wp2_with (go_at_call 15; refine (KN.out _).mono ?_; rintro e w6 ⟨rfl, hb6⟩)
      go_ret
      exact ⟨rfl, below_then (below_drawn HB3.out nq) hb6⟩
    · rw [HRS.out] at hres; cases hres
  · have HRS := hid hres
    have HD := hid hD
    have HM := hid hm
    have HBY := hid hbyt
    clear hres hD hm hbyt
    go_wp2_with fail
    refine RR.out.mono ?_
    rintro e w3 ⟨hb3, hr3⟩
    rcases hr3 with ⟨hres, rfl⟩ | ⟨L2, u, hres, rfl, hT⟩
    · rw [HRS.out] at hres; cases hres
    · obtain rfl : L = L2 := by rw [HRS.out] at hres; simpa using hres
      have HB3 := hid (below_then HB2.out hb3)
      have HD3 := hid (HD.out.keep hb3)
      have HT := hid hT
      obtain ⟨S, hS⟩ : ∃ S, S = strOf b := ⟨_, rfl⟩
      have TX := hid (fun w (hw : Below w3.heap.size w3 w) => txts_any p u L w (HD3.out.keep hw) (HT.out.keep hw) (by have := HM.out.1; omega))
      have BY := hid (fun w (hw : Below w3.heap.size w3 w) => rbytes_conv (S := S) (w0 := w3) hw (by rw [hS, HBY.out]) (bytes_any p L w (HD3.out.keep hw) HM.out))
      have HCB := hid (fun w (hw : Below w3.heap.size w3 w) => conv_row (P := Try.prog) Try.underlying35 Try.underlying5 Try.underlying9 w (.slice a n cap) b (HA.out.keep (below_then HB3.out hw)))
      rw [← hS] at HCB
      have e4 : (S.toList == S.toList) = true := by simp
      have hcb0 := HCB.out w3.drew (Below.refl _ _).drew
      clear hb3 hres RR hT hS HD
      obtain ⟨au, cu, rfl, _, _, _, _⟩ := HT.out.open
      go_wp2
      go_region_with (first
        | (go_at_call 18; refine (TX.out _ ?_).mono ?_
           · exact (Below.refl _ _).drew
           rintro e w' ⟨rfl, rfl⟩)
        | (go_at_call 21; refine (BY.out _ ?_).mono ?_
           · exact (Below.refl _ _).drew
           rintro e w5 ⟨v5, rfl, hb5, hc5, hk5, hcv5⟩
           have hcb5 := HCB.out _ hb5)
        | (go_at_call 15; refine (KN.out _).mono ?_
           rintro e w6 ⟨rfl, hb6⟩))
      all_goals go_wp2
      all_goals go_ret
      all_goals exact ⟨rfl, below_then HB3.out (below_then hb5 hb6)⟩
theorem frontReads_any (v : Value) (b : List Nat) (W : World) (h : BytesAt W v b) (hb : ∀ i, b.getD i 0 < 256) :
    Calls Try.prog 4 #[v] W fun e W' => e = .returned (.bool true) ∧ Below W.heap.size W W' := by
  obtain ⟨a, cap, rfl, _, _, _, _⟩ := h.open
  by_cases h5 : 5000 < b.length
  · exact reads_out a _ cap W h5
  · exact reads_in a _ cap b W rfl (by omega) h hb

theorem frontReads_walk (H : Type) (enc : TypeId × Value → H) (W : World) (base : Nat) (args : Array Value) (ds gs : List (DataW H)) (before : List MemPlace)
    (hval : ∀ (j : Nat) t v, Try.f4.params[j]? = some t → args[j]? = some v → Value.okWide Try.prog W .any base t v)
    (hW : DataW.Whole enc Try.prog Try.f4.params.toList Rows.frontReadsSpec.vars false W args.toList ds gs before)
    (hz : (DataW.weightsEach Try.prog (Try.f4.params.toList ++ Rows.frontReadsSpec.plain.varTypes Try.prog) (ds ++ gs)).all (· ≤ reachBytes) = true)
    (hL : laidMetH Try.prog Rows.frontReadsRow.laid W) (hsh : W.ShapedOpen Try.prog) :
    Calls Try.prog 4 args W fun e W' => e = .returned (.bool true) ∧ Below W.heap.size W W' := by
  obtain ⟨p, q, hA, _, _, _, _⟩ := hW
  rw [Try.params4] at hA hval
  rw [Try.params4] at hz
  obtain ⟨v0, vs0, d0, ds0, p0, q0, hargs, rfl, rfl, h0, r0⟩ := trodAll_cons hA
  obtain ⟨rfl, rfl, rfl⟩ := trodAll_nil r0
  obtain rfl : args = #[v0] := by cases args; simp_all
  obtain ⟨l0, L0, b0, z0⟩ := arg_bytes Try.underlying35 Try.underlying5 (show Try.prog.cellsOf 5 = 1 ∧ Try.prog.bytesOf 5 = 1 by exact ⟨by kernel_rfl, by kernel_rfl⟩) (hval 0 35 v0 rfl rfl) h0 (sized_arg hz (j := 0) (t := 35) (d := d0) rfl rfl)
  exact frontReads_any v0 l0 W L0 b0

theorem frontReads_lifted (os : Os) (started : os.Started) (H : Type) (enc : TypeId × Value → H) (F : Stop.Interp) :
    ReturnsInHanded {} Try.checked os 4 .any ((OpenSpec.ofChange Rows.frontReadsSpec).preRow enc Try.prog Try.f4 Rows.frontReadsRow.domain false Rows.frontReadsRow.laid) (((OpenSpec.ofChange Rows.frontReadsSpec).at F).post enc Try.prog Try.f4 false true false false) := by
  obtain ⟨places, hx⟩ : ∃ places, DataW.whole enc Try.prog ((World.holding Try.prog os ⟨#[], #[], []⟩).forCall (fun _ _ => 0) ⟨#[], #[.slice none 0 0], []⟩).memory Try.f4.params.toList Rows.frontReadsSpec.vars false (#[.slice none 0 0] : Array Value).toList 8 = some ([.nil], [], places) := ⟨[], by kernel_rfl⟩
  refine returnsInHanded_of_row (C := Try.checked) (s := OpenSpec.ofChange Rows.frontReadsSpec) own started (by kernel_rfl) Try.func4
    (witness_row_at (enc := enc) (C := Try.checked) false (World.holding Try.prog os ⟨#[], #[], []⟩) #[.slice none 0 0] rfl (by kernel_rfl) (by kernel_rfl) (by kernel_rfl)
      (OpenSpec.preRow_of_cond 8 hx (by kernel_rfl) (fun k hk => by cases hk) (by kernel_rfl) (laidMet_nil _ _))) ?_
  intro W base args ds gs before hval hW _ _ hz hL hsh _
  refine (frontReads_walk H enc W base args ds gs before hval hW hz hL hsh).mono fun e W' ⟨he, hb⟩ => ⟨_, he, ?_⟩
  exact law_post (fn := Try.f4) (s := Rows.frontReadsSpec) (tb := 4) rfl (fun ds hd => by match ds, hd with | [d0], _ => rfl) rfl Try.underlying4 (by kernel_rfl) hW hb

theorem frontReads_said : Rows.FrontReadsSaid :=
  OpenClaim.holds_of_cond 4 Try.f4 rfl rfl rfl rfl rfl rfl rfl ⟨rfl, rfl, rfl, rfl, rfl⟩ rfl rfl rfl rfl rfl (by kernel_rfl) Try.func4 (by kernel_rfl)
    (of_decide_eq_true (by kernel_rfl)) (by unfold Func.isWrapper; first | (rw [if_pos (by decide +kernel)]; kernel_rfl) | (rw [if_neg (by decide +kernel)]; exact ⟨rfl, rfl⟩))
    (fun os started H enc _ F => by rw [OpenClaim.pre_eq_preRow]; exact frontReads_lifted os started H enc F)
end Go.Proofs.Ytdahfejecbcakaa
