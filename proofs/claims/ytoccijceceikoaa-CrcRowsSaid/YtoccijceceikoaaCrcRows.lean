/- CrcRows: how bytes are parted into rows does not matter, for every input. -/
import Derived.Test.YtoccijceceikoaaCrcRef
namespace Go.Proofs.Ytoccijceceikoaa
set_option linter.unusedVariables false
set_option linter.unusedSimpArgs false
set_option maxRecDepth 100000
open Go.ChangeShapes Go.WideShapes Go.ChangeAt Go.RowKit

theorem flat_le (L : List (List Nat)) (i : Nat) (h : i < L.length) : (L.take (i + 1)).flatten.length = (L.take i).flatten.length + (L.getD i []).length := by
  rw [Cr.flat_take L i h, List.length_append]
theorem list_map_range (l : List Nat) (n : Nat) (hn : n = l.length) : (List.range n).map (fun i => u8v (l.getD i 0)) = l.map u8v := by
  subst hn
  refine List.ext_getElem (by simp) fun i h1 h2 => ?_
  simp [List.getD, show i < l.length by simpa using h1]
theorem Try.info5 : (Try.prog.info? 5).map (fun i => (i.zero, i.size, i.bytes)) = some (some (.int .u8 0), 1, 1) := by kernel_rfl

set_option maxHeartbeats 1000000 in
theorem crcRows_any (v : Value) (L : List (List Nat)) (W : World) (h : BRowsAt W v L) (hl : ∀ i j, (L.getD i []).getD j 0 < 256) (hsz : ∀ i, (L.getD i []).length ≤ 140737488351232) :
    Calls Try.prog 4 #[v] W fun e W' => e = .returned (.bool true) ∧ Below W.heap.size W W' := by
  obtain ⟨i0, hi, hz0, hz1, hz2⟩ := info_parts Try.info5
  obtain ⟨V, ⟨a, cap, rfl, h1, h2, h3, hr⟩, hV⟩ := id h
  obtain ⟨n, hn⟩ : ∃ n, n = L.length := ⟨_, rfl⟩
  rw [← hn] at h1 h hr hV ⊢
  have hnm : n ≤ 9223372036854775807 := by unfold maxLen at h2; omega
  have HN := hid hn
  have HL := hid hl
  have HV := hid hV
  have HR := hid hr
  have HRW := hid h
  have KN := hid (fun W' => known_any W')
  have HSZ := hid hsz
  clear hn hl hV h3 hr h hsz
  go_enter Try.func4, Try.ntmps4
  go_wp2
  go_loopw [3, 4] (fun s3 s4 wr => ∃ (i m : Nat) (v3 : Value), i ≤ n ∧ i ≤ 301 ∧ m ≤ 2000 ∧ Hid (m = (L.take i).flatten.length) ∧ s3 = v3 ∧ s4 = .int .i64 i ∧ Hid (wr.ownsRow W.heap.size 5 1 v3 m ((L.take i).flatten.map u8v)) ∧ Hid (Below W.heap.size W wr)) (fun _ s4 _ => n - (intOf s4).toNat)
  case atStart => exact ⟨0, 0, _, by omega, by omega, by omega, rfl, rfl, rfl, World.ownsRow_nil _ _ _ _, Below.refl _ _⟩
  case round =>
    obtain ⟨i, m, v3, hin, hi301, hm, HM, rfl, rfl, O3, HB⟩ := hrel
    obtain ⟨a3, cap3, rfl, _, _, _, _⟩ := rowAt_own O3.out
    by_cases hlt : i < n
    · by_cases hbig : 300 < i
      · go_wp2
        go_ret
        exact ⟨rfl, HB.out⟩
      · obtain ⟨b, off, rfl, hc⟩ := (HR.out.keep HB.out).get hlt
        obtain ⟨b2, cap2, hv2, k1, k2, hnil2, hr2⟩ := (HV.out i hlt).open
        have c0 := hc i hlt
        rw [hv2] at c0
        obtain ⟨q, hq⟩ : ∃ q, q = (L.getD i []).length := ⟨_, rfl⟩
        rw [← hq] at c0 k1 hr2 hnil2
        have hqm : q ≤ 140737488351232 := by have := HSZ.out i; rw [hq]; exact this
        have HQ := hid hq
        have HR2 := hid (hr2.keep HB.out)
        have HNIL := hid hnil2
        have hz := HB.out.size
        clear hc hv2 hr2 hq hnil2
        by_cases hsum : 2000 < m + q
        · go_wp2
          go_ret
          exact ⟨rfl, HB.out⟩
        · go_wp2_with (at_builtin; refine wpList_append_row rfl (.tmp 24) (.tmp 28) 22 rfl W.heap.size 5 i0 _ 1 Try.underlying22 hi hz0 hz1 hz2 rfl _ _ _ rfl O3.out b2 q cap2 (fun j => u8v ((L.getD i []).getD j 0)) rfl ?nil ?row ?one ?b1 ?b2 ?base ?_)
          case nil => exact HNIL.out
          case row => exact HR2.out
          case one => intro j _; rfl
          case b1 => unfold maxLen; omega
          case b2 => omega
          case base => exact hz
          intro v4 w1 hown hgr
          have HB1 := hid (HB.out.grown hgr hz (fun k hk => (O3.out.lt k hk).1))
          have hln : i < L.length := by rw [← HN.out]; exact hlt
          have HM1 := hid (show m + q = (L.take (i + 1)).flatten.length by rw [flat_le L i hln, ← HM.out, ← HQ.out])
          have O4 := hid (show w1.ownsRow W.heap.size 5 1 v4 (m + q) ((L.take (i + 1)).flatten.map u8v) by
            rw [Cr.flat_take L i hln, List.map_append, ← list_map_range (L.getD i []) q HQ.out]; simpa [List.getD] using hown)
          clear hown hgr hln
          go_wp2
          go_roundw
          case rel => exact ⟨i + 1, m + q, _, by omega, by omega, by omega, HM1, rfl, by go_num, O4, HB1⟩
          case measure => simp [intOf]; omega
    · obtain rfl : i = n := by omega
      have hF : L.take i = L := by rw [HN.out, List.take_length]
      have B3 := SlAt.own (f := u8v) (d := 0) O3.out HM.out
      rw [hF] at B3
      have C1 := hid (csum_any _ L _ (HRW.out.keep HB.out) HL.out)
      have C2 := hid (csum_one B3 (Cr.flat_lt L HL.out) rfl)
      obtain ⟨s, hs⟩ : ∃ s : Nat, s = Cr.sum L.flatten := ⟨_, rfl⟩
      rw [← hs] at C1 C2
      have hss : ((s : Int) == s) = true := by simp
      have HB2 := hid (HB.out.alloc HB.out.size (.cells #[.slice a3 m cap3] 22))
      clear hF B3 hs
      go_wp2_with fail
      refine C1.out.mono ?_
      rintro e w' ⟨rfl, rfl⟩
      go_wp2_with fail
      refine C2.out.mono ?_
      rintro e w' ⟨rfl, rfl⟩
      go_wp2_with (go_at_call 11; refine (KN.out _).mono ?_; rintro e w' ⟨rfl, hb⟩; have HB3 := hid (below_then HB2.out hb); clear hb)
      go_ret
      exact ⟨rfl, HB3.out⟩

theorem crcRows_walk (H : Type) (enc : TypeId × Value → H) (W : World) (base : Nat) (args : Array Value) (ds gs : List (DataW H)) (before : List MemPlace)
    (hval : ∀ (j : Nat) t v, Try.f4.params[j]? = some t → args[j]? = some v → Value.okWide Try.prog W .any base t v)
    (hW : DataW.Whole enc Try.prog Try.f4.params.toList Rows.crcRowsSpec.vars false W args.toList ds gs before)
    (hz : (DataW.weightsEach Try.prog (Try.f4.params.toList ++ Rows.crcRowsSpec.plain.varTypes Try.prog) (ds ++ gs)).all (· ≤ reachBytes) = true)
    (hL : laidMetH Try.prog Rows.crcRowsRow.laid W) (hsh : W.ShapedOpen Try.prog) :
    Calls Try.prog 4 args W fun e W' => e = .returned (.bool true) ∧ Below W.heap.size W W' := by
  obtain ⟨p, q, hA, _, _, _, _⟩ := hW
  rw [Try.params4] at hA hval
  rw [Try.params4] at hz
  obtain ⟨v0, vs0, d0, ds0, p0, q0, hargs, rfl, rfl, h0, r0⟩ := trodAll_cons hA
  obtain ⟨rfl, rfl, rfl⟩ := trodAll_nil r0
  obtain rfl : args = #[v0] := by cases args; simp_all
  obtain ⟨l0, L0, b0, y0, z0⟩ := arg_brows Try.underlying27 Try.underlying22 Try.underlying5 (show Try.prog.cellsOf 22 = 1 ∧ Try.prog.bytesOf 22 = 24 by exact ⟨by kernel_rfl, by kernel_rfl⟩) (show Try.prog.cellsOf 5 = 1 ∧ Try.prog.bytesOf 5 = 1 by exact ⟨by kernel_rfl, by kernel_rfl⟩) (hval 0 27 v0 rfl rfl) h0 (sized_arg hz (j := 0) (t := 27) (d := d0) rfl rfl)
  exact crcRows_any v0 l0 W L0 b0 z0

theorem crcRows_lifted (os : Os) (started : os.Started) (H : Type) (enc : TypeId × Value → H) (F : Stop.Interp) :
    ReturnsInHanded {} Try.checked os 4 .any ((OpenSpec.ofChange Rows.crcRowsSpec).preRow enc Try.prog Try.f4 Rows.crcRowsRow.domain false Rows.crcRowsRow.laid) (((OpenSpec.ofChange Rows.crcRowsSpec).at F).post enc Try.prog Try.f4 false true false false) := by
  obtain ⟨places, hx⟩ : ∃ places, DataW.whole enc Try.prog ((World.holding Try.prog os ⟨#[], #[], []⟩).forCall (fun _ _ => 0) ⟨#[], #[.slice none 0 0], []⟩).memory Try.f4.params.toList Rows.crcRowsSpec.vars false (#[.slice none 0 0] : Array Value).toList 8 = some ([.nil], [], places) := ⟨[], by kernel_rfl⟩
  refine returnsInHanded_of_row (C := Try.checked) (s := OpenSpec.ofChange Rows.crcRowsSpec) own started (by kernel_rfl) Try.func4
    (witness_row_at (enc := enc) (C := Try.checked) false (World.holding Try.prog os ⟨#[], #[], []⟩) #[.slice none 0 0] rfl (by kernel_rfl) (by kernel_rfl) (by kernel_rfl)
      (OpenSpec.preRow_of_cond 8 hx (by kernel_rfl) (fun k hk => by cases hk) (by kernel_rfl) (laidMet_nil _ _))) ?_
  intro W base args ds gs before hval hW _ _ hz hL hsh _
  refine (crcRows_walk H enc W base args ds gs before hval hW hz hL hsh).mono fun e W' ⟨he, hb⟩ => ⟨_, he, ?_⟩
  exact law_post (fn := Try.f4) (s := Rows.crcRowsSpec) (tb := 4) rfl (fun ds hd => by match ds, hd with | [d0], _ => rfl) rfl Try.underlying4 (by kernel_rfl) hW hb

theorem crcRows_said : Rows.CrcRowsSaid :=
  OpenClaim.holds_of_cond 4 Try.f4 rfl rfl rfl rfl rfl rfl rfl ⟨rfl, rfl, rfl, rfl, rfl⟩ rfl rfl rfl rfl rfl (by kernel_rfl) Try.func4 (by kernel_rfl)
    (of_decide_eq_true (by kernel_rfl)) (by unfold Func.isWrapper; first | (rw [if_pos (by decide +kernel)]; kernel_rfl) | (rw [if_neg (by decide +kernel)]; exact ⟨rfl, rfl⟩))
    (fun os started H enc _ F => by rw [OpenClaim.pre_eq_preRow]; exact crcRows_lifted os started H enc F)
end Go.Proofs.Ytoccijceceikoaa
