/- BoxBack: what was packed is unpacked as it was; cut short, or with more behind, it is none, for every input. -/
import Derived.Test.YtgbhnkiballeeaaBxLaw
import Derived.Deep.AppendLies
import Derived.Deep.DeepCutAuto
namespace Go.Proofs.Ytgbhnkiballeeaa
set_option linter.unusedVariables false
set_option linter.unusedSimpArgs false
set_option maxRecDepth 100000
open Go.ChangeShapes Go.WideShapes Go.ChangeAt Go.RowKit

theorem and_low (x : Int) : ∃ A : Nat, A ≤ 65535 ∧ bits BinOp.and IntKind.i64 x 65535 = (A : Int) := by
  refine ⟨((BitVec.ofInt 64 x) &&& 65535#64).toNat, ?_, ?_⟩
  · rw [BitVec.toNat_and]
    exact Nat.and_le_right
  · show IntKind.i64.wrap ((BitVec.ofInt 64 x &&& BitVec.ofInt 64 65535).toNat : Int) = _
    have h : ((BitVec.ofInt 64 x) &&& 65535#64).toNat ≤ 65535 := by rw [BitVec.toNat_and]; exact Nat.and_le_right
    rw [show BitVec.ofInt 64 65535 = 65535#64 from rfl]
    exact IntWalk.i64_in _ ⟨by omega, by omega⟩

theorem boxBack_out (a : Option Addr) (n cap : Nat) (L : List Bx.Sec) (q : Int) (y : Int) (W : World) (hn : n = L.length) (h : SecsAt W (.slice a n cap) L) (hby : Bx.Bytes L) (hbd : ∀ s ∈ L, -9223372036854775808 ≤ s.1 ∧ s.1 ≤ 9223372036854775807 ∧ s.2.length ≤ 140737488351232) (hnm : n ≤ 9223372036854775807) (ho : longB L 0 = true ∨ (longB L 0 = false ∧ ¬ Bx.May L)) :
    Calls Try.prog 5 #[.slice a n cap, .int .i64 q, .int .u8 y] W fun e W' => e = .returned (.bool true) ∧ Below W.heap.size W W' := by
  have LG := hid (long_any a n cap L W hn h hnm (fun s hs => (hbd s hs).2.2))
  rcases ho with ho | ⟨ho, hM⟩
  · rw [ho] at LG
    clear hn h hby hbd ho
    go_enter Try.func5, Try.ntmps5
    go_wp2_with (go_at_call 11; refine LG.out.mono ?_; rintro e w' ⟨rfl, rfl⟩)
    go_ret
    exact ⟨rfl, Below.refl _ _⟩
  · have hs := long_no ho
    have MY := hid (rmay_any a n cap L W hn h (by omega) (by omega) (fun s hs => ⟨(hbd s hs).1, (hbd s hs).2.1⟩))
    rw [show Bx.mayB L = false by cases hh : Bx.mayB L with
      | false => rfl
      | true => exact absurd ((Bx.mayB_iff L).1 hh) hM] at MY
    rw [ho] at LG
    clear hn h hby hbd ho hM hs
    go_enter Try.func5, Try.ntmps5
    go_wp2_with (first
      | (go_at_call 11; refine LG.out.mono ?_; rintro e w' ⟨rfl, hww⟩; have hww' := hww.symm; subst hww')
      | (go_at_call 18; refine MY.out.mono ?_; rintro e w1 ⟨rfl, hB1⟩))
    go_ret
    exact ⟨rfl, hB1⟩

theorem list_map_range (l : List Nat) (n : Nat) (hn : n = l.length) : (List.range n).map (fun i => u8v (l.getD i 0)) = l.map u8v := by
  subst hn
  refine List.ext_getElem (by simp) fun i h1 h2 => ?_
  simp [List.getD, show i < l.length by simpa using h1]
set_option maxHeartbeats 1000000 in
theorem boxBack_in (a : Option Addr) (n cap : Nat) (L : List Bx.Sec) (q : Int) (y : Nat) (W : World) (hn : n = L.length) (h : SecsAt W (.slice a n cap) L) (hby : Bx.Bytes L) (hbd : ∀ s ∈ L, -9223372036854775808 ≤ s.1 ∧ s.1 ≤ 9223372036854775807 ∧ s.2.length ≤ 140737488351232) (hnm : n ≤ 9223372036854775807) (hlo : longB L 0 = false) (hM : Bx.May L) (hy : y < 256) :
    Calls Try.prog 5 #[.slice a n cap, .int .i64 q, .int .u8 y] W fun e W' => e = .returned (.bool true) ∧ Below W.heap.size W W' := by
  obtain ⟨i0, hi, hz0, hz1, hz2⟩ := info_parts Try.info5
  have LG := hid (long_any a n cap L W hn h hnm (fun s hs => (hbd s hs).2.2))
  have hs := long_no hlo
  have MY := hid (rmay_any a n cap L W hn h (by omega) (by omega) (fun s hs => ⟨(hbd s hs).1, (hbd s hs).2.1⟩))
  rw [(Bx.mayB_iff L).2 hM] at MY
  rw [hlo] at LG
  have PK := hid (fun W' (hW : Below W.heap.size W W') => bpack_ok a n cap L W' hn (h.keep hW) hM hby)
  have HN := hid hn
  have HS := hid h
  have HM := hid hM
  have HBY := hid hby
  have hT9 : 9 ≤ Bx.total L := by unfold Bx.total; omega
  have hT := hM.2.2
  clear hn h hby hbd hlo hM hs
  obtain ⟨A, hA, hand⟩ := and_low q
  obtain ⟨k, hk⟩ : ∃ k, k = A % Bx.total L := ⟨_, rfl⟩
  have hkn : k < Bx.total L := by rw [hk]; exact Nat.mod_lt _ (by omega)
  have hkI : (A : Int) % ((Bx.total L : Nat) : Int) = k := by rw [hk, Int.natCast_emod]
  have HFL := hid (file_lt L HBY.out)
  have U1 := hid (unp_back HM.out)
  have U2 := hid (unp_cutoff HM.out HBY.out hkn)
  have U3 := hid (unp_more (y := y) HM.out HBY.out hy)
  have HLEN := hid (Bx.file_length L)
  generalize Bx.file L = F at *
  generalize Bx.total L = T at *
  clear hk
  go_enter Try.func5, Try.ntmps5
  go_upto_region 6 with (first
      | (go_at_call 11; refine LG.out.mono ?_; rintro e w' ⟨rfl, hww⟩; have hww' := hww.symm; subst hww')
      | (go_at_call 18; refine MY.out.mono ?_; rintro e w1 ⟨rfl, hB1⟩)
      | (go_at_call 12; refine (PK.out _ hB1).mono ?_; rintro e w2 ⟨v2, rfl, hB2, hown⟩; obtain ⟨g, cap2, rfl, hge, hgl⟩ := hown.form (by omega)))
  have HB2 := hid (below_then hB1 hB2)
  have BY2 := hid (own_bytes hown HLEN.out.symm)
  have UN1 := hid (bunp_any (some ⟨g, 0, none⟩) T cap2 F w2 HLEN.out.symm BY2.out HFL.out)
  have hcap2 : T ≤ cap2 := by obtain ⟨_, _, e, h1, _⟩ := SlAt.open BY2.out; simp only [Value.slice.injEq] at e; have := HLEN.out; omega
  clear hown hB2 PK LG MY hge hgl
  go_wp2_with fail
  refine UN1.out.mono ?_
  rintro e w3 ⟨hB3, hE⟩
  obtain ⟨v3, rfl, hF3⟩ := ends_some hE U1.out
  obtain ⟨a3, c3, rfl, _, _, _⟩ := SecsAt.open hF3.it
  have HF3 := hid hF3
  have HB23 := hid hB3
  have HB3 := hid (below_then HB2.out hB3)
  have BY3 := hid (BY2.out.keep hB3)
  have hfr := SlAt.front BY3.out k (by omega)
  have UN2 := hid (bunp_any (some ⟨g, 0, none⟩) k cap2 (F.take k) w3 (by rw [List.length_take, HLEN.out]; omega) hfr (fun i => by
    by_cases hik : i < k
    · rw [List.getD, List.getElem?_take_of_lt hik]; exact HFL.out i
    · rw [List.getD, List.getElem?_eq_none (by simp; omega)]; decide))
  clear hE hF3 hB3 UN1 hfr BY2
  go_wp2_with fail
  refine UN2.out.mono ?_
  rintro e w4 ⟨hB4, hE⟩
  have he := ends_none hE U2.out
  subst he
  have HB4 := hid (below_then HB3.out hB4)
  have HF4 := hid (HF3.out.keep hB4)
  have BY4 := hid (BY3.out.keep hB4)
  clear hE hB4 UN2 BY3 HF3
  go_wp2_with (at_builtin; refine wpList_append_row rfl (.tmp 51) (.tmp 52) 24 rfl w4.heap.size 5 i0 _ 1 Try.underlying24 hi hz0 hz1 hz2 rfl (.slice (some ⟨w4.heap.size, 0, none⟩) 0 0) 0 [] rfl ?own (some ⟨g, 0, none⟩) T cap2 (fun i => u8v (F.getD i 0)) rfl ?nil ?row ?one ?b1 ?b2 ?base ?_)
  case own => exact World.ownsRow_made w4 #[] 0 (Nat.le_refl _) (by unfold maxLen; omega) rfl
  case nil => intro h; cases h
  case row => exact (SlAt.row BY4.out).2.keep ((Below.refl _ _).alloc (Nat.le_refl _) _)
  case one => intro j _; rfl
  case b1 => unfold maxLen; omega
  case b2 => omega
  case base => simp
  intro v5 w5 hown hgr
  have HB5 := hid (show Below w4.heap.size w4 w5 from ((Below.refl w4.heap.size w4).alloc (Nat.le_refl _) _).grown hgr (by simp) (fun k hk => by
    simp only [Value.ownBlock, Option.some.injEq] at hk; omega))
  have HO5 := hid (show w5.ownsRow w4.heap.size 5 1 v5 T (F.map u8v) by rw [← list_map_range F T HLEN.out.symm]; simpa [List.getD] using hown)
  clear hown hgr
  go_wp2_with (at_builtin; refine wpList_append_many rfl (.tmp 53) (.tmp 55) 24 rfl w4.heap.size 5 i0 _ 1 Try.underlying24 hi hz0 hz1 hz2 rfl v5 T _ ([y].map u8v) 1 rfl w5 ?hw rfl HO5.out w5.heap.size rfl rfl ?one ?b1 ?b2 ?base ?_)
  case hw => simp [u8v]
  case one => intro u hu; obtain ⟨c, _, rfl⟩ := List.mem_map.1 hu; rfl
  case b1 => unfold maxLen; omega
  case b2 => omega
  case base => exact HB5.out.size
  intro v6 w6 hown hgr hmv
  have HB6 := hid (show Below w4.heap.size w4 w6 from HB5.out.grown hgr HB5.out.size (fun k hk => (HO5.out.lt k hk).1))
  have HO6 := hid (show w6.ownsRow w4.heap.size 5 1 v6 (T + 1) ((F ++ [y]).map u8v) by rw [List.map_append]; exact hown)
  obtain ⟨a6, c6, rfl, _⟩ := rowAt_own hown
  have hl6 : T + 1 = (F ++ [y]).length := by rw [List.length_append, HLEN.out]; rfl
  have UN3 := hid (bunp_any a6 (T + 1) c6 (F ++ [y]) w6 hl6 (own_bytes HO6.out hl6) (fun i => by
    by_cases hik : i < F.length
    · rw [List.getD, List.getElem?_append_left hik]; exact HFL.out i
    · rw [List.getD, List.getElem?_append_right (by omega)]
      cases hj : i - F.length with
      | zero => simpa using hy
      | succ j => simp))
  have HF6 := hid (HF4.out.keep HB6.out)
  clear hown hgr hmv hl6 HO5 HO6 HB5
  go_wp2_with fail
  refine UN3.out.mono ?_
  rintro e w7 ⟨hB7, hE⟩
  have he := ends_none hE U3.out
  subst he
  have HB7 := hid (below_then (below_then HB4.out HB6.out) hB7)
  have SM := hid (rsame_any (.slice a3 L.length c3) (.slice a n cap) L L w7 (HF6.out.keep hB7).it (HS.out.keep HB7.out) HBY.out HBY.out (by have := HM.out.1; omega) true (by simp))
  clear hE hB7 UN3 HF6 HF4
  go_wp2_with (first
    | (go_at_call 17; refine SM.out.mono ?_; rintro e w8 ⟨rfl, hB8⟩)
    | (go_at_call 14; refine (known_any _).mono ?_; rintro e w9 ⟨rfl, hB9⟩))
  go_ret
  exact ⟨rfl, below_then (below_then HB7.out hB8) hB9⟩

theorem boxBack_walk (H : Type) (enc : TypeId × Value → H) (W : World) (base : Nat) (args : Array Value) (ds gs : List (DataW H)) (before : List MemPlace)
    (hval : ∀ (j : Nat) t v, Try.f5.params[j]? = some t → args[j]? = some v → Value.okWide Try.prog W .any base t v)
    (hW : DataW.Whole enc Try.prog Try.f5.params.toList Rows.boxBackSpec.vars false W args.toList ds gs before)
    (hz : (DataW.weightsEach Try.prog (Try.f5.params.toList ++ Rows.boxBackSpec.plain.varTypes Try.prog) (ds ++ gs)).all (· ≤ reachBytes) = true)
    (hL : laidMetH Try.prog Rows.boxBackRow.laid W) (hsh : W.ShapedOpen Try.prog) :
    Calls Try.prog 5 args W fun e W' => e = .returned (.bool true) ∧ Below W.heap.size W W' := by
  obtain ⟨p, q, hA, _, _, _, _⟩ := hW
  rw [Try.params5] at hA hval
  rw [Try.params5] at hz
  obtain ⟨v0, vs0, d0, ds0, p0, q0, hargs, rfl, rfl, h0, r0⟩ := trodAll_cons hA
  obtain ⟨v1, vs1, d1, ds1, p1, q1, rfl, rfl, rfl, h1, r1⟩ := trodAll_cons r0
  obtain ⟨v2, vs2, d2, ds2, p2, q2, rfl, rfl, rfl, h2, r2⟩ := trodAll_cons r1
  obtain ⟨rfl, rfl, rfl⟩ := trodAll_nil r2
  obtain rfl : args = #[v0, v1, v2] := by cases args; simp_all
  obtain ⟨l0, L0, b0, y0, z0⟩ := arg_secs (hval 0 22 v0 rfl rfl) h0 (sized_arg hz (j := 0) (t := 22) (d := d0) rfl rfl)
  obtain ⟨x1, rfl, rfl, rfl, w1⟩ := open_int Try.underlying3 (hval 1 3 v1 rfl rfl) h1
  have b1 := bounds_i64 w1
  obtain ⟨x2, rfl, rfl, rfl, w2⟩ := open_int Try.underlying5 (hval 2 5 v2 rfl rfl) h2
  have b2 := bounds_u8 w2
  obtain ⟨a, cap, rfl, h1, h2, h3⟩ := SecsAt.open L0
  have hnm : l0.length ≤ 9223372036854775807 := by unfold maxLen at h2; omega
  by_cases hlo : longB l0 0 = true
  · exact boxBack_out a _ cap l0 x1 x2 W rfl L0 b0 y0 hnm (Or.inl hlo)
  · have hlo' : longB l0 0 = false := by simpa using hlo
    by_cases hM : Bx.May l0
    · obtain ⟨y, rfl⟩ : ∃ y : Nat, x2 = y := ⟨x2.toNat, by omega⟩
      exact boxBack_in a _ cap l0 x1 y W rfl L0 b0 y0 hnm hlo' hM (by omega)
    · exact boxBack_out a _ cap l0 x1 x2 W rfl L0 b0 y0 hnm (Or.inr ⟨hlo', hM⟩)

theorem boxBack_lifted (os : Os) (started : os.Started) (H : Type) (enc : TypeId × Value → H) (F : Stop.Interp) :
    ReturnsInHanded {} Try.checked os 5 .any ((OpenSpec.ofChange Rows.boxBackSpec).preRow enc Try.prog Try.f5 Rows.boxBackRow.domain false Rows.boxBackRow.laid) (((OpenSpec.ofChange Rows.boxBackSpec).at F).post enc Try.prog Try.f5 false true false false) := by
  obtain ⟨places, hx⟩ : ∃ places, DataW.whole enc Try.prog ((World.holding Try.prog os ⟨#[], #[], []⟩).forCall (fun _ _ => 0) ⟨#[], #[.slice none 0 0, .int .i64 0, .int .u8 0], []⟩).memory Try.f5.params.toList Rows.boxBackSpec.vars false (#[.slice none 0 0, .int .i64 0, .int .u8 0] : Array Value).toList 8 = some ([.nil, .lit (.int .i64 0), .lit (.int .u8 0)], [], places) := ⟨[], by kernel_rfl⟩
  refine returnsInHanded_of_row (C := Try.checked) (s := OpenSpec.ofChange Rows.boxBackSpec) own started (by kernel_rfl) Try.func5
    (witness_row_at (enc := enc) (C := Try.checked) false (World.holding Try.prog os ⟨#[], #[], []⟩) #[.slice none 0 0, .int .i64 0, .int .u8 0] rfl (by kernel_rfl) (by kernel_rfl) (by kernel_rfl)
      (OpenSpec.preRow_of_cond 8 hx (by kernel_rfl) (fun k hk => by cases hk) (by kernel_rfl) (laidMet_nil _ _))) ?_
  intro W base args ds gs before hval hW _ _ hz hL hsh _
  refine (boxBack_walk H enc W base args ds gs before hval hW hz hL hsh).mono fun e W' ⟨he, hb⟩ => ⟨_, he, ?_⟩
  exact law_post (fn := Try.f5) (s := Rows.boxBackSpec) (tb := 4) rfl (fun ds hd => by match ds, hd with | [d0, d1, d2], _ => rfl) rfl Try.underlying4 (by kernel_rfl) hW hb

theorem boxBack_said : Rows.BoxBackSaid :=
  OpenClaim.holds_of_cond 5 Try.f5 rfl rfl rfl rfl rfl rfl rfl ⟨rfl, rfl, rfl, rfl, rfl⟩ rfl rfl rfl rfl rfl (by kernel_rfl) Try.func5 (by kernel_rfl)
    (of_decide_eq_true (by kernel_rfl)) (by unfold Func.isWrapper; first | (rw [if_pos (by decide +kernel)]; kernel_rfl) | (rw [if_neg (by decide +kernel)]; exact ⟨rfl, rfl⟩))
    (fun os started H enc _ F => by rw [OpenClaim.pre_eq_preRow]; exact boxBack_lifted os started H enc F)
end Go.Proofs.Ytgbhnkiballeeaa
