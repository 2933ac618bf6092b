/- A box: what Unpack is made of. -/
import Derived.Test.YtgbhnkiballeeaaBxPack
import Derived.Deep.DeepCutAuto
import Derived.Lib.SliceRun
namespace Go.Proofs.Ytgbhnkiballeeaa
set_option linter.unusedVariables false
set_option linter.unusedSimpArgs false
set_option maxRecDepth 100000
open Go.ChangeShapes Go.WideShapes Go.ChangeAt Go.RowKit
theorem or3 (x y z : Nat) (hx : x < 256) (hy : y < 256) (hz : z < 256) :
    bits BinOp.or IntKind.i64 (bits BinOp.or IntKind.i64 ((x : Int) * 65536) ((y : Int) * 256)) (z : Int) = ((Bx.val3 x y z : Nat) : Int) := by
  rw [show (x : Int) * 65536 = ((65536 * x : Nat) : Int) by omega, show (y : Int) * 256 = ((256 * y : Nat) : Int) by omega, Bn.i64_or_nat _ _ (by omega) (by omega)]
  have e1 : 65536 * x ||| 256 * y = 65536 * x + 256 * y := by
    have := Nat.two_pow_add_eq_or_of_lt (i := 16) (b := 256 * y) (by omega) x
    simpa using this.symm
  rw [e1, Bn.i64_or_nat _ _ (by omega) (by omega)]
  have e2 : (65536 * x + 256 * y) ||| z = 65536 * x + 256 * y + z := by
    have := Nat.two_pow_add_eq_or_of_lt (i := 8) (b := z) (by omega) (256 * x + y)
    rw [show 2 ^ 8 * (256 * x + y) = 65536 * x + 256 * y by omega] at this
    exact this.symm
  rw [e2]; rfl
theorem three_any (v : Value) (l : List Nat) (W : World) (h : BytesAt W v l) (hl : 3 ≤ l.length) (hb : ∀ i, l.getD i 0 < 256) :
    Calls Try.prog 28 #[v] W fun e W' => e = .returned (.int .i64 (Bx.val3 (l.getD 0 0) (l.getD 1 0) (l.getD 2 0) : Nat)) ∧ ∃ q, W' = W.drewN q := by
  obtain ⟨a, cap, rfl, h1, h2, h3, hr⟩ := SlAt.open h
  obtain ⟨b, off, rfl, hc⟩ := hr.get (i := 0) (by omega)
  have c0 := hc 0 (by omega)
  have c1 := hc 1 (by omega)
  have c2 := hc 2 (by omega)
  have OR := hid (or3 _ _ _ (hb 0) (hb 1) (hb 2))
  simp only [u8v] at c0 c1 c2
  have b0 := hb 0
  have b1 := hb 1
  have b2 := hb 2
  generalize l.getD 0 0 = x at *
  generalize l.getD 1 0 = y at *
  generalize l.getD 2 0 = z at *
  obtain ⟨n, hn⟩ : ∃ n, n = l.length := ⟨_, rfl⟩
  rw [← hn] at hl ⊢
  rw [Nat.add_zero] at c0
  clear hr h hb hc h3 hn h1
  go_enter Try.func28, Try.ntmps28
  go_wp2
  go_quiet (fail)
  go_wp2
  go_ret
  exact ⟨ret_int OR.out, _, rfl⟩
theorem strOf_list (l : List Nat) : (strOf l).toList = l.map fun x => UInt8.ofNat x := by
  unfold strOf
  rw [ByteArray.toList_eq]
theorem strOf_eq {k l : List Nat} (hk : ∀ i, k.getD i 0 < 256) (hl : ∀ i, l.getD i 0 < 256) : ((strOf k).toList == (strOf l).toList) = decide (k = l) := by
  by_cases h : k = l
  · rw [h, decide_eq_true rfl]; simp
  · rw [decide_eq_false h]
    refine beq_eq_false_iff_ne.2 fun e => h (strOf_inj hk hl ?_)
    rw [strOf_list, strOf_list] at e
    unfold strOf
    rw [e]
theorem beq_any (v1 v2 : Value) (l1 l2 : List Nat) (W : World) (h1 : BytesAt W v1 l1) (h2 : BytesAt W v2 l2) (b1 : ∀ i, l1.getD i 0 < 256) (b2 : ∀ i, l2.getD i 0 < 256) :
    Calls Try.prog 25 #[v1, v2] W fun e W' => e = .returned (.bool (decide (l1 = l2))) ∧ W' = W := by
  have k1 := conv_row (P := Try.prog) Try.underlying24 Try.underlying5 Try.underlying9 W v1 l1 h1
  have k2 := conv_row (P := Try.prog) Try.underlying24 Try.underlying5 Try.underlying9 W v2 l2 h2
  have hE := hid (strOf_eq b1 b2)
  clear h1 h2 b1 b2
  go_enter Try.func25, Try.ntmps25
  go_wp2
  go_ret
  exact ⟨ret_bool hE.out, rfl⟩
theorem bclone_any (v : Value) (l : List Nat) (W : World) (h : BytesAt W v l) (hl : l.length ≤ 1000000000) :
    Calls Try.prog 29 #[v] W fun e W' => ∃ v', e = .returned v' ∧ Below W.heap.size W W' ∧ Fresh W.heap.size W' (fun W => BytesAt W v' l) := by
  obtain ⟨i0, hi, hz0, hz1, hz2⟩ := info_parts Try.info5
  obtain ⟨a, cap, rfl, h1, h2, h3, hr⟩ := SlAt.open h
  have ke := fun (w : World) (a : Option Addr) (n c : Nat) => Lib.run_eql_slice_nil (P := Try.prog) w 24 5 a n c 0 0 Try.underlying24
  cases a with
  | none =>
    obtain ⟨e1, e2⟩ := h3 rfl
    have hl0 : l = [] := List.eq_nil_of_length_eq_zero e1
    subst hl0
    subst e2
    go_enter Try.func29, Try.ntmps29
    go_wp2
    go_ret
    exact ⟨_, rfl, Below.refl _ _, fun w'' _ => SlAt.nil w''⟩
  | some ad =>
    have HR := hid (SlAt.row h).2
    have HN := hid (show True from trivial)
    obtain ⟨n, hn⟩ : ∃ n, n = l.length := ⟨_, rfl⟩
    rw [← hn] at HR hl ⊢
    have HLN := hid hn
    clear h h1 h3 hr hn
    go_enter Try.func29, Try.ntmps29
    go_wp2_with (at_builtin; refine wpList_append_row rfl (.tmp 5) (.tmp 6) 24 rfl W.heap.size 5 i0 _ 1 Try.underlying24 hi hz0 hz1 hz2 rfl (.slice (some ⟨W.heap.size, 0, none⟩) 0 0) 0 [] rfl ?own (some ad) n cap (fun i => u8v (l.getD i 0)) rfl ?nil ?row ?one ?b1 ?b2 ?base ?_)
    case own => exact World.ownsRow_made W #[] 0 (Nat.le_refl _) (by unfold maxLen; omega) rfl
    case nil => intro h; cases h
    case row => exact HR.out.keep ((Below.refl _ _).alloc (Nat.le_refl _) _)
    case one => intro j _; rfl
    case b1 => unfold maxLen; omega
    case b2 => omega
    case base => simp
    intro v1 w1 hown hgr
    have hbm : (List.range n).map (fun t => u8v (l.getD t 0)) = l.map u8v := by
      rw [HLN.out]
      refine List.ext_getElem (by simp) fun t q1 q2 => ?_
      simp only [List.getElem_map, List.getElem_range]
      rw [List.getD, List.getElem?_eq_getElem (by simpa using q2)]; rfl
    have HO := hid (show w1.ownsRow W.heap.size 5 1 v1 n (l.map u8v) by rw [← hbm]; simpa using hown)
    have HB := hid (show Below W.heap.size W w1 from ((Below.refl W.heap.size W).alloc (Nat.le_refl _) _).grown hgr (by simp) (fun k hk => by
      simp only [Value.ownBlock, Option.some.injEq] at hk; omega))
    clear hown hgr hbm
    go_wp2
    go_ret
    exact ⟨v1, rfl, HB.out, bytes_fresh HO.out HLN.out⟩
end Go.Proofs.Ytgbhnkiballeeaa
