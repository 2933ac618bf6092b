/- A dictionary of texts: shared beginnings, all bytes. -/
import Derived.Test.YtdahfejecbcakaaFront2
import Derived.Lib.AppendStr
namespace Go.Proofs.Ytdahfejecbcakaa
set_option linter.unusedVariables false
set_option linter.unusedSimpArgs false
set_option maxRecDepth 100000
open Go.ChangeShapes Go.WideShapes Go.ChangeAt Go.RowKit

theorem shared_any (a b : List UInt8) (W : World) (ha : a.length ≤ 9223372036854775806) (hb : b.length ≤ 9223372036854775806) :
    Calls Try.prog 34 #[str a, str b] W fun e W' => e = .returned (.int .i64 (Fr.sh a b : Nat)) ∧ ∃ q, W' = W.drewN q := by
  obtain ⟨hla, hlb⟩ := Fr.sh_le a b
  go_enter Try.func34, Try.ntmps34
  go_wp2
  go_loopw [5] (fun s5 wr => ∃ i q : Nat, i ≤ Fr.sh a b ∧ s5 = .int .i64 i ∧ wr = W.drewN q) (fun s5 _ => Fr.sh a b - (intOf s5).toNat)
  case atStart => exact ⟨0, 0, by omega, rfl, rfl⟩
  case round =>
    obtain ⟨i, q, hi, rfl, rfl⟩ := hrel
    by_cases hlt : i < Fr.sh a b
    · obtain ⟨c, h1, h2⟩ := Fr.sh_same hlt
      have g1 := fun p => ba_get a i c h1 p
      have g2 := fun p => ba_get b i c h2 p
      have hia : i < a.length := by omega
      have hib : i < b.length := by omega
      clear h1 h2
      go_wp2
      go_quiet (fail)
      go_wp2
      go_roundw
      case rel => exact ⟨i + 1, _, by omega, by go_num, rfl⟩
      case measure => simp [intOf]; omega
    · have hi' : i = Fr.sh a b := by omega
      have HI := hid hi'
      by_cases hia : i < a.length
      · by_cases hib : i < b.length
        · obtain ⟨c, h1⟩ : ∃ c, a[i]? = some c := ⟨_, List.getElem?_eq_getElem hia⟩
          obtain ⟨d, h2⟩ : ∃ c, b[i]? = some c := ⟨_, List.getElem?_eq_getElem hib⟩
          have hcd := Fr.sh_stop (c := c) (d := d) (by rw [← hi']; exact h1) (by rw [← hi']; exact h2)
          have hcd2 : ((c.toNat : Int) == (d.toNat : Int)) = false := beq_eq_false_iff_ne.2 (fun e => hcd (UInt8.toNat_inj.1 (by omega)))
          have g1 := fun p => ba_get a i c h1 p
          have g2 := fun p => ba_get b i d h2 p
          clear h1 h2 hcd hi'
          go_wp2
          go_quiet (fail)
          go_wp2
          go_ret
          exact ⟨ret_int (by rw [HI.out]), _, World.drewN_drewN _ _ _⟩
        · clear hi'
          go_wp2
          go_quiet (fail)
          go_wp2
          go_ret
          exact ⟨ret_int (by rw [HI.out]), _, World.drewN_drewN _ _ _⟩
      · clear hi'
        go_wp2
        go_quiet (fail)
        go_wp2
        go_ret
        exact ⟨ret_int (by rw [HI.out]), _, World.drewN_drewN _ _ _⟩
theorem Try.info5 : (Try.prog.info? 5).map (fun i => (i.zero, i.size, i.bytes)) = some (some (.int .u8 0), 1, 1) := by kernel_rfl
theorem size_of_text (l : List UInt8) : (⟨l.toArray⟩ : ByteArray).size = l.length := by simp [ByteArray.size]
theorem strCells_text (l : List UInt8) : Go.Lib.strCells ⟨l.toArray⟩ = (Fr.nats l).map u8v := by
  unfold Go.Lib.strCells Fr.nats
  simp [u8v]
theorem own_built (w : World) (t : TypeId) (cur : Array Value) (n : Nat) (hs : cur.size = n) (hm : n ≤ maxLen) {xs : List Value} (hx : cur.toList = xs) : (w.alloc (.cells cur t)).ownsRow w.heap.size t 1 (.slice (some ⟨w.heap.size, 0, none⟩) n n) n xs := by
  subst hx
  refine ⟨by simpa using hs, .inr ⟨w.heap.size, n, cur, rfl, Nat.le_refl _, heap_alloc_new w _, Nat.le_refl _, hm, by omega, ?_⟩⟩
  rw [Nat.mul_one, List.take_of_length_le (by simp; omega)]
theorem own_len {w : World} {b n m : Nat} {t : TypeId} {v : Value} {xs : List Value} (h : w.ownsRow b t 1 v n xs) (e : n = m) : w.ownsRow b t 1 v m xs := e ▸ h
set_option maxHeartbeats 1000000 in
theorem bytes_any (p : Nat) (L : List (List UInt8)) (W : World) (h : IsDict W p L) (hm : Fr.May L) :
    Calls Try.prog 21 #[.pointer (some ⟨p, 0, none⟩)] W fun e W' => ∃ v, e = .returned v ∧ Below W.heap.size W W' ∧ W'.ownsRow W.heap.size 5 1 v (Fr.byt L L.length).length ((Fr.byt L L.length).map u8v) := by
  obtain ⟨i0, hi, hz0, hz1, hz2⟩ := info_parts Try.info5
  obtain ⟨v, B, hT⟩ := h
  have c0 := B.cell (i := 0) (v := v) rfl
  obtain ⟨a, cap, rfl, hc1, hc2, hc3, hR⟩ := hT.open
  obtain ⟨n, hn⟩ : ∃ n, n = L.length := ⟨_, rfl⟩
  have hn3 : n ≤ 300 := by rw [hn]; exact hm.1
  have HM := hid (fun i (hi : i < n) => (hm.2 i (by omega)).2.1)
  have HL := hid (fun k (hk : k ≤ n) => Fr.byt_len hm k (by omega))
  have HC := hid c0
  have H0 := hid (show Fr.byt L 0 = [n / 256 % 256, n % 256] by rw [hn]; rfl)
  rw [← hn] at hR c0 ⊢
  have HR := hid hR
  have hw1 : IntKind.u8.wrap ((n : Int) / 256) = ((n / 256 % 256 : Nat) : Int) := by rw [IntKind.wrap_u8']; omega
  have hw2 : IntKind.u8.wrap (n : Int) = ((n % 256 : Nat) : Int) := by rw [IntKind.wrap_u8']; omega
  have SH := hid (fun a b W ha hb => shared_any a b W ha hb)
  rw [← hn] at HC
  clear hT B hm hc3 hn
  have cA := fun o => (show (W.alloc o).cell? ⟨p, 0, none⟩ = some (.slice a n cap) from below_keep ((Below.refl _ _).alloc (Nat.le_refl _) o) c0)
  go_enter Try.func21, Try.ntmps21
  go_wp2
  go_region
  go_wp2
  clear cA c0
  go_loopw [28, 3, 4, 5, 6] (fun s28 s3 s4 s5 s6 wr => ∃ i : Nat, i ≤ n ∧ s28 = .int .i64 i ∧ Hid (wr.ownsRow W.heap.size 5 1 s3 (Fr.byt L i).length ((Fr.byt L i).map u8v)) ∧ Hid (Below W.heap.size W wr)) (fun s28 _ _ _ _ _ => n - (intOf s28).toNat)
  case atStart =>
    refine ⟨0, by omega, rfl, ?_, (((Below.refl _ _).alloc (Nat.le_refl _) _).drew)⟩
    rw [H0.out]
    exact own_built W 5 #[.int .u8 ((n : Int) / 256 % 256), .int .u8 ((n : Int) % 256)] 2 rfl (by unfold maxLen; omega) (by simp [u8v])
  case round =>
    obtain ⟨i, hin, rfl, OO, HB⟩ := hrel
    have hzr := HB.out.size
    by_cases hlt : i < n
    · obtain ⟨b, off, rfl, hc⟩ := (HR.out.keep HB.out).get hlt
      have c0 := below_keep HB.out HC.out
      have c1 := hc i hlt
      have hxl := HM.out i hlt
      have hbl := HL.out i (by omega)
      have HX := hid (show Fr.at_ L i = L.getD i [] from rfl)
      have hks := Fr.shAt_le L i
      unfold Fr.at_ at hxl
      obtain ⟨x, hx⟩ : ∃ x, x = L.getD i [] := ⟨_, rfl⟩
      rw [← hx] at c1 hxl HX
      rw [show Fr.at_ L i = x from HX.out] at hks
      rcases Nat.eq_zero_or_pos (i % 4) with h4 | h4
      · have hm4 : Int.tmod (i : Int) 4 = 0 := by rw [Int.tmod_eq_emod_of_nonneg (by omega)]; omega
        have HK := hid (show (0 : Nat) = Fr.shAt L i by unfold Fr.shAt; rw [if_pos h4])
        obtain ⟨wc, hwc⟩ : ∃ wc, wc = wr := ⟨_, rfl⟩
        subst hwc
        have OC := OO
        have HBC := HB
        have hzc := hzr
        clear hc hx hks h4
        obtain ⟨x2, hx2⟩ : ∃ y, y = x.drop 0 := ⟨_, rfl⟩
        have ed : (⟨x.toArray⟩ : ByteArray).extract 0 x.length = ⟨x2.toArray⟩ := by rw [hx2]; exact ba_drop x 0
        have hl2 : x2.length + 0 = x.length := by rw [hx2, List.length_drop]; omega
        have hwm : IntKind.u8.wrap (x.length : Int) = (x.length : Int) := by rw [IntKind.wrap_u8']; omega
        have HE := hid (show Fr.enc L i = [0, x.length] ++ Fr.nats x2 by unfold Fr.enc; rw [← HK.out, show Fr.at_ L i = x from HX.out, ← hx2]; rfl)
        have hxi : (x.length : Int) - 0 = ((x.length : Nat) : Int) := by omega
        have HXI := hid hxi
        clear hx2 hxi
        go_wp2_with (at_builtin; refine wpList_append_row rfl (.tmp 46) (.tmp 54) 35 rfl W.heap.size 5 i0 _ 1 Try.underlying35 hi hz0 hz1 hz2 rfl _ _ _ rfl (OC.out.alloc _) (some ⟨wc.heap.size, 0, none⟩) 2 2 (fun j => u8v ([0, x.length].getD j 0)) rfl ?nil ?row ?one ?b1 ?b2 ?base ?_)
        case nil => exact fun h => by cases h
        case row =>
          refine Or.inr ⟨_, _, rfl, fun j hj => ?_⟩
          rw [Nat.zero_add, cell_new]
          rcases (show j = 0 ∨ j = 1 by omega) with rfl | rfl
          · rfl
          · exact congrArg (fun z => some (Value.int .u8 z)) (by simp)
        case one => intro j _; rfl
        case b1 => unfold maxLen; omega
        case b2 => omega
        case base => simp; omega
        intro v1 w1 hown hgr
        have hb1 : Below W.heap.size W w1 := (HBC.out.alloc hzc _).grown hgr (by simp; omega) (fun g hg => (OC.out.lt g hg).1)
        have hown' : w1.ownsRow W.heap.size 5 1 v1 ((Fr.byt L i).length + 2) ((Fr.byt L i ++ [0, x.length]).map u8v) := by
          rw [List.map_append]; exact hown
        have O1 := hid hown'
        have HB1 := hid hb1
        have hz1' := hb1.size
        clear hown hown' hgr hb1
        go_wp2_with (at_builtin; refine Go.Lib.wpList_append_own_string _ rfl (.tmp 56) (.tmp 59) 35 9 rfl W.heap.size 5 i0 Try.underlying35 Try.underlying9 hi hz0 hz1 hz2 v1 _ _ rfl O1.out ⟨x2.toArray⟩ rfl ?c1 ?c2 ?c3 ?_)
        case c1 => rw [size_of_text]; unfold maxLen; omega
        case c2 => rw [size_of_text]; omega
        case c3 => exact hz1'
        intro v2 w2 hown2 hgr2 _
        have hb2 : Below W.heap.size W w2 := HB1.out.grown hgr2 hz1' (fun g hg => (O1.out.lt g hg).1)
        rw [strCells_text] at hown2
        have hown3 : w2.ownsRow W.heap.size 5 1 v2 ((Fr.byt L i).length + 2 + x2.length) ((Fr.byt L i ++ Fr.enc L i).map u8v) := by
          rw [HE.out]; simpa using hown2
        have O2 := hid hown3
        have HB2 := hid hb2
        clear hown2 hown3 hgr2 hb2
        go_wp2
        go_roundw
        case rel => exact ⟨i + 1, by omega, by go_num, own_len (O2.out) (by show _ = (Fr.byt L i ++ Fr.enc L i).length; rw [List.length_append, HE.out, List.length_append]; unfold Fr.nats; rw [List.length_map]; simp only [List.length_cons, List.length_nil]; omega), HB2.out⟩
        case measure => simp [intOf]; omega
      · have hm4 : Int.tmod (i : Int) 4 = ((i % 4 : Nat) : Int) := by rw [Int.tmod_eq_emod_of_nonneg (by omega)]; omega
        have hm5 : (((i % 4 : Nat) : Int) == 0) = false := beq_eq_false_iff_ne.2 (by omega)
        have hi0 : 0 < i := by omega
        have c2 := hc (i - 1) (by omega)
        have hyl := HM.out (i - 1) (by omega)
        unfold Fr.at_ at hyl
        have HY := hid (show Fr.at_ L (i - 1) = L.getD (i - 1) [] from rfl)
        obtain ⟨y, hy⟩ : ∃ y, y = L.getD (i - 1) [] := ⟨_, rfl⟩
        rw [← hy] at c2 hyl HY
        have SS := hid (fun W => SH.out y x W (by omega) (by omega))
        have hk0 : Fr.shAt L i = Fr.sh y x := by unfold Fr.shAt; rw [if_neg (by omega), show Fr.at_ L i = x from HX.out, show Fr.at_ L (i - 1) = y from HY.out]
        rw [hk0] at hks
        obtain ⟨k, hk⟩ : ∃ k, k = Fr.sh y x := ⟨_, rfl⟩
        have HK := hid (show k = Fr.shAt L i by rw [hk0, hk])
        rw [← hk] at SS hks
        clear hc hx hy hk hk0 h4
        go_wp2_with fail
        refine (SS.out _).mono ?_
        rintro e wc ⟨rfl, q, hq⟩
        have OC := hid (show wc.ownsRow W.heap.size 5 1 u3 (Fr.byt L i).length ((Fr.byt L i).map u8v) by rw [hq]; exact OO.out)
        have HBC := hid (show Below W.heap.size W wc by rw [hq]; exact below_drawn HB.out q)
        have hzc := HBC.out.size
        clear hq
        obtain ⟨x2, hx2⟩ : ∃ y, y = x.drop k := ⟨_, rfl⟩
        have ed : (⟨x.toArray⟩ : ByteArray).extract k x.length = ⟨x2.toArray⟩ := by rw [hx2]; exact ba_drop x k
        have hl2 : x2.length + k = x.length := by rw [hx2, List.length_drop]; omega
        have hwk : IntKind.u8.wrap (k : Int) = (k : Int) := by rw [IntKind.wrap_u8']; omega
        have hwm : IntKind.u8.wrap ((x.length : Int) - k) = (x.length : Int) - k := by rw [IntKind.wrap_u8']; omega
        have hwn : IntKind.i64.wrap ((x.length : Int) - k) = (x.length : Int) - k := by rw [IntKind.wrap_i64]; omega
        have HE := hid (show Fr.enc L i = [k, x.length - k] ++ Fr.nats x2 by unfold Fr.enc; rw [← HK.out, show Fr.at_ L i = x from HX.out, ← hx2])
        have hxi : (x.length : Int) - k = ((x.length - k : Nat) : Int) := by omega
        have HXI := hid hxi
        clear hx2 hxi
        go_wp2_with (at_builtin; refine wpList_append_row rfl (.tmp 46) (.tmp 54) 35 rfl W.heap.size 5 i0 _ 1 Try.underlying35 hi hz0 hz1 hz2 rfl _ _ _ rfl (OC.out.alloc _) (some ⟨wc.heap.size, 0, none⟩) 2 2 (fun j => u8v ([k, x.length - k].getD j 0)) rfl ?nil ?row ?one ?b1 ?b2 ?base ?_)
        case nil => exact fun h => by cases h
        case row =>
          refine Or.inr ⟨_, _, rfl, fun j hj => ?_⟩
          rw [Nat.zero_add, cell_new]
          rcases (show j = 0 ∨ j = 1 by omega) with rfl | rfl
          · rfl
          · exact congrArg (fun z => some (Value.int .u8 z)) HXI.out
        case one => intro j _; rfl
        case b1 => unfold maxLen; omega
        case b2 => omega
        case base => simp; omega
        intro v1 w1 hown hgr
        have hb1 : Below W.heap.size W w1 := (HBC.out.alloc hzc _).grown hgr (by simp; omega) (fun g hg => (OC.out.lt g hg).1)
        have hown' : w1.ownsRow W.heap.size 5 1 v1 ((Fr.byt L i).length + 2) ((Fr.byt L i ++ [k, x.length - k]).map u8v) := by
          rw [List.map_append]; exact hown
        have O1 := hid hown'
        have HB1 := hid hb1
        have hz1' := hb1.size
        clear hown hown' hgr hb1
        go_wp2_with (at_builtin; refine Go.Lib.wpList_append_own_string _ rfl (.tmp 56) (.tmp 59) 35 9 rfl W.heap.size 5 i0 Try.underlying35 Try.underlying9 hi hz0 hz1 hz2 v1 _ _ rfl O1.out ⟨x2.toArray⟩ rfl ?c1 ?c2 ?c3 ?_)
        case c1 => rw [size_of_text]; unfold maxLen; omega
        case c2 => rw [size_of_text]; omega
        case c3 => exact hz1'
        intro v2 w2 hown2 hgr2 _
        have hb2 : Below W.heap.size W w2 := HB1.out.grown hgr2 hz1' (fun g hg => (O1.out.lt g hg).1)
        rw [strCells_text] at hown2
        have hown3 : w2.ownsRow W.heap.size 5 1 v2 ((Fr.byt L i).length + 2 + x2.length) ((Fr.byt L i ++ Fr.enc L i).map u8v) := by
          rw [HE.out]; simpa using hown2
        have O2 := hid hown3
        have HB2 := hid hb2
        clear hown2 hown3 hgr2 hb2
        go_wp2
        go_roundw
        case rel => exact ⟨i + 1, by omega, by go_num, own_len (O2.out) (by show _ = (Fr.byt L i ++ Fr.enc L i).length; rw [List.length_append, HE.out, List.length_append]; unfold Fr.nats; rw [List.length_map]; simp only [List.length_cons, List.length_nil]; omega), HB2.out⟩
        case measure => simp [intOf]; omega
    · obtain rfl : i = n := by omega
      go_wp2
      go_ret
      exact ⟨_, rfl, HB.out, OO.out⟩
end Go.Proofs.Ytdahfejecbcakaa
