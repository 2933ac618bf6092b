/- store's Encode: the numbers of all triples as bytes. -/
import Derived.Test.YtjaebndajhppgaaGreatDoorSoBuild
import Derived.Test.YtjaebndajhppgaaGreatDoorSoFileM
import Derived.Test.YtjaebndajhppgaaGreatDoorGFr
import Derived.Test.YtjaebndajhppgaaGreatDoorGBx2
namespace Go.Proofs.YtjaebndajhppgaaGreatDoor
set_option linter.unusedVariables false
set_option linter.unusedSimpArgs false
set_option maxRecDepth 100000
open Go.ChangeShapes Go.WideShapes Go.ChangeAt Go.RowKit Go.Sort
theorem Tryz.soinfo3 : (Tryz.prog.info? 3).map (fun i => (i.zero, i.size, i.bytes)) = some (some (.int .i64 0), 1, 8) := by kernel_rfl
theorem Tryz.soinfo5 : (Tryz.prog.info? 5).map (fun i => (i.zero, i.size, i.bytes)) = some (some (.int .u8 0), 1, 1) := by kernel_rfl
theorem num3_step {L : List TR} {i : Nat} (hi : i < (So.ids L).length) : ((So.ids L).take (i + 1)).flatMap So.num3 = ((So.ids L).take i).flatMap So.num3 ++ So.num3 (So.ids L)[i] := by
  rw [List.take_succ_eq_append_getElem hi, List.flatMap_append]; simp
theorem num3_one (t : Rg.T) : ∀ u ∈ (So.num3 t).map i64v, u.oneCell' = true := by
  intro u hu
  obtain ⟨x, _, rfl⟩ := List.mem_map.1 hu
  rfl
theorem all_same (l : List Rg.T) : l.filter (Rg.mt (0, 0, 0)) = l := List.filter_eq_self.2 fun t _ => Rg.mt_zero t
theorem packed_cells (L : List TR) : packCells (So.numsI L) (So.wid L) (3 * L.length * So.wid L) (Pm.size (3 * L.length) (So.wid L)) = (So.packed L).map u8v := by
  unfold packCells So.packed
  rw [List.map_map]
  refine List.map_congr_left fun t _ => ?_
  show Value.int .u8 _ = Value.int .u8 _
  unfold Pm.byte
  rw [So.numsI_len]
set_option maxHeartbeats 8000000 in
theorem enct_any (L : List TR) (hl : ∀ t ∈ L, Tm.isTri t = true) (hn : L.length ≤ 100) (p : Nat) (w : World) (h : IsStore w p L) :
    Calls Tryz.prog 61 #[.pointer (some ⟨p, 0, none⟩)] w fun e w' => ∃ v, e = .returned v ∧ w'.ownsRow w.heap.size 5 1 v (So.body2 L).length ((So.body2 L).map u8v) ∧ Below w.heap.size w w' := by
  have H := hid h
  obtain ⟨vt, ve, r, h1, h2, h3, h4⟩ := h
  obtain ⟨a, c, rfl, _, _, _⟩ := h2.open
  obtain ⟨ae, ce, rfl, _, _, _⟩ := h3.open
  rw [List.length_map] at h1
  have HP := hid h1
  have AL := hid (rall_any r (So.ids L) (0, 0, 0) w h4 (fun c hc => by rcases Rg.c3 hc with rfl | rfl | rfl <;> decide))
  rw [all_same] at AL
  have PK := hid (fun W a n cap (hR : RowAt W a n fun i => .int .i64 ((So.numsI L).getD i 0)) (e : n = 3 * L.length) => pack_ok a n cap (So.wid L) (So.numsI L) W (by rw [e, So.numsI_len]) (So.pack_may hn) hR)
  obtain ⟨m, hm⟩ : ∃ m, m = (So.terms L).length := ⟨_, rfl⟩
  have WD := hid (fun W => width_any (m : Int) W (by have := So.terms_len L; omega))
  have HWD := hid (show So.wid L = Bn.width m by rw [hm]; rfl)
  rw [Int.toNat_natCast, ← HWD.out] at WD
  rw [← hm] at HP
  obtain ⟨n, hn0⟩ : ∃ n, n = L.length := ⟨_, rfl⟩
  rw [← hn0] at HP hn PK
  have HN := hid hn0
  clear h1 h2 h3 h4 hm hn0
  have c0 := HP.out.cell (i := 0) rfl
  have c1 := HP.out.cell (i := 1) rfl
  have c2 := HP.out.cell (i := 2) rfl
  unfold tv at AL
  go_enter Tryz.func61, Tryz.ntmps61
  go_upto_region 4 with (go_at_call 39; refine AL.out.mono ?_; rintro e w1 ⟨v1, rfl, hI, hB⟩; obtain ⟨ai, ci, rfl, _, _, _⟩ := hI.at.open; have HI := hid hI.at; have HB := hid hB; clear hI hB)
  obtain ⟨k, hk⟩ : ∃ k, k = (So.ids L).length := ⟨_, rfl⟩
  have HK := hid hk
  rw [← hk] at HI ⊢
  have hk100 : k ≤ 100 := by rw [hk, So.ids_len, ← HN.out]; exact hn
  clear hk c0 c1 c2
  go_loopg [4, 21] k (fun gk s4 s21 wr => ∃ i : Nat, s21 = .int .i64 i ∧ i ≤ k ∧ k - i ≤ gk ∧ Hid (Below w1.heap.size w1 wr) ∧ Hid (wr.ownsRow w1.heap.size 3 1 s4 (3 * i) ((((So.ids L).take i).flatMap So.num3).map i64v)))
  case atStart => exact ⟨0, rfl, Nat.zero_le _, Nat.le_refl _, hid (Below.refl _ _), hid (World.ownsRow_nil _ _ _ _)⟩
  case round =>
    obtain ⟨i, rfl, hik, hg, HB1, HR⟩ := hrel
    by_cases hlt : i < k
    · have hltz : (i : Int) < (k : Int) := by omega
      have hiL : i < (So.ids L).length := by rw [← HK.out]; exact hlt
      obtain ⟨bl, off, rfl, hrow⟩ := (HI.out.keep HB1.out).get hiL
      have HST := hid (num3_step hiL)
      have c0 := hrow i hiL 0 (by omega)
      have c1 := hrow i hiL 1 (by omega)
      have c2 := hrow i hiL 2 (by omega)
      obtain ⟨t, ht⟩ : ∃ t, t = (So.ids L)[i] := ⟨_, rfl⟩
      rw [← ht] at c0 c1 c2 HST
      obtain ⟨t1, t2, t3⟩ := t
      simp only [Rg.at', Nat.add_zero] at c0 c1 c2
      clear ht hrow hiL
      have hzr := HB1.out.size
      obtain ⟨iS, hi0, hzS, hszS, hbyS⟩ := info_parts Tryz.soinfo3
      have HB5 := hid (HB1.out.alloc HB1.out.size (.cells ((So.num3 (t1, t2, t3)).map i64v).toArray 77))
      go_wp2_with (at_builtin; refine wpList_append_blk rfl (.tmp 25) (.tmp 26) 48 rfl w1.heap.size 3 iS _ 1 8 Tryz.underlying48 hi0 hzS hszS hbyS rfl (by decide) _ _ _ rfl (HR.out.alloc _) (some ⟨wr.heap.size, 0, none⟩) 3 3 ((So.num3 (t1, t2, t3)).map i64v) rfl (fun h => by cases h) rfl (news_blk wr ((So.num3 (t1, t2, t3)).map i64v) 77) (num3_one _) (by unfold maxLen; omega) (by omega) (by simp; omega) ?_)
      intro v8 w8 g1 g2 g3
      have HB9 := hid (HB5.out.grown g2 (by simp; omega) (fun k hk => (HR.out.lt k hk).1))
      have HR8 := hid (show w8.ownsRow w1.heap.size 3 1 v8 (3 * (i + 1)) ((((So.ids L).take (i + 1)).flatMap So.num3).map i64v) by rw [HST.out, List.map_append]; exact g1)
      clear g1 g2 g3
      go_wp2
      go_roundg (k - (i + 1))
      case measure => omega
      case rel => exact ⟨i + 1, by go_num, by omega, by omega, HB9, HR8⟩
    · obtain rfl : i = k := by omega
      have hin : 3 * i = (So.numsI L).length := by rw [So.numsI_len, HK.out, So.ids_len]
      have hi3 : 3 * i = 3 * n := by rw [HK.out, So.ids_len, HN.out]
      have HRN := hid (show wr.ownsRow w1.heap.size 3 1 u4 (3 * i) ((So.numsI L).map i64v) by
        have h := HR.out
        rw [HK.out, List.take_length] at h
        rw [HK.out]; exact h)
      obtain ⟨an, cn, hv4, q1, q2, q3, hrow⟩ := SlAt.own (f := i64v) (d := (0 : Int)) HRN.out hin
      rw [← hin, hi3] at hv4 hrow
      subst hv4
      have PKw := hid (PK.out wr an (3 * n) cn hrow (by rw [HN.out]))
      have HPr := hid ((HP.out.keep HB.out).keep HB1.out)
      have c1 := HPr.out.cell (i := 1) rfl
      clear hin hi3 q1 q2 q3 hrow HR hg
      go_upto_region 9 with (first
        | (go_at_call 91; refine (WD.out _).mono ?_; rintro e w2 ⟨rfl, rfl⟩)
        | (go_at_call 105; refine PKw.out.mono ?_; rintro e w2 ⟨b, rfl, hb2, hb, hblk⟩; have HB2 := hid hb2; have HBB := hid hb; have HBK := hid hblk; clear hb2 hb hblk))
      have HBW := hid (below_then HB.out (below_then HB1.out HB2.out))
      obtain ⟨z, hz⟩ : ∃ z, z = Pm.size (3 * n) (So.wid L) := ⟨_, rfl⟩
      rw [← hz] at HBK ⊢
      have HZ := hid hz
      have hz338 : z ≤ 338 := by rw [hz, HN.out]; exact So.size_le (by rw [← HN.out]; exact hn)
      clear hz c1
      go_upto_region 11 with fail
      obtain ⟨iS, hi0, hzS, hszS, hbyS⟩ := info_parts Tryz.soinfo5
      have HO := hid (own_built w2 5 #[.int .u8 ((n : Int) / 256), .int .u8 (n : Int)] 2 rfl (by unfold maxLen; omega) rfl)
      have hpk : (So.packed L).length = z := by rw [So.packed_len, ← HN.out]; exact HZ.out.symm
      have HBK2 := hid (show Blk w2 b ((So.packed L).map u8v) 5 by
        have h := HBK.out
        rw [HZ.out, HN.out, packed_cells] at h; exact h)
      have hsrc := fun (o : Obj) => (fun ad (had : (some ⟨b, 0, none⟩ : Option Addr) = some ad) j u (hu : ((So.packed L).map u8v)[j]? = some u) => (by
        cases had
        rw [add_cell rfl, Nat.zero_add]
        exact (HBK2.out.alloc o).cell hu : (w2.alloc o).cell? (ad.add j) = some u))
      go_wp2_with (at_builtin; refine wpList_append_blk rfl (.tmp 47) (.tmp 48) 32 rfl w2.heap.size 5 iS _ 1 1 Tryz.underlying32 hi0 hzS hszS hbyS rfl (by decide) _ _ _ rfl HO.out (some ⟨b, 0, none⟩) z z ((So.packed L).map u8v) rfl (fun h => by cases h) (by rw [List.length_map, hpk]; omega) (hsrc _) (by intro u hu; obtain ⟨x, _, rfl⟩ := List.mem_map.1 hu; rfl) (by unfold maxLen; omega) (by omega) (by simp) ?_)
      intro v8 w8 g1 g2 g3
      have HB8 := hid (below_then HBW.out (((Below.refl w2.heap.size w2).alloc (Nat.le_refl _) _).grown g2 (by simp) (fun k hk => (HO.out.lt k hk).1)))
      have HR8 := hid g1
      clear g1 g2 g3 hsrc
      go_wp2
      go_ret
      refine ⟨_, rfl, ?_, HB8.out⟩
      have hlen : (So.body2 L).length = 2 + z := by unfold So.body2; rw [List.length_append, hpk]; rfl
      have hx : (So.body2 L).map u8v = #[Value.int .u8 ((n : Int) / 256), Value.int .u8 (n : Int)].toList ++ (So.packed L).map u8v := by
        unfold So.body2
        rw [List.map_append, ← HN.out]
        congr 1
        show [Value.int .u8 ((n / 256 % 256 : Nat) : Int), Value.int .u8 ((n % 256 : Nat) : Int)] = [Value.int .u8 ((n : Int) / 256), Value.int .u8 (n : Int)]
        rw [show ((n / 256 % 256 : Nat) : Int) = (n : Int) / 256 by omega, show ((n % 256 : Nat) : Int) = (n : Int) by omega]
      rw [hlen, hx]
      exact own_mono HR8.out (by have h1 := HB.out.size; have h2 := HB1.out.size; have h3 := HB2.out.size; omega)
end Go.Proofs.YtjaebndajhppgaaGreatDoor
