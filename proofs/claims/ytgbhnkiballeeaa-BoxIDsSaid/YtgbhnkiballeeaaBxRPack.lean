/- A box: the document's own Pack. -/
import Derived.Test.YtgbhnkiballeeaaBxRef
import Derived.Deep.RegionLaw
namespace Go.Proofs.Ytgbhnkiballeeaa
set_option linter.unusedVariables false
set_option linter.unusedSimpArgs false
set_option maxRecDepth 100000
open Go.ChangeShapes Go.WideShapes Go.ChangeAt Go.RowKit
theorem rthree_any (k : Nat) (W : World) (hk : k < 16777216) :
    Calls Try.prog 23 #[.int .i64 k] W fun e W' => e = .returned (.slice (some ⟨W.heap.size, 0, none⟩) 3 3) ∧ W' = W.alloc (.cells ((Bx.three k).map u8v).toArray 5) := by
  have e1 : (k : Int) / 65536 = ((k / 65536 % 256 : Nat) : Int) := by omega
  have e2 : (k : Int) / 256 % 256 = ((k / 256 % 256 : Nat) : Int) := by omega
  have e3 : (k : Int) % 256 = ((k % 256 : Nat) : Int) := by omega
  have EE := hid (show (#[Value.int .u8 ((k : Int) / 65536), Value.int .u8 ((k : Int) / 256 % 256), Value.int .u8 ((k : Int) % 256)] : Array Value) = ((Bx.three k).map u8v).toArray by rw [e1, e2, e3]; rfl)
  clear e1 e2 e3
  go_enter Try.func23, Try.ntmps23
  go_wp2
  go_ret
  exact ⟨rfl, by rw [EE.out]⟩
theorem keep_alloc (w : World) (o : Obj) {b k : Nat} {u : Value} (h : w.cell? ⟨b, k, none⟩ = some u) : (w.alloc o).cell? ⟨b, k, none⟩ = some u :=
  below_keep ((Below.refl w.heap.size w).alloc (Nat.le_refl _) o) h
/-- append of elements of one cell each, which stand in another block, at a step of a region that draws. -/
theorem step_append_blk {w : World} {P : Program} {ops : Array Oper} {o : Oper} {a : Act} {K : Act → World → Prop} {Q : Exit → Act → World → Prop} {E : Prop} (hgd : o.guard = none) (s x : Operand) (t : TypeId)
    (ho : o.op = .call { callee := .builtin .append, args := #[s, x], argTypes := #[t, t] })
    (base : Nat) (e : TypeId) (i : TypeInfo) (z : Value) (bytes : Nat) (ht : P.underlying t = some (.slice e)) (hi : P.info? e = some i) (hz : i.zero = some z)
    (hsize : i.size = 1) (hby : i.bytes = bytes) (hzs : z.cells.size = 1)
    (v : Value) (n : Nat) (xs : List Value) (us : List Value) (m : Nat) (hm : m = us.length) (hs : a.eval s = v) (hown : w.ownsRow base e 1 v n xs)
    (H : Nat) (hx : a.eval x = .slice (some ⟨H, 0, none⟩) m m) (hc : ∀ j u, us[j]? = some u → w.cell? ⟨H, j, none⟩ = some u) (h1 : ∀ u ∈ us, u.oneCell' = true)
    (h63 : n + m ≤ maxLen) (hbytes : (n + m) * bytes ≤ 140737488355328) (hbase : base ≤ w.heap.size)
    (h : ∀ v' w', w'.ownsRow base e 1 v' (n + m) (xs ++ us) → w.grownBy w' v.ownBlock → Moved w v v' → K (a.put o.dst v') w') :
    if Region.wanted o (yielded ops a.tmps) = true then Oper.wp P o a w K Q else E := by
  have hwd : Region.wanted o (yielded ops a.tmps) = true := by simp [Region.wanted, hgd]
  rw [if_pos hwd]
  subst hm
  obtain ⟨v', w', hr, h2, h3, h4⟩ := run_append_blk (P := P) (w := w) base t o.type e i z 1 bytes ht hi hz hsize hby hzs (by decide) v n xs hown ⟨H, 0, none⟩ us.length us.length us (by simp) (by
    intro j u' hu
    rw [add_cell rfl, Nat.zero_add]
    exact hc j u' hu) h1 h63 hbytes hbase
  have hk := h v' w' h2 h3 h4
  unfold Oper.wp execOp
  simp only [ho, resolve, invoke, builtin, Sem.run_bind, Sem.run_pure, Result.andThen_ok, List.map_toArray, List.map_cons, List.map_nil, hs, hx, hr]
  exact hk
theorem rpack_no (a : Option Addr) (n cap : Nat) (L : List Bx.Sec) (W : World) (hn : n = L.length) (h : SecsAt W (.slice a n cap) L) (h500 : n ≤ 500) (hsz : Bx.sizes L ≤ 5000) (hb : ∀ s ∈ L, -9223372036854775808 ≤ s.1 ∧ s.1 ≤ 9223372036854775807) (hM : ¬ Bx.May L) :
    Calls Try.prog 13 #[.slice a n cap] W fun e W' => e = .returned (.tuple #[.slice none 0 0, .int .i64 1]) ∧ Below W.heap.size W W' := by
  have MB := hid (rmay_any a n cap L W hn h h500 hsz hb)
  have hf : Bx.mayB L = false := by cases h : Bx.mayB L with
    | false => rfl
    | true => exact absurd ((Bx.mayB_iff L).1 h) hM
  rw [hf] at MB
  clear hn h hb hM hf
  go_enter Try.func13, Try.ntmps13
  go_wp2_with (go_at_call 18; refine MB.out.mono ?_; rintro e w' ⟨rfl, hB⟩)
  go_ret2
  exact ⟨rfl, hB⟩
set_option maxHeartbeats 2000000 in
theorem rpack_ok (a : Option Addr) (n cap : Nat) (L : List Bx.Sec) (W : World) (hn : n = L.length) (h : SecsAt W (.slice a n cap) L) (h500 : n ≤ 500) (hsz : Bx.sizes L ≤ 5000) (hM : Bx.May L) (hby : Bx.Bytes L) :
    Calls Try.prog 13 #[.slice a n cap] W fun e W' => ∃ v, e = .returned (.tuple #[v, .int .i64 0]) ∧ Below W.heap.size W W' ∧ W'.ownsRow W.heap.size 5 1 v (Bx.total L) ((Bx.file L).map u8v) := by
  obtain ⟨i0, hi, hz0, hz1, hz2⟩ := info_parts Try.info5
  have hbd : ∀ s ∈ L, (1 ≤ s.1 ∧ s.1 ≤ 255) ∧ s.2.length ≤ 100000 := fun s hs => by
    have h1 := Bx.rise_mem hM.2.1 s hs
    have h2 := Bx.size_le hs
    have h3 := hM.2.2
    unfold Bx.total at h3
    omega
  have MB := hid (rmay_any a n cap L W hn h h500 hsz (fun s hs => by have := hbd s hs; omega))
  rw [(Bx.mayB_iff L).2 hM] at MB
  have HN := hid hn
  have HS := hid h
  have HM := hid hM
  have HBY := hid hby
  have HBD := hid hbd
  have hn8 : n ≤ 8 := by have := hM.1; omega
  have htot := hM.2.2
  have hlen : L.length % 256 = n := by omega
  have HLEN := hid hlen
  clear hn h hM hby hbd hlen hsz h500
  go_enter Try.func13, Try.ntmps13
  go_upto_region 3 with (go_at_call 18; refine MB.out.mono ?_; rintro e w1 ⟨rfl, hB1⟩)
  have HB1 := hid hB1
  clear hB1 MB
  have hz1' := HB1.out.size
  have hn256 : (n : Int) % 256 = n := by omega
  have kc := fun (w : World) (C : Array Value) (n c : Nat) => Lib.run_convert_bytes_const (P := Try.prog) w 24 5 C n c Try.underlying24 Try.underlying5
  go_wp2_with (at_builtin; go_loud (refine wpList_append_full rfl (.tmp 11) (.tmp 15) 24 rfl 5 i0 _ 1 Try.underlying24 hi hz0 hz1 hz2 rfl w1.heap.size 4 ([84, 82, 73, 86].map u8v) rfl rfl ?holds (w1.heap.size + 1) 2 2 ([1, n].map u8v) rfl rfl ?news ?one (by decide) ?b1 ?b2 ?_))
  case holds =>
    intro j u hj
    rw [World.cell?_alloc_lt _ _ _ (by simp)]
    rw [cell_new]
    simpa [u8v] using hj
  case news =>
    intro j u hj
    rw [World.cell?_alloc_at _ _ _ _ (by simp)]
    simpa [u8v] using hj
  case one => intro u hu; obtain ⟨c, _, rfl⟩ := List.mem_map.1 hu; rfl
  case b1 => unfold maxLen; omega
  case b2 => omega
  intro v4 w4 hown hb4
  have hpre : (pre L 0).map u8v = [u8v 84, u8v 82, u8v 73, u8v 86, u8v 1, u8v n] := by
    unfold pre; rw [HLEN.out]; rfl
  have HO4 := hid (show w4.ownsRow W.heap.size 5 1 v4 6 ((pre L 0).map u8v) by rw [hpre]; exact own_mono hown (by omega))
  have HB4 := hid (show Below W.heap.size W w4 from by
    refine (((HB1.out.alloc hz1' _).alloc (by simp; omega) _)).trans (hb4.mono (by omega)))
  clear hown hb4 hpre kc hn256
  go_wp2
  go_loopw [4, 5] (fun s4 s5 wr => ∃ (i : Nat) (v : Value), i ≤ n ∧ s5 = .int .i64 i ∧ s4 = v ∧ Hid (wr.ownsRow W.heap.size 5 1 v (6 + 7 * i) ((pre L i).map u8v)) ∧ Hid (Below W.heap.size W wr)) (fun _ s5 _ => n - (intOf s5).toNat)
  case atStart => exact ⟨0, v4, by omega, rfl, rfl, HO4, HB4⟩
  case round =>
    obtain ⟨i, v, hin, rfl, hv, HO, HB⟩ := hrel
    have hv2 := hv.symm
    subst hv2
    clear hv
    by_cases hlt : i < n
    · have hlt' : i < L.length := by rw [← HN.out]; exact hlt
      obtain ⟨b, off, rfl, hc⟩ := HS.out.get hlt'
      obtain ⟨ab, cb, D0, D1, h1, h2, hbody⟩ := sec_open (hc i hlt')
      have HD1 := hid D1
      have d0 := below_keep HB.out D0
      have d1 := below_keep HB.out D1
      have hbd := HBD.out L[i] (List.getElem_mem _)
      have hby := HBY.out L[i] (List.getElem_mem _)
      have hsn := pre_snoc L i hlt'
      generalize L[i] = s at *
      obtain ⟨id, body⟩ := s
      simp only at *
      obtain ⟨k, rfl⟩ : ∃ k : Nat, id = k := ⟨id.toNat, by omega⟩
      have hk : (((k : Int) % 256).toNat) = k := by omega
      rw [hk] at hsn
      have hltI : (i : Int) < n := by omega
      obtain ⟨m, hm⟩ : ∃ m, m = body.length := ⟨_, rfl⟩
      rw [← hm] at d1 h1 hbd hsn hbody HD1
      unfold maxLen at h2
      have HSN := hid hsn
      have HBODY := hid hbody
      have HBYT := hid hby
      have hsm := Cr.sum_lt body hby
      have hszr := HB.out.size
      clear hc hm hk hsn hby hbody D0 D1
      go_upto_region 7 with fail
      have hkW : IntKind.u8.wrap (k : Int) = (k : Int) := by show (k : Int) % 256 = k; omega
      have hblt : b < wr.heap.size := lt_of_cell d1
      have hbne : b ≠ wr.heap.size := by omega
      go_cut [4] (fun s4 wx => ∃ v6, s4 = v6 ∧ Hid (wx.ownsRow W.heap.size 5 1 v6 (6 + 7 * i + 1 + 3) ((pre L i ++ [k] ++ Bx.three m).map u8v)) ∧ Hid (Below W.heap.size W wx))
      case first =>
        go_region_law (first
          | (refine step_append_blk (by rfl) (.tmp 23) (.tmp 30) 24 (by rfl) W.heap.size 5 i0 _ 1 Try.underlying24 hi hz0 hz1 hz2 rfl v _ _ ([k].map u8v) 1 rfl (by rfl) (own_below HO.out (((Below.refl _ _).drew).alloc (Nat.le_refl _) _)) wr.heap.size (by rfl) ?c1 ?o1 ?b1 ?b2 ?b3 ?_
             case c1 => (intro j u hj; refine (cell_new wr.drew _ _ _ j).trans ?_; simpa [u8v] using hj)
             case o1 => (intro u hu; obtain ⟨c, _, rfl⟩ := List.mem_map.1 hu; rfl)
             case b1 => (unfold maxLen; omega)
             case b2 => omega
             case b3 => (simp; omega)
             intro v3 w3 g1 g2 g3
             have HB3 := hid (((HB.out.drew).alloc hszr _).grown g2 (by simp; omega) (fun k hk => (HO.out.lt k hk).1))
             have k1 := below_keep HB3.out HD1.out
             have G1 := hid g1
             clear g1 g2 g3)
          | (go_simp; go_at_call 23; refine (rthree_any m _ (by omega)).mono ?_; rintro e w' ⟨rfl, rfl⟩)
          | (refine step_append_blk (by rfl) (.tmp 31) (.tmp 38) 24 (by rfl) W.heap.size 5 i0 _ 1 Try.underlying24 hi hz0 hz1 hz2 rfl v3 _ _ ((Bx.three m).map u8v) 3 rfl (by rfl) (G1.out.alloc _) w3.heap.size (by rfl) ?c2 ?o2 ?b4 ?b5 ?b6 ?_
             case c2 => (intro j u hj; rw [cell_new]; simpa using hj)
             case o2 => (intro u hu; obtain ⟨c, _, rfl⟩ := List.mem_map.1 hu; rfl)
             case b4 => (unfold maxLen; omega)
             case b5 => omega
             case b6 => (have := HB3.out.size; simp; omega)
             intro v5 w5 g1 g2 g3
             have HB5 := hid ((HB3.out.alloc HB3.out.size _).grown g2 (by have := HB3.out.size; simp; omega) (fun k hk => (G1.out.lt k hk).1))
             have G5 := hid g1
             clear g1 g2 g3))
        all_goals
          go_wp2_with fail
          go_meet
          exact ⟨_, rfl, hid (by rw [List.map_append, List.map_append]; exact G5.out), HB5⟩
      case rest =>
        obtain ⟨v6, hv6, HO6, HB6⟩ := hcut
        have hv6' := hv6.symm
        subst hv6'
        clear hv6 d0 d1 hblt hbne hkW
        have d1 := below_keep HB6.out HD1.out
        have hz6 := HB6.out.size
        have CS := hid (rcsum_any (.slice ab m cb) body wc (HBODY.out.keep HB6.out) HBYT.out)
        have TH := hid (rthree_any (Cr.sum body) wc hsm)
        go_wp2_with (first
          | (go_at_call 19; refine CS.out.mono ?_; rintro e w' ⟨rfl, hww⟩; subst hww)
          | (go_at_call 23; refine TH.out.mono ?_; rintro e w' ⟨rfl, rfl⟩)
          | (at_builtin; refine wpList_append_many rfl (.tmp 40) (.tmp 47) 24 rfl W.heap.size 5 i0 _ 1 Try.underlying24 hi hz0 hz1 hz2 rfl v6 _ _ ((Bx.three (Cr.sum body)).map u8v) 3 rfl wc rfl rfl HO6.out wc.heap.size rfl rfl ?one ?b1 ?b2 hz6 ?_))
        case one => intro u hu; obtain ⟨c, _, rfl⟩ := List.mem_map.1 hu; rfl
        case b1 => unfold maxLen; omega
        case b2 => omega
        intro v7 w7 g1 g2 g3
        have HO7 := hid (show w7.ownsRow W.heap.size 5 1 v7 (6 + 7 * i + 1 + 3 + 3) ((pre L (i + 1)).map u8v) by rw [← HSN.out]; simpa only [List.map_append, List.map_cons, List.map_nil, List.append_assoc, List.cons_append, List.nil_append] using g1)
        have HB7 := hid (HB6.out.grown g2 hz6 (fun k hk => (HO6.out.lt k hk).1))
        clear g1 g2 g3 CS TH
        go_wp2
        go_roundw
        case rel => exact ⟨i + 1, v7, by omega, by go_num, rfl, hid (by rw [show 6 + 7 * (i + 1) = 6 + 7 * i + 1 + 3 + 3 by omega]; exact HO7.out), HB7⟩
        case measure => simp [intOf]; omega
    · obtain rfl : i = n := by omega
      have hpa : pre L i = Bx.head L := by rw [HN.out]; exact pre_all L
      rw [hpa] at HO
      have hdlt := list_lt (head_lt L)
      have hsl := Cr.sum_lt _ hdlt
      have hhl := Bx.head_length L
      rw [← HN.out] at hhl
      have HDL := hid hdlt
      obtain ⟨a5, cap5, hv, _, _, _, _⟩ := rowAt_own HO.out
      subst hv
      have hszr := HB.out.size
      have BY5 := hid (own_bytes HO.out hhl.symm)
      have CS := hid (rcsum_any _ _ wr BY5.out HDL.out)
      have TH := hid (rthree_any (Cr.sum (Bx.head L)) wr hsl)
      have HHL := hid hhl
      clear hpa hdlt hhl
      go_wp2_with (first
        | (go_at_call 19; refine CS.out.mono ?_; rintro e w' ⟨rfl, hww⟩; subst hww)
        | (go_at_call 23; refine TH.out.mono ?_; rintro e w' ⟨rfl, rfl⟩)
        | (at_builtin; refine wpList_append_many rfl (.tmp 49) (.tmp 52) 24 rfl W.heap.size 5 i0 _ 1 Try.underlying24 hi hz0 hz1 hz2 rfl (.slice a5 (6 + 7 * i) cap5) _ _ ((Bx.three (Cr.sum (Bx.head L))).map u8v) 3 rfl wr rfl rfl HO.out wr.heap.size rfl rfl ?one ?b1 ?b2 hszr ?_))
      case one => intro u hu; obtain ⟨c, _, rfl⟩ := List.mem_map.1 hu; rfl
      case b1 => unfold maxLen; omega
      case b2 => omega
      intro v6 w6 g1 g2 g3
      rw [← List.map_append, post_zero] at g1
      have HO7 := hid g1
      have HB6 := hid (HB.out.grown g2 hszr (fun k hk => (HO.out.lt k hk).1))
      clear g1 g2 g3 BY5 CS TH
      have hpl0 : 6 + 7 * i + 3 = (post L 0).length := by
        unfold post; rw [List.length_append, List.length_append, Bx.head_length, Bx.three_length, ← HN.out]; simp [Bx.bodies]
      rw [hpl0] at HO7
      clear hpl0 HO HO4 HB4 HHL hsl hszr
      go_wp2
      go_loopw [4, 6] (fun s4 s6 wr => ∃ (j : Nat) (v : Value), j ≤ i ∧ s6 = .int .i64 j ∧ s4 = v ∧ Hid (wr.ownsRow W.heap.size 5 1 v (post L j).length ((post L j).map u8v)) ∧ Hid (Below W.heap.size W wr)) (fun _ s6 _ => i - (intOf s6).toNat)
      case atStart => exact ⟨0, v6, by omega, rfl, rfl, HO7, HB6⟩
      case round =>
        obtain ⟨j, v, hji, rfl, hv, HO, HB⟩ := hrel
        have hv2 := hv.symm
        subst hv2
        clear hv
        by_cases hlt2 : j < i
        · have hlt' : j < L.length := by rw [← HN.out]; exact hlt2
          obtain ⟨b, off, rfl, hc⟩ := HS.out.get hlt'
          obtain ⟨ab, cb, d0, d1, h1, h2, hbody⟩ := sec_open (hc j hlt')
          have d1 := below_keep HB.out d1
          have hbd := HBD.out L[j] (List.getElem_mem _)
          have hsn := post_snoc L j hlt'
          have hpl := post_length L (j + 1)
          generalize L[j] = s at *
          obtain ⟨id, body⟩ := s
          simp only at *
          rw [← hsn, List.length_append] at hpl
          have hltI : (j : Int) < i := by omega
          obtain ⟨m, hm⟩ : ∃ m, m = body.length := ⟨_, rfl⟩
          rw [← hm] at d1 h1 hbd hbody hpl
          unfold maxLen at h2
          have HM2 := hid hm
          have HSN := hid hsn
          have HBODY := hid (hbody.keep HB.out)
          have hszr := HB.out.size
          have HOL := hid (fun g hg => HO.out.lt g hg : ∀ g, v.ownBlock = some g → W.heap.size ≤ g ∧ g < wr.heap.size)
          obtain ⟨pl, hpl0⟩ : ∃ pl, pl = (post L j).length := ⟨_, rfl⟩
          rw [← hpl0] at HO hpl
          have HPL := hid hpl0
          clear hc hm hsn hbody hpl0 d0
          go_wp2_with (at_builtin; refine wpList_append_row rfl (.tmp 60) (.tmp 65) 24 rfl W.heap.size 5 i0 _ 1 Try.underlying24 hi hz0 hz1 hz2 rfl v _ _ rfl HO.out ab m cb (fun t => u8v (body.getD t 0)) rfl ?nil ?row ?one ?b1 ?b2 ?base ?_)
          case nil =>
            obtain ⟨a', c', e, _, _, hn, _⟩ := SlAt.open HBODY.out
            simp only [Value.slice.injEq] at e
            obtain ⟨rfl, _, rfl⟩ := e
            intro h; have := hn h; exact ⟨by rw [HM2.out]; exact this.1, this.2⟩
          case row => exact (SlAt.row HBODY.out).2
          case one => intro t _; rfl
          case b1 => unfold maxLen; omega
          case b2 => omega
          case base => exact hszr
          intro v3 w3 g1 g2
          have hbm : (List.range m).map (fun t => u8v (body.getD t 0)) = body.map u8v := by
            rw [HM2.out]
            refine List.ext_getElem (by simp) fun t q1 q2 => ?_
            simp only [List.getElem_map, List.getElem_range]
            rw [List.getD, List.getElem?_eq_getElem (by simpa using q2)]; rfl
          have HO3 := hid (show w3.ownsRow W.heap.size 5 1 v3 (post L (j + 1)).length ((post L (j + 1)).map u8v) by
            rw [← HSN.out, List.map_append, List.length_append, ← HPL.out, ← HM2.out, ← hbm]; exact g1)
          have HB3 := hid (HB.out.grown g2 hszr (fun k hk => (HOL.out k hk).1))
          clear g1 g2 hbm
          go_wp2
          go_roundw
          case rel => exact ⟨j + 1, v3, by omega, by go_num, rfl, HO3, HB3⟩
          case measure => simp [intOf]; omega
        · obtain rfl : j = i := by omega
          have hpa : post L j = Bx.file L := by rw [HN.out]; exact post_all L
          rw [hpa, Bx.file_length] at HO
          clear hpa
          go_wp2
          go_ret2
          exact ⟨v, rfl, HB.out, HO.out⟩
end Go.Proofs.Ytgbhnkiballeeaa
