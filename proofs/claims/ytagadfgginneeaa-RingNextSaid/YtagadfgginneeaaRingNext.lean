/- RingNext: by the next one all numbers of a column are found, rising, and no others. -/
import Derived.Test.YtagadfgginneeaaRgLaw
import Derived.Test.YtagadfgginneeaaRgMath3
import Derived.Maps.OwnSet
namespace Go.Proofs.Ytagadfgginneeaa
set_option linter.unusedVariables false
set_option linter.unusedSimpArgs false
set_option maxRecDepth 100000
open Go.ChangeShapes Go.WideShapes Go.ChangeAt Go.RowKit
theorem ringNext_out (v0 : Value) (l : List Rg.T) (t : Rg.T) (col : Int) (W : World) (h : IdsAt W v0 l) (hl : l.length ≤ 140737488351232) (ho : 60 < l.length ∨ ¬ RMay l ∨ col < 0 ∨ 2 < col) :
    Calls Try.prog 5 #[v0, tv t, .int .i64 col] W fun e W' => e = .returned (.bool true) ∧ Below W.heap.size W W' := by
  obtain ⟨a, cap, rfl, p1, p2, p3⟩ := h.open
  have MY := hid fun w (hb : Below W.heap.size W w) => rmay_any _ l w (h.keep hb) hl
  clear h
  by_cases hbig : 60 < l.length
  · clear ho
    unfold tv
    go_enter Try.func5, Try.ntmps5
    go_upto_region 1 with fail
    obtain ⟨w1, hw1, HX, HB, HD, hz⟩ := ids_box W t
    rw [← hw1]
    clear hw1 HD hz
    go_wp2
    go_ret
    exact ⟨rfl, HB.out⟩
  · by_cases hm : RMay l
    · rw [(mayB_iff l).2 hm] at MY
      by_cases h1 : col < 0
      · clear ho hm
        unfold tv
        go_enter Try.func5, Try.ntmps5
        go_upto_region 1 with fail
        obtain ⟨w1, hw1, HX, HB, HD, hz⟩ := ids_box W t
        rw [← hw1]
        clear hw1 HD hz
        have MY1 := MY.out w1 HB.out
        go_wp2_with (go_at_call 12; refine MY1.mono ?_; rintro e w2 ⟨rfl, hb2⟩)
        go_ret
        exact ⟨rfl, below_then HB.out hb2⟩
      · by_cases h2 : 2 < col
        · clear ho hm
          unfold tv
          go_enter Try.func5, Try.ntmps5
          go_upto_region 1 with fail
          obtain ⟨w1, hw1, HX, HB, HD, hz⟩ := ids_box W t
          rw [← hw1]
          clear hw1 HD hz
          have MY1 := MY.out w1 HB.out
          go_wp2_with (go_at_call 12; refine MY1.mono ?_; rintro e w2 ⟨rfl, hb2⟩)
          go_ret
          exact ⟨rfl, below_then HB.out hb2⟩
        · exfalso
          rcases ho with h | h | h | h
          · exact absurd h hbig
          · exact absurd hm h
          · exact absurd h h1
          · exact absurd h h2
    · rw [mayB_no hm] at MY
      clear ho hm
      unfold tv
      go_enter Try.func5, Try.ntmps5
      go_upto_region 1 with fail
      obtain ⟨w1, hw1, HX, HB, HD, hz⟩ := ids_box W t
      rw [← hw1]
      clear hw1 HD hz
      have MY1 := MY.out w1 HB.out
      go_wp2_with (go_at_call 12; refine MY1.mono ?_; rintro e w2 ⟨rfl, hb2⟩)
      go_ret
      exact ⟨rfl, below_then HB.out hb2⟩
def nmeas (x : Int) : Nat := if x = 0 then 0 else (2000 - x).toNat
theorem nmeas_lt {x v : Int} (hv : ¬ v = 0) (h2 : v ≤ 1000) (h : x = 0 ∨ v + 1 ≤ x ∧ x ≤ 1000) : nmeas x < nmeas v := by
  unfold nmeas
  rw [if_neg hv]
  rcases h with h | ⟨h, h'⟩
  · rw [if_pos h]; omega
  · by_cases hx : x = 0
    · rw [if_pos hx]; omega
    · rw [if_neg hx]; omega
theorem put_eq (t : Rg.T) (c : Nat) (v : Int) (hc : c < 3) : (tl t).set c (.int .i64 v) = tl (Rg.put t c v) := by
  rcases Rg.c3 hc with rfl | rfl | rfl <;> rfl
theorem put_low {t : Rg.T} (h : Fits t) (c : Nat) (v : Int) (hc : c < 3) (hv : -9223372036854775808 ≤ v) : ∀ d, d < 3 → -9223372036854775808 ≤ Rg.at' (Rg.put t c v) d := by
  intro d hd
  have h0 := (h 0 (by omega)).1
  have h1 := (h 1 (by omega)).1
  have h2 := (h 2 (by omega)).1
  rcases Rg.c3 hc with rfl | rfl | rfl <;> rcases Rg.c3 hd with rfl | rfl | rfl <;> simp [Rg.put, Rg.at'] at * <;> omega
open Go.Maps Go.WideMaps in
theorem addKeys (K : List Lit) : ∀ (acc : List Lit), (∀ x ∈ K, WideAt.IsKeyLit x) → (∀ x ∈ acc, WideAt.IsKeyLit x) → acc.Nodup → (K.foldl addKey acc).Nodup ∧ ∀ x, x ∈ K.foldl addKey acc ↔ x ∈ acc ∨ x ∈ K := by
  induction K with
  | nil => intro acc _ _ hn; exact ⟨hn, fun x => by simp⟩
  | cons y K ih =>
    intro acc hK hA hn
    have hy := hK y (by simp)
    rw [List.foldl_cons]
    have hmem : acc.any (fun z => z.sameKey y) = true ↔ y ∈ acc := by
      rw [List.any_eq_true]
      constructor
      · rintro ⟨z, hz, e⟩
        by_cases h : z = y
        · rwa [← h]
        · rw [sameKey_ne h] at e; cases e
      · intro h; exact ⟨y, h, WideAt.sameKey_self hy⟩
    unfold addKey
    by_cases h : y ∈ acc
    · rw [if_pos (hmem.2 h)]
      obtain ⟨h1, h2⟩ := ih acc (fun x hx => hK x (by simp [hx])) hA hn
      refine ⟨h1, fun x => ?_⟩
      rw [show (List.foldl (fun acc x => if (acc.any fun y => y.sameKey x) = true then acc else acc ++ [x]) acc K) = K.foldl addKey acc from rfl, h2 x, List.mem_cons]
      constructor
      · rintro (k | k)
        · exact Or.inl k
        · exact Or.inr (Or.inr k)
      · rintro (k | k | k)
        · exact Or.inl k
        · subst k; exact Or.inl h
        · exact Or.inr k
    · rw [if_neg (fun k => h (hmem.1 k))]
      obtain ⟨h1, h2⟩ := ih (acc ++ [y]) (fun x hx => hK x (by simp [hx])) (fun x hx => by
        rw [List.mem_append, List.mem_singleton] at hx
        rcases hx with k | k
        · exact hA x k
        · rw [k]; exact hy) (by
        rw [List.nodup_append]
        refine ⟨hn, by simp, fun a ha b hb => ?_⟩
        rw [List.mem_singleton] at hb
        subst hb
        intro e; subst e; exact h ha)
      refine ⟨h1, fun x => ?_⟩
      rw [show (List.foldl (fun acc x => if (acc.any fun y => y.sameKey x) = true then acc else acc ++ [x]) (acc ++ [y]) K) = K.foldl addKey (acc ++ [y]) from rfl, h2 x, List.mem_append, List.mem_singleton, List.mem_cons]
      constructor
      · rintro ((k | k) | k)
        · exact Or.inl k
        · exact Or.inr (Or.inl k)
        · exact Or.inr (Or.inr k)
      · rintro (k | k | k)
        · exact Or.inl (Or.inl k)
        · exact Or.inl (Or.inr k)
        · exact Or.inr k
/-- The keys of column c. -/
def keysOf (c : Nat) (F : List Rg.T) : List Lit := F.map fun t => .int .i64 (Rg.at' t c)
def setC (c : Nat) (F : List Rg.T) : DataW Unit := Go.Maps.setOf (.lit (.bool true)) (keysOf c F)
theorem keysOf_lit (c : Nat) (F : List Rg.T) : ∀ x ∈ keysOf c F, WideAt.IsKeyLit x := by
  intro x hx
  unfold keysOf at hx
  obtain ⟨t, _, rfl⟩ := List.mem_map.1 hx
  exact trivial
theorem setC_size {c : Nat} {F : List Rg.T} {vs : List Int} (hn : vs.Nodup) (hm : ∀ x, x ∈ vs ↔ ∃ t ∈ F, Rg.at' t c = x) : Go.Maps.size (setC c F) = vs.length := by
  unfold setC
  rw [Go.Maps.size_setOf _ _ (keysOf_lit c F)]
  obtain ⟨h1, h2⟩ := addKeys (keysOf c F) [] (keysOf_lit c F) (fun x hx => by cases hx) List.nodup_nil
  have hv : (vs.map fun x => Lit.int .i64 x).Nodup := by
    unfold List.Nodup
    rw [List.pairwise_map]
    exact hn.imp fun {a b} hab e => hab (by injection e)
  have hp : ((keysOf c F).foldl Go.Maps.addKey []).Perm (vs.map fun x => Lit.int .i64 x) := (List.perm_ext_iff_of_nodup h1 hv).2 fun x => by
    rw [h2 x]
    unfold keysOf
    simp only [List.not_mem_nil, false_or, List.mem_map]
    constructor
    · rintro ⟨t, ht, rfl⟩
      exact ⟨_, (hm _).2 ⟨t, ht, rfl⟩, rfl⟩
    · rintro ⟨y, hy, rfl⟩
      obtain ⟨t, ht, e⟩ := (hm y).1 hy
      exact ⟨t, ht, by rw [e]⟩
  rw [hp.length_eq, List.length_map]
theorem setC_zero (c : Nat) : setC c [] = .map [] := by simp [setC, keysOf, Go.Maps.setOf]
theorem setC_succ (c : Nat) (F : List Rg.T) (i : Nat) (h : i < F.length) : setC c (F.take (i + 1)) = (setC c (F.take i)).put (.int .i64 (Rg.at' F[i] c)) (.lit (.bool true)) := by
  unfold setC keysOf
  rw [List.take_add_one, List.getElem?_eq_getElem h, Option.toList_some, List.map_append, List.map_singleton, Go.Maps.setOf_snoc]
/-- The values below u, each once. -/
def Vals (l : List Rg.T) (t : Rg.T) (c : Nat) (u : Int) (vs : List Int) : Prop := vs.Nodup ∧ ∀ x, x ∈ vs ↔ x < u ∧ ∃ s ∈ l, Rg.mt t s = true ∧ Rg.at' s c = x
theorem vals_zero {l : List Rg.T} {t : Rg.T} {c : Nat} (hc : c < 3) (hok : ∀ s ∈ l, Rg.Ok s) : Vals l t c 0 [] := by
  refine ⟨List.nodup_nil, fun x => ⟨(fun h => by cases h), fun ⟨h1, s, hs, _, e⟩ => ?_⟩⟩
  have := hok s hs c hc
  omega
theorem vals_le {l : List Rg.T} {t : Rg.T} {c : Nat} {u : Int} {vs : List Int} (h : Vals l t c u vs) : vs.length ≤ l.length := by
  have := h.1.length_le_of_subset (l₂ := l.map fun s => Rg.at' s c) (fun x hx => by
    obtain ⟨_, s, hs, _, e⟩ := (h.2 x).1 hx
    exact List.mem_map.2 ⟨s, hs, e⟩)
  rwa [List.length_map] at this
theorem vals_succ {l : List Rg.T} {t : Rg.T} {c : Nat} {u v : Int} {vs : List Int} (h : Vals l t c u vs) (huv : u ≤ v) (h4 : ∃ s ∈ l, Rg.mt t s = true ∧ Rg.at' s c = v) (h5 : ∀ s ∈ l, Rg.mt t s = true → u ≤ Rg.at' s c → v ≤ Rg.at' s c) : Vals l t c (v + 1) (vs ++ [v]) := by
  constructor
  · rw [List.nodup_append]
    refine ⟨h.1, by simp, fun a ha b hb => ?_⟩
    rw [List.mem_singleton] at hb
    subst hb
    have := ((h.2 a).1 ha).1
    omega
  · intro x
    rw [List.mem_append, List.mem_singleton, h.2 x]
    constructor
    · rintro (⟨k, k2⟩ | k)
      · exact ⟨by omega, k2⟩
      · subst k; exact ⟨by omega, h4⟩
    · rintro ⟨k, s, hs, hm, e⟩
      by_cases hx : x < u
      · exact Or.inl ⟨hx, s, hs, hm, e⟩
      · have := h5 s hs hm (by omega)
        exact Or.inr (by omega)
open Go.Maps Go.WideMaps in
set_option maxHeartbeats 4000000 in
theorem ringNext_yes (v0 : Value) (c : Nat) (l : List Rg.T) (t : Rg.T) (W : World) (h : IdsAt W v0 l) (ht : Fits t) (hm : RMay l) (h60 : ¬ 60 < l.length) (hc : c < 3) :
    Calls Try.prog 5 #[v0, tv t, .int .i64 c] W fun e W' => e = .returned (.bool true) ∧ Below W.heap.size W W' := by
  have hmm := @run_makeMap Try.prog
  obtain ⟨a, cap, hv0, p1, p2, p3⟩ := h.open
  have hl := hm.2.2
  have hl140 : l.length ≤ 140737488351232 := by omega
  have HI := hid h
  have HM := hid hm
  have HT := hid ht
  have MY := hid fun w (h : Below W.heap.size W w) => rmay_any v0 l w (HI.out.keep h) hl140
  rw [(mayB_iff l).2 hm] at MY
  have NW := hid fun w (h : Below W.heap.size W w) => rgnew_ok v0 l w (HI.out.keep h) hm
  have RA := hid fun w (h : Below W.heap.size W w) => refall_any v0 l t w (HI.out.keep h) (by omega)
  have NX := hid fun p u w (h : IsRing w p l) => rnext_any p c l t u w h HT.out.low hc
  have CN := hid fun p q w (h : IsRing w p l) (hq : ∀ c, c < 3 → -9223372036854775808 ≤ Rg.at' q c) => count_any p l q w h hq
  obtain ⟨F, hF⟩ : ∃ F, F = l.filter (Rg.mt t) := ⟨_, rfl⟩
  rw [← hF] at RA
  have hFl : F.length ≤ l.length := by rw [hF]; exact List.length_filter_le _ _
  have hFm : ∀ s, s ∈ F ↔ s ∈ l ∧ Rg.mt t s = true := fun s => by rw [hF, List.mem_filter]
  have HFM := hid hFm
  subst hv0
  clear h hm ht hF hFm
  unfold tv at *
  go_enter Try.func5, Try.ntmps5
  go_upto_region 1 with fail
  obtain ⟨w1, hw1, HX, HB, HD, hz⟩ := ids_box W t
  rw [← hw1]
  clear hw1 HD hz
  have MY1 := MY.out w1 HB.out
  go_upto_region 3 with (go_at_call 12; refine MY1.mono ?_; rintro e w2 ⟨rfl, hb2⟩)
  have HB2 := hid (below_then HB.out hb2)
  have HX2 := hid (HX.out.keep hb2)
  have NW2 := NW.out w2 HB2.out
  clear MY1 hb2
  go_upto_region 6 with (go_at_call 11; refine NW2.mono ?_; rintro e w3 ⟨p, rfl, hb3, hF3⟩)
  have HB3 := hid (below_then HB2.out hb3)
  have HX3 := hid (HX2.out.keep hb3)
  have HR3 := hid hF3.it
  obtain ⟨c0, c1, c2⟩ := ids_cells HX3.out
  have RA3 := RA.out w3 HB3.out
  clear NW2 hb3 hF3 HX HX2
  go_upto_region 7 with (go_at_call 14; refine RA3.mono ?_; rintro e w4 ⟨v4, rfl, hN4, hb4⟩)
  obtain ⟨a4, cap4, rfl, p5, p6, p7⟩ := hN4.at.open
  have HN4 := hid hN4.at
  have HB4 := hid (below_then HB3.out hb4)
  have HX4 := hid (HX3.out.keep hb4)
  have HR4 := hid (HR3.out.keep hb4)
  clear RA3 hN4 hb4 c0 c1 c2 HX3 HR3
  obtain ⟨c0, c1, c2⟩ := ids_cells HX4.out
  have NX4 := NX.out p 0 w4 HR4.out
  go_upto_region 10 with (go_at_call 19; refine NX4.mono ?_; rintro e w5 ⟨rfl, hb5⟩)
  have HB5 := hid hb5
  clear NX4 hb5 c0 c1 c2
  go_loopw [10, 11, 12] (fun s10 s11 s12 wr => ∃ (n : Nat) (last u : Int) (vs : List Int), s10 = .int .i64 n ∧ s11 = .int .i64 last ∧ s12 = .int .i64 (Rg.nxR l t c u) ∧ n ≤ 100 ∧ Hid (n = vs.length) ∧ Hid (Vals l t c u vs) ∧ (last = 0 ∨ u = last + 1) ∧ Hid (Below w4.heap.size w4 wr)) (fun s10 s11 s12 _ => nmeas (intOf s12))
  case atStart => exact ⟨0, 0, 0, [], rfl, rfl, rfl, by omega, rfl, vals_zero hc HM.out.2.1, Or.inl rfl, HB5.out⟩
  case round =>
    obtain ⟨n, last, u, vs, rfl, rfl, rfl, hn100, HN, HV, hlast, HBr⟩ := hrel
    have hnl : n ≤ l.length := by rw [HN.out]; exact vals_le HV.out
    have HXr := hid (HX4.out.keep HBr.out)
    have HRr := hid (HR4.out.keep HBr.out)
    rcases Rg.nx_facts t u hc HM.out.2.1 with ⟨h1, h2⟩ | ⟨h1, h2, h3, h4, h5⟩
    · have hval : ∀ x, x ∈ vs ↔ ∃ s ∈ F, Rg.at' s c = x := fun x => by
        rw [HV.out.2 x]
        constructor
        · rintro ⟨_, s, hs, hsm, e⟩
          exact ⟨s, (HFM.out s).2 ⟨hs, hsm⟩, e⟩
        · rintro ⟨s, hs, e⟩
          obtain ⟨k1, k2⟩ := (HFM.out s).1 hs
          exact ⟨by rw [← e]; exact h2 s k1 k2, s, k1, k2, e⟩
      have hsz := setC_size HV.out.1 hval
      rw [← HN.out] at hsz
      have HSZ := hid hsz
      rw [h1]
      have HBw := hid (below_then HB4.out HBr.out)
      clear h1 h2 hval hsz
      have law : Keyed Try.prog 3 := int_keyed Try.underlying3
      obtain ⟨wo, rfl⟩ : ∃ wo : World, wo = wr := ⟨_, rfl⟩
      have hfl60 : F.length ≤ 60 := by omega
      go_upto_region 22 with fail
      go_loopw [15] (fun s15 wr => ∃ i : Nat, i ≤ F.length ∧ s15 = .int .i64 i ∧ Hid (wr.ownsMap Try.prog 3 (plainElem (H := Unit) Try.prog 4) wo.heap.size i (setC c (F.take i))) ∧ Hid (Below wo.heap.size wo wr)) (fun s15 _ => F.length - (intOf s15).toNat)
      case atStart => exact ⟨0, by omega, rfl, by rw [List.take_zero, setC_zero]; exact hid (World.ownsMap_made _ _ _ _), (Below.refl _ _).alloc (Nat.le_refl _) _⟩
      case round =>
        obtain ⟨i, hin, rfl, HO, HBi⟩ := hrel
        have hown := HO.out
        by_cases hil : i < F.length
        · obtain ⟨b4, off, rfl, hx⟩ := (HN4.out.keep (below_then HBr.out HBi.out)).get hil
          have cx := hx i hil c hc
          obtain ⟨x, hxx⟩ : ∃ x, x = Rg.at' F[i] c := ⟨_, rfl⟩
          rw [← hxx] at cx
          have hok := HM.out.2.1 F[i] ((HFM.out _).1 (List.getElem_mem hil)).1 c hc
          rw [← hxx] at hok
          have hkey : keyOf Try.prog 3 (.int .i64 x) = some (.int .i64 x) := keyOf_int_mk Try.underlying3 (WalkArith.wf_i64 (by omega))
          have HSC := hid (setC_succ c F i hil)
          rw [← hxx] at HSC
          have hiI : (i : Int) < F.length := by omega
          clear hx hxx
          go_wp2_with (first
            | (at_mapUpdate; refine wpList_mapUpdate_own _ rfl _ _ _ 40 rfl 3 4 law Try.underlying40 (plainElem (H := Unit) Try.prog 4) wo.heap.size i _ rfl hown (by unfold maxLen; omega) _ _ _ rfl rfl hkey _ [] (plainElem_bool Try.underlying4 true) ?_; intro w6 hown1 hgrow1)
            | go_in)
          go_roundw
          case rel => exact ⟨i + 1, by omega, by go_num, hid (by rw [HSC.out]; exact hown1), HBi.out.grown hgrow1 HBi.out.size (fun j hj => by cases hj; exact Nat.le_refl _)⟩
          case measure => simp [intOf]; omega
        · obtain rfl : i = F.length := by omega
          have hsz := HSZ.out
          have HO2 := hid hown
          rw [List.take_length] at HO2
          have hown2 := HO2.out
          clear hown HO
          go_wp2_with (first
            | (at_len; refine wpList_len_own _ rfl _ 40 rfl 3 4 Try.underlying40 _ wo.heap.size F.length _ rfl hown2 ?_)
            | (go_at_call 13; refine (known_any _).mono ?_; rintro e w6 ⟨rfl, hb6⟩)
            | go_in)
          go_ret
          exact ⟨rfl, below_then (below_then HBw.out HBi.out) hb6⟩
    · obtain ⟨v, hv⟩ : ∃ v, v = Rg.nxR l t c u := ⟨_, rfl⟩
      rw [← hv] at h1 h2 h3 h4 h5 ⊢
      have hv0 : ¬ v = 0 := by omega
      have hbv : (v == 0) = false := by rw [beq_eq_false_iff_ne]; exact hv0
      have hbv2 : (v != 0) = true := by simp [hv0]
      have htold : Rg.at' t c = 0 ∨ Rg.at' t c = v := by
        by_cases e : Rg.at' t c = 0
        · exact Or.inl e
        · obtain ⟨s, hs, hsm, e2⟩ := h4
          exact Or.inr (by rw [Rg.told_eq hc hsm e, e2])
      have hvs := vals_succ HV.out h3 h4 h5
      have hpos := Rg.put_pos (l := l) hc htold hv0 h4
      have hle2 := vals_le hvs
      rw [List.length_append, ← HN.out] at hle2
      have hlv : ¬ v ≤ last := by rcases hlast with e | e <;> omega
      obtain ⟨m, hmm2⟩ : ∃ m, m = l.countP (Rg.mt (Rg.put t c v)) := ⟨_, rfl⟩
      rw [← hmm2] at hpos
      have hlow := put_low HT.out c v hc (by omega)
      have HLOW := hid hlow
      have HMM := hid hmm2
      have HVS := hid hvs
      have hnf := Rg.nx_facts t (v + 1) hc HM.out.2.1
      have hmeas : (Rg.nxR l t c (v + 1) = 0 ∨ v + 1 ≤ Rg.nxR l t c (v + 1) ∧ Rg.nxR l t c (v + 1) ≤ 1000) := by
        rcases hnf with h | h
        · exact Or.inl h.1
        · exact Or.inr ⟨h.2.2.1, h.2.1⟩
      obtain ⟨x, hx⟩ : ∃ x, x = Rg.nxR l t c (v + 1) := ⟨_, rfl⟩
      rw [← hx] at hmeas
      have HXX := hid hx
      obtain ⟨c0, c1, c2⟩ := ids_cells HXr.out
      have hwsz : w4.heap.size ≤ wr.heap.size := HBr.out.size
      have hlt := HXr.out.lt
      have hle3 : n + 1 ≤ l.length := by simpa using hle2
      clear h3 h4 h5 hvs hlow hmm2 hnf hx hv hle2
      go_upto_region 13 with fail
      obtain ⟨w6, hw6, HQ, HB6⟩ := new3 wr (.int .i64 t.1) (.int .i64 t.2.1) (.int .i64 t.2.2) 24
      rw [← hw6]
      have HQ2 := hid (show Blk w6 wr.heap.size (tl t) 24 from HQ.out)
      have q0 := HQ2.out.cell (tl_get t c hc)
      have qf := HQ2.out.free c
      clear hw6 HQ c0 c1 c2
      obtain ⟨y, hy⟩ : ∃ y, y = Rg.at' t c := ⟨_, rfl⟩
      rw [← hy] at q0 htold
      have HY := hid hy
      clear hy
      rcases htold with h0 | h0
      all_goals
        have h0' := h0.symm
        subst h0'
        go_upto_region 16 with fail
        obtain ⟨w7, hw7⟩ : ∃ w7, w7 = w6.setCell ⟨wr.heap.size, c, none⟩ (.int .i64 v) := ⟨_, rfl⟩
        rw [← hw7]
        have HQ7 := hid (show Blk w7 wr.heap.size (tl (Rg.put t c v)) 24 by rw [hw7, ← put_eq t c v hc]; exact HQ2.out.set c _)
        have HB7 := hid (show Below wr.heap.size wr w7 by rw [hw7]; exact HB6.out.setCell (Nat.le_refl _) _)
        have HX7 := hid (HXr.out.keep HB7.out)
        have HR7 := hid (HRr.out.keep HB7.out)
        obtain ⟨q, hq⟩ : ∃ q, q = Rg.put t c v := ⟨_, rfl⟩
        rw [← hq] at HQ7 HLOW HMM
        have HQQ := hid hq
        obtain ⟨y0, y1, y2⟩ := ids_cells HQ7.out
        have CN7 := CN.out p q w7 HR7.out HLOW.out
        rw [← HMM.out] at CN7
        clear hw7 q0 qf HQ2 hq
        go_upto_region 18 with (go_at_call 16; refine CN7.mono ?_; rintro e w8 ⟨rfl, hb8⟩)
        have HB8 := hid (below_then HB7.out hb8)
        have HX8 := hid (HX7.out.keep hb8)
        have HR8 := hid (HR7.out.keep hb8)
        obtain ⟨z0, z1, z2⟩ := ids_cells HX8.out
        have NX8 := NX.out p (v + 1) w8 HR8.out
        rw [← HXX.out] at NX8
        clear CN7 hb8 y0 y1 y2
        go_wp2_with (go_at_call 19; refine NX8.mono ?_; rintro e w9 ⟨rfl, hb9⟩)
        go_roundw
        case rel => exact ⟨n + 1, v, v + 1, vs ++ [v], by go_num, rfl, by rw [HXX.out], by omega, hid (by rw [List.length_append, ← HN.out]; rfl), HVS.out, Or.inr rfl, below_then (below_then HBr.out HB8.out) hb9⟩
        case measure => exact nmeas_lt hv0 h2 hmeas
theorem ringNext_in (l : List Rg.T) (v0 : Value) (t : Rg.T) (col : Int) (W : World) (h : IdsAt W v0 l) (ht : Fits t) (hl : l.length ≤ 140737488351232) :
    Calls Try.prog 5 #[v0, tv t, .int .i64 col] W fun e W' => e = .returned (.bool true) ∧ Below W.heap.size W W' := by
  by_cases ho : 60 < l.length ∨ ¬ RMay l ∨ col < 0 ∨ 2 < col
  · exact ringNext_out v0 l t col W h hl ho
  · have h1 : ¬ 60 < l.length := fun k => ho (Or.inl k)
    have h2 : RMay l := Classical.byContradiction fun k => ho (Or.inr (Or.inl k))
    have h3 : ¬ col < 0 := fun k => ho (Or.inr (Or.inr (Or.inl k)))
    have h4 : ¬ 2 < col := fun k => ho (Or.inr (Or.inr (Or.inr k)))
    have := ringNext_yes v0 col.toNat l t W h ht h2 h1 (by omega)
    rwa [Int.toNat_of_nonneg (by omega)] at this

theorem ringNext_walk (H : Type) (enc : TypeId × Value → H) (W : World) (base : Nat) (args : Array Value) (ds gs : List (DataW H)) (before : List MemPlace)
    (hval : ∀ (j : Nat) t v, Try.f5.params[j]? = some t → args[j]? = some v → Value.okWide Try.prog W .any base t v)
    (hW : DataW.Whole enc Try.prog Try.f5.params.toList Rows.ringNextSpec.vars false W args.toList ds gs before)
    (hz : (DataW.weightsEach Try.prog (Try.f5.params.toList ++ Rows.ringNextSpec.plain.varTypes Try.prog) (ds ++ gs)).all (· ≤ reachBytes) = true)
    (hL : laidMetH Try.prog Rows.ringNextRow.laid W) (hsh : W.ShapedOpen Try.prog) :
    Calls Try.prog 5 args W fun e W' => e = .returned (.bool true) ∧ Below W.heap.size W W' := by
  obtain ⟨p, q, hA, _, _, _, _⟩ := hW
  rw [Try.params5] at hA hval
  rw [Try.params5] at hz
  obtain ⟨v0, vs0, d0, ds0, p0, q0, hargs, rfl, rfl, h0, r0⟩ := trodAll_cons hA
  obtain ⟨v1, vs1, d1, ds1, p1, q1, rfl, rfl, rfl, h1, r1⟩ := trodAll_cons r0
  obtain ⟨v2, vs2, d2, ds2, p2, q2, rfl, rfl, rfl, h2, r2⟩ := trodAll_cons r1
  obtain ⟨rfl, rfl, rfl⟩ := trodAll_nil r2
  obtain rfl : args = #[v0, v1, v2] := by cases args; simp_all
  obtain ⟨l0, L0, b0, z0⟩ := arg_ids (hval 0 22 v0 rfl rfl) h0 (sized_arg hz (j := 0) (t := 22) (d := d0) rfl rfl)
  obtain ⟨t1, rfl, b1⟩ := arg_id h1
  obtain ⟨x2, rfl, rfl, rfl, w2⟩ := open_int Try.underlying3 (hval 2 3 v2 rfl rfl) h2
  have b2 := bounds_i64 w2
  exact ringNext_in l0 v0 t1 x2 W L0 b1 z0

theorem ringNext_lifted (os : Os) (started : os.Started) (H : Type) (enc : TypeId × Value → H) (F : Stop.Interp) :
    ReturnsInHanded {} Try.checked os 5 .any ((OpenSpec.ofChange Rows.ringNextSpec).preRow enc Try.prog Try.f5 Rows.ringNextRow.domain false Rows.ringNextRow.laid) (((OpenSpec.ofChange Rows.ringNextSpec).at F).post enc Try.prog Try.f5 false true false false) := by
  obtain ⟨places, hx⟩ : ∃ places, DataW.whole enc Try.prog ((World.holding Try.prog os ⟨#[], #[], []⟩).forCall (fun _ _ => 0) ⟨#[], #[.slice none 0 0, .agg #[.int .i64 0, .int .i64 0, .int .i64 0], .int .i64 0], []⟩).memory Try.f5.params.toList Rows.ringNextSpec.vars false (#[.slice none 0 0, .agg #[.int .i64 0, .int .i64 0, .int .i64 0], .int .i64 0] : Array Value).toList 8 = some ([.nil, .agg [.lit (.int .i64 0), .lit (.int .i64 0), .lit (.int .i64 0)], .lit (.int .i64 0)], [], places) := ⟨[], by kernel_rfl⟩
  refine returnsInHanded_of_row (C := Try.checked) (s := OpenSpec.ofChange Rows.ringNextSpec) own started (by kernel_rfl) Try.func5
    (witness_row_at (enc := enc) (C := Try.checked) false (World.holding Try.prog os ⟨#[], #[], []⟩) #[.slice none 0 0, .agg #[.int .i64 0, .int .i64 0, .int .i64 0], .int .i64 0] rfl (by kernel_rfl) (by kernel_rfl) (by kernel_rfl)
      (OpenSpec.preRow_of_cond 8 hx (by kernel_rfl) (fun k hk => by cases hk) (by kernel_rfl) (laidMet_nil _ _))) ?_
  intro W base args ds gs before hval hW _ _ hz hL hsh _
  refine (ringNext_walk H enc W base args ds gs before hval hW hz hL hsh).mono fun e W' ⟨he, hb⟩ => ⟨_, he, ?_⟩
  exact law_post (fn := Try.f5) (s := Rows.ringNextSpec) (tb := 4) rfl (fun ds hd => by match ds, hd with | [d0, d1, d2], _ => rfl) rfl Try.underlying4 (by kernel_rfl) hW hb

theorem ringNext_said : Rows.RingNextSaid :=
  OpenClaim.holds_of_cond 5 Try.f5 rfl rfl rfl rfl rfl rfl rfl ⟨rfl, rfl, rfl, rfl, rfl⟩ rfl rfl rfl rfl rfl (by kernel_rfl) Try.func5 (by kernel_rfl)
    (of_decide_eq_true (by kernel_rfl)) (by unfold Func.isWrapper; first | (rw [if_pos (by decide +kernel)]; kernel_rfl) | (rw [if_neg (by decide +kernel)]; exact ⟨rfl, rfl⟩))
    (fun os started H enc _ F => by rw [OpenClaim.pre_eq_preRow]; exact ringNext_lifted os started H enc F)
end Go.Proofs.Ytagadfgginneeaa
