/- A wave: Distinct, and the document's own. -/
import Derived.Test.YtpjflmocbmmmaaaWvNext
import Derived.Test.YtpjflmocbmmmaaaWvRef
import Derived.Test.YtpjflmocbmmmaaaOwn
namespace Go.Proofs.Ytpjflmocbmmmaaa
set_option linter.unusedVariables false
set_option linter.unusedSimpArgs false
set_option maxRecDepth 100000
open Go.ChangeShapes Go.WideShapes Go.ChangeAt Go.RowKit
def dmeas (x : Int) : Nat := if x = -1 then 0 else (2097152 - x).toNat
theorem dmeas_lt {v n : Int} (h : v ≠ -1) (h2 : v < 1048576) (h3 : n ≠ -1 → v + 1 ≤ n) : dmeas n < dmeas v := by
  unfold dmeas
  rw [if_neg h]
  split <;> omega
theorem own_below {w w' : World} {base : Nat} {e : TypeId} {size : Nat} {v : Value} {n : Nat} {xs : List Value} (h : w.ownsRow base e size v n xs) (hb : Below w.heap.size w w') : w'.ownsRow base e size v n xs :=
  h.kept (row := none) ⟨hb.os, hb.tape, hb.output, hb.size, fun k hk _ => hb.block k hk⟩ (by cases v.ownBlock <;> simp)
theorem Try.wdinfo3 : (Try.prog.info? 3).map (fun i => (i.zero, i.size, i.bytes)) = some (some (.int .i64 0), 1, 8) := by kernel_rfl

set_option maxHeartbeats 1000000 in
theorem wdist_core (v0 : Value) (fr ed : Int) (s : List Nat) (w : World) (hs : s.length ≤ 1000) (hlt : ∀ x ∈ s, x < 2 ^ 20)
    (hN : ∀ (x : Int) (W : World), -1 ≤ x → x ≤ 1048576 → Below w.heap.size w W → Calls Try.prog 22 #[v0, .int .i64 fr, .int .i64 ed, .int .i64 x] W fun e w' => e = .returned (.int .i64 (Wv.nxt s x)) ∧ Below W.heap.size W w') :
    Calls Try.prog 25 #[v0, .int .i64 fr, .int .i64 ed] w fun e w' => ∃ a cap, e = .returned (.slice a (Wv.disV s 0).length cap) ∧ (Wv.disV s 0).length ≤ cap ∧ cap ≤ maxLen ∧ (a = none → cap = 0) ∧ RowAt w' a (Wv.disV s 0).length (fun i => .int .i64 ((Wv.disV s 0).getD i 0)) ∧ Below w.heap.size w w' := by
  obtain ⟨i0, hi, hz0, hz1, hz2⟩ := info_parts Try.wdinfo3
  have NX := hid hN
  have hdl := Wv.disV_length s s.length 0 (Wv.fromR_le s 0)
  obtain ⟨D, hD⟩ : ∃ D, D = Wv.disV s 0 := ⟨_, rfl⟩
  rw [← hD] at hdl ⊢
  have HD := hid hD
  have hv := hid (fun x => And.intro (Wv.nxt_ge s x) (Wv.nxt_lt s x 20 hlt))
  have NB := hid (fun x (hx : Wv.nxt s x ≠ -1) => show x ≤ Wv.nxt s x by
    rcases Wv.nxt_is s x with ⟨h, _⟩ | ⟨y, _, h, h2, _⟩
    · exact absurd h hx
    · omega)
  have N0 := hid (hN 0 w (by omega) (by omega) (Below.refl _ _))
  have hv0 := hv.out 0
  have HS0 := hid (show D = [] ++ (if Wv.nxt s 0 = -1 then [] else Wv.nxt s 0 :: Wv.disV s (Wv.nxt s 0 + 1)) by
    rw [hD, List.nil_append]
    split
    · rename_i h; exact Wv.disV_none h
    · rename_i h; exact Wv.disV_some h)
  generalize Wv.nxt s 0 = n0 at *
  clear hN hD hlt
  go_enter Try.func25, Try.ntmps25
  go_wp2_with (go_at_call 22; refine N0.out.mono ?_; rintro e w1 ⟨rfl, hB1⟩)
  go_loopw [7, 8] (fun s7 s8 wr => ∃ (k : Nat) (v7 : Value) (done : List Int) (v : Int), s7 = v7 ∧ s8 = .int .i64 v ∧ -1 ≤ v ∧ v < 1048576 ∧ k ≤ 1000 ∧ Hid (k = done.length ∧ done.length ≤ D.length) ∧ Hid (wr.ownsRow w.heap.size 3 1 v7 k (done.map (Value.int .i64))) ∧ Hid (Below w.heap.size w wr) ∧
      Hid (D = done ++ (if v = -1 then [] else v :: Wv.disV s (v + 1)))) (fun _ s8 _ => dmeas (intOf s8))
  case atStart => exact ⟨0, _, [], n0, rfl, rfl, by omega, by omega, by omega, ⟨rfl, by simp⟩, World.ownsRow_nil _ _ _ _, hB1, HS0.out⟩
  case round =>
    obtain ⟨k, v7, done, v, rfl, rfl, hv1, hv2, hk, HK, HO, HB, HI⟩ := hrel
    by_cases hvn : v = -1
    · subst hvn
      have e := HI.out
      rw [if_pos rfl, List.append_nil] at e
      have HE := hid e
      clear e
      go_wp2
      go_ret
      have e := HE.out
      have hown := HO.out
      rw [HK.out.1, ← e] at hown
      obtain ⟨a2, cap2, hv2, hc1, hc2, hc3, hrow⟩ := rowAt_own hown
      subst hv2
      refine ⟨a2, cap2, rfl, hc1, hc2, fun h => (hc3 h).2, ?_, HB.out⟩
      rcases hrow with h | ⟨b, off, h1, h2⟩
      · exact Or.inl h
      · refine Or.inr ⟨b, off, h1, fun i hi => ?_⟩
        rw [h2 i hi]; simp [List.getD, hi]
    · have hne : (v != -1) = true := by rw [bne_iff_ne]; exact hvn
      have hv0 : 0 ≤ v := by omega
      have hz := HB.out.size
      have e := HI.out
      rw [if_neg hvn] at e
      have HE := hid e
      have hk1 : k + 1 ≤ 1000 := by have := congrArg List.length e; have := HK.out.1; simp at *; omega
      clear e hv0
      go_wp2_with (at_builtin; refine wpList_append_one rfl (.tmp 21) (.tmp 23) 22 rfl w.heap.size 3 i0 _ 8 Try.underlying22 hi hz0 hz1 hz2 rfl _ _ _ (.int .i64 v) wr rfl rfl HO.out rfl rfl ?b1 ?b2 ?base ?_)
      case b1 => unfold maxLen; omega
      case b2 => omega
      case base => exact hz
      intro v7' w2 hown hgr hmv
      have HB2 := hid (HB.out.grown hgr hz (fun k hk => (HO.out.lt k hk).1))
      have HO2 := hid hown
      have hn := hv.out (v + 1)
      have HNB := hid (NB.out (v + 1))
      have N1 := hid (NX.out (v + 1) w2 (by omega) (by omega) HB2.out)
      have HI2 := hid (show D = (done ++ [v]) ++ (if Wv.nxt s (v + 1) = -1 then [] else Wv.nxt s (v + 1) :: Wv.disV s (Wv.nxt s (v + 1) + 1)) by
        rw [HE.out, List.append_assoc]
        congr 1
        show _ :: _ = _ :: _
        congr 1
        split
        · rename_i h; exact Wv.disV_none h
        · rename_i h; exact Wv.disV_some h)
      generalize Wv.nxt s (v + 1) = n1 at *
      clear hown hgr hmv HO
      go_wp2_with (go_at_call 22; refine N1.out.mono ?_; rintro e w3 ⟨rfl, hB3⟩)
      go_roundw
      case rel =>
        refine ⟨k + 1, _, done ++ [v], n1, rfl, rfl, by omega, by omega, by omega, hid ⟨by have := HK.out.1; simp; omega, ?_⟩, hid ?_, below_then HB2.out hB3, HI2.out⟩
        · have := congrArg List.length HI2.out; simp at this ⊢; omega
        · rw [List.map_append]
          exact own_below HO2.out hB3
      case measure =>
        have := HNB.out
        simp only [intOf, Array.getD_eq_getD_getElem?]
        exact dmeas_lt hvn (by omega) this

set_option maxHeartbeats 1000000 in
theorem rdist_core (v0 : Value) (fr ed : Int) (s : List Nat) (w : World) (hs : s.length ≤ 1000) (hlt : ∀ x ∈ s, x < 2 ^ 20)
    (hN : ∀ (x : Int) (W : World), -1 ≤ x → x ≤ 1048576 → Below w.heap.size w W → Calls Try.prog 23 #[v0, .int .i64 fr, .int .i64 ed, .int .i64 x] W fun e w' => e = .returned (.int .i64 (Wv.nxt s x)) ∧ Below W.heap.size W w') :
    Calls Try.prog 26 #[v0, .int .i64 fr, .int .i64 ed] w fun e w' => ∃ a cap, e = .returned (.slice a (Wv.disV s 0).length cap) ∧ (Wv.disV s 0).length ≤ cap ∧ cap ≤ maxLen ∧ (a = none → cap = 0) ∧ RowAt w' a (Wv.disV s 0).length (fun i => .int .i64 ((Wv.disV s 0).getD i 0)) ∧ Below w.heap.size w w' := by
  obtain ⟨i0, hi, hz0, hz1, hz2⟩ := info_parts Try.wdinfo3
  have NX := hid hN
  have hdl := Wv.disV_length s s.length 0 (Wv.fromR_le s 0)
  obtain ⟨D, hD⟩ : ∃ D, D = Wv.disV s 0 := ⟨_, rfl⟩
  rw [← hD] at hdl ⊢
  have HD := hid hD
  have hv := hid (fun x => And.intro (Wv.nxt_ge s x) (Wv.nxt_lt s x 20 hlt))
  have NB := hid (fun x (hx : Wv.nxt s x ≠ -1) => show x ≤ Wv.nxt s x by
    rcases Wv.nxt_is s x with ⟨h, _⟩ | ⟨y, _, h, h2, _⟩
    · exact absurd h hx
    · omega)
  have N0 := hid (hN 0 w (by omega) (by omega) (Below.refl _ _))
  have hv0 := hv.out 0
  have HS0 := hid (show D = [] ++ (if Wv.nxt s 0 = -1 then [] else Wv.nxt s 0 :: Wv.disV s (Wv.nxt s 0 + 1)) by
    rw [hD, List.nil_append]
    split
    · rename_i h; exact Wv.disV_none h
    · rename_i h; exact Wv.disV_some h)
  generalize Wv.nxt s 0 = n0 at *
  clear hN hD hlt
  go_enter Try.func26, Try.ntmps26
  go_wp2_with (go_at_call 23; refine N0.out.mono ?_; rintro e w1 ⟨rfl, hB1⟩)
  go_loopw [7, 8] (fun s7 s8 wr => ∃ (k : Nat) (v7 : Value) (done : List Int) (v : Int), s7 = v7 ∧ s8 = .int .i64 v ∧ -1 ≤ v ∧ v < 1048576 ∧ k ≤ 1000 ∧ Hid (k = done.length ∧ done.length ≤ D.length) ∧ Hid (wr.ownsRow w.heap.size 3 1 v7 k (done.map (Value.int .i64))) ∧ Hid (Below w.heap.size w wr) ∧
      Hid (D = done ++ (if v = -1 then [] else v :: Wv.disV s (v + 1)))) (fun _ s8 _ => dmeas (intOf s8))
  case atStart => exact ⟨0, _, [], n0, rfl, rfl, by omega, by omega, by omega, ⟨rfl, by simp⟩, World.ownsRow_nil _ _ _ _, hB1, HS0.out⟩
  case round =>
    obtain ⟨k, v7, done, v, rfl, rfl, hv1, hv2, hk, HK, HO, HB, HI⟩ := hrel
    by_cases hvn : v = -1
    · subst hvn
      have e := HI.out
      rw [if_pos rfl, List.append_nil] at e
      have HE := hid e
      clear e
      go_wp2
      go_ret
      have e := HE.out
      have hown := HO.out
      rw [HK.out.1, ← e] at hown
      obtain ⟨a2, cap2, hv2, hc1, hc2, hc3, hrow⟩ := rowAt_own hown
      subst hv2
      refine ⟨a2, cap2, rfl, hc1, hc2, fun h => (hc3 h).2, ?_, HB.out⟩
      rcases hrow with h | ⟨b, off, h1, h2⟩
      · exact Or.inl h
      · refine Or.inr ⟨b, off, h1, fun i hi => ?_⟩
        rw [h2 i hi]; simp [List.getD, hi]
    · have hne : 0 ≤ v := by omega
      have hv0 : 0 ≤ v := by omega
      have hz := HB.out.size
      have e := HI.out
      rw [if_neg hvn] at e
      have HE := hid e
      have hk1 : k + 1 ≤ 1000 := by have := congrArg List.length e; have := HK.out.1; simp at *; omega
      clear e hv0
      go_wp2_with (at_builtin; refine wpList_append_one rfl (.tmp 21) (.tmp 23) 22 rfl w.heap.size 3 i0 _ 8 Try.underlying22 hi hz0 hz1 hz2 rfl _ _ _ (.int .i64 v) wr rfl rfl HO.out rfl rfl ?b1 ?b2 ?base ?_)
      case b1 => unfold maxLen; omega
      case b2 => omega
      case base => exact hz
      intro v7' w2 hown hgr hmv
      have HB2 := hid (HB.out.grown hgr hz (fun k hk => (HO.out.lt k hk).1))
      have HO2 := hid hown
      have hn := hv.out (v + 1)
      have HNB := hid (NB.out (v + 1))
      have N1 := hid (NX.out (v + 1) w2 (by omega) (by omega) HB2.out)
      have HI2 := hid (show D = (done ++ [v]) ++ (if Wv.nxt s (v + 1) = -1 then [] else Wv.nxt s (v + 1) :: Wv.disV s (Wv.nxt s (v + 1) + 1)) by
        rw [HE.out, List.append_assoc]
        congr 1
        show _ :: _ = _ :: _
        congr 1
        split
        · rename_i h; exact Wv.disV_none h
        · rename_i h; exact Wv.disV_some h)
      generalize Wv.nxt s (v + 1) = n1 at *
      clear hown hgr hmv HO
      go_wp2_with (go_at_call 23; refine N1.out.mono ?_; rintro e w3 ⟨rfl, hB3⟩)
      go_roundw
      case rel =>
        refine ⟨k + 1, _, done ++ [v], n1, rfl, rfl, by omega, by omega, by omega, hid ⟨by have := HK.out.1; simp; omega, ?_⟩, hid ?_, below_then HB2.out hB3, HI2.out⟩
        · have := congrArg List.length HI2.out; simp at this ⊢; omega
        · rw [List.map_append]
          exact own_below HO2.out hB3
      case measure =>
        have := HNB.out
        simp only [intOf, Array.getD_eq_getD_getElem?]
        exact dmeas_lt hvn (by omega) this
end Go.Proofs.Ytpjflmocbmmmaaa
