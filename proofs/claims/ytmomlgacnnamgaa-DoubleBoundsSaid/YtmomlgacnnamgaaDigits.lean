/- The laws' digits: a number in decimal digits. -/
import Derived.Test.YtmomlgacnnamgaaDblKnown
import Derived.Deep.RegionWith
namespace Go.Proofs.Ytmomlgacnnamgaa
set_option linter.unusedVariables false
set_option linter.unusedSimpArgs false
set_option maxRecDepth 100000
set_option maxHeartbeats 1000000
open Go.ChangeShapes Go.WideShapes Go.ChangeAt Go.RowKit

namespace Db
def dg (n : Nat) : UInt8 := UInt8.ofNat (48 + n)
def dgs (n : Nat) : List UInt8 := if h : n < 10 then [dg n] else dgs (n / 10) ++ [dg (n % 10)]
termination_by n
decreasing_by omega
theorem dgs_lo {n : Nat} (h : n < 10) : dgs n = [dg n] := by rw [dgs, dif_pos h]
theorem dgs_hi {n : Nat} (h : ¬ n < 10) : dgs n = dgs (n / 10) ++ [dg (n % 10)] := by rw [dgs, dif_neg h]
theorem dgs_len (n : Nat) : (dgs n).length ≤ n + 1 := by
  induction n using Nat.strongRecOn with
  | _ n ih =>
    by_cases h : n < 10
    · rw [dgs_lo h]; simp
    · rw [dgs_hi h, List.length_append]
      have := ih (n / 10) (by omega)
      simp only [List.length_cons, List.length_nil]; omega
end Db
theorem conv_cell (n : Nat) (hc : n < 10) (w : World) (b : Nat) (h : w.cell? ⟨b, 0, none⟩ = some (.int .u8 (48 + (n : Int)))) : (convert 53 9 (.slice (some ⟨b, 0, none⟩) 1 1)).run Try.prog w = .ok (.string ⟨#[Db.dg n]⟩) w := by
  refine run_convert_bytes_back _ 53 9 5 ⟨b, 0, none⟩ 1 [Db.dg n] Try.underlying53 Try.underlying5 Try.underlying9 ?_
  intro j hj
  obtain rfl : j = 0 := by simpa using hj
  show w.cell? ⟨b, 0 + 0, none⟩ = _
  rw [h]
  have e : (Db.dg n).toNat = 48 + n := by show (UInt8.ofNat (48 + n)).toNat = 48 + n; rw [UInt8.toNat_ofNat', Nat.mod_eq_of_lt (by omega)]
  simp [e]
theorem keep_new {w w' : World} {v : Value} {t : TypeId} (h : Below (w.alloc (.cells #[v] t)).heap.size (w.alloc (.cells #[v] t)) w') : w'.cell? ⟨w.heap.size, 0, none⟩ = some v := by
  refine below_keep h ?_
  rw [World.cell?_alloc_at _ _ _ _ rfl]; rfl
theorem keep_new2 {w w' : World} {v : Value} {t : TypeId} (h : Below (w.alloc (.cells #[v] t)).drew.heap.size (w.alloc (.cells #[v] t)).drew w') : w'.cell? ⟨w.heap.size, 0, none⟩ = some v ∧ Below w.heap.size w w' := by
  refine ⟨below_keep h ?_, below_then ((Below.refl w.heap.size w).alloc (Nat.le_refl _) (.cells #[v] t)).drew h⟩
  show (w.alloc (.cells #[v] t)).cell? ⟨w.heap.size, 0, none⟩ = some v
  rw [World.cell?_alloc_at _ _ _ _ rfl]; rfl
theorem keep_old2 {w w' : World} (h : Below w.drew.heap.size w.drew w') : Below w.heap.size w w' := below_then (Below.refl w.heap.size w).drew h
theorem digits_lo (n : Nat) (h : n < 10) (w : World) : Calls Try.prog 21 #[.int .i64 n] w fun e w' => e = .returned (str (Db.dgs n)) ∧ Below w.heap.size w w' := by
  rw [Db.dgs_lo h]
  have CV := conv_cell n h (w.alloc (.cells #[.int .u8 (48 + (n : Int))] 5)) w.heap.size (by rw [World.cell?_alloc_at _ _ _ _ rfl]; rfl)
  have HB := hid ((Below.refl w.heap.size w).alloc (Nat.le_refl _) (.cells #[.int .u8 (48 + (n : Int))] 5))
  go_enter Try.func21, Try.ntmps21
  go_wp2_with fail
  go_ret
  exact ⟨rfl, HB.out⟩
theorem digits_hi (n : Nat) (h : ¬ n < 10) (hn : n ≤ 99999999) (w : World)
    (IH : Hid (∀ w, Calls Try.prog 21 #[.int .i64 (n / 10 : Nat)] w fun e w' => e = .returned (str (Db.dgs (n / 10))) ∧ Below w.heap.size w w')) : Calls Try.prog 21 #[.int .i64 n] w fun e w' => e = .returned (str (Db.dgs n)) ∧ Below w.heap.size w w' := by
  rw [Db.dgs_hi h]
  have hl := Db.dgs_len (n / 10)
  obtain ⟨D, hD⟩ : ∃ D, D = Db.dgs (n / 10) := ⟨_, rfl⟩
  rw [← hD] at IH hl ⊢
  obtain ⟨r, hr⟩ : ∃ r, r = n % 10 := ⟨_, rfl⟩
  have hr10 : r < 10 := by omega
  have hrI : (n : Int) % 10 = (r : Int) := by omega
  obtain ⟨q, hq⟩ : ∃ q, q = n / 10 := ⟨_, rfl⟩
  have hqI : (n : Int) / 10 = (q : Int) := by omega
  rw [← hq] at IH hl
  rw [← hr]
  have CV := fun w b h => conv_cell r hr10 w b h
  have EA := ba_append D [Db.dg r]
  have hw1 : IntKind.i64.wrap (q : Int) = (q : Int) := by rw [IntKind.wrap_i64]; omega
  have htm : Int.tmod (n : Int) 10 = (r : Int) := by rw [Int.tmod_eq_emod_of_nonneg (by omega)]; exact hrI
  have hw2 : IntKind.i64.wrap (48 + (r : Int)) = 48 + (r : Int) := by rw [IntKind.wrap_i64]; omega
  have hw3 : IntKind.u8.wrap (48 + (r : Int)) = 48 + (r : Int) := by rw [IntKind.wrap_u8]; omega
  have h10 : decide ((n : Int) < 10) = false := decide_eq_false (by omega)
  clear hD hr hq
  go_enter Try.func21, Try.ntmps21
  go_wp2
  go_region_with (go_at_call 21; refine (IH.out _).mono ?_; rintro e w' ⟨rfl, hb⟩; first | (have hkB := keep_new2 hb; obtain ⟨hk, hB⟩ := hkB) | (have hB := keep_old2 hb) | skip)
  all_goals go_wp2
  all_goals go_ret
  all_goals exact ⟨rfl, by first | assumption | exact hB.alloc hB.size _⟩
theorem digits_any (n : Nat) (hn : n ≤ 99999999) : ∀ w, Calls Try.prog 21 #[.int .i64 n] w fun e w' => e = .returned (str (Db.dgs n)) ∧ Below w.heap.size w w' := by
  induction n using Nat.strongRecOn with
  | _ n ih =>
    intro w
    by_cases h : n < 10
    · exact digits_lo n h w
    · exact digits_hi n h hn w (hid (ih (n / 10) (by omega) (by omega)))
end Go.Proofs.Ytmomlgacnnamgaa
