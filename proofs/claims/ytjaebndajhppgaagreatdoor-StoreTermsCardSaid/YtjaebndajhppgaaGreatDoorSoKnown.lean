/- What stage 11's laws know of no lines and of one. -/
import Derived.Test.YtjaebndajhppgaaGreatDoorSoLoad
namespace Go.Proofs.YtjaebndajhppgaaGreatDoor
set_option linter.unusedVariables false
set_option linter.unusedSimpArgs false
set_option maxRecDepth 100000
open Go.ChangeShapes Go.WideShapes Go.ChangeAt Go.RowKit Go.Sort
def abc : TR := ((1, [97], []), (1, [98], []), 1, [99], [])
def abcL : List UInt8 := [60, 97, 62, 32, 60, 98, 62, 32, 60, 99, 62, 32, 46]
theorem abc_one : Tm.one abcL = some (some abc) := by kernel_rfl
theorem abc_tri : Tm.isTri abc = true := by kernel_rfl
theorem abc_parse : Tm.plU abcL 0 [] = (0, 1, [abc]) := by kernel_rfl
theorem abc_print : Tm.printL [abc] = abcL ++ [10] := by kernel_rfl
theorem abc_sort : Tm.rsort [abc] = [abc] := by kernel_rfl
set_option maxHeartbeats 2000000 in
theorem known_any (w : World) (hV : Vars w) (hE : ErrAt w) : Calls Tryz.prog 16 #[] w fun e w' => e = .returned (.bool true) ∧ Below w.heap.size w w' := by
  have L0 := hid (fun W hV hE => load_any [] W hV hE (by simp) (0, 0, []) (Tm.plU_nil _ _) (fun _ => ⟨by simp, by simp⟩))
  have L1 := hid (fun W hV hE => load_any abcL W hV hE (by decide) (0, 1, [abc]) abc_parse (fun _ => ⟨fun t ht => by rw [List.mem_singleton.1 ht]; exact abc_tri, by simp⟩))
  have HV := hid hV
  have HE := hid hE
  have HB0 := hid (Below.refl w.heap.size w)
  clear hV hE
  go_enter Tryz.func16, Tryz.ntmps16
  go_upto_region 2 with (go_at_call 13; refine (L0.out _ HV.out HE.out).mono ?_; rintro e w1 ⟨⟨p, rfl, hS⟩, hB⟩; have HS1 := hid hS; have HB1 := hid hB; clear hS hB)
  go_upto_region 3 with (go_at_call 13; refine (L1.out _ (HV.out.keep HB1.out) (HE.out.keep HB1.out)).mono ?_; rintro e w2 ⟨⟨q, rfl, hS⟩, hB⟩; have HS2 := hid hS; have HB2 := hid hB; clear hS hB)
  have HS3 := hid (show IsStore w2 q [abc] by have h := HS2.out; rw [show Tm.rsort (0, 1, [abc]).2.2 = [abc] from abc_sort] at h; exact h)
  have HS4 := hid (show IsStore w2 p [] from HS1.out.keep HB2.out)
  have HBB := hid (below_then HB1.out HB2.out)
  have EX := hid (show Calls Tryz.prog 24 #[.pointer (some ⟨q, 0, none⟩)] w2 fun e w' => e = .returned (.string ⟨#[60, 97, 62, 32, 60, 98, 62, 32, 60, 99, 62, 32, 46, 10]⟩) ∧ Below w2.heap.size w2 w' from by
    have h := sexp_any q [abc] w2 HS3.out (fun t ht => by rw [List.mem_singleton.1 ht]; exact abc_tri) (by simp)
    rw [abc_print] at h; exact h)
  go_wp2_with fail
  refine (slen_any p [] _ HS4.out).mono ?_
  rintro e w' ⟨rfl, rfl⟩
  go_wp2_with fail
  refine (slen_any q [abc] _ HS3.out).mono ?_
  rintro e w' ⟨rfl, rfl⟩
  go_wp2_with (go_at_call 24; refine EX.out.mono ?_; rintro e w3 ⟨rfl, hB⟩; have HB3 := hid (below_then HBB.out hB); clear hB)
  go_ret
  exact ⟨rfl, HB3.out⟩
end Go.Proofs.YtjaebndajhppgaaGreatDoor
