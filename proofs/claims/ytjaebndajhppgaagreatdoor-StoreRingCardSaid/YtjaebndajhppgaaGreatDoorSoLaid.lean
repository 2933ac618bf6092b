/- The rows' listed variables: what a row's list gives a walk, and a world for the witness. -/
import Derived.Test.YtjaebndajhppgaaGreatDoorPrEsc
import Derived.Test.YtjaebndajhppgaaGreatDoorCards
import Derived.Test.YtjaebndajhppgaaGreatDoorTie
import Derived.MakeChecks
import Derived.Lay
import Derived.LaidLaws
import Derived.Lib.LaidU8T
namespace Go.Proofs.YtjaebndajhppgaaGreatDoor
set_option linter.unusedVariables false
set_option linter.unusedSimpArgs false
set_option maxRecDepth 100000
open Go.ChangeShapes Go.WideShapes Go.ChangeAt Go.RowKit
theorem first_eq : Rows.laid_unicode_utf8_first = Lib.firstData := by kernel_rfl
theorem acc_eq : (Rows.laid_unicode_utf8_acceptRanges : DataW Unit) = Lib.acceptData := by kernel_rfl
theorem err_under : ∃ ms, Tryz.prog.underlying 176 = some (.interface ms) := ⟨_, Tryz.underlying176⟩
theorem vars5_of {W : World} (h : laidMetH Tryz.prog Rows.storeOfNothingRow.laid W) (hs : W.ShapedOpen Tryz.prog) : Vars W ∧ ErrAt W := by
  have h1 : laidMet Tryz.prog Rows.storeOfNothingRow.laid W := by rw [Go.MakeChecks.laidMetH_plain Tryz.prog _ _ (by kernel_rfl)] at h; exact h
  have h3 := Lib.laidMet.reads h1 (n := "unicode/utf8.first") (.tail _ (.tail _ (.tail _ (.tail _ (.tail _ (.tail _ (.tail _ (.head _))))))))
  have h4 := Lib.laidMet.reads h1 (n := "unicode/utf8.acceptRanges") (.tail _ (.tail _ (.tail _ (.head _))))
  have h5 := Lib.laidMet.reads h1 (n := "strconv.ErrSyntax") (.tail _ (.tail _ (.tail _ (.tail _ (.tail _ (.head _))))))
  rw [first_eq] at h3
  rw [acc_eq] at h4
  refine ⟨⟨utf8Tabs_of_readsT (U8Types.of196 Tryz.lays196) ⟨by kernel_rfl, by kernel_rfl, by kernel_rfl, by kernel_rfl, by kernel_rfl, by kernel_rfl, by kernel_rfl⟩ h3 h4, ?_⟩, ?_⟩
  · exact Go.Proofs.cell_of_shapedOpen_int (zero := #[.int .i64 0]) (t := 3) hs (of_decide_eq_true (by kernel_rfl)) (by kernel_rfl) rfl (by kernel_rfl) (by kernel_rfl) Tryz.underlying3
  · obtain ⟨g, t, cs, fuel, p, hg, ht, hv, htr⟩ := h5
    have hg2 : Tryz.prog.globalNamed "strconv.ErrSyntax" = some 4 := by kernel_rfl
    obtain rfl : g = 4 := Option.some.inj (hg.symm.trans hg2)
    have ht2 : (Tryz.prog.globals[4]?).map (·.type) = some 176 := by kernel_rfl
    obtain rfl : t = 176 := Option.some.inj (ht.symm.trans ht2)
    obtain ⟨ms, hms⟩ := err_under
    obtain ⟨_, u, v, hcs, _, _⟩ := iface_of_trod hms htr
    refine ⟨.iface u v, ?_, .inr ⟨u, v, rfl⟩⟩
    have := World.var?_cell hg hv 0
    rw [this, ← Array.getElem?_toList, hcs]; rfl
/-- The world in which all of the list lies. -/
noncomputable def laidWorld (os : Os) : World := World.laidAll Tryz.prog os Rows.storeOfNothingRow.laid
theorem witness_shaped_row {H : Type} {enc : TypeId × Value → H} {C : Checked} {os : Os} {f : FuncId} {fn : Func} {s : OpenSpec} {conds : List PathCond} {apart : Bool} {laid : List (String × DataW Unit)} (modest : Bool) (w0 : World) (args : Array Value) (hos : w0.os = os)
    (hsh : (w0.forCall (fun _ _ => 0) ⟨#[], args, []⟩).Shaped C.prog)
    (hok : Input.okWideB C.prog (w0.forCall (fun _ _ => 0) ⟨#[], args, []⟩) f ⟨#[], args, []⟩ = true)
    (hrow : s.preRow enc C.prog fn conds apart laid (w0.forCall (fun _ _ => 0) ⟨#[], args, []⟩).memory args) :
    ∃ (w : World) (tape : Tape) (i : Input), w.os = os ∧ (w.forCall tape i).Shaped C.prog ∧ i.vars = [] ∧ Input.okWide C.prog (w.forCall tape i) .any w.heap.size f i ∧
      s.preRow enc C.prog fn conds apart laid (w.forCall tape i).memory i.args ∧ ({ modest := modest } : Assume).holds C.prog (lone (Frame.enter C.prog f i.args .normal) [] (w.forCall tape i)) := by
  refine ⟨w0, fun _ _ => 0, ⟨#[], args, []⟩, hos, hsh, (Input.okWide_of_okWideB (base := 0) hok).1, (Input.okWide_of_okWideB hok).2, hrow, ?_⟩
  simp only [Assume.holds]
  exact ⟨by simp, by simp, fun _ => Modest.zero, by simp, by simp⟩
theorem laid_shaped (os : Os) : ((laidWorld os).forCall (fun _ _ => 0) ⟨#[], #[.string ByteArray.empty], []⟩).Shaped Tryz.prog := World.shaped_of_ZipB (by kernel_rfl) (by kernel_rfl)
theorem laid_met (os : Os) (args : Array Value) : laidMet Tryz.prog Rows.storeOfNothingRow.laid ((laidWorld os).forCall (fun _ _ => 0) ⟨#[], args, []⟩).memory := laidMet_laidAll _ (by kernel_rfl) (by kernel_rfl)
end Go.Proofs.YtjaebndajhppgaaGreatDoor
