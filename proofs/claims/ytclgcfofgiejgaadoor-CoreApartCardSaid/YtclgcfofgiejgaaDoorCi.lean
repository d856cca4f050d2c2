/- THE TABLE: from the row's condition to the walk's fact; the witness's world. -/
import Derived.Test.YtclgcfofgiejgaaDoorKb
import Derived.Test.YtclgcfofgiejgaaDoorCb
namespace Go.Proofs.YtclgcfofgiejgaaDoor
open Go.ChangeShapes Go.WideShapes Go.ChangeAt Go.RowKit

abbrev crcLaid : List (String × DataW Unit) := [("quintain/crc.rests", Rows.laid_quintain_crc_rests)]
def tabZ : List Int := [0, 498536548, 997073096, 651767980, 1994146192, 1802195444, 1303535960, 1342533948, 3988292384, 4027552580, 3604390888, 3412177804, 2607071920, 2262029012, 2685067896, 3183342108]
theorem gRests : Tryd.prog.globalNamed "quintain/crc.rests" = some 0 := by kernel_rfl
theorem tRests : (Tryd.prog.globals[0]?).map (·.type) = some 140 := by kernel_rfl
theorem cellsWord : Tryd.prog.cellsOf 31 = 1 := by kernel_rfl
theorem cellsTab : Tryd.prog.cellsOf 140 = 16 := by kernel_rfl
theorem laid_is : (Rows.laid_quintain_crc_rests : DataW Unit) = Lib.tabData .u32 tabZ := rfl
theorem tabZ_tabN : ∀ i : Fin 16, tabZ.getD i.val 0 = tn (tabN i.val) := by decide +kernel

theorem tabW_of_laid {W : World} (h : laidMetH Tryd.prog crcLaid W) : TabW W := by
  rw [MakeChecks.laidMetH_plain _ _ _ (by kernel_rfl)] at h
  unfold crcLaid at h
  rw [laid_is] at h
  have hT := Lib.tabIs_of_head gRests tRests Tryd.underlying140 Tryd.underlying31 cellsWord cellsTab h
  intro i hi
  have hc := hT.cell gRests i hi
  rw [hc, tabZ_tabN ⟨i, hi⟩]

theorem door_met (os : Os) (args : Array Value) : laidMetH Tryd.prog crcLaid ((World.doorLaid Tryd.prog 100 os).forCall (fun _ _ => 0) ⟨#[], args, []⟩).memory :=
  laidMetH_of_parts3 (fuel := 8) (laidMet_of_run' 8 (by kernel_rfl) (by kernel_rfl)) (by kernel_rfl) (by kernel_rfl)
end Go.Proofs.YtclgcfofgiejgaaDoor
