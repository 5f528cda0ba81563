/-
  The table of constants of the program's layer 3 (sha): what a row's list of variables gives of it ('tabs_of_laid'), and a world in which it lies so ('laidWorld').
-/
import Derived.Test.YtomdgiikjnghcaaDoorShaC
import Derived.Test.YtomdgiikjnghcaaDoorRows
import Derived.Lib.LaidTab
import Derived.Deep.DeepHandedRow
namespace Go.Proofs.YtomdgiikjnghcaaDoor
open Go.RowKit

theorem cube_data : (Rows.laid_refectory_sha_cubeRoots : DataW Unit) = Lib.tabData .u32 KK := by kernel_rfl

theorem tabs_of_laid {W : World} (hL : laidMetH Tryd.prog [("refectory/sha.cubeRoots", Rows.laid_refectory_sha_cubeRoots)] W) : KTab W := by
  rw [cube_data] at hL
  have hT := Lib.tabIs_of_head (P := Tryd.prog) (g := 0) (t := 60) (e := 54) (n := 64) (by kernel_rfl) (by kernel_rfl) Tryd.underlying60 Tryd.underlying54 (by kernel_rfl) (by kernel_rfl) hL
  exact fun i hi => hT.cell (by kernel_rfl) i hi

/-- A WORLD FOR THE WITNESS: the settled one, the variable holding what its initialiser lays. -/
noncomputable def laidWorld (os : Os) : World :=
  let w0 := World.holding Tryd.prog os ⟨#[], #[], []⟩
  { w0 with heap := w0.heap.modify 0 fun
    | .cells _ t frozen => .cells (KK.map fun z => Value.int .u32 z).toArray t frozen
    | o => o }
theorem laid_met (os : Os) (args : Array Value) : laidMet Tryd.prog [("refectory/sha.cubeRoots", Rows.laid_refectory_sha_cubeRoots)] ((laidWorld os).forCall (fun _ _ => 0) ⟨#[], args, []⟩).memory :=
  laidMet_of_run' 8 (by kernel_rfl) (by kernel_rfl)
end Go.Proofs.YtomdgiikjnghcaaDoor
