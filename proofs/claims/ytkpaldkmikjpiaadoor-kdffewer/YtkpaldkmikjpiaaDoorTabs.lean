/-
  What the rows' lists give: the two tables hold what the program's text lays.
-/
import Derived.Test.YtkpaldkmikjpiaaDoorOf
import Derived.Lib.LaidTab
import Derived.LaidSub
namespace Go.Proofs.YtkpaldkmikjpiaaDoor
open Go.ChangeShapes Go.WideShapes Go.ChangeAt Go.RowKit

theorem gF : Tryd.prog.globalNamed "carillon/sha.first" = some 0 := by kernel_rfl
theorem gFt : (Tryd.prog.globals[0]?).map (·.type) = some 74 := by kernel_rfl
theorem gK : Tryd.prog.globalNamed "carillon/sha.roundWords" = some 1 := by kernel_rfl
theorem gKt : (Tryd.prog.globals[1]?).map (·.type) = some 90 := by kernel_rfl
theorem cells50 : Tryd.prog.cellsOf 74 = 8 := by kernel_rfl
theorem cells39 : Tryd.prog.cellsOf 90 = 64 := by kernel_rfl
theorem cells38 : Tryd.prog.cellsOf 66 = 1 := by kernel_rfl

theorem int_getD (l : List Nat) (i : Nat) : (l.map fun x : Nat => (x : Int)).getD i 0 = ((l.getD i 0 : Nat) : Int) := by
  rw [List.getD_eq_getElem?_getD, List.getD_eq_getElem?_getD, List.getElem?_map]
  cases l[i]? <;> rfl

theorem tabs {W : World} (h : laidMet Tryd.prog [("carillon/sha.first", Rows.laid_carillon_sha_first), ("carillon/sha.roundWords", Rows.laid_carillon_sha_roundWords)] W) : FTab W ∧ KTab W := by
  have h1 : Lib.TabIs Tryd.prog W "carillon/sha.first" .u32 (start.list.map fun x : Nat => (x : Int)) :=
    Lib.tabIs_of_head (rest := [("carillon/sha.roundWords", Rows.laid_carillon_sha_roundWords)]) gF gFt Tryd.underlying74 Tryd.underlying66 cells38 cells50 h
  have h2 := h.filter fun x => x.1 == "carillon/sha.roundWords"
  rw [show ([("carillon/sha.first", Rows.laid_carillon_sha_first), ("carillon/sha.roundWords", Rows.laid_carillon_sha_roundWords)] : List (String × DataW Unit)).filter (fun x => x.1 == "carillon/sha.roundWords") = [("carillon/sha.roundWords", Rows.laid_carillon_sha_roundWords)] from by simp] at h2
  have h3 : Lib.TabIs Tryd.prog W "carillon/sha.roundWords" .u32 (kTab.map fun x : Nat => (x : Int)) :=
    Lib.tabIs_of_head (rest := []) gK gKt Tryd.underlying90 Tryd.underlying66 cells38 cells39 h2
  constructor
  · intro t ht
    rw [h1.cell gF t (by simpa [S8.list] using ht), int_getD]
  · intro t ht
    rw [h3.cell gK t (by rw [List.length_map, kTab_length]; exact ht), int_getD]
end Go.Proofs.YtkpaldkmikjpiaaDoor
