/-
  THE CHAPTER'S EXAMPLES, plain. No statement is proved here.
-/
import Derived.Test.YtnkfkicabgajmaaGreatDoorAt
namespace Go.Proofs.YtnkfkicabgajmaaGreatDoor
set_option linter.unusedSimpArgs false
set_option linter.unusedVariables false
open Go Go.RowKit

def exV : V := .mk 6 0 [] [.mk 5 0 [] [.mk 3 1 [] [] [], .mk 3 (-2) [] [] []] [], .mk 4 0 [120] [] []] [[97], [98]]
def ex1 : List UInt8 := [123, 34, 97, 34, 58, 91, 49, 44, 45, 50, 93, 44, 34, 98, 34, 58, 34, 120, 34, 125]
def ex2 : List UInt8 := [123, 34, 98, 34, 58, 49, 44, 34, 97, 34, 58, 50, 125]
def ex3 : List UInt8 := [91, 49, 44, 32, 50, 93]
def ex4 : List UInt8 := [48, 49]
theorem ex1_p : parseV ex1 = some exV := by kernel_rfl
theorem ex2_p : parseV ex2 = none := by kernel_rfl
theorem ex3_p : parseV ex3 = none := by kernel_rfl
theorem ex4_p : parseV ex4 = none := by kernel_rfl
theorem ex5_p : atO exV [97, 46, 49] = (some (.mk 3 (-2) [] [] []), 0) := by kernel_rfl
theorem ex6_p : atO exV [98, 46, 99] = (none, 4) := by kernel_rfl
end Go.Proofs.YtnkfkicabgajmaaGreatDoor
