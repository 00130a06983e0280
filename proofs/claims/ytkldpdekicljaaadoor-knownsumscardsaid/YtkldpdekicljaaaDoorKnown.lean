/- The standard's two examples, reckoned by the kernel out of the plain functions. -/
import Derived.Test.YtkldpdekicljaaaDoorSum
namespace Go.Proofs.YtkldpdekicljaaaDoor
theorem known_abc : sumL [97, 98, 99] = [80, 140, 94, 140, 50, 124, 20, 226, 225, 167, 43, 163, 78, 235, 69, 47, 55, 69, 139, 32, 158, 214, 58, 41, 77, 153, 155, 76, 134, 103, 89, 130] := by decide +kernel
theorem known_nil : sumL [] = [105, 33, 122, 48, 121, 144, 128, 148, 225, 17, 33, 208, 66, 53, 74, 124, 31, 85, 182, 72, 44, 161, 165, 30, 27, 37, 13, 253, 30, 208, 238, 249] := by decide +kernel
end Go.Proofs.YtkldpdekicljaaaDoor
