/- Package blake: the chapter's examples, reckoned. -/
import Derived.Test.YtdjfklllfbenjaaDoorBn
namespace Go.Proofs.YtdjfklllfbenjaaDoor
open Go.RowKit

def keyL : List Int := [0, 1, 2, 3, 4, 5, 6, 7, 8, 9, 10, 11, 12, 13, 14, 15, 16, 17, 18, 19, 20, 21, 22, 23, 24, 25, 26, 27, 28, 29, 30, 31]
def abcH : List Int := [80, 140, 94, 140, 50, 124, 20, 226, 225, 167, 43, 163, 78, 235, 69, 47, 55, 69, 139, 32, 158, 214, 58, 41, 77, 153, 155, 76, 134, 103, 89, 130]
def nilH : List Int := [105, 33, 122, 48, 121, 144, 128, 148, 225, 17, 33, 208, 66, 53, 74, 124, 31, 85, 182, 72, 44, 161, 165, 30, 27, 37, 13, 253, 30, 208, 238, 249]
def keyH : List Int := [72, 168, 153, 125, 164, 7, 135, 107, 61, 121, 192, 217, 35, 37, 173, 59, 137, 203, 183, 84, 216, 106, 183, 26, 238, 4, 122, 211, 69, 253, 44, 73]
theorem abc_hash : hashB [] [97, 98, 99] = abcH := by decide +kernel
theorem nil_hash : hashB [] [] = nilH := by decide +kernel
theorem key_hash : hashB keyL [] = keyH := by decide +kernel
end Go.Proofs.YtdjfklllfbenjaaDoor
