/-
  Layer 8, numbers: what an address has whatever the tables say, what a first descriptor says, what an access comes to.
-/
import Derived.Test.YtnpgpbcpgniloaaTn
import Derived.Test.YtnpgpbcpgniloaaDn
import Derived.Test.YtnpgpbcpgniloaaFw
set_option linter.unusedSimpArgs false
set_option linter.unusedVariables false
namespace GrW
open Go
def fv (k l : Int) (b : Bool) : Value := .agg #[.int .i64 k, .int .i64 l, .bool b]
def befK (va : Int) : Int := if GrF.alignedB va 3 = true then (if decide (va < 1073741824) = true then 0 else 2) else 1
def befV (va : Int) (b : Bool) : Value := if befK va = 0 then fv 0 0 false else fv (befK va) 0 b
def isTable (f : Int) : Bool := (GrD.decode f 1).valid && (GrD.decode f 1).table
def secondA (f va : Int) : Int := if isTable f = true then IntKind.u64.wrap ((GrD.decode f 1).out + 8 * GrF.slot va 2) else 0
def firstV (f : Int) : Value := if (GrD.decode f 1).valid = true then fv 0 0 false else fv 3 1 false
def allowK (f l : Int) (b : Bool) : Int := GrD.allowed (GrT.leafD f l) b
def thV (f l va : Int) (b : Bool) : Value := if befK va = 0 then (if allowK f l b = 0 then fv 0 0 false else fv (allowK f l b) (GrT.leafL f) b) else befV va b
def thA (f l va : Int) (b : Bool) : Int := if befK va = 0 then (if allowK f l b = 0 then GrD.address (GrT.leafD f l) (GrT.leafL f) va else 0) else 0
theorem aligned8 (va : Int) (h0 : 0 ≤ va) (h1 : va < 18446744073709551616) : GrF.alignedB va 3 = (va % 8 == 0) := GrD.aligned_mod va 3 (by omega) h0 h1
end GrW
