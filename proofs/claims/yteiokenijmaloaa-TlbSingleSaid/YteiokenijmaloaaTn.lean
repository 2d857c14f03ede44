/-
  PLAIN NUMBERS for layer 9: entries. No program in sight.
-/
import Derived.Test.YteiokenijmaloaaDo
set_option linter.unusedSimpArgs false
set_option linter.unusedVariables false
namespace GrT
open GrD
structure E where
  space : Int
  page : Int
  first : Int
  last : Int
def leafD (f l : Int) : D := if (decode f 1).table = false then decode f 1 else decode l 2
def leafL (f : Int) : Int := if (decode f 1).table = false then 1 else 2
def keptD (d : D) : Bool := d.valid && d.used && !d.table
def fillOk (f l : Int) : Bool := keptD (leafD f l)
def fillE (s va f l : Int) : E := if fillOk f l = true then (if leafL f = 1 then ⟨s, GrF.down va 21, f, 0⟩ else ⟨s, GrF.down va 12, f, l⟩) else ⟨0, 0, 0, 0⟩
def block (f : Int) : Bool := (decode f 1).valid && !(decode f 1).table
def size (f : Int) : Int := if block f = true then 21 else 12
def covers (e : E) (va : Int) : Bool := GrF.down va (size e.first) == e.page
def own (e : E) : Bool := (leafD e.first e.last).own
def serves (e : E) (s va : Int) : Bool := covers e va && ((e.space == s) || !(own e))
def takes (k p s : Int) (e : E) : Bool := if k = 0 then true else if k = 1 then serves e s p else if k = 2 then covers e p else if k = 3 then (e.space == s) && own e else false
theorem leafL_12 (f : Int) : leafL f = 1 ∨ leafL f = 2 := by unfold leafL; split <;> simp
/-- where an entry is kept, its level is a block's -/
theorem kept_level {f l : Int} (h : fillOk f l = true) : (leafL f = 1 ↔ block f = true) := by
  unfold fillOk keptD leafD at h
  unfold leafL block
  by_cases c : (decode f 1).table = false
  · rw [if_pos c] at h
    rw [if_pos c]
    simp at h
    simp [h.1.1, c]
  · rw [if_neg c]
    simp at c
    simp [c]
end GrT
