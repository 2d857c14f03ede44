/-
  Texts of one claim, merged.
-/
import Derived.Test.YtlflknfkenfpiaaGreatDoorR05
set_option linter.unusedSimpArgs false
set_option linter.unusedVariables false
namespace GrG
open Go
def tkOf : TypeDesc → TK
  | .bool => .bool
  | .int k => .int k
  | .string => .str
  | .pointer e => .ptr e
  | .slice e => .slice e
  | .struct fs => .struct (fs.toList.map fun f => (f.offset, f.type))
  | .array n e => .array n e
  | .func _ _ _ => .func
  | .map k v => .map k v
  | .interface _ => .iface
  | .unsafePointer => .uptr
  | _ => .other
def ofL : List Value → Option (List AV)
  | [] => some []
  | v :: l => match ofConst v, ofL l with
    | some a, some m => some (a :: m)
    | _, _ => none
def plainGo (P : Program) (pl : Nat → Option (List CK)) : List Field → List CK → Option (List CK)
  | [], acc => some acc
  | f :: fs, acc => match f.name == "_", Nat.beq f.offset acc.length, pl f.type, P.info? f.type with
    | false, true, some ks, some i => match Nat.beq i.size ks.length with
      | true => plainGo P pl fs (acc ++ ks)
      | false => none
    | _, _, _, _ => none
def plainT (P : Program) : Nat → Nat → Option (List CK)
  | 0, _ => none
  | k + 1, t => match P.underlying t with
    | some .bool => some [.b]
    | some (.int i) => some [.i i]
    | some .string => some [.s]
    | some (.struct fs) => match P.stoodInHeld t with
      | true => none
      | false => plainGo P (plainT P k) fs.toList []
    | some (.array n e) => match plainT P k e, P.info? e with
      | some ks, some f => match Nat.beq f.size ks.length with
        | true => some (List.replicate n ks).flatten
        | false => none
      | _, _ => none
    | _ => none
def aggV : Value → Bool
  | .agg _ => true
  | _ => false
def facts (P : Program) (t : Nat) : Option TyI := match P.underlying t, P.info? t with
  | some d, some f => match f.zero with
    | some v => match ofL v.cells.toList, aggV v == (tkOf d).agg with
      | some z, true => some ⟨tkOf d, f.size, f.bytes, z, plainT P 6 t⟩
      | _, _ => none
    | none => none
  | _, _ => none
def bodied (P : Program) (f : Nat) : Option Func := match P.funcs[f]? with
  | some fn => match fn.body with
    | some _ => match fn.name == "runtime.NumGoroutine" with
      | true => none
      | false => some fn
    | none => none
  | none => none
def assoc {α : Type} : List (Nat × α) → Nat → Option α
  | [], _ => none
  | p :: l, n => match Nat.beq p.1 n with
    | true => some p.2
    | false => assoc l n
def envOf (P : Program) (exts : List (Nat × Xk)) (jn : List (Nat × Bool)) (ng : Nat) : Env := ⟨bodied P, facts P, ng, assoc exts, assoc jn, fun e o u => rowAt P (fun t => sameLayout P P.depth t u) P.depth e (o / P.cellsOf e + 1) o 1, .leaf⟩
end GrG
