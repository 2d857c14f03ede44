/-
  Texts of one claim, merged.
-/
import Derived.Test.YtlflknfkenfpiaaGreatDoorR04
set_option linter.unusedSimpArgs false
set_option linter.unusedVariables false
namespace GrG
open Go
inductive Rs where
  | no
  | one (x : Ex) (L : T AV) (M : Mem)
  | many (l : List (Ex × T AV × Mem))
inductive R1 where
  | no
  | one (v : AV) (M : Mem)
  | many (l : List (AV × Mem))
  | dfr (d : AV) (M : Mem)
def Rs.list : Rs → Option (List (Ex × T AV × Mem))
  | .no => none
  | .one x L M => some [(x, L, M)]
  | .many l => some l
def bindL (f : Ex → T AV → Mem → Rs) : List (Ex × T AV × Mem) → Option (List (Ex × T AV × Mem))
  | [] => some []
  | p :: l => match (f p.1 p.2.1 p.2.2).list, bindL f l with
    | some (y :: a), some b => some ((y :: a) ++ b)
    | _, _ => none
def Rs.ofO : Option (List (Ex × T AV × Mem)) → Rs
  | some [p] => .one p.1 p.2.1 p.2.2
  | some l => .many l
  | none => .no
def Rs.bind (r : Rs) (f : Ex → T AV → Mem → Rs) : Rs := match r with
  | .no => .no
  | .one x L M => f x L M
  | .many l => .ofO (bindL f l)
def bind1L (f : AV → Mem → Rs) : List (AV × Mem) → Option (List (Ex × T AV × Mem))
  | [] => some []
  | p :: l => match (f p.1 p.2).list, bind1L f l with
    | some (y :: a), some b => some ((y :: a) ++ b)
    | _, _ => none
def R1.bind (r : R1) (f : AV → Mem → Rs) : Rs := match r with
  | .no => .no
  | .one v M => f v M
  | .many l => .ofO (bind1L f l)
  | .dfr _ _ => .no
def R1.list : R1 → Option (List (AV × Mem))
  | .no => none
  | .one v M => some [(v, M)]
  | .many l => some l
  | .dfr _ _ => none
def R1.ofO : Option (List (AV × Mem)) → R1
  | some [p] => .one p.1 p.2
  | some l => .many l
  | none => .no
def bind2L (f : Ex → T AV → Mem → R1) : List (Ex × T AV × Mem) → Option (List (AV × Mem))
  | [] => some []
  | p :: l => match (f p.1 p.2.1 p.2.2).list, bind2L f l with
    | some (y :: a), some b => some ((y :: a) ++ b)
    | _, _ => none
def Rs.bind1 (r : Rs) (f : Ex → T AV → Mem → R1) : R1 := match r with
  | .no => .no
  | .one x L M => f x L M
  | .many l => .ofO (bind2L f l)
inductive Task where
  | code (c : Code)
  | loop (c : Code)
noncomputable def ewant (ops : Array Oper) (L : T AV) (o : Oper) : Option Bool :=
  match o.guard with
  | none => some true
  | some (j, want) => match ops[j]? with
    | some p => match p.dst with
      | some d => match L.get d with
        | some (.bool b) => some (b == want)
        | some (.tup []) => some false
        | _ => none
      | none => none
    | none => none
noncomputable def eres1 (E : Env) (L : T AV) (M : Mem) : ResultVar → OM
  | .tmp t => match L.get t with
    | some v => some (v, M)
    | none => none
  | .cell p t => match L.get p, E.tys t with
    | some v, some ty => aload M ty v
    | _, _ => none
noncomputable def eresL (E : Env) (L : T AV) (M : Mem) : List ResultVar → Option (List AV × Mem)
  | [] => some ([], M)
  | r :: l => match eres1 E L M r with
    | some (v, M1) => match eresL E L M1 l with
      | some (m, M2) => some (v :: m, M2)
      | none => none
    | none => none
noncomputable def eres (E : Env) (L : T AV) (M : Mem) (l : List ResultVar) : R1 := match eresL E L M l with
  | some ([v], M') => .one v M'
  | some (m, M') => .one (.tup m) M'
  | none => .no
def eqL (f : AV → AV → Bool) : List AV → List AV → Bool
  | [], [] => true
  | a :: l, b :: m => match f a b with
    | true => eqL f l m
    | false => false
  | _, _ => false
def eqA : Nat → AV → AV → Bool
  | 0, _, _ => false
  | k + 1, a, b => match a, b with
    | .bool x, .bool y => x == y
    | .int j x, .int l y => match Nat.beq (kn j) (kn l) with
      | true => ieq x y
      | false => false
    | .str x, .str y => leq x y
    | .nilp, .nilp => true
    | .ptr i o, .ptr j p => match Nat.beq i j with
      | true => Nat.beq o p
      | false => false
    | .nils, .nils => true
    | .atl a, .atl b => Nat.beq a b
    | .slice i o n c e s, .slice j p m d f t => match Nat.beq i j, Nat.beq o p, Nat.beq n m, Nat.beq c d, e == f, Nat.beq s t with
      | true, true, true, true, true, true => true
      | _, _, _, _, _, _ => false
    | .agg l, .agg m => eqL (eqA k) l m
    | .tup l, .tup m => eqL (eqA k) l m
    | .nilf, .nilf => true
    | .func f i l, .func g j m => match Nat.beq f g, eqL (eqA k) i j with
      | true, true => eqL (eqA k) l m
      | _, _ => false
    | .nilm, .nilm => true
    | .map i, .map j => Nat.beq i j
    | .nili, .nili => true
    | .iface s x, .iface t y => match Nat.beq s t with
      | true => eqA k x y
      | false => false
    | .yl i, .yl j => Nat.beq i j
    | .stamp i, .stamp j => Nat.beq i j
    | .any j, .any l => Nat.beq (kn j) (kn l)
    | .bad, .bad => true
    | .emp, .emp => true
    | .dl l, .dl m => eqL (eqA k) l m
    | .rd, .rd => true
    | _, _ => false
def eqa : AV → AV → Bool := eqA 12
def jO : Option AV → Option AV → Option AV
  | some a, some b => match eqa a b with
    | true => some a
    | false => none
  | _, _ => none
def jT : T AV → T AV → T AV
  | .node l v r, .node l' v' r' => .node (jT l l') (jO v v') (jT r r')
  | _, _ => .leaf
def jLab : Option Nat → Option Nat → Option Nat
  | some a, some b => match Nat.beq a b with
    | true => some a
    | false => none
  | _, _ => none
def jEs : List En → List En → Option (List En)
  | [], [] => some []
  | a :: l, b :: m => match eqa a.key b.key, eqa a.val b.val, jEs l m with
    | true, true, some r => some (⟨jLab a.lab b.lab, a.key, a.val⟩ :: r)
    | _, _, _ => none
  | _, _ => none
def nleq : List Nat → List Nat → Bool := leq
def jTy : Option Nat → Option Nat → Option Nat
  | some t, some u => match Nat.beq t u with
    | true => some t
    | false => none
  | _, _ => none
def eqTy : Option Nat → Option Nat → Bool
  | none, none => true
  | some t, some u => Nat.beq t u
  | _, _ => false
def jOb : Option Ob → Option Ob → Option Ob
  | some (.row t c), some (.row u d) => some (.row (jTy t u) (jT c d))
  | some (.map es c), some (.map fs d) => match jEs es fs with
    | some gs => some (.map gs (jLab c d))
    | none => none
  | some (.iter (some m) a b (some c)), some (.iter (some m') a' b' (some c')) => match Nat.beq m m', nleq a a', nleq b b', Nat.beq c c' with
    | true, true, true, true => some (.iter (some m) a b (some c))
    | _, _, _, _ => none
  | some .dfr, some .dfr => some .dfr
  | _, _ => none
noncomputable def jW (a b : T Ob) : List Nat → T Ob → T Ob
  | [], t => t
  | i :: l, t => jW a b l (t.set i (jOb (a.get i) (b.get i)))
def lows (n : Nat) : List Nat → List Nat
  | [] => []
  | a :: l => match Nat.blt a n with
    | true => a :: lows n l
    | false => lows n l
noncomputable def once : List Nat → T Bool → List Nat
  | [], _ => []
  | a :: l, t => match t.get a with
    | some _ => once l t
    | none => a :: once l (t.set a (some true))
def T.lft {α : Type} : T α → T α
  | .node l _ _ => l
  | .leaf => .leaf
def T.rgt {α : Type} : T α → T α
  | .node _ _ r => r
  | .leaf => .leaf
def T.val {α : Type} : T α → Option α
  | .node _ v _ => v
  | .leaf => none
noncomputable def jS (lo : Nat) (a : T Ob) : Nat → Nat → T Ob → T Ob :=
  T.rec (motive := fun _ => Nat → Nat → T Ob → T Ob) (fun _ _ _ => .leaf) (fun _ v _ fl fr A B b => .node (fl (A + B) (2 * B) b.lft) (match Nat.blt A lo with
    | true => v
    | false => jOb v b.val) (fr (A + 2 * B) (2 * B) b.rgt)) a
noncomputable def jM (M0 a b : Mem) : Mem :=
  ⟨jW a.objs b.objs b.wr (jW a.objs b.objs a.wr (jS M0.next a.objs 0 1 b.objs)), Nat.max a.next b.next, a.rd ++ b.rd, a.wr ++ b.wr⟩
noncomputable def jV (M0 : Mem) : AV × Mem → List (AV × Mem) → Option (AV × Mem)
  | p, [] => some p
  | p, q :: l => match eqa p.1 q.1 with
    | true => jV M0 (p.1, jM M0 p.2 q.2) l
    | false => none
def Mem.fresh (M : Mem) : Mem := ⟨M.objs, M.next, [], []⟩
def Mem.also (M : Mem) (rd wr : List Nat) : Mem := ⟨M.objs, M.next, M.rd ++ rd, M.wr ++ wr⟩
noncomputable def slim (n : Nat) (p : AV × Mem) : AV × Mem := (p.1, ⟨p.2.objs, p.2.next, once (lows n p.2.rd) .leaf, once (lows n p.2.wr) .leaf⟩)
noncomputable def jR1 (M0 : Mem) (r : R1) : R1 := match r with
  | .many (p :: l) => match jV M0 (slim M0.next p) (l.map (slim M0.next)) with
    | some q => .one q.1 (q.2.also M0.rd M0.wr)
    | none => .no
  | .one v M => .one v (M.also M0.rd M0.wr)
  | _ => .no
abbrev Self := Nat → Task → T AV → Mem → Rs
noncomputable def evDefers (E : Env) (self : Self) : List AV → Mem → Option Mem
  | [], M => some M
  | d :: ds, M => match d with
    | .tup [.func g [] caps, .tup l] => match E.fns g with
      | some fn => match fn.body with
        | some c => fN (Nat.max (l ++ caps).length fn.ntmps) fun n => match self n (.code c) (T.ofA (l ++ caps)) M with
          | .one (.exit _) _ _ => none
          | .one _ L2 M2 => match L2.get n, eres E L2 M2 fn.results.toList with
            | none, .one _ M3 => evDefers E self ds M3
            | _, _ => none
          | _ => none
        | none => none
      | none => none
    | .ptr r 0 => match M.ob r with
      | some .dfr => evDefers E self ds (M.wrote r none)
      | _ => none
    | _ => none
noncomputable def evLeave (E : Env) (self : Self) (n : Nat) (fn : Func) (x : Ex) (L : T AV) (M : Mem) : R1 := match x with
  | .exit _ => .no
  | _ => match L.get n with
    | none => eres E L M fn.results.toList
    | some (.dl ds) => match evDefers E self ds M with
      | some M' => eres E L M' fn.results.toList
      | none => .no
    | _ => .no
def lenA : AV → Option Nat
  | .nils => some 0
  | .slice _ _ n _ _ _ => some n
  | _ => none
noncomputable def fillB (c : T AV) : Nat → Nat → T AV
  | _, 0 => c
  | o, k + 1 => match c.get o with
    | some _ => fN o fun o => fillB c (o + 1) k
    | none => fN o fun o => fillB (c.set o (some .bad)) (o + 1) k
def caps (i o len es : Nat) (l : List AV) (M : Mem) : Nat → Nat → List (List AV × Mem)
  | _, 0 => []
  | c, k + 1 => fN c fun c => (.slice i o len c true es :: l, M) :: caps i o len es l M (c + 1) k
noncomputable def splitA (args : List AV) (M : Mem) : Option (List (List AV × Mem)) := match args with
  | [.slice i o len cap false es, x, v] => match lenA v, M.row i with
    | some m, some (t, c) => match Nat.ble (len + m) cap with
      | true => some [(args, M)]
      | false => fN (len + m) fun n => some ((.slice i o len n false es :: [x, v], M.wrote i (some (.row t (fillB c o (n * es))))) :: caps i o len es [x, v] M cap (n - cap))
    | _, _ => none
  | _ => some [(args, M)]
noncomputable def canon (nx : Nat) (v : AV) (M : Mem) : OM := match v with
  | .slice i o len _ false es => match M.row i with
    | some (_, c) => match getN c o (len * es) with
      | some l => match Nat.ble M.next nx with
        | true => some (.slice nx 0 len len false es, ⟨(M.objs.set i none).set nx (some (.row none (T.ofA l))), nx + 1, i :: M.rd, i :: M.wr⟩)
        | false => none
      | none => none
    | none => none
  | _ => none
def maxN : List (AV × Mem) → Nat → Nat
  | [], n => n
  | p :: l, n => maxN l (Nat.max n p.2.next)
noncomputable def canonL (nx : Nat) : List (AV × Mem) → Option (List (AV × Mem))
  | [] => some []
  | p :: l => match canon nx p.1 p.2, canonL nx l with
    | some q, some m => some (q :: m)
    | _, _ => none
noncomputable def canonR (r : R1) : R1 := match r with
  | .many l => fN (maxN l 0) fun nx => .ofO (canonL nx l)
  | .one v M => .one v M
  | _ => .no
noncomputable def splitRun (k : List AV → Mem → R1) : List (List AV × Mem) → Option (List (AV × Mem))
  | [] => some []
  | p :: l => match (k p.1 p.2).list, splitRun k l with
    | some (x :: a), some b => some ((x :: a) ++ b)
    | _, _ => none
noncomputable def evCallF0 (E : Env) (self : Self) (f : Nat) (args : List AV) (M : Mem) : R1 := match E.fns f with
  | some fn => match fn.body with
    | some c => fN (Nat.max args.length fn.ntmps) fun n => match E.jn f with
      | none => (self n (.code c) (T.ofA args) M).bind1 (evLeave E self n fn)
      | some false => jR1 M ((self n (.code c) (T.ofA args) M.fresh).bind1 (evLeave E self n fn))
      | some true => match splitA args M.fresh with
        | some l => jR1 M (canonR (.ofO (splitRun (fun args M => (self n (.code c) (T.ofA args) M).bind1 (evLeave E self n fn)) l)))
        | none => .no
    | none => .no
  | none => .no
def eqT : T AV → T AV → Bool
  | .leaf, .leaf => true
  | .node l v r, .node l' v' r' => match eqT l l', v, v', eqT r r' with
    | true, none, none, true => true
    | true, some a, some b, true => eqa a b
    | _, _, _, _ => false
  | _, _ => false
def eqEs : List En → List En → Bool
  | [], [] => true
  | a :: l, b :: m => match a.lab, b.lab, eqa a.key b.key, eqa a.val b.val with
    | none, none, true, true => eqEs l m
    | some i, some j, true, true => match Nat.beq i j with
      | true => eqEs l m
      | false => false
    | _, _, _, _ => false
  | _, _ => false
def eqOb : Ob → Ob → Bool
  | .row t c, .row u d => match eqTy t u with
    | true => eqT c d
    | false => false
  | .map es none, .map fs none => eqEs es fs
  | .map es (some i), .map fs (some j) => match Nat.beq i j with
    | true => eqEs es fs
    | false => false
  | _, _ => false
def eqOO : Option Ob → Option Ob → Bool
  | none, none => true
  | some a, some b => eqOb a b
  | _, _ => false
def allP {α : Type} (p : α → Bool) : List α → Bool
  | [] => true
  | a :: l => match p a with
    | true => allP p l
    | false => false
noncomputable def innOk (M : Mem) (p : Nat × Ob) : Bool := eqOO (M.ob p.1) (some p.2)
def outOk (n nx : Nat) (wr : List Nat) (p : Nat × Option Ob) : Bool := match Nat.blt p.1 nx, Nat.blt p.1 n with
  | true, true => memN p.1 wr
  | true, false => true
  | false, _ => false
def keyIn {α : Type} (i : Nat) : List (Nat × α) → Bool
  | [] => false
  | p :: l => match Nat.beq p.1 i with
    | true => true
    | false => keyIn i l
def entGood (e : Ent) (n : Nat) : Bool := match Nat.ble n e.nx, allP (outOk n e.nx e.wr) e.out, subN e.wr e.rd, allP (fun i => keyIn i e.inn) e.rd, allP (fun p => Nat.blt p.1 n) e.inn, allP (fun i => keyIn i e.out) e.wr with
  | true, true, true, true, true, true => true
  | _, _, _, _, _, _ => false
noncomputable def entUse (e : Ent) (f : Nat) (args : List AV) (M : Mem) : Bool := match Nat.beq f e.fn, eqL eqa args e.args, entGood e M.next, allP (innOk M) e.inn with
  | true, true, true, true => true
  | _, _, _, _ => false
noncomputable def layO : List (Nat × Option Ob) → T Ob → T Ob
  | [], t => t
  | p :: l, t => layO l (t.set p.1 p.2)
noncomputable def entMem (e : Ent) (M : Mem) : Mem := ⟨layO e.out M.objs, e.nx, e.rd ++ M.rd, e.wr ++ M.wr⟩
noncomputable def evCallF (E : Env) (self : Self) (f : Nat) (args : List AV) (M : Mem) : R1 := match E.orc.get M.next, E.fns f with
  | some e, some _ => match entUse e f args M with
    | true => .one e.v (entMem e M)
    | false => evCallF0 E self f args M
  | _, _ => evCallF0 E self f args M
noncomputable def layPs (n : Nat) : List Nat → List AV → T AV → Option (T AV)
  | [], [], L => some L
  | p :: ps, a :: l, L => match Nat.blt p n with
    | true => layPs n ps l (L.set p (some a))
    | false => none
  | _, _, _ => none
noncomputable def evRoundEnd (i : Nat) (x : Ex) (_L : T AV) (M : Mem) : R1 := match M.ob i with
  | some (.loop L n ps asg body 1 _) => match x with
    | .normal => .one (.bool true) (M.wrote i (some (.loop L n ps asg body 0 none)))
    | x => .one (.bool false) (M.wrote i (some (.loop L n ps asg body 2 (some x))))
  | _ => .no
noncomputable def evRound (self : Self) (i : Nat) (args : List AV) (M : Mem) : R1 := match M.ob i with
  | some (.loop L n ps asg body 0 _) => match layPs n ps args L with
    | some L1 => match self n (.code asg) (L1.set n (some .rd)) (M.saw i) with
      | .one .normal L2 M2 => match M2.ob i with
        | some (.loop La na pa aa ba 0 ja) => (self n (.code body) L2 (M2.wrote i (some (.loop La na pa aa ba 1 ja)))).bind1 (evRoundEnd i)
        | _ => .no
      | _ => .no
    | none => .no
  | _ => .no
def pv (M : Mem) : Option AV → R1
  | some v => .one v M
  | none => .no
def pm : OM → R1
  | some p => .one p.1 p.2
  | none => .no
def ps : Option Mem → R1
  | some M => .one (.tup []) M
  | none => .no
abbrev OpF := Env → Self → T AV → Mem → R1
noncomputable def oMove (x : Operand) : OpF := fun E _ L M => pv M (aev x E L)
noncomputable def oPick (c x y : Operand) : OpF := fun E _ L M => match aev c E L with
  | some (.bool true) => pv M (aev x E L)
  | some (.bool false) => pv M (aev y E L)
  | _ => .no
noncomputable def oBlock (ty : Option Nat) (M : Mem) (l : List AV) : R1 := match anew M (.row ty (T.ofA l)) with
  | (i, M') => .one (.ptr i 0) M'
noncomputable def oAlloc (t : Nat) : OpF := fun E _ _ M => match E.tys t with
  | some ty => oBlock (some t) M ty.zero
  | none => .no
noncomputable def oBox (_t : Nat) (x : Operand) : OpF := fun E _ L M => match aev x E L with
  | some v => match isBad v with
    | false => oBlock none M v.cells
    | true => .no
  | none => .no
noncomputable def oBuild (t : Nat) (ps : Array (Nat × Operand)) : OpF := fun E _ L M => match aevP E L ps.toList with
  | some l => pv M (ebuild E t l)
  | none => .no
noncomputable def oBuildSlice (t n : Nat) (ps : Array (Nat × Operand)) : OpF := fun E _ L M => match aevP E L ps.toList with
  | some l => pm (ebs E M t n l)
  | none => .no
noncomputable def oMapUpdate (t : Nat) (m k v : Operand) : OpF := fun E _ L M => match aev m E L, aev k E L, aev v E L with
  | some m, some k, some v => ps (emapUpdate E M t m k v)
  | _, _, _ => .no
noncomputable def oLoad (t : Nat) (x : Operand) : OpF := fun E _ L M => match E.tys t, aev x E L with
  | some ty, some p => pm (aload M ty p)
  | _, _ => .no
noncomputable def oStore (t : Nat) (x y : Operand) : OpF := fun E _ L M => match E.tys t, aev x E L, aev y E L with
  | some ty, some p, some v => ps (astore M ty v p)
  | _, _, _ => .no
def oNo : OpF := fun _ _ _ _ => .no
noncomputable def oNilCheck (x : Operand) : OpF := fun E _ L M => match aev x E L with
  | some v => pv M (enil v)
  | none => .no
def isAny : AV → AV → Bool
  | .any k, .int l _ => Nat.beq (kn k) (kn l)
  | .int k _, .any l => Nat.beq (kn k) (kn l)
  | _, _ => false
def isCmp : BinOp → Bool
  | .eql => true
  | .neq => true
  | .lss => true
  | .leq => true
  | .gtr => true
  | .geq => true
  | _ => false
def binAny (op : BinOp) (v w : AV) (M : Mem) : R1 := match isAny v w, isCmp op with
  | true, true => .many [(.bool true, M), (.bool false, M)]
  | _, _ => .no
noncomputable def oBin (op : BinOp) (t : Nat) (x y : Operand) (_u : Nat) : OpF := fun E _ L M => match aev x E L, aev y E L with
  | some v, some w => match ebin E op t v w with
    | some r => .one r M
    | none => binAny op v w M
  | _, _ => .no
noncomputable def oUn (op : UnOp) (_t : Nat) (x : Operand) : OpF := fun E _ L M => match aev x E L with
  | some v => pv M (eun op v)
  | none => .no
noncomputable def oConv (t u : Nat) (x : Operand) : OpF := fun E _ L M => match aev x E L with
  | some v => match econv E t u v with
    | some r => pv M (some r)
    | none => pm (econvU E M t u v)
  | none => .no
noncomputable def oMakeFunc (f : Fn) (first cap : Array Operand) : OpF := fun E _ L M => match f, aevL E L first.toList, aevL E L cap.toList with
  | .func g, some m, some l => .one (.func g m l) M
  | _, _, _ => .no
noncomputable def oMakeMap (_t : Nat) (r : Option Operand) : OpF := fun _ _ _ M => match r with
  | none => pm (emakeMap M)
  | some _ => .no
noncomputable def oMakeSlice (t : Nat) (x y : Operand) : OpF := fun E _ L M => match aev x E L, aev y E L with
  | some v, some w => pm (emake E M t v w)
  | _, _ => .no
noncomputable def oSlice (t : Nat) (x : Operand) (lo hi mx : Option Operand) : OpF := fun E _ L M => match mx, aev x E L, aevO E L lo, aevO E L hi with
  | none, some v, some l, some h => pv M (esl E t v l h)
  | _, _, _, _ => .no
noncomputable def oFieldAddr (t : Nat) (x : Operand) (f : Nat) : OpF := fun E _ L M => match aev x E L with
  | some v => pv M (efa E t f v)
  | none => .no
noncomputable def oField (t : Nat) (x : Operand) (f : Nat) : OpF := fun E _ L M => match aev x E L with
  | some v => pv M (efld E t f v)
  | none => .no
noncomputable def oIndexAddr (t : Nat) (x y : Operand) : OpF := fun E _ L M => match aev x E L, aev y E L with
  | some v, some w => pv M (eia E t v w)
  | _, _ => .no
noncomputable def oIndex (t : Nat) (x y : Operand) : OpF := fun E _ L M => match aev x E L, aev y E L with
  | some v, some w => pv M (eidx E t v w)
  | _, _ => .no
noncomputable def oLookup (t : Nat) (x y : Operand) (ok : Bool) : OpF := fun E _ L M => match aev x E L, aev y E L with
  | some v, some w => pm (elookup E M t v w ok)
  | _, _ => .no
noncomputable def oMapEntry (t : Nat) (x y : Operand) : OpF := fun E _ L M => match aev x E L, aev y E L with
  | some v, some w => pm (emapEntry E M t v w)
  | _, _ => .no
noncomputable def oEntryStore (_t : Nat) (m k v : Operand) : OpF := fun E _ L M => match aev m E L, aev k E L, aev v E L with
  | some m, some k, some v => ps (eentryStore M m k v)
  | _, _, _ => .no
noncomputable def oRange (t : Nat) (x : Operand) : OpF := fun E _ L M => match aev x E L with
  | some v => pm (erange E M t v)
  | none => .no
noncomputable def oNext (x : Operand) (str : Bool) : OpF := fun E _ L M => match str, aev x E L with
  | false, some v => match enext M v with
    | some [p] => .one p.1 p.2
    | some l => .many l
    | none => .no
  | _, _ => .no
noncomputable def oEntry (x : Operand) : OpF := fun E _ L M => match aev x E L with
  | some v => pm (eentry M v)
  | none => .no
noncomputable def oExtract (x : Operand) (i : Nat) : OpF := fun E _ L M => match aev x E L with
  | some v => pv M (eext i v)
  | none => .no
abbrev BuF := List Nat → List AV → Env → Mem → R1
noncomputable def uLen : BuF := fun ts l E M => match ts, l with
  | [t], [v] => pm (elen E M t v)
  | _, _ => .no
noncomputable def uCap : BuF := fun ts l E M => match ts, l with
  | [t], [v] => pm (ecap E M t v)
  | _, _ => .no
noncomputable def uAppend : BuF := fun ts l E M => match ts, l with
  | [t, u], [v, w] => pm (eapp E M t u v w)
  | _, _ => .no
noncomputable def uCopy : BuF := fun ts l E M => match ts, l with
  | [t, _], [v, w] => pm (ecopy E M t v w)
  | _, _ => .no
noncomputable def uSliceData : BuF := fun _ l _ M => match l with
  | [v] => pv M (eslData v)
  | _ => .no
noncomputable def uString : BuF := fun ts l E M => match ts, l with
  | [t, _], [v, w] => pm (eustr E M t v w)
  | _, _ => .no
def foldA (f : AV → AV → Option AV) : AV → List AV → Option AV
  | v, [] => some v
  | v, w :: l => match f v w with
    | some r => foldA f r l
    | none => none
def uMin : BuF := fun _ l _ M => match l with
  | v :: l => pv M (foldA emin v l)
  | _ => .no
def uMax : BuF := fun _ l _ M => match l with
  | v :: l => pv M (foldA emax v l)
  | _ => .no
def uNone : BuF := fun _ _ _ _ => .no
noncomputable def buF (b : Builtin) : BuF := match b with
  | .append => uAppend
  | .len => uLen
  | .copy => uCopy
  | .cap => uCap
  | .min => uMin
  | .max => uMax
  | .unsafeSliceData => uSliceData
  | .unsafeString => uString
  | _ => uNone
noncomputable def cVal (f : AV) (l : List AV) (E : Env) (self : Self) (M : Mem) : R1 := match f with
  | .func g fi caps => match E.fns g with
    | some _ => evCallF E self g (fi ++ l ++ caps) M
    | none => match E.exts g with
      | some x => pm (ext x (fi ++ l ++ caps) M)
      | none => .no
  | .yl i => evRound self i l M
  | _ => .no
noncomputable def oCall (c : Call) : OpF := fun E self L M => match c.callee with
  | .value f => match aev f E L, aevL E L c.args.toList with
    | some f, some l => cVal f l E self M
    | _, _ => .no
  | .builtin b => match aevL E L c.args.toList with
    | some l => buF b c.argTypes.toList l E M
    | none => .no
  | _ => .no
noncomputable def oDefer (c : Call) : OpF := fun E _ L M => match c.callee with
  | .value f => match aev f E L, aevL E L c.args.toList with
    | some (.func g fi caps), some l => .dfr (.tup [.func g [] caps, .tup (fi ++ l)]) M
    | _, _ => .no
  | _ => .no
noncomputable def evOp (op : Op) : OpF :=
  Op.casesOn (motive := fun _ => OpF) op oMove oMove oPick oAlloc oBox oBuild oBuildSlice oMapUpdate oLoad oStore (fun _ => oNo) (fun _ => oNo) oNilCheck oBin oUn oConv (fun _ _ => oNo) (fun _ _ => oNo) oMakeFunc oMakeMap (fun _ _ => oNo) oMakeSlice
    oSlice oFieldAddr oField oIndexAddr oIndex oLookup oMapUpdate oMapEntry oEntryStore oRange oNext oEntry (fun _ _ _ _ => oNo) oExtract oCall (fun _ => oNo) oDefer (fun _ => oNo) (fun _ _ => oNo) (fun _ _ _ => oNo) (fun _ _ => oNo)
noncomputable def evOne (E : Env) (self : Self) (n : Nat) (ops : Array Oper) (L : T AV) (M : Mem) (o : Oper) : R1 := match ewant ops L o with
  | some true => evOp o.op E self L M
  | some false => .one (.tup []) M
  | none => .no
def bits (ops : List Oper) : List Nat := (ops.foldl (fun (acc : List Nat) o => acc ++ [o.after.toList.foldl (fun s e => if Region.binds .any e then Nat.lor (Nat.lor s (Nat.pow 2 e.on)) (acc.getD e.on 0) else s) 0]) [])
def ordered (bs : List Nat) (i j : Nat) : Bool := Nat.testBit (bs.getD i 0) j || Nat.testBit (bs.getD j 0) i
def isDfr : Op → Bool
  | .defer _ => true
  | _ => false
def dstOf (n : Nat) (o : Oper) : Option Nat := match o.op with
  | .defer _ => some n
  | _ => o.dst
def hidden (n : Nat) (ops : List Oper) (bs : List Nat) (j : Nat) : List Nat :=
  (ops.zipIdx.filterMap fun (p : Oper × Nat) => if Nat.beq p.2 j || ordered bs p.2 j then none else dstOf n p.1)
noncomputable def putD (L : T AV) (n : Nat) (d : AV) : Option (T AV) := match L.get n with
  | none => some (L.set n (some (.dl [d])))
  | some (.dl ds) => some (L.set n (some (.dl (d :: ds))))
  | _ => none
structure Rec where
  ix : Nat
  lo : Nat
  hi : Nat
  rd : List Nat
  wr : List Nat
  soft : Option (Nat × (Mem → Bool))
noncomputable def hideL (n : Nat) (L : T AV) : List Nat → T AV
  | [] => L
  | d :: l => hideL n (L.set d (match Nat.beq d n with
    | true => some .rd
    | false => none)) l
def apartL : List Nat → List Nat → Bool
  | [], _ => true
  | a :: l, m => match memN a m with
    | true => false
    | false => apartL l m
def outside (lo hi : Nat) : List Nat → Bool
  | [] => true
  | a :: l => match Nat.ble lo a, Nat.blt a hi with
    | true, true => false
    | _, _ => outside lo hi l
def softOk (s : Option (Nat × (Mem → Bool))) (wr : List Nat) (M : Mem) : Bool := match s with
  | none => true
  | some (i, f) => match memN i wr with
    | true => f M
    | false => true
def softNo (s : Option (Nat × (Mem → Bool))) (lo hi : Nat) (wr : List Nat) : Bool := match s with
  | none => true
  | some (i, _) => match memN i wr with
    | true => false
    | false => outside lo hi [i]
def apartR (bs : List Nat) (r : Rec) (M : Mem) : List Rec → Bool
  | [] => true
  | q :: l => match ordered bs r.ix q.ix with
    | true => apartR bs r M l
    | false => match outside q.lo q.hi r.rd, apartL q.wr r.rd, apartL r.wr q.rd, softOk q.soft r.wr M, softNo r.soft q.lo q.hi q.wr with
      | true, true, true, true, true => apartR bs r M l
      | _, _, _, _, _ => false
noncomputable def peek (z : AV) (i : Nat) (k : AV) (M : Mem) : Option AV := match M.emap i with
  | some (es, _) => match mfind k es with
    | some (some e) => some e.val
    | some none => some z
    | none => none
  | none => none
noncomputable def softLookM (E : Env) (L : T AV) (M : Mem) (o : Oper) : Option (AV × Nat × (Mem → Bool)) := match o.op, o.guard with
  | .lookup t x y false, none => match mtys E t, aev x E L, aev y E L with
    | some (z, ky), some (.map i), some k => match pkey ky k, peek z i k M with
      | true, some v => some (v, i, fun M' => match peek z i k M' with
        | some w => eqa v w
        | none => false)
      | _, _ => none
    | _, _, _ => none
  | _, _ => none
noncomputable def softLook (E : Env) (L : T AV) (M : Mem) (o : Oper) : Option (AV × Nat × (Mem → Bool)) := mp (softLookM E L M o)
def okDst (hid : List Nat) : Option Nat → Bool
  | none => true
  | some d => !(memN d hid)
def okOp (hid : List Nat) (n : Nat) (o : Oper) : Bool := match isDfr o.op, o.dst with
  | true, some _ => false
  | _, _ => okDst hid (dstOf n o)
noncomputable def evD (E : Env) (self : Self) (n : Nat) (ops : Array Oper) (bs : List Nat) (ol : List Oper) : Nat → List Oper → T AV → Mem → List Rec → Option (T AV × Mem × List Rec)
  | _, [], L, M, rs => some (L, M, rs)
  | j, o :: l, L, M, rs => match softLook E (hideL n L (hidden n ol bs j)) M o with
    | some (v, i, f) => match okOp (hidden n ol bs j) n o, apartR bs ⟨j, M.next, M.next, [], [], some (i, f)⟩ M rs, Nat.blt i M.next with
      | true, true, true => match putL L n o.dst v with
        | some L1 => evD E self n ops bs ol (j + 1) l L1 M (⟨j, M.next, M.next, [], [], some (i, f)⟩ :: rs)
        | none => none
      | _, _, _ => none
    | none => match evOne E self n ops (hideL n L (hidden n ol bs j)) M.fresh o with
      | .one v M1 => match mkRec j M M1 with
        | r => match okOp (hidden n ol bs j) n o, apartR bs r M1 rs with
          | true, true => match putL L n o.dst v with
            | some L1 => evD E self n ops bs ol (j + 1) l L1 M1 (r :: rs)
            | none => none
          | _, _ => none
      | .dfr d M1 => match mkRec j M M1 with
        | r => match isDfr o.op, okOp (hidden n ol bs j) n o, apartR bs r M1 rs, o.dst with
          | true, true, true, none => match putD L n d with
            | some L1 => evD E self n ops bs ol (j + 1) l L1 M1 (r :: rs)
            | none => none
          | _, _, _, _ => none
      | _ => none
where
  mkRec (j : Nat) (M M1 : Mem) : Rec := ⟨j, M.next, M1.next, once (lows M.next (M1.wr ++ M1.rd)) .leaf, once (lows M.next M1.wr) .leaf, none⟩
def softL : Option (Nat × (Mem → Bool)) → List Nat
  | none => []
  | some (i, _) => [i]
def catR (n : Nat) : List Rec → List Nat × List Nat
  | [] => ([], [])
  | r :: l => match catR n l with
    | (a, b) => (lows n (softL r.soft) ++ (lows n r.rd ++ a), lows n r.wr ++ b)
def backs (ops : List Oper) : Bool := ops.zipIdx.all fun (p : Oper × Nat) => p.1.after.toList.all fun e => !Region.binds .any e || Nat.blt e.on p.2
noncomputable def evDraw (E : Env) (self : Self) (n : Nat) (ops : Array Oper) (L : T AV) (M : Mem) : Rs := match backs ops.toList with
  | true => match evD E self n ops (bits ops.toList) ops.toList 0 ops.toList L M [] with
    | some (L1, M1, rs) => match catR M.next rs with
      | (a, b) => .one .normal L1 ⟨M1.objs, M1.next, once a .leaf ++ M.rd, once b .leaf ++ M.wr⟩
    | none => .no
  | false => .no
noncomputable def opStep (E : Env) (self : Self) (n : Nat) (ops : Array Oper) (o : Oper) (k : T AV → Mem → Rs) (L : T AV) (M : Mem) : Rs := match evOne E self n ops L M o with
  | .one v M1 => match putL L n o.dst v with
    | some L1 => k L1 M1
    | none => .no
  | .dfr d M1 => match isDfr o.op, o.dst, putD L n d with
    | true, none, some L1 => k L1 M1
    | _, _, _ => .no
  | .many ll => .ofO (bind1L (fun v M1 => match putL L n o.dst v with
    | some L1 => k L1 M1
    | none => .no) ll)
  | .no => .no
noncomputable def evOps (E : Env) (self : Self) (n : Nat) (ops : Array Oper) (l : List Oper) : T AV → Mem → Rs :=
  List.rec (motive := fun _ => T AV → Mem → Rs) (fun L M => .one .normal L M) (fun o _ k => opStep E self n ops o k) l
abbrev CoF := Env → Self → Nat → T AV → Mem → Rs
def cSkip : CoF := fun _ _ _ L M => .one .normal L M
noncomputable def cRegion (_id : Nat) (ops : Array Oper) (draw : Bool) : CoF := fun E self n L M => match draw with
  | false => evOps E self n ops ops.toList L M
  | true => evDraw E self n ops L M
def cSeq (x y : Code) : CoF := fun _ self n L M => (self n (.code x) L M).bind fun e L1 M1 => match e with
  | .normal => self n (.code y) L1 M1
  | e => .one e L1 M1
noncomputable def cCond (c : Operand) (x y : Code) : CoF := fun E self n L M => match aev c E L with
  | some (.bool true) => self n (.code x) L M
  | some (.bool false) => self n (.code y) L M
  | _ => .no
def cBlock (id : Nat) (x : Code) : CoF := fun _ self n L M => (self n (.code x) L M).bind fun e L1 M1 => match e with
  | .exit j => match Nat.beq j id with
    | true => .one .normal L1 M1
    | false => .one (.exit j) L1 M1
  | e => .one e L1 M1
def cLoop (x : Code) : CoF := fun _ self n L M => self n (.loop x) L M
def cExit (id : Nat) : CoF := fun _ _ _ L M => .one (.exit id) L M
def cRet : CoF := fun _ _ _ L M => .one .ret L M
def cNo : CoF := fun _ _ _ _ _ => .no
noncomputable def cScope (c : Code) : CoF := fun _ self n L M => self n (.code c) L M
noncomputable def cRangeFunc (f : Operand) (ps : Array Nat) (asg body : Code) : CoF := fun E self n L M => match aev f E L with
  | some (.func g fi caps) => match L.get n with
    | none => go E self n L M g fi caps []
    | some (.dl ds) => go E self n L M g fi caps ds
    | _ => .no
  | _ => .no
where
  go (E : Env) (self : Self) (n : Nat) (L : T AV) (M : Mem) (g : Nat) (fi caps ds : List AV) : Rs := match anew M .dfr with
    | (d, M1) => match anew M1 (.loop L n ps.toList asg body 0 none) with
      | (i, M2) => (evCallF E self g (fi ++ .yl i :: caps) M2).bind fun _ M3 => match M3.ob i with
        | some (.loop _ _ _ _ _ st jump) => match Nat.beq st 1, jump with
          | true, _ => .no
          | false, none => .one .normal (L.set n (some (.dl (.ptr d 0 :: ds)))) (M3.wrote i none)
          | false, some x => .one x (L.set n (some (.dl (.ptr d 0 :: ds)))) (M3.wrote i none)
        | _ => .no
noncomputable def evCode (c : Code) : CoF :=
  Code.casesOn (motive := fun _ => CoF) c cSkip cRegion cSeq cCond cBlock cLoop cRangeFunc cExit cScope (fun _ => cSkip) (fun _ => cNo) cRet (fun _ => cNo)
noncomputable def evLoop (self : Self) (c : Code) (n : Nat) (L : T AV) (M : Mem) : Rs := (self n (.code c) L M).bind fun e L1 M1 => match e with
  | .normal => self n (.loop c) L1 M1
  | e => .one e L1 M1
noncomputable def tCode (c : Code) (E : Env) (self : Self) (n : Nat) (L : T AV) (M : Mem) : Rs := evCode c E self n L M
noncomputable def tLoop (c : Code) (_E : Env) (self : Self) (n : Nat) (L : T AV) (M : Mem) : Rs := evLoop self c n L M
noncomputable def stepT (E : Env) (self : Self) (n : Nat) (t : Task) (L : T AV) (M : Mem) : Rs :=
  Task.casesOn (motive := fun _ => Env → Self → Nat → T AV → Mem → Rs) t tCode tLoop E self n L M
noncomputable def ev (E : Env) (k : Nat) : Self := Nat.rec (motive := fun _ => Self) (fun _ _ _ _ => .no) (fun _ self => stepT E self) k
noncomputable def run (E : Env) (k : Nat) (f : Nat) (args : List AV) (M : Mem) : R1 := evCallF E (ev E k) f args M
end GrG
