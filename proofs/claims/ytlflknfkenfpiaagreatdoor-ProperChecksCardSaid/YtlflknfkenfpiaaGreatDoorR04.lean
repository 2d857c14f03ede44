/-
  Texts of one claim, merged.
-/
import Derived.Test.YtlflknfkenfpiaaGreatDoorR03
set_option linter.unusedSimpArgs false
set_option linter.unusedVariables false
namespace GrG
open Go
abbrev OM := Option (AV × Mem)
noncomputable def newRow (ty : Option Nat) (M : Mem) (l : List AV) (k : Nat → Mem → OM) : OM := match anew M (.row ty (T.ofA l)) with
  | (i, M') => k i M'
noncomputable def emake (E : Env) (M : Mem) (t : Nat) (x y : AV) : OM := match x, y with
  | .int _ (.ofNat l), .int _ (.ofNat c) => match E.tys t with
    | some ty => match ty.kind with
      | .slice e => match E.tys e with
        | some ey => match Nat.ble l c, Nat.ble c 1000000, Nat.ble (ey.bytes * c) 281474976710656, Nat.blt 0 ey.size, Nat.beq ey.zero.length ey.size with
          | true, true, true, true, true => fN l fun l => fN c fun c => newRow (some e) M (zmk ey.zero ey.size (c * ey.size)) fun i M' => some (.slice i 0 l c true ey.size, M')
          | _, _, _, _, _ => none
        | none => none
      | _ => none
    | none => none
  | _, _ => none
noncomputable def ebs (E : Env) (M : Mem) (t len : Nat) (l : List (Nat × AV)) : OM := match E.tys t with
  | some ty => match ty.kind with
    | .slice e => match E.tys e with
      | some ey => match Nat.ble (len * ey.size) 1000000, Nat.blt 0 ey.size, Nat.beq ey.zero.length ey.size with
        | true, true, true => match efill (fun i => some (i * ey.size, ey.size)) (zmk ey.zero ey.size (len * ey.size)) l with
          | some r => match Nat.beq r.length (len * ey.size) with
            | true => newRow none M r fun i M' => some (.slice i 0 len len true ey.size, M')
            | false => none
          | none => none
        | _, _, _ => none
      | none => none
    | _ => none
  | none => none
noncomputable def esrc (M : Mem) (size : Nat) : AV → Option (List AV × Nat × Mem)
  | .nils => some ([], 0, M)
  | .emp => some ([], 0, M)
  | .slice i o len _ _ es => match Nat.beq es size, M.row i with
    | true, some (_, c) => match getN c o (len * size) with
      | some l => some (l, len, M.saw i)
      | none => none
    | _, _ => none
  | .str l => match Nat.beq size 1 with
    | true => some (l.map fun x => .int .u8 (.ofNat x), l.length, M)
    | false => none
  | _ => none
noncomputable def egrow (ty : Option Nat) (M : Mem) (ey : TyI) (need c : Nat) (l : List AV) : OM :=
  match Nat.ble need 1000000, Nat.ble (c * ey.bytes) 281474976710656, Nat.beq ey.zero.length ey.size with
  | true, true, true => fN need fun need => newRow ty M l fun i M' => some (.slice i 0 need need false ey.size, M')
  | _, _, _ => none
def gTy (t : Option Nat) (o e : Nat) : Option Nat := match t, Nat.beq o 0 with
  | some u, true => match Nat.beq u e with
    | true => some e
    | false => none
  | _, _ => none
noncomputable def growTy (t : Option Nat) (o e : Nat) (k : Option Nat → OM) : OM := match gTy t o e with
  | some u => k (some u)
  | none => k none
noncomputable def eappTo (e : Nat) (ey : TyI) (M : Mem) (sA : AV) (new : List AV) (k : Nat) : OM := match sA with
  | .nils => match Nat.beq k 0 with
    | true => some (.nils, M)
    | false => egrow (some e) M ey k (Builtin.nextslicecap k 0) new
  | .slice i o len cap ex es => match Nat.beq es ey.size, M.row i with
    | true, some (t, c) => match Nat.ble (len + k) cap with
      | true => match new.all scalar, putN c (o + len * es) new with
        | true, some c' => fN (len + k) fun len' => some (.slice i o len' cap ex es, M.wrote i (some (.row t c')))
        | _, _ => none
      | false => match getN c o (len * es) with
        | some old => match ex with
          | true => egrow (some e) (M.saw i) ey (len + k) (Builtin.nextslicecap (len + k) cap) (old ++ new)
          | false => match new.all scalar with
            | true => growTy t o e fun ty => egrow ty (M.wrote i none) ey (len + k) (4 * (len + k) + 4000) (old ++ new)
            | false => none
        | none => none
    | _, _ => none
  | _ => none
noncomputable def eapp (E : Env) (M : Mem) (st xt : Nat) (sA xA : AV) : OM := match E.tys st, E.tys xt with
  | some sy, some xy => match sy.kind, xy.kind.isInt with
    | .slice e, false => match E.tys e with
      | some ey => match esrc M ey.size xA, Nat.beq ey.zero.length ey.size with
        | some (new, k, M1), true => eappTo e ey M1 sA new k
        | _, _ => none
      | none => none
    | .slice e, true => match E.tys e, xA with
      | some ey, .int _ (.ofNat k) => match Nat.ble k 1000000, Nat.ble (k * ey.bytes) 281474976710656, Nat.blt 0 ey.size, Nat.beq ey.zero.length ey.size with
        | true, true, true, true => fN k fun k => eappTo e ey M sA (zmk ey.zero ey.size (k * ey.size)) k
        | _, _, _, _ => none
      | _, _ => none
    | _, _ => none
  | _, _ => none
noncomputable def efirst (M : Mem) (size n : Nat) : AV → Option (List AV × Mem)
  | .nils => some ([], M)
  | .emp => match n with
    | 0 => some ([], M)
    | _ => none
  | .slice i o _ _ _ es => match Nat.beq es size, M.row i with
    | true, some (_, c) => match getN c o (n * size) with
      | some l => some (l, M.saw i)
      | none => none
    | _, _ => none
  | .str l => match Nat.beq size 1 with
    | true => some ((l.take n).map fun x => .int .u8 (.ofNat x), M)
    | false => none
  | _ => none
def elenS : AV → Option Nat
  | .nils => some 0
  | .emp => some 0
  | .slice _ _ n _ _ _ => some n
  | .str l => some l.length
  | _ => none
noncomputable def ecopy (E : Env) (M : Mem) (st : Nat) (x y : AV) : OM := match E.tys st with
  | some sy => match sy.kind with
    | .slice e => match E.tys e, elenS y with
      | some ey, some k => match x with
        | .nils => match efirst M ey.size 0 y with
          | some (_, M1) => some (.int .i64 (.ofNat 0), M1)
          | none => none
        | .slice i o len _ _ es => fN (Nat.min k len) fun n => match efirst M ey.size n y with
          | some (new, M1) => match Nat.beq es ey.size, M1.row i, new.all scalar with
            | true, some (t, c), true => match putN c o new with
              | some c' => some (.int .i64 (.ofNat n), M1.wrote i (some (.row t c')))
              | none => none
            | _, _, _ => none
          | none => none
        | _ => none
      | _, _ => none
    | _ => none
  | none => none
def zval (ty : TyI) : Option AV := match ty.kind.agg with
  | true => some (.agg ty.zero)
  | false => match ty.zero with
    | [v] => some v
    | _ => none
def mfind (k : AV) : List En → Option (Option En)
  | [] => some none
  | e :: l => match keq k e.key with
    | some true => some (some e)
    | some false => mfind k l
    | none => none
def mins (e : En) : List En → List En
  | [] => [e]
  | a :: l => match klt e.key a.key with
    | true => e :: a :: l
    | false => a :: mins e l
def mput (e : En) : List En → List En
  | [] => []
  | a :: l => match keq e.key a.key with
    | some true => e :: l
    | _ => a :: mput e l
def mlab (j : Nat) : List En → Option En
  | [] => none
  | a :: l => match a.lab with
    | some i => match Nat.beq i j with
      | true => some a
      | false => mlab j l
    | none => mlab j l
noncomputable def Mem.emap (M : Mem) (i : Nat) : Option (List En × Option Nat) := match M.ob i with
  | some (.map es ck) => some (es, ck)
  | _ => none
def bare (M : Mem) (k : Nat → Mem → OM) : OM := fN M.next fun j => k j ⟨M.objs, j + 1, M.rd, M.wr⟩
noncomputable def mtys (E : Env) (t : Nat) : Option (AV × TyI) := match E.tys t with
  | some ty => match ty.kind with
    | .map kt vt => match E.tys kt, E.tys vt with
      | some ky, some vy => match zval vy with
        | some z => some (z, ky)
        | none => none
      | _, _ => none
    | _ => none
  | none => none
def pkey (ky : TyI) (k : AV) : Bool := match ky.plain with
  | some ks => match ky.kind.agg, k with
    | true, .agg l => fits ks l
    | true, _ => false
    | false, .agg _ => false
    | false, k => fits ks [k]
  | none => false
noncomputable def emakeMap (M : Mem) : OM := match anew M (.map [] none) with
  | (i, M') => some (.map i, M')
noncomputable def elookup (E : Env) (M : Mem) (t : Nat) (x k : AV) (ok : Bool) : OM := match mtys E t with
  | some (z, ky) => match pkey ky k with
    | true => match x with
      | .nilm => match ok with
        | true => some (.tup [z, .bool false], M)
        | false => some (z, M)
      | .map i => match M.emap i with
        | some (es, _) => match mfind k es, ok with
          | some (some e), true => some (.tup [e.val, .bool true], M.saw i)
          | some (some e), false => some (e.val, M.saw i)
          | some none, true => some (.tup [z, .bool false], M.saw i)
          | some none, false => some (z, M.saw i)
          | none, _ => none
        | none => none
      | _ => none
    | false => none
  | none => none
noncomputable def emapUpdate (E : Env) (M : Mem) (t : Nat) (x k v : AV) : Option Mem := match mtys E t with
  | some (_, ky) => match pkey ky k, x with
    | true, .map i => match M.emap i with
      | some (es, ck) => match mfind k es with
        | some (some e) => some (M.wrote i (some (.map (mput ⟨e.lab, e.key, v⟩ es) ck)))
        | some none => some (M.wrote i (some (.map (mins ⟨none, k, v⟩ es) none)))
        | none => none
      | none => none
    | _, _ => none
  | none => none
noncomputable def emapEntry (E : Env) (M : Mem) (t : Nat) (x k : AV) : OM := match mtys E t with
  | some (z, ky) => match pkey ky k, x with
    | true, .map i => match M.emap i with
      | some (es, ck) => match mfind k es with
        | some (some e) => match e.lab with
          | some j => some (.tup [e.val, .stamp j], M.wrote i (some (.map es ck)))
          | none => bare M fun j M1 => some (.tup [e.val, .stamp j], M1.wrote i (some (.map (mput ⟨some j, e.key, e.val⟩ es) ck)))
        | some none => bare M fun j M1 => some (.tup [z, .stamp j], M1.wrote i (some (.map (mins ⟨some j, k, z⟩ es) none)))
        | none => none
      | none => none
    | _, _ => none
  | none => none
noncomputable def eentryStore (M : Mem) (x st v : AV) : Option Mem := match x, st with
  | .map i, .stamp j => match M.emap i with
    | some (es, ck) => match mlab j es with
      | some e => match keq e.key e.key with
        | some true => some (M.wrote i (some (.map (mput ⟨e.lab, e.key, v⟩ es) ck)))
        | _ => none
      | none => none
    | none => none
  | _, _ => none
def memN (i : Nat) : List Nat → Bool
  | [] => false
  | a :: l => match Nat.beq a i with
    | true => true
    | false => memN i l
def mmark : Nat → List En → Nat × List En × List Nat
  | j, [] => (j, [], [])
  | j, e :: l => match e.lab with
    | some i => match mmark j l with
      | (j', es, ls) => (j', e :: es, i :: ls)
    | none => fN j fun j => match mmark (j + 1) l with
      | (j', es, ls) => (j', ⟨some j, e.key, e.val⟩ :: es, j :: ls)
noncomputable def erange (E : Env) (M : Mem) (t : Nat) (x : AV) : OM := match E.tys t with
  | some ty => match ty.kind, x with
    | .map _ _, .nilm => match anew M (.iter none [] [] none) with
      | (j, M1) => some (.ptr j 0, M1)
    | .map _ _, .map i => match M.emap i with
      | some (es, ck) => match mmark M.next es with
        | (nx, es', ls) => fN nx fun nx => match anew (Mem.wrote ⟨M.objs, nx, M.rd, M.wr⟩ i (some (.map es' ck))) (.iter (some i) ls [] none) with
          | (j, M1) => some (.ptr j 0, M1)
      | none => none
    | _, _ => none
  | none => none
def mleft (olds seen : List Nat) : List En → Option (List (Nat × En))
  | [] => some []
  | e :: l => match e.lab with
    | some j => match memN j olds, mleft olds seen l with
      | true, some m => match memN j seen with
        | true => some m
        | false => some ((j, e) :: m)
      | _, _ => none
    | none => none
def mlabs : List En → List Nat
  | [] => []
  | e :: l => match e.lab with
    | some j => j :: mlabs l
    | none => mlabs l
def subN : List Nat → List Nat → Bool
  | [], _ => true
  | a :: l, m => match memN a m with
    | true => subN l m
    | false => false
noncomputable def enextA (M : Mem) (r i c : Nat) (olds seen : List Nat) : List (Nat × En) → List (AV × Mem)
  | [] => []
  | p :: l => (.tup [.bool true, p.2.key, p.2.val], M.wrote r (some (.iter (some i) olds (seen ++ [p.1]) (some c)))) :: enextA M r i c olds seen l
noncomputable def enext (M : Mem) (x : AV) : Option (List (AV × Mem)) := match x with
  | .ptr r 0 => match M.ob r with
    | some (.iter none _ _ _) => some [(.tup [.bool false], M.saw r)]
    | some (.iter (some i) olds seen _) => match M.emap i with
      | some (es, ck) => match mleft olds seen es with
        | some [] => some [(.tup [.bool false], (M.saw r).saw i)]
        | some l => match subN olds (mlabs es), ck with
          | true, some c => some (enextA (M.saw i) r i c olds seen l)
          | true, none => fN M.next fun c => some (enextA (Mem.wrote ⟨M.objs, c + 1, M.rd, M.wr⟩ i (some (.map es (some c)))) r i c olds seen l)
          | false, _ => none
        | none => none
      | none => none
    | _ => none
  | _ => none
def last? : List Nat → Option Nat
  | [] => none
  | [a] => some a
  | _ :: l => last? l
noncomputable def eentry (M : Mem) (x : AV) : OM := match x with
  | .ptr r 0 => match M.ob r with
    | some (.iter (some i) _ seen (some c)) => match M.emap i, last? seen with
      | some (es, some c'), some j => match Nat.beq c c', mlab j es with
        | true, some e => some (.tup [e.key, e.val], (M.saw r).saw i)
        | _, _ => none
      | _, _ => none
    | _ => none
  | _ => none
def mapsOn : Bool := true
def mp {α : Type} (x : Option α) : Option α := match mapsOn with
  | true => x
  | false => none
noncomputable def elen (E : Env) (M : Mem) (t : Nat) (x : AV) : OM := match E.tys t with
  | some ty => match ty.kind, x with
    | .str, .str l => some (.int .i64 (.ofNat l.length), M)
    | .array n _, _ => some (.int .i64 (.ofNat n), M)
    | .slice _, .nils => some (.int .i64 (.ofNat 0), M)
    | .slice _, .emp => some (.int .i64 (.ofNat 0), M)
    | .slice _, .slice _ _ n _ _ _ => some (.int .i64 (.ofNat n), M)
    | .map _ _, .nilm => some (.int .i64 (.ofNat 0), M)
    | .map _ _, .map i => match M.emap i with
      | some (es, _) => some (.int .i64 (.ofNat es.length), M.saw i)
      | none => none
    | _, _ => none
  | none => none
noncomputable def ecap (E : Env) (M : Mem) (t : Nat) (x : AV) : OM := match E.tys t with
  | some ty => match ty.kind, x with
    | .slice _, .nils => some (.int .i64 (.ofNat 0), M)
    | .slice _, .slice _ _ _ c true _ => some (.int .i64 (.ofNat c), M)
    | .slice _, .slice _ _ _ c false _ => some (.atl c, M)
    | _, _ => none
  | none => none
def findB (c : Nat) : List Nat → Nat → Option Nat
  | [], _ => none
  | a :: l, i => match Nat.beq a c with
    | true => some i
    | false => findB c l (i + 1)
def pref : List Nat → List Nat → Bool
  | [], _ => true
  | a :: l, b :: m => match Nat.beq a b with
    | true => pref l m
    | false => false
  | _, _ => false
def findS (t : List Nat) : List Nat → Nat → Option Nat
  | [], i => match t with
    | [] => some i
    | _ => none
  | a :: l, i => match pref t (a :: l) with
    | true => some i
    | false => findS t l (i + 1)
def xIndexByte (l : List AV) : Option AV := match l with
  | [.str s, .int .u8 (.ofNat c)] => match Nat.blt c 256, findB c s 0 with
    | true, some i => some (.int .i64 (.ofNat i))
    | true, none => some (.int .i64 (.negSucc 0))
    | false, _ => none
  | _ => none
def xIndex (l : List AV) : Option AV := match l with
  | [.str s, .str t] => match findS t s 0 with
    | some i => some (.int .i64 (.ofNat i))
    | none => some (.int .i64 (.negSucc 0))
  | _ => none
def xAdd64 (l : List AV) : Option AV := match l with
  | [.int .u64 (.ofNat x), .int .u64 (.ofNat y), .int .u64 (.ofNat c)] => match Nat.ble c 1 with
    | false => none
    | true => some (.tup [.int .u64 (.ofNat ((x + y + c) % 18446744073709551616)), .int .u64 (.ofNat ((x + y + c) / 18446744073709551616))])
  | _ => none
noncomputable def xOverlaps (es : Nat) (M : Mem) (l : List AV) : OM := match l with
  | [.slice i o n _ _ s, .slice j p m _ _ t] => match Nat.beq s es, Nat.beq t es, Nat.ble 1 n, Nat.ble 1 m, Nat.ble 1 es with
    | true, true, true, true, true => match M.row i, M.row j with
      | some _, some (_, d) => match d.get p with
        | some _ => match Nat.beq i j with
          | true => some (.bool (Nat.blt o (p + m * es) && Nat.blt p (o + n * es)), (M.saw i).saw j)
          | false => some (.bool false, (M.saw i).saw j)
        | none => none
      | _, _ => none
    | _, _, _, _, _ => none
  | _ => none
def om (M : Mem) : Option AV → OM
  | some v => some (v, M)
  | none => none
def bytesOf : List AV → Option (List Nat)
  | [] => some []
  | a :: l => match a, bytesOf l with
    | .int .u8 (.ofNat x), some m => match Nat.blt x 256 with
      | true => some (x :: m)
      | false => none
    | _, _ => none
noncomputable def cvTo (E : Env) (M : Mem) (e : Nat) (v : AV) : OM := match v with
  | .ptr i o => match M.row i, E.tys e with
    | some (_, c), some ey => match c.get o, Nat.beq ey.size 0 with
      | some _, false => some (.ptr i o, M.saw i)
      | _, _ => none
    | _, _ => none
  | _ => none
noncomputable def cvOf (E : Env) (M : Mem) (w : Nat) (v : AV) : OM := match v with
  | .ptr i o => match M.row i, E.tys w with
    | some (some k, c), some _ => match E.tys k with
      | some ky => match Nat.blt 0 ky.size, c.get (o / ky.size * ky.size + (ky.size - 1)), E.lies k o w with
        | true, some _, true => some (.ptr i o, M.saw i)
        | _, _, _ => none
      | none => none
    | _, _ => none
  | _ => none
noncomputable def cvStr (E : Env) (M : Mem) (e : Nat) (v : AV) : OM := match E.tys e with
  | some ey => match ey.kind with
    | .int .u8 => match v with
      | .nils => some (.str [], M)
      | .slice i o len _ _ _ => match M.row i with
        | some (_, c) => match getN c o len with
          | some l => match bytesOf l with
            | some bs => some (.str bs, M.saw i)
            | none => none
          | none => none
        | none => none
      | _ => none
    | _ => none
  | none => none
noncomputable def econvU (E : Env) (M : Mem) (t u : Nat) (v : AV) : OM := match E.tys t, E.tys u with
  | some sy, some d => match sy.kind, d.kind with
    | .ptr e, .uptr => cvTo E M e v
    | .uptr, .ptr w => cvOf E M w v
    | .slice e, .str => cvStr E M e v
    | _, _ => none
  | _, _ => none
def eslData : AV → Option AV
  | .nils => some .nilp
  | .slice i o _ cap _ _ => match Nat.blt 0 cap with
    | true => some (.ptr i o)
    | false => none
  | _ => none
noncomputable def eustr (E : Env) (M : Mem) (t : Nat) (x y : AV) : OM := match y with
  | .int .i64 (.ofNat n) => match x, Nat.beq n 0 with
    | .nilp, true => some (.str [], M)
    | .ptr _ _, true => some (.str [], M)
    | .ptr i 0, false => match E.tys t, M.row i, Nat.ble n 1000000 with
      | some ty, some (some k, c), true => match ty.kind with
        | .ptr e => match Nat.beq e k, E.tys e, getN c 0 n with
          | true, some ey, some l => match Nat.beq ey.size 1, bytesOf l with
            | true, some bs => some (.str bs, M.wrote i none)
            | _, _ => none
          | _, _, _ => none
        | _ => none
      | _, _, _ => none
    | _, _ => none
  | _ => none
def xSame (l : List AV) : Option AV := match l with
  | [v] => match isBad v with
    | true => none
    | false => some v
  | _ => none
noncomputable def ext (x : Xk) (l : List AV) (M : Mem) : OM := match x with
  | .indexByteString => om M (xIndexByte l)
  | .indexString g => match M.row g, l with
    | some (_, c), [.str s, .str t] => match c.get 0, Nat.ble 2 t.length, Nat.blt s.length 4294967281 with
      | some (.atl k), true, true => match Nat.ble t.length k with
        | true => om (M.saw g) (xIndex [.str s, .str t])
        | false => none
      | _, _, _ => none
    | _, _ => none
  | .add64 => om M (xAdd64 l)
  | .overlaps es => xOverlaps es M l
  | .same => om M (xSame l)
end GrG
