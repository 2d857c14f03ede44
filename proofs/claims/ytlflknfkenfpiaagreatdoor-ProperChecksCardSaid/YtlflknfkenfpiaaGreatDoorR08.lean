/-
  Texts of one claim, merged.
-/
import Derived.Test.YtlflknfkenfpiaaGreatDoorR06
import Derived.Below
import Derived.RangeFuncRecord
set_option linter.unusedSimpArgs false
set_option linter.unusedVariables false
namespace GrG
open Go
abbrev Sg := Nat → Option (Nat × Nat × Nat)
def sB (s : List Nat) : ByteArray := ⟨(s.map UInt8.ofNat).toArray⟩
mutual
inductive VRel (σ : Sg) : AV → Value → Prop
  | bool (b : Bool) : VRel σ (.bool b) (.bool b)
  | int (k : IntKind) (n : Int) : VRel σ (.int k n) (.int k n)
  | str (s : List Nat) : (∀ x ∈ s, x < 256) → VRel σ (.str s) (.string (sB s))
  | nilp : VRel σ .nilp (.pointer none)
  | ptr {i o b f z : Nat} : σ i = some (b, f, z) → VRel σ (.ptr i o) (.pointer (some ⟨b, f + o, none⟩))
  | nils : VRel σ .nils (.slice none 0 0)
  | slice {i o len cap es b f z c : Nat} {ex : Bool} : σ i = some (b, f, z) → (ex = true → c = cap) → cap ≤ c → len ≤ cap → (ex = false → f + o + c * es ≤ z) → VRel σ (.slice i o len cap ex es) (.slice (some ⟨b, f + o, none⟩) len c)
  | agg {l : List AV} {vs : List Value} : LRel σ l vs → VRel σ (.agg l) (.agg vs.toArray)
  | tup {l : List AV} {vs : List Value} : LRel σ l vs → VRel σ (.tup l) (.tuple vs.toArray)
  | nilf : VRel σ .nilf .nilFunc
  | func {f : Nat} {fi l : List AV} {us vs : List Value} : LRel σ fi us → LRel σ l vs → VRel σ (.func f fi l) (.func (.func f) us.toArray vs.toArray)
  | nilm : VRel σ .nilm (.map none)
  | map {i b f z : Nat} : σ i = some (b, f, z) → VRel σ (.map i) (.map (some b))
  | nili : VRel σ .nili .nilIface
  | iface {t : Nat} {a : AV} {v : Value} : VRel σ a v → VRel σ (.iface t a) (.iface t v)
  | yl {i b f z : Nat} : σ i = some (b, f, z) → VRel σ (.yl i) (.func (.yield b) #[] #[])
  | stamp {i b f z : Nat} : σ i = some (b, f, z) → VRel σ (.stamp i) (.int .i64 (.ofNat b))
  | any (k : IntKind) (n : Int) : VRel σ (.any k) (.int k n)
  | atl {n c : Nat} : n ≤ c → VRel σ (.atl n) (.int .i64 (.ofNat c))
  | les {n : Nat} {c : Int} : c < n → VRel σ (.les n) (.int .i64 c)
  | ns {l : List (List Nat)} {s : ByteArray} : (∀ t ∈ l, (s.toList == (sB t).toList) = false) → VRel σ (.ns l) (.string s)
  | bad (v : Value) : VRel σ .bad v
  | emp (a : Addr) (c : Nat) : VRel σ .emp (.slice (some a) 0 c)
  | dl (ds : List AV) (v : Value) : VRel σ (.dl ds) v
  | rd (v : Value) : VRel σ .rd v
inductive LRel (σ : Sg) : List AV → List Value → Prop
  | nil : LRel σ [] []
  | cons {a : AV} {v : Value} {l : List AV} {vs : List Value} : VRel σ a v → LRel σ l vs → LRel σ (a :: l) (v :: vs)
end
def Sg.le (σ τ : Sg) : Prop := ∀ i x, σ i = some x → τ i = some x
theorem Sg.le.refl (σ : Sg) : σ.le σ := fun _ _ h => h
theorem Sg.le.trans {σ τ υ : Sg} (h : σ.le τ) (k : τ.le υ) : σ.le υ := fun i x e => k i x (h i x e)
mutual
theorem VRel.mono {σ τ : Sg} (h : σ.le τ) : ∀ {a : AV} {v : Value}, VRel σ a v → VRel τ a v
  | _, _, .bool b => .bool b
  | _, _, .int k n => .int k n
  | _, _, .str s h => .str s h
  | _, _, .nilp => .nilp
  | _, _, .ptr e => .ptr (h _ _ e)
  | _, _, .nils => .nils
  | _, _, .slice e a b c d => .slice (h _ _ e) a b c d
  | _, _, .agg l => .agg (LRel.mono h l)
  | _, _, .tup l => .tup (LRel.mono h l)
  | _, _, .nilf => .nilf
  | _, _, .func k l => .func (LRel.mono h k) (LRel.mono h l)
  | _, _, .nilm => .nilm
  | _, _, .map e => .map (h _ _ e)
  | _, _, .nili => .nili
  | _, _, .iface x => .iface (VRel.mono h x)
  | _, _, .yl e => .yl (h _ _ e)
  | _, _, .stamp e => .stamp (h _ _ e)
  | _, _, .any k n => .any k n
  | _, _, .atl e => .atl e
  | _, _, .les e => .les e
  | _, _, .ns e => .ns e
  | _, _, .bad v => .bad v
  | _, _, .emp a c => .emp a c
  | _, _, .dl ds v => .dl ds v
  | _, _, .rd v => .rd v
theorem LRel.mono {σ τ : Sg} (h : σ.le τ) : ∀ {l : List AV} {vs : List Value}, LRel σ l vs → LRel τ l vs
  | _, _, .nil => .nil
  | _, _, .cons a l => .cons (VRel.mono h a) (LRel.mono h l)
end
theorem LRel.length {σ : Sg} : ∀ {l : List AV} {vs : List Value}, LRel σ l vs → l.length = vs.length
  | _, _, .nil => rfl
  | _, _, .cons _ h => congrArg (· + 1) h.length
theorem LRel.get {σ : Sg} : ∀ {l : List AV} {vs : List Value} (_ : LRel σ l vs) {i : Nat} {a : AV}, l[i]? = some a → ∃ v, vs[i]? = some v ∧ VRel σ a v
  | _, _, .nil, i, a, h => by simp at h
  | _, _, .cons ha hl, 0, a, h => by
    simp only [List.getElem?_cons_zero, Option.some.injEq] at h
    subst h
    exact ⟨_, rfl, ha⟩
  | _, _, .cons ha hl, i + 1, a, h => by
    simp only [List.getElem?_cons_succ] at h ⊢
    exact hl.get h
theorem LRel.app {σ : Sg} : ∀ {l : List AV} {vs : List Value} {m : List AV} {us : List Value}, LRel σ l vs → LRel σ m us → LRel σ (l ++ m) (vs ++ us)
  | _, _, _, _, .nil, k => k
  | _, _, _, _, .cons a h, k => .cons a (h.app k)
theorem LRel.take {σ : Sg} : ∀ {l : List AV} {vs : List Value} (n : Nat), LRel σ l vs → LRel σ (l.take n) (vs.take n)
  | _, _, 0, _ => by simp only [List.take_zero]; exact .nil
  | _, _, n + 1, .nil => by simp only [List.take_nil]; exact .nil
  | _, _, n + 1, .cons a h => by simp only [List.take_succ_cons]; exact .cons a (h.take n)
theorem LRel.drop {σ : Sg} : ∀ {l : List AV} {vs : List Value} (n : Nat), LRel σ l vs → LRel σ (l.drop n) (vs.drop n)
  | _, _, 0, h => by simpa using h
  | _, _, n + 1, .nil => by simp only [List.drop_nil]; exact .nil
  | _, _, n + 1, .cons a h => by simp only [List.drop_succ_cons]; exact h.drop n
theorem VRel.cells {σ : Sg} {a : AV} {v : Value} (h : VRel σ a v) (hb : isBad a = false) : LRel σ a.cells v.cells.toList := by
  cases h <;> first | (cases hb; done) | (show LRel σ _ _; simp only [AV.cells, Value.cells]; assumption) | exact .cons (by constructor <;> assumption) .nil
theorem sB_toNat (s : ByteArray) : sB (s.data.toList.map UInt8.toNat) = s := by
  unfold sB
  rw [List.map_map, show (UInt8.ofNat ∘ UInt8.toNat) = id from funext fun x => by simp]
  simp
theorem VRel.str' {σ : Sg} (s : ByteArray) : VRel σ (.str (s.data.toList.map UInt8.toNat)) (.string s) := by
  have := VRel.str (σ := σ) (s.data.toList.map UInt8.toNat) (fun x hx => by
    obtain ⟨u, _, rfl⟩ := List.mem_map.1 hx
    exact u.toNat_lt)
  rw [sB_toNat] at this
  exact this
theorem ofConst_rel {σ : Sg} {v : Value} {a : AV} (h : ofConst v = some a) : VRel σ a v := by
  unfold ofConst at h
  split at h <;> first
    | (simp only [Option.some.injEq] at h; subst h; first | exact .bool _ | exact .int _ _ | exact .nilp | exact .nils | exact .nilf | exact .nilm | exact .nili | exact .str' _)
    | cases h
theorem VRel.slice_inv {σ : Sg} {i o len cap es : Nat} {ex : Bool} {v : Value} (h : VRel σ (.slice i o len cap ex es) v) :
    ∃ b f z c, v = .slice (some ⟨b, f + o, none⟩) len c ∧ σ i = some (b, f, z) ∧ (ex = true → c = cap) ∧ cap ≤ c ∧ len ≤ cap ∧ (ex = false → f + o + c * es ≤ z) := by
  cases h with
  | slice a b c d e => exact ⟨_, _, _, _, rfl, a, b, c, d, e⟩
theorem VRel.str_inv {σ : Sg} {s : List Nat} {v : Value} (h : VRel σ (.str s) v) : v = .string (sB s) ∧ ∀ x ∈ s, x < 256 := by
  cases h with
  | str _ h => exact ⟨rfl, h⟩
theorem VRel.ptr_inv {σ : Sg} {i o : Nat} {v : Value} (h : VRel σ (.ptr i o) v) : ∃ b f z, v = .pointer (some ⟨b, f + o, none⟩) ∧ σ i = some (b, f, z) := by
  cases h with
  | ptr h => exact ⟨_, _, _, rfl, h⟩
theorem VRel.agg_inv {σ : Sg} {l : List AV} {v : Value} (h : VRel σ (.agg l) v) : ∃ vs : List Value, v = .agg vs.toArray ∧ LRel σ l vs := by
  cases h with
  | agg h => exact ⟨_, rfl, h⟩
end GrG
namespace GrG
open Go Go.RowKit
abbrev Fm := Nat → Option Ob
def Ex.code : Ex → Option Code
  | .normal => none
  | .ret => some .ret
  | .exit id => some (.exit id)
def stOf : Nat → LoopState
  | 0 => .ready
  | 1 => .busy
  | 2 => .done
  | _ => .exhausted
def Mk (σ : Sg) (j x : Nat) : Prop := ∃ f z, σ j = some (x, f, z)
theorem Mk.mono {σ τ : Sg} (h : σ.le τ) {j x : Nat} : Mk σ j x → Mk τ j x := fun ⟨f, z, e⟩ => ⟨f, z, h _ _ e⟩
theorem Mk.inj {σ : Sg} {j x y : Nat} (h : Mk σ j x) (k : Mk σ j y) : x = y := by
  obtain ⟨f, z, e⟩ := h
  obtain ⟨g, u, q⟩ := k
  rw [e] at q
  cases q
  rfl
structure ERel (σ : Sg) (e : En) (w : MapEntry) : Prop where
  key : VRel σ e.key w.key
  val : VRel σ e.val w.val
  lab : ∀ j, e.lab = some j → Mk σ j w.born
theorem ERel.mono {σ τ : Sg} (h : σ.le τ) {e : En} {w : MapEntry} (k : ERel σ e w) : ERel τ e w := ⟨k.key.mono h, k.val.mono h, fun j q => (k.lab j q).mono h⟩
inductive ELRel (σ : Sg) : List En → List MapEntry → Prop
  | nil : ELRel σ [] []
  | cons {e : En} {w : MapEntry} {l : List En} {m : List MapEntry} : ERel σ e w → ELRel σ l m → ELRel σ (e :: l) (w :: m)
theorem ELRel.mono {σ τ : Sg} (h : σ.le τ) : ∀ {l : List En} {m : List MapEntry}, ELRel σ l m → ELRel τ l m
  | _, _, .nil => .nil
  | _, _, .cons a k => .cons (a.mono h) (ELRel.mono h k)
structure MRel (σ : Sg) (es : List En) (ck : Option Nat) (ws : List MapEntry) (clock : Nat) : Prop where
  perm : ∃ vs, vs.Perm ws ∧ ELRel σ es vs
  keys : es.Pairwise fun a b => keq a.key b.key = some false
  born : ws.Pairwise fun a b => a.born ≠ b.born
  old : ∀ w ∈ ws, w.born < clock
  ck : ∀ c, ck = some c → Mk σ c clock
theorem MRel.mono {σ τ : Sg} (h : σ.le τ) {es : List En} {ck : Option Nat} {ws : List MapEntry} {clock : Nat} (k : MRel σ es ck ws clock) : MRel τ es ck ws clock := by
  obtain ⟨vs, h1, h2⟩ := k.perm
  exact ⟨⟨vs, h1, h2.mono h⟩, k.keys, k.born, k.old, fun c q => (k.ck c q).mono h⟩
inductive SRel (σ : Sg) : List Nat → List Nat → Prop
  | nil : SRel σ [] []
  | cons {j x : Nat} {l m : List Nat} : Mk σ j x → SRel σ l m → SRel σ (j :: l) (x :: m)
theorem SRel.mono {σ τ : Sg} (h : σ.le τ) : ∀ {l m : List Nat}, SRel σ l m → SRel τ l m
  | _, _, .nil => .nil
  | _, _, .cons a k => .cons (a.mono h) (SRel.mono h k)
structure IRel (σ : Sg) (m : Option Nat) (ol sn : List Nat) (ck : Option Nat) (mb : Option Nat) (since : Nat) (sb : List Nat) (last : Nat) : Prop where
  map : match m with
    | none => mb = none
    | some j => ∃ b, mb = some b ∧ Mk σ j b
  seen : SRel σ sn sb
  olds : ∀ j ∈ ol, ∃ x, Mk σ j x ∧ x < since ∧ x < last
  ck : ∀ c, ck = some c → Mk σ c last
  inj : ∀ j ∈ ol, ∀ k ∈ ol, ∀ x, Mk σ j x → Mk σ k x → j = k
  sub : ∀ j ∈ sn, j ∈ ol
theorem IRel.mono {σ τ : Sg} (h : σ.le τ) {m : Option Nat} {olds seen : List Nat} {ck mb : Option Nat} {since last : Nat} {sb : List Nat} (k : IRel σ m olds seen ck mb since sb last) : IRel τ m olds seen ck mb since sb last := by
  have back : ∀ j ∈ olds, ∀ x, Mk τ j x → Mk σ j x := fun j hj x q => by
    obtain ⟨y, h1, _⟩ := k.olds j hj
    rw [← (h1.mono h).inj q]
    exact h1
  refine ⟨?_, k.seen.mono h, fun j hj => ?_, fun c q => (k.ck c q).mono h, fun j h1 i h2 x q1 q2 => k.inj j h1 i h2 x (back j h1 x q1) (back i h2 x q2), k.sub⟩
  · have := k.map
    cases m with
    | none => exact this
    | some j =>
      obtain ⟨b, h1, h2⟩ := this
      exact ⟨b, h1, h2.mono h⟩
  · obtain ⟨x, h1, h2⟩ := k.olds j hj
    exact ⟨x, h1.mono h, h2⟩
structure LoopR (σ : Sg) (L : T AV) (n : Nat) (ps : List Nat) (asg body : Code) (st : Nat) (jump : Option Ex) (r : Loop) : Prop where
  size : r.tmps.size = n
  val : ∀ t x, L.get t = some x → VRel σ x (r.tmps.getD t undef)
  params : r.params = ps.toArray
  asg : r.assign = asg
  body : r.body = body
  st : r.state = stOf st
  jump : r.pending = jump.bind Ex.code
theorem LoopR.mono {σ τ : Sg} (h : σ.le τ) {L : T AV} {n : Nat} {ps : List Nat} {asg body : Code} {st : Nat} {jump : Option Ex} {r : Loop} (k : LoopR σ L n ps asg body st jump r) : LoopR τ L n ps asg body st jump r :=
  ⟨k.size, fun t x h2 => (k.val t x h2).mono h, k.params, k.asg, k.body, k.st, k.jump⟩
def OC (σ : Sg) (f z : Nat) : Ob → Obj → Prop
  | .row ty c, o => ∃ cs t, o = .cells cs t (0, 0) ∧ (∀ u, ty = some u → t = u ∧ f = 0) ∧ cs.size = z ∧ ∀ j a, c.get j = some a → ∃ v, cs[f + j]? = some v ∧ VRel σ a v
  | .map es ck, o => f = 0 ∧ ∃ ws clock, o = .map ws clock ∧ MRel σ es ck ws.toList clock
  | .iter m olds seen ck, o => f = 0 ∧ ∃ mb since sb last, o = .mapIter mb since sb last ∧ IRel σ m olds seen ck mb since sb.toList last
  | .loop L n ps asg body st jump, o => f = 0 ∧ ∃ r, o = .loop r ∧ LoopR σ L n ps asg body st jump r
  | .dfr, o => f = 0 ∧ o = .deferred (some [])
theorem OC.mono {σ τ : Sg} (h : σ.le τ) {f z : Nat} {x : Ob} {o : Obj} (k : OC σ f z x o) : OC τ f z x o := by
  cases x with
  | row ty c =>
    obtain ⟨cs, t, h1, h0, h2, h3⟩ := k
    refine ⟨cs, t, h1, h0, h2, fun j a hj => ?_⟩
    obtain ⟨v, e1, e2⟩ := h3 j a hj
    exact ⟨v, e1, e2.mono h⟩
  | map es ck =>
    obtain ⟨h0, ws, cl, h1, h2⟩ := k
    exact ⟨h0, ws, cl, h1, h2.mono h⟩
  | iter m olds seen ck =>
    obtain ⟨h0, mb, si, sb, la, h1, h2⟩ := k
    exact ⟨h0, mb, si, sb, la, h1, h2.mono h⟩
  | loop L n ps asg body st jump =>
    obtain ⟨h0, r, h1, h2⟩ := k
    exact ⟨h0, r, h1, h2.mono h⟩
  | dfr => exact k
def ORel (σ : Sg) (W : World) (i : Nat) (x : Ob) : Prop := ∃ b f z o, σ i = some (b, f, z) ∧ W.heap[b]? = some o ∧ OC σ f z x o
structure RelM (B : World) (G : Nat) (σ : Sg) (F : Fm) (W : World) : Prop where
  rep : ∀ i o, F i = some o → ORel σ W i o
  sep : ∀ i j x y b f z b' f' z', F i = some x → F j = some y → i ≠ j → σ i = some (b, f, z) → σ j = some (b', f', z') → b ≠ b'
  high : ∀ i x b f z, G ≤ i → F i = some x → σ i = some (b, f, z) → B.heap.size ≤ b
  base : Below B.heap.size B W
def Fm.upd (F : Fm) (i : Nat) (x : Option Ob) : Fm := fun j => if j = i then x else F j
def Sg.upd (σ : Sg) (i : Nat) (x : Nat × Nat × Nat) : Sg := fun j => if j = i then some x else σ j
theorem Sg.upd_le {σ : Sg} {i : Nat} {x : Nat × Nat × Nat} (h : σ i = none) : σ.le (σ.upd i x) := fun j y e => by
  unfold Sg.upd
  split
  · next q => subst q; rw [h] at e; cases e
  · exact e
theorem Sg.upd_self {σ : Sg} {i : Nat} {x : Nat × Nat × Nat} : σ.upd i x i = some x := if_pos rfl
theorem Sg.upd_ne {σ : Sg} {i j : Nat} {x : Nat × Nat × Nat} (h : j ≠ i) : σ.upd i x j = σ j := if_neg h
theorem Fm.upd_self {F : Fm} {i : Nat} {x : Option Ob} : F.upd i x i = x := if_pos rfl
theorem Fm.upd_ne {F : Fm} {i j : Nat} {x : Option Ob} (h : j ≠ i) : F.upd i x j = F j := if_neg h
section
variable {B : World} {G : Nat} {σ τ : Sg} {F : Fm} {W U : World}
theorem ORel.lt {i : Nat} {o : Ob} {b f z : Nat} (h : ORel σ W i o) (hs : σ i = some (b, f, z)) : b < W.heap.size := by
  obtain ⟨b', f', z', x, e, hw, _⟩ := h
  rw [hs] at e
  cases e
  rcases Nat.lt_or_ge b W.heap.size with h' | h'
  · exact h'
  · rw [Array.getElem?_eq_none h'] at hw
    cases hw
theorem ORel.keep {i : Nat} {o : Ob} (h : ORel σ W i o) (hl : σ.le τ) (hw : ∀ b f z, σ i = some (b, f, z) → U.heap[b]? = W.heap[b]?) : ORel τ U i o := by
  obtain ⟨b, f, z, x, e, h1, h2⟩ := h
  exact ⟨b, f, z, x, hl _ _ e, (hw b f z e).trans h1, h2.mono hl⟩
theorem RelM.drew (h : RelM B G σ F W) : RelM B G σ F W.drew := ⟨fun i o e => (h.rep i o e).keep (.refl σ) fun _ _ _ _ => rfl, h.sep, h.high, h.base.drew⟩
theorem RelM.more (h : RelM B G σ F W) (hl : σ.le τ) : RelM B G τ F W := by
  have back : ∀ i x y, F i = some x → τ i = some y → σ i = some y := fun i x y e1 e2 => by
    obtain ⟨b, f, z, o, e, _⟩ := h.rep i x e1
    have := hl _ _ e
    rw [e2] at this
    cases this
    exact e
  exact ⟨fun i o e => (h.rep i o e).keep hl fun _ _ _ _ => rfl, fun i j x y b f z b' f' z' e1 e2 hn s1 s2 => h.sep i j x y b f z b' f' z' e1 e2 hn (back _ _ _ e1 s1) (back _ _ _ e2 s2), fun i x b f z hG e s => h.high i x b f z hG e (back _ _ _ e s), h.base⟩
theorem RelM.less (h : RelM B G σ F W) {F' : Fm} (hF : ∀ i o, F' i = some o → F i = some o) : RelM B G σ F' W :=
  ⟨fun i o e => h.rep i o (hF i o e), fun i j x y b f z b' f' z' e1 e2 => h.sep i j x y b f z b' f' z' (hF _ _ e1) (hF _ _ e2), fun i x b f z hG e => h.high i x b f z hG (hF _ _ e), h.base⟩
theorem RelM.chg (h : RelM B G σ F W) {i : Nat} {x x' : Ob} {b f z : Nat} {o' : Obj} (hF : F i = some x) (hs : σ i = some (b, f, z)) (hw : ∀ c, c ≠ b → U.heap[c]? = W.heap[c]?) (hu : U.heap[b]? = some o') (ho : OC σ f z x' o') (hb : Below B.heap.size B U) :
    RelM B G σ (F.upd i (some x')) U := by
  have old : ∀ m y, F.upd i (some x') m = some y → ∃ y', F m = some y' := fun m y e => by
    by_cases q : m = i
    · subst q; exact ⟨_, hF⟩
    · rw [Fm.upd_ne q] at e; exact ⟨y, e⟩
  refine ⟨fun j y e => ?_, fun j k y y' b1 f1 z1 b2 f2 z2 e1 e2 hn s1 s2 => ?_, fun j y b1 f1 z1 hG e s => ?_, hb⟩
  · by_cases q : j = i
    · subst q
      rw [Fm.upd_self] at e
      cases e
      exact ⟨b, f, z, o', hs, hu, ho⟩
    · rw [Fm.upd_ne q] at e
      exact (h.rep j y e).keep (.refl σ) fun b1 f1 z1 s1 => hw b1 (h.sep j i y x b1 f1 z1 b f z e hF q s1 hs)
  · obtain ⟨p, e1'⟩ := old j y e1
    obtain ⟨p', e2'⟩ := old k y' e2
    exact h.sep j k p p' b1 f1 z1 b2 f2 z2 e1' e2' hn s1 s2
  · obtain ⟨p, e'⟩ := old j y e
    exact h.high j p b1 f1 z1 hG e' s
theorem RelM.add (h : RelM B G σ F W) {i : Nat} {x : Ob} {b f z : Nat} {o : Obj} (hF : F i = none) (hs : σ i = some (b, f, z)) (hw : ∀ c, c ≠ b → U.heap[c]? = W.heap[c]?) (hu : U.heap[b]? = some o) (ho : OC σ f z x o) (hb : Below B.heap.size B U) (hB : B.heap.size ≤ b)
    (hn : ∀ j y b1 f1 z1, F j = some y → σ j = some (b1, f1, z1) → b1 ≠ b) : RelM B G σ (F.upd i (some x)) U := by
  refine ⟨fun j y e => ?_, fun j k y y' b1 f1 z1 b2 f2 z2 e1 e2 hjk s1 s2 => ?_, fun j y b1 f1 z1 hG e s => ?_, hb⟩
  · by_cases q : j = i
    · subst q
      rw [Fm.upd_self] at e
      cases e
      exact ⟨b, f, z, o, hs, hu, ho⟩
    · rw [Fm.upd_ne q] at e
      exact (h.rep j y e).keep (.refl σ) fun b1 f1 z1 s1 => hw b1 (hn j y b1 f1 z1 e s1)
  · by_cases q : j = i
    · subst q
      have q2 : k ≠ j := Ne.symm hjk
      rw [Fm.upd_ne q2] at e2
      rw [hs] at s1
      cases s1
      exact Ne.symm (hn k y' b2 f2 z2 e2 s2)
    · rw [Fm.upd_ne q] at e1
      by_cases q2 : k = i
      · subst q2
        rw [hs] at s2
        cases s2
        exact hn j y b1 f1 z1 e1 s1
      · rw [Fm.upd_ne q2] at e2
        exact h.sep j k y y' b1 f1 z1 b2 f2 z2 e1 e2 hjk s1 s2
  · by_cases q : j = i
    · subst q
      rw [hs] at s
      cases s
      exact hB
    · rw [Fm.upd_ne q] at e
      exact h.high j y b1 f1 z1 hG e s
theorem RelM.new (h : RelM B G σ F W) {i : Nat} (hF : F i = none) (hs : σ i = none) {x : Ob} {z : Nat} {o : Obj} (ho : OC (σ.upd i (W.heap.size, 0, z)) 0 z x o) :
    RelM B G (σ.upd i (W.heap.size, 0, z)) (F.upd i (some x)) (W.alloc o) := by
  have hl := Sg.upd_le (x := (W.heap.size, 0, z)) hs
  refine (h.more hl).add hF Sg.upd_self (fun c hc => ?_) (World.alloc_heap_new W o) ho (h.base.alloc h.base.size o) h.base.size fun j y b1 f1 z1 e s => ?_
  · show (W.heap.push o)[c]? = _
    rw [Array.getElem?_push, if_neg hc]
  · have := ((h.rep j y e).keep hl (fun _ _ _ _ => rfl) : ORel _ W j y).lt s
    omega
theorem RelM.cell (h : RelM B G σ F W) {i o : Nat} {ty : Option Nat} {c : T AV} {a : AV} {b f z : Nat} (hF : F i = some (.row ty c)) (hs : σ i = some (b, f, z)) (hc : c.get o = some a) : ∃ v, W.cell? ⟨b, f + o, none⟩ = some v ∧ VRel σ a v := by
  obtain ⟨b', f', z', x, e, h1, cs, t, rfl, _, _, h3⟩ := h.rep i _ hF
  rw [hs] at e
  cases e
  obtain ⟨v, e1, e2⟩ := h3 o a hc
  exact ⟨v, by rw [cell_of_row W b (f + o) cs t (0, 0) h1]; exact e1, e2⟩
theorem RelM.rowAt (h : RelM B G σ F W) {i : Nat} {ty : Option Nat} {c : T AV} {b f z : Nat} (hF : F i = some (.row ty c)) (hs : σ i = some (b, f, z)) : ∃ cs t, W.heap[b]? = some (.cells cs t (0, 0)) ∧ (∀ u, ty = some u → t = u ∧ f = 0) ∧ cs.size = z ∧ ∀ j a, c.get j = some a → ∃ v, cs[f + j]? = some v ∧ VRel σ a v := by
  obtain ⟨b', f', z', x, e, h1, cs, t, rfl, h0, h2, h3⟩ := h.rep i _ hF
  rw [hs] at e
  cases e
  exact ⟨cs, t, h1, h0, h2, h3⟩
theorem RelM.free (h : RelM B G σ F W) {i o : Nat} {ty : Option Nat} {c : T AV} {b f z : Nat} (hF : F i = some (.row ty c)) (hs : σ i = some (b, f, z)) : W.frozen? ⟨b, o, none⟩ = false := by
  obtain ⟨cs, t, h1, _⟩ := h.rowAt hF hs
  exact frozen_of_row W b o cs t h1
theorem RelM.put (h : RelM B G σ F W) {i o : Nat} {ty : Option Nat} {c : T AV} {a a' : AV} {b f z : Nat} {v : Value} (hF : F i = some (.row ty c)) (hs : σ i = some (b, f, z)) (hG : G ≤ i) (hc : c.get o = some a') (hv : VRel σ a v) :
    RelM B G σ (F.upd i (some (.row ty (c.set o (some a))))) (W.setCell ⟨b, f + o, none⟩ v) := by
  obtain ⟨cs, t, h1, h0, h2, h3⟩ := h.rowAt hF hs
  refine h.chg hF hs (fun c hc => heap_setCell_other W _ c v hc) (heap_setCell_same W b (f + o) cs t v h1) ?_ (h.base.setCell (h.high i _ b f z hG hF hs) _)
  refine ⟨_, t, rfl, h0, by simpa using h2, fun k ak hk => ?_⟩
  obtain ⟨v0, e0, _⟩ := h3 o a' hc
  have lt : f + o < cs.size := (Array.getElem?_eq_some_iff.1 e0).1
  by_cases qk : k = o
  · subst qk
    rw [T.get_set_eq] at hk
    cases hk
    exact ⟨v, by simp [lt], hv⟩
  · rw [T.get_set_ne c (some a) qk] at hk
    obtain ⟨u, e1, e2⟩ := h3 k ak hk
    refine ⟨u, ?_, e2⟩
    rw [Array.getElem?_setIfInBounds_ne (by omega)]
    exact e1
end
end GrG
