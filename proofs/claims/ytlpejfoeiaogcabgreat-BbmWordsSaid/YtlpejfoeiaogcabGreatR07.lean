/-
  A MACHINE FOR CLOSED CALLS (second form), 7: what values stand for. No program in sight.
-/
import Derived.Test.YtlpejfoeiaogcabGreatR06
set_option linter.unusedSimpArgs false
set_option linter.unusedVariables false
namespace GrG
open Go
/-- where a number's block lies, from which cell on, how long it is -/
abbrev Sg := Nat → Option (Nat × Nat × Nat)
def sB (s : List Nat) : ByteArray := ⟨(s.map UInt8.ofNat).toArray⟩
mutual
inductive VRel (σ : Sg) : AV → Value → Prop
  | bool (b : Bool) : VRel σ (.bool b) (.bool b)
  | int (k : IntKind) (n : Int) : VRel σ (.int k n) (.int k n)
  | str (s : List Nat) : (∀ x ∈ s, x < 256) → VRel σ (.str s) (.string (sB s))
  | nilp : VRel σ .nilp (.pointer none)
  | ptr {i o b f z : Nat} : σ i = some (b, f, z) → VRel σ (.ptr i o) (.pointer (some ⟨b, f + o, none⟩))
  | nils : VRel σ .nils (.slice none 0 0)
  | slice {i o len cap es b f z c : Nat} {ex : Bool} : σ i = some (b, f, z) → (ex = true → c = cap) → cap ≤ c → len ≤ cap → (ex = false → f + o + c * es ≤ z) → VRel σ (.slice i o len cap ex es) (.slice (some ⟨b, f + o, none⟩) len c)
  | agg {l : List AV} {vs : List Value} : LRel σ l vs → VRel σ (.agg l) (.agg vs.toArray)
  | tup {l : List AV} {vs : List Value} : LRel σ l vs → VRel σ (.tup l) (.tuple vs.toArray)
  | nilf : VRel σ .nilf .nilFunc
  | func {f : Nat} {fi l : List AV} {us vs : List Value} : LRel σ fi us → LRel σ l vs → VRel σ (.func f fi l) (.func (.func f) us.toArray vs.toArray)
  | nilm : VRel σ .nilm (.map none)
  | map {i b f z : Nat} : σ i = some (b, f, z) → VRel σ (.map i) (.map (some b))
  | nili : VRel σ .nili .nilIface
  | iface {t : Nat} {a : AV} {v : Value} : VRel σ a v → VRel σ (.iface t a) (.iface t v)
  | yl {i b f z : Nat} : σ i = some (b, f, z) → VRel σ (.yl i) (.func (.yield b) #[] #[])
  | stamp {i b f z : Nat} : σ i = some (b, f, z) → VRel σ (.stamp i) (.int .i64 (.ofNat b))
  | any (k : IntKind) (n : Int) : VRel σ (.any k) (.int k n)
  | atl {n c : Nat} : n ≤ c → VRel σ (.atl n) (.int .i64 (.ofNat c))
  | les {n : Nat} {c : Int} : c < n → VRel σ (.les n) (.int .i64 c)
  | bad (v : Value) : VRel σ .bad v
  | emp (a : Addr) (c : Nat) : VRel σ .emp (.slice (some a) 0 c)
  | dl (ds : List AV) (v : Value) : VRel σ (.dl ds) v
  | rd (v : Value) : VRel σ .rd v
inductive LRel (σ : Sg) : List AV → List Value → Prop
  | nil : LRel σ [] []
  | cons {a : AV} {v : Value} {l : List AV} {vs : List Value} : VRel σ a v → LRel σ l vs → LRel σ (a :: l) (v :: vs)
end
def Sg.le (σ τ : Sg) : Prop := ∀ i x, σ i = some x → τ i = some x
theorem Sg.le.refl (σ : Sg) : σ.le σ := fun _ _ h => h
theorem Sg.le.trans {σ τ υ : Sg} (h : σ.le τ) (k : τ.le υ) : σ.le υ := fun i x e => k i x (h i x e)
mutual
theorem VRel.mono {σ τ : Sg} (h : σ.le τ) : ∀ {a : AV} {v : Value}, VRel σ a v → VRel τ a v
  | _, _, .bool b => .bool b
  | _, _, .int k n => .int k n
  | _, _, .str s h => .str s h
  | _, _, .nilp => .nilp
  | _, _, .ptr e => .ptr (h _ _ e)
  | _, _, .nils => .nils
  | _, _, .slice e a b c d => .slice (h _ _ e) a b c d
  | _, _, .agg l => .agg (LRel.mono h l)
  | _, _, .tup l => .tup (LRel.mono h l)
  | _, _, .nilf => .nilf
  | _, _, .func k l => .func (LRel.mono h k) (LRel.mono h l)
  | _, _, .nilm => .nilm
  | _, _, .map e => .map (h _ _ e)
  | _, _, .nili => .nili
  | _, _, .iface x => .iface (VRel.mono h x)
  | _, _, .yl e => .yl (h _ _ e)
  | _, _, .stamp e => .stamp (h _ _ e)
  | _, _, .any k n => .any k n
  | _, _, .atl e => .atl e
  | _, _, .les e => .les e
  | _, _, .bad v => .bad v
  | _, _, .emp a c => .emp a c
  | _, _, .dl ds v => .dl ds v
  | _, _, .rd v => .rd v
theorem LRel.mono {σ τ : Sg} (h : σ.le τ) : ∀ {l : List AV} {vs : List Value}, LRel σ l vs → LRel τ l vs
  | _, _, .nil => .nil
  | _, _, .cons a l => .cons (VRel.mono h a) (LRel.mono h l)
end
theorem LRel.length {σ : Sg} : ∀ {l : List AV} {vs : List Value}, LRel σ l vs → l.length = vs.length
  | _, _, .nil => rfl
  | _, _, .cons _ h => congrArg (· + 1) h.length
theorem LRel.get {σ : Sg} : ∀ {l : List AV} {vs : List Value} (_ : LRel σ l vs) {i : Nat} {a : AV}, l[i]? = some a → ∃ v, vs[i]? = some v ∧ VRel σ a v
  | _, _, .nil, i, a, h => by simp at h
  | _, _, .cons ha hl, 0, a, h => by
    simp only [List.getElem?_cons_zero, Option.some.injEq] at h
    subst h
    exact ⟨_, rfl, ha⟩
  | _, _, .cons ha hl, i + 1, a, h => by
    simp only [List.getElem?_cons_succ] at h ⊢
    exact hl.get h
theorem LRel.app {σ : Sg} : ∀ {l : List AV} {vs : List Value} {m : List AV} {us : List Value}, LRel σ l vs → LRel σ m us → LRel σ (l ++ m) (vs ++ us)
  | _, _, _, _, .nil, k => k
  | _, _, _, _, .cons a h, k => .cons a (h.app k)
theorem LRel.take {σ : Sg} : ∀ {l : List AV} {vs : List Value} (n : Nat), LRel σ l vs → LRel σ (l.take n) (vs.take n)
  | _, _, 0, _ => by simp only [List.take_zero]; exact .nil
  | _, _, n + 1, .nil => by simp only [List.take_nil]; exact .nil
  | _, _, n + 1, .cons a h => by simp only [List.take_succ_cons]; exact .cons a (h.take n)
theorem LRel.drop {σ : Sg} : ∀ {l : List AV} {vs : List Value} (n : Nat), LRel σ l vs → LRel σ (l.drop n) (vs.drop n)
  | _, _, 0, h => by simpa using h
  | _, _, n + 1, .nil => by simp only [List.drop_nil]; exact .nil
  | _, _, n + 1, .cons a h => by simp only [List.drop_succ_cons]; exact h.drop n
theorem VRel.cells {σ : Sg} {a : AV} {v : Value} (h : VRel σ a v) (hb : isBad a = false) : LRel σ a.cells v.cells.toList := by
  cases h <;> first | (cases hb; done) | (show LRel σ _ _; simp only [AV.cells, Value.cells]; assumption) | exact .cons (by constructor <;> assumption) .nil
/-! Constants. -/
theorem sB_toNat (s : ByteArray) : sB (s.data.toList.map UInt8.toNat) = s := by
  unfold sB
  rw [List.map_map, show (UInt8.ofNat ∘ UInt8.toNat) = id from funext fun x => by simp]
  simp
theorem VRel.str' {σ : Sg} (s : ByteArray) : VRel σ (.str (s.data.toList.map UInt8.toNat)) (.string s) := by
  have := VRel.str (σ := σ) (s.data.toList.map UInt8.toNat) (fun x hx => by
    obtain ⟨u, _, rfl⟩ := List.mem_map.1 hx
    exact u.toNat_lt)
  rw [sB_toNat] at this
  exact this
theorem ofConst_rel {σ : Sg} {v : Value} {a : AV} (h : ofConst v = some a) : VRel σ a v := by
  unfold ofConst at h
  split at h <;> first
    | (simp only [Option.some.injEq] at h; subst h; first | exact .bool _ | exact .int _ _ | exact .nilp | exact .nils | exact .nilf | exact .nilm | exact .nili | exact .str' _)
    | cases h
theorem VRel.slice_inv {σ : Sg} {i o len cap es : Nat} {ex : Bool} {v : Value} (h : VRel σ (.slice i o len cap ex es) v) :
    ∃ b f z c, v = .slice (some ⟨b, f + o, none⟩) len c ∧ σ i = some (b, f, z) ∧ (ex = true → c = cap) ∧ cap ≤ c ∧ len ≤ cap ∧ (ex = false → f + o + c * es ≤ z) := by
  cases h with
  | slice a b c d e => exact ⟨_, _, _, _, rfl, a, b, c, d, e⟩
theorem VRel.str_inv {σ : Sg} {s : List Nat} {v : Value} (h : VRel σ (.str s) v) : v = .string (sB s) ∧ ∀ x ∈ s, x < 256 := by
  cases h with
  | str _ h => exact ⟨rfl, h⟩
theorem VRel.ptr_inv {σ : Sg} {i o : Nat} {v : Value} (h : VRel σ (.ptr i o) v) : ∃ b f z, v = .pointer (some ⟨b, f + o, none⟩) ∧ σ i = some (b, f, z) := by
  cases h with
  | ptr h => exact ⟨_, _, _, rfl, h⟩
theorem VRel.agg_inv {σ : Sg} {l : List AV} {v : Value} (h : VRel σ (.agg l) v) : ∃ vs : List Value, v = .agg vs.toArray ∧ LRel σ l vs := by
  cases h with
  | agg h => exact ⟨_, rfl, h⟩
end GrG
