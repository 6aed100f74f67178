/- A part of an evaluator of runs, and that it is right. -/
import Derived.Test.YtbkojaiecgdodaaDoorEvB
set_option linter.unusedSectionVars false
namespace Go.Ev
/-- where the blocks lie: the block, the place of its first cell; of a concrete block: how many cells are sure to be there -/
structure Rho where
  f : Nat → Option (Nat × Nat)
  lim : Nat → Nat
  /-- values that are not known ahead, and stay -/
  own : Nat → Option Value
instance : CoeFun Rho (fun _ => Nat → Option (Nat × Nat)) := ⟨Rho.f⟩

/-- what a value stands for -/
def dv (den : Nat → Value) (v : Value) : Value := match v with
  | .float .f64 c => den c
  | v => v
def okv (den : Nat → Value) (v : Value) : Bool := match v with
  | .float .f64 c => scal1 (den c)
  | v => flat1 v
mutual
/-- what a value stands for, tuples and structs too -/
def dvs (den : Nat → Value) : Value → Value
  | .float .f64 c => den c
  | .agg ⟨l⟩ => .agg ⟨dvL den l⟩
  | .tuple ⟨l⟩ => .tuple ⟨dvL den l⟩
  | v => v
def dvL (den : Nat → Value) : List Value → List Value
  | [] => []
  | v :: l => dvs den v :: dvL den l
end
def okL (den : Nat → Value) (l : List Value) : Bool := l.all fun v => okv den v
def okV (den : Nat → Value) (v : Value) : Bool := match v with
  | .tuple ⟨l⟩ => okL den l
  | .agg ⟨l⟩ => okL den l
  | v => okv den v
/-- a fact that holds -/
inductive FactOk (den : Nat → Value) : Fact → Prop
  | bin (op : BinOp) (a b v : Value) (k k' : IntKind) (x y : Int) (ha : dv den a = .int k x) (hb : dv den b = .int k' y) (hk : isSh op = true ∨ k = k') (hv : okv den v = true) (h : intBin op k x y = some (dv den v)) : FactOk den ⟨bcode op, a, b, v⟩
  | cat (a b v : Value) (x y : ByteArray) (ha : dv den a = .string x) (hb : dv den b = .string y) (hv : okv den v = true) (h : strBin .add (strL x) (strL y) = some (dv den v)) : FactOk den ⟨0, a, b, v⟩
  | neg (a v : Value) (k : IntKind) (x : Int) (ha : dv den a = .int k x) (hv : okv den v = true) (h : dv den v = .int k (k.wrap (0 - x))) : FactOk den ⟨17, a, .bool true, v⟩
  | com (a v : Value) (k : IntKind) (x : Int) (ha : dv den a = .int k x) (hv : okv den v = true) (h : intBin .xor k (if k.signed then -1 else k.max) x = some (dv den v)) : FactOk den ⟨18, a, .bool true, v⟩
  | conv (k : IntKind) (a v : Value) (k0 : IntKind) (x : Int) (ha : dv den a = .int k0 x) (hv : okv den v = true) (h : dv den v = .int k (k.wrap x)) : FactOk den ⟨kcode k, a, .bool true, v⟩
  | len (a v : Value) (p : Option Addr) (n c : Nat) (ha : dv den a = .slice p n c) (hv : okv den v = true) (h : dv den v = .int .i64 n) : FactOk den ⟨30, a, .bool true, v⟩
  | cut (a b v : Value) (A : Addr) (n c m : Nat) (k : IntKind) (ha : dv den a = .slice (some A) n c) (hb : dv den b = .int k m) (hm : m ≤ c) (hv : okv den v = true) (h : dv den v = .slice (some A) m c) : FactOk den ⟨31, a, b, v⟩
  | cutn (a b v : Value) (k : IntKind) (ha : dv den a = .slice none 0 0) (hb : dv den b = .int k 0) (hv : okv den v = true) (h : dv den v = .slice none 0 0) : FactOk den ⟨31, a, b, v⟩
  | pt (a v : Value) (k : IntKind) (n : Int) (ha : dv den a = .int k n) (h : v = .int k n) : FactOk den ⟨50, a, .bool true, v⟩
class Den extends DenD where
  ok : ∀ f ∈ facts, FactOk den f
@[reducible] def noDen : Den := { den := fun _ => .nilFunc, facts := [], calls := [], runs := [], low := 0, fix := fun _ => none, ok := fun _ h => nomatch h }

variable [DenV]
mutual
inductive VR (ρ : Rho) : Value → Value → Prop
  | bool (b : Bool) : VR ρ (.bool b) (.bool b)
  | int (k : IntKind) (n : Int) : VR ρ (.int k n) (.int k n)
  | string (s : ByteArray) : VR ρ (.string s) (.string s)
  | nilp : VR ρ (.pointer none) (.pointer none)
  | ptr (b o B base : Nat) (h : ρ b = some (B, base)) : VR ρ (.pointer (some ⟨b, o, none⟩)) (.pointer (some ⟨B, base + o, none⟩))
  | nils (c : Nat) (hc : (capU ≤ c ∧ c < capU + capK) ∨ c = 0) : VR ρ (.slice none 0 c) (.slice none 0 0)
  | slice (b o n c B base c' : Nat) (h : ρ b = some (B, base)) (hc : (∃ sz m, sz < capK ∧ c = capU + sz + capK * m ∧ m ≤ c' ∧ base + o + c' * sz ≤ ρ.lim B) ∨ (c' = c ∧ c < capU)) (hl : n ≤ c') : VR ρ (.slice (some ⟨b, o, none⟩) n c) (.slice (some ⟨B, base + o, none⟩) n c')
  | slice0 (b o : Nat) (a' : Addr) (c : Nat) (hc : (capU ≤ c ∧ c < capU + capK) ∨ c = 0) : VR ρ (.slice (some ⟨b, o, none⟩) 0 c) (.slice (some a') 0 0)
  | nilm : VR ρ (.map none) (.map none)
  | map (b B : Nat) (h : ρ b = some (B, 0)) : VR ρ (.map (some b)) (.map (some B))
  | func (g : Nat) (xs ys zs ws : List Value) (h : VRs ρ xs ys) (k : VRs ρ zs ws) : VR ρ (.func (.func g) ⟨xs⟩ ⟨zs⟩) (.func (.func g) ⟨ys⟩ ⟨ws⟩)
  | yld (l L : Nat) (h : ρ l = some (L, 0)) : VR ρ (.func (.yield l) #[] #[]) (.func (.yield L) #[] #[])
  | nilf : VR ρ .nilFunc .nilFunc
  | iface (t : TypeId) (v w : Value) (h : VR ρ v w) : VR ρ (.iface t v) (.iface t w)
  | nili : VR ρ .nilIface .nilIface
  | agg (xs ys : List Value) (h : VRs ρ xs ys) : VR ρ (.agg ⟨xs⟩) (.agg ⟨ys⟩)
  | tuple (xs ys : List Value) (h : VRs ρ xs ys) : VR ρ (.tuple ⟨xs⟩) (.tuple ⟨ys⟩)
  | sym (c : Nat) (w : Value) (hw : DenV.den c = w) (hs : scal1 w = true) : VR ρ (.float .f64 c) w
  | opq (k : Nat) (w : Value) (hw : ρ.own k = some w) (hs : scal1 w = true) : VR ρ (.float .f32 k) w
inductive VRs (ρ : Rho) : List Value → List Value → Prop
  | nil : VRs ρ [] []
  | cons (v w : Value) (l m : List Value) (h : VR ρ v w) (k : VRs ρ l m) : VRs ρ (v :: l) (w :: m)
end

structure Le (ρ ρ' : Rho) : Prop where
  get : ∀ i p, ρ i = some p → ρ' i = some p
  lim : ∀ i B base, ρ i = some (B, base) → ρ'.lim B = ρ.lim B
  own : ρ'.own = ρ.own
theorem Le.refl (ρ : Rho) : Le ρ ρ := ⟨fun _ _ h => h, fun _ _ _ _ => rfl, rfl⟩
theorem Le.trans {ρ ρ' ρ'' : Rho} (h : Le ρ ρ') (k : Le ρ' ρ'') : Le ρ ρ'' := ⟨fun i p x => k.get i p (h.get i p x), fun i B base x => (k.lim i B base (h.get _ _ x)).trans (h.lim i B base x), k.own.trans h.own⟩

mutual
theorem VR.mono {ρ ρ' : Rho} (L : Le ρ ρ') : ∀ {v w : Value}, VR ρ v w → VR ρ' v w
  | _, _, .bool b => .bool b
  | _, _, .int k n => .int k n
  | _, _, .string s => .string s
  | _, _, .nilp => .nilp
  | _, _, .ptr b o B base h => .ptr b o B base (L.get _ _ h)
  | _, _, .nils c hc => .nils c hc
  | _, _, .slice b o n c B base c' h hc hl => .slice b o n c B base c' (L.get _ _ h) (by rw [L.lim _ _ _ h]; exact hc) hl
  | _, _, .slice0 b o a' c hc => .slice0 b o a' c hc
  | _, _, .nilm => .nilm
  | _, _, .map b B h => .map b B (L.get _ _ h)
  | _, _, .func fn xs ys zs ws h k => .func fn xs ys zs ws (VRs.mono L h) (VRs.mono L k)
  | _, _, .yld l L0 h => .yld l L0 (L.get _ _ h)
  | _, _, .nilf => .nilf
  | _, _, .iface t v w h => .iface t v w (VR.mono L h)
  | _, _, .nili => .nili
  | _, _, .agg xs ys h => .agg xs ys (VRs.mono L h)
  | _, _, .tuple xs ys h => .tuple xs ys (VRs.mono L h)
  | _, _, .sym c w hw hs => .sym c w hw hs
  | _, _, .opq k w hw hs => .opq k w (by rw [L.own]; exact hw) hs
theorem VRs.mono {ρ ρ' : Rho} (L : Le ρ ρ') : ∀ {l m : List Value}, VRs ρ l m → VRs ρ' l m
  | _, _, .nil => .nil
  | _, _, .cons v w l m h k => .cons v w l m (VR.mono L h) (VRs.mono L k)
end

section
variable {ρ : Rho}
theorem VRs.length {l m : List Value} : VRs ρ l m → l.length = m.length := by
  induction l generalizing m with
  | nil => intro h; cases h; rfl
  | cons v l ih => intro h; cases h with | cons _ w _ m h k => simp [ih k]
theorem VRs.get {l m : List Value} (h : VRs ρ l m) {i : Nat} {v : Value} (hi : l[i]? = some v) : ∃ w, m[i]? = some w ∧ VR ρ v w := by
  induction l generalizing m i with
  | nil => simp at hi
  | cons u l ih =>
    cases h with
    | cons _ w _ m h k =>
      cases i with
      | zero => simp at hi; subst hi; exact ⟨w, rfl, h⟩
      | succ i => simp at hi; simpa using ih k hi
theorem VRs.append {l m l' m' : List Value} (h : VRs ρ l m) (h' : VRs ρ l' m') : VRs ρ (l ++ l') (m ++ m') := by
  induction l generalizing m with
  | nil => cases h; exact h'
  | cons u l ih => cases h with | cons _ w _ m h k => exact .cons _ _ _ _ h (ih k)
theorem VRs.take {l m : List Value} (h : VRs ρ l m) (n : Nat) : VRs ρ (l.take n) (m.take n) := by
  induction l generalizing m n with
  | nil => cases h; simp; exact .nil
  | cons u l ih =>
    cases h with
    | cons _ w _ m h k =>
      cases n with
      | zero => exact .nil
      | succ n => exact .cons _ _ _ _ h (ih k n)
theorem VRs.drop {l m : List Value} (h : VRs ρ l m) (n : Nat) : VRs ρ (l.drop n) (m.drop n) := by
  induction l generalizing m n with
  | nil => cases h; simp; exact .nil
  | cons u l ih =>
    cases h with
    | cons _ w _ m h k =>
      cases n with
      | zero => exact .cons _ _ _ _ h k
      | succ n => exact ih k n
theorem VRs.of_get {l m : List Value} (hl : l.length = m.length) (h : ∀ (i : Nat) (v : Value), l[i]? = some v → ∃ w, m[i]? = some w ∧ VR ρ v w) : VRs ρ l m := by
  induction l generalizing m with
  | nil => cases m with | nil => exact .nil | cons _ _ => simp at hl
  | cons u l ih =>
    cases m with
    | nil => simp at hl
    | cons w m =>
      obtain ⟨w', h1, h2⟩ := h 0 u rfl
      simp at h1; subst h1
      exact .cons _ _ _ _ h2 (ih (by simpa using hl) fun i v hi => by simpa using h (i + 1) v (by simpa using hi))
theorem flat1_VR {v : Value} (h : flat1 v = true) : VR ρ v v := by
  unfold flat1 at h
  split at h <;> first | cases h; done | (constructor; done) | exact .nils _ (Or.inr rfl) | exact .func _ _ _ _ _ .nil .nil
theorem flatL_VR {l : List Value} (h : flatL l = true) : VRs ρ l l := by
  induction l with
  | nil => exact .nil
  | cons v l ih => simp only [flatL, bi_tf] at h; exact .cons _ _ _ _ (flat1_VR h.1) (ih h.2)
theorem flat_VR {v : Value} (h : flat v = true) : VR ρ v v := by
  unfold flat at h
  split at h
  · exact .agg _ _ (flatL_VR h)
  · exact .tuple _ _ (flatL_VR h)
  · exact flat1_VR h
theorem VR.vcells {v w : Value} (h : VR ρ v w) : VRs ρ (vcells v) w.cells.toList := by
  have h' := h
  cases h with
  | agg xs ys h => exact h
  | sym c w hw hs =>
    have : w.cells.toList = [w] := by cases w <;> first | rfl | (cases hs; done)
    rw [this]; exact .cons _ _ _ _ h' .nil
  | opq k w hw hs =>
    have : w.cells.toList = [w] := by cases w <;> first | rfl | (cases hs; done)
    rw [this]; exact .cons _ _ _ _ h' .nil
  | _ => exact .cons _ _ _ _ h' .nil
end
end Go.Ev
