/- A part of an evaluator of runs, and that it is right. -/
import Derived.Calls
import Derived.Defers
import Derived.Orders
namespace Go.Ev

inductive T (α : Type) where
  | leaf
  | node (v : Option α) (l r : T α)
namespace T
variable {α : Type}
noncomputable def get (t : T α) : Nat → Option α :=
  T.rec (fun _ => none) (fun v _ _ gl gr k => Nat.rec v (fun n _ => Nat.rec (gl (Nat.div n 2)) (fun _ _ => gr (Nat.div n 2)) (Nat.mod n 2)) k) t
noncomputable def single (a : Option α) (f : Nat) : Nat → T α :=
  Nat.rec (fun _ => .leaf) (fun _ g k => Nat.rec (.node a .leaf .leaf) (fun n _ => Nat.rec (.node none (g (Nat.div n 2)) .leaf) (fun _ _ => .node none .leaf (g (Nat.div n 2))) (Nat.mod n 2)) k) f
noncomputable def put (a : Option α) (t : T α) : Nat → T α :=
  T.rec (fun k => single a 80 k) (fun v l r gl gr k => Nat.rec (.node a l r) (fun n _ => Nat.rec (.node v (gl (Nat.div n 2)) r) (fun _ _ => .node v l (gr (Nat.div n 2))) (Nat.mod n 2)) k) t
noncomputable def set (t : T α) (k : Nat) (a : α) : T α := put (some a) t k
noncomputable def del (t : T α) (k : Nat) : T α := put none t k
noncomputable def setL (l : List α) : Nat → T α → T α :=
  List.rec (fun _ t => t) (fun a _ ih k t => ih (Nat.succ k) (set t k a)) l
noncomputable def setO (l : List (Option α)) : Nat → T α → T α :=
  List.rec (fun _ t => t) (fun a _ ih k t => ih (Nat.succ k) (put a t k)) l
noncomputable def ofListO (l : List (Option α)) : T α := setO l 0 .leaf
noncomputable def ofList (l : List α) : T α := setL l 0 .leaf
end T

def ob {α β : Type} (o : Option α) (f : α → Option β) : Option β := Option.casesOn o none f
def om {α β : Type} (o : Option α) (f : α → β) : Option β := Option.casesOn o none (fun a => some (f a))
def bi {α : Type} (b : Bool) (x y : α) : α := Bool.casesOn b y x

structure TR where
  u : TypeDesc
  size : Nat
  bytes : Nat
  zero : Option Value
  cmp : Bool

/-- the record of a loop over a function: 0 ready, 1 busy, 2 done, 3 exhausted; the jump that is pending; the slots where it was entered -/
structure Lp where
  st : Nat
  pend : Option Code
  t : T Value
  n : Nat
  ps : List Nat
  as : Code
  body : Code
inductive Blk where
  | cells (t : T Value) (cls : Nat)
  | ro (t : T Value)
  | mp (es : List (Value × Value × Nat)) (clock : Nat)
  | it (m : Option Nat) (since : Nat) (seen : List Nat) (stepped : Nat)
  | lp (x : Lp)
  | df (b : Bool)

structure H where
  next : Nat
  bl : T Blk
  mem : T (List Nat)

/-- what is known of an operation: its code (bcode; 17 neg, 18 complement, 20 and on conversions, 30 the length of a slice, 31 the beginning of one), its operands, its value -/
structure Fact where
  op : Nat
  a : Value
  b : Value
  v : Value
/-- what is known of a call, where some tables hold some rows: it keeps memory, and returns a value -/
structure CF where
  f : Nat
  args : List Value
  v : Value
  need : List (Nat × List Value)
/-- a run that is known: of a function, in a memory that holds some blocks: its value, and what it leaves of them and beside -/
structure Run where
  f : Nat
  args : List Value
  next : Nat
  pre : List (Nat × Blk)
  mem : List (Nat × List Nat)
  v : Value
  next' : Nat
  post : List (Nat × Blk)
  mem' : List (Nat × List Nat)
/-- what is known of an operation: its key, its operands, its value -/
structure OF where
  key : Nat
  args : List Value
  v : Value
inductive Ex where
  | normal
  | exit (id : Nat)
  | ret
/-- what is known of a loop of a function: the slots ahead of it, the slots that point to rows, how it ends, the slots behind it -/
structure LF where
  f : Nat
  id : Nat
  ins : List (Nat × Value)
  boxes : List (Nat × List Value)
  ex : Ex
  outs : List (Nat × Value)
/-- what the values stand for that are open (.float .f64 c stands for den c) -/
class DenV where
  den : Nat → Value
  /-- the blocks below low hold what fix says -/
  low : Nat
  fix : Nat → Option Obj
class DenD extends DenV where
  facts : List Fact
  calls : List CF
  runs : List Run
  pures : List OF := []
  loads : List OF := []
  loops : List LF := []

/-- functions that are known: maps.clone, internal/bytealg.IndexByteString, internal/stringslite.Clone (0: not there) -/
structure Sp where
  clone : Nat
  idx : Nat
  str : Nat
instance (n : Nat) : OfNat Sp n := ⟨⟨n, 0, 0⟩⟩
structure Env where
  ty : T TR
  fn : T Func
  ng : Nat
  eqs : List Nat
  clone : Sp
  facts : List Fact
  calls : List CF
  runs : List Run
  pures : List OF := []
  loads : List OF := []
  loops : List LF := []
  /-- of the function that runs: its number and one; nothing is known of loops: 0 -/
  cur : Nat := 0
def Env.cu (E : Env) (g : Nat) : Env := ⟨E.ty, E.fn, E.ng, E.eqs, E.clone, E.facts, E.calls, E.runs, E.pures, E.loads, E.loops, g⟩

def trOf (l : List TypeInfo) (i : TypeInfo) : Option TR := match i.desc with
  | .named _ u => om l[u]? fun j => ⟨j.desc, i.size, i.bytes, i.zero, i.comparable⟩
  | d => some ⟨d, i.size, i.bytes, i.zero, i.comparable⟩
noncomputable def Env.of [D : DenD] (P : Program) (eqs : List Nat) (clone : Sp) : Env := ⟨T.ofListO (P.types.toList.map (trOf P.types.toList)), T.ofList P.funcs.toList, P.globals.toList.length, eqs, clone, D.facts, D.calls, D.runs, D.pures, D.loads, D.loops, 0⟩

/-- a deferred call, or the mark of a loop over a function -/
inductive Df where
  | fn (f : Nat) (args : List Value)
  | col (id : Nat)
structure A where
  t : T Value
  d : List Df

def capU : Nat := 9223372036854775808
def capK : Nat := 4294967296

def ile : Int → Int → Bool
  | .ofNat a, .ofNat b => Nat.ble a b
  | .negSucc _, .ofNat _ => true
  | .ofNat _, .negSucc _ => false
  | .negSucc a, .negSucc b => Nat.ble b a
def ieq : Int → Int → Bool
  | .ofNat a, .ofNat b => Nat.beq a b
  | .negSucc a, .negSucc b => Nat.beq a b
  | _, _ => false
def wrapF (k : IntKind) (n : Int) : Int := match k with
  | .i64 => bi (ile (-9223372036854775808) n) (bi (ile n 9223372036854775807) n (k.wrap n)) (k.wrap n)
  | .u8 => bi (ile 0 n) (bi (ile n 255) n (k.wrap n)) (k.wrap n)
  | k => k.wrap n
def bnot (b : Bool) : Bool := Bool.casesOn b true false
def beqB (a b : Bool) : Bool := Bool.casesOn a (bnot b) b

def vcells : Value → List Value
  | .agg ⟨l⟩ => l
  | v => [v]

/-- a constant that holds no address -/
def flat1 : Value → Bool
  | .bool _ => true
  | .int _ _ => true
  | .string _ => true
  | .pointer none => true
  | .slice none 0 0 => true
  | .map none => true
  | .nilFunc => true
  | .nilIface => true
  | .func (.func _) ⟨[]⟩ ⟨[]⟩ => true
  | _ => false
def flatL : List Value → Bool
  | [] => true
  | v :: l => bi (flat1 v) (flatL l) false
def flat : Value → Bool
  | .agg ⟨l⟩ => flatL l
  | .tuple ⟨l⟩ => flatL l
  | v => flat1 v

def kEq (a b : IntKind) : Bool := match a, b with
  | .i8, .i8 => true | .i16, .i16 => true | .i32, .i32 => true | .i64, .i64 => true
  | .u8, .u8 => true | .u16, .u16 => true | .u32, .u32 => true | .u64, .u64 => true
  | _, _ => false
def bytesEq : List UInt8 → List UInt8 → Bool
  | [], [] => true
  | a :: l, b :: m => bi (Nat.beq a.toNat b.toNat) (bytesEq l m) false
  | _, _ => false
def strL (s : ByteArray) : List UInt8 := s.data.toList
def isSy : Value → Bool
  | .float _ _ => true
  | _ => false
def syEq (a b : Value) : Bool := match a, b with
  | .float .f64 c, .float .f64 d => Nat.beq c d
  | .int k a, .int k' b => bi (kEq k k') (ieq a b) false
  | .bool a, .bool b => beqB a b
  | .string a, .string b => bytesEq (strL a) (strL b)
  | .slice none 0 0, .slice none 0 0 => true
  | .func (.func f) ⟨[]⟩ ⟨[]⟩, .func (.func g) ⟨[]⟩ ⟨[]⟩ => Nat.beq f g
  | _, _ => false
def syEqL : List Value → List Value → Bool
  | [], [] => true
  | a :: l, b :: m => bi (syEq a b) (syEqL l m) false
  | _, _ => false
/-- of arguments, which may be structs -/
def caEq (a b : Value) : Bool := match a, b with
  | .agg ⟨l⟩, .agg ⟨m⟩ => syEqL l m
  | a, b => syEq a b
def caEqL : List Value → List Value → Bool
  | [], [] => true
  | a :: l, b :: m => bi (caEq a b) (caEqL l m) false
  | _, _ => false
noncomputable def lookF (l : List Fact) (op : Nat) (a b : Value) : Option Value :=
  List.rec none (fun f _ ih => bi (Nat.beq f.op op) (bi (syEq f.a a) (bi (syEq f.b b) (some f.v) ih) ih) ih) l
noncomputable def lookC (l : List CF) (f : Nat) (args : List Value) : Option CF :=
  List.rec none (fun c _ ih => bi (Nat.beq c.f f) (bi (caEqL c.args args) (some c) ih) ih) l
def bcode : BinOp → Nat
  | .add => 0 | .sub => 1 | .mul => 2 | .quo => 3 | .rem => 4 | .eql => 5 | .neq => 6 | .lss => 7 | .leq => 8 | .gtr => 9 | .geq => 10
  | .and => 11 | .or => 12 | .xor => 13 | .andNot => 14 | .shl => 15 | .shr => 16
def kcode : IntKind → Nat
  | .i8 => 20 | .i16 => 21 | .i32 => 22 | .i64 => 23 | .u8 => 24 | .u16 => 25 | .u32 => 26 | .u64 => 27
def ucode : UnOp → Nat
  | .neg => 17
  | .xor => 18
  | _ => 19

section
variable (E : Env)

noncomputable def opv (x : Operand) (E : Env) (α : A) : Option Value :=
  Operand.casesOn x (fun t => α.t.get t) (fun v => bi (flat v) (some v) none) (fun g => bi (Nat.blt g E.ng) (some (.pointer (some ⟨g, 0, none⟩))) none)
    (fun f => some (.func (.func f) #[] #[]))
noncomputable def opvs (E : Env) (α : A) (l : List Operand) : Option (List Value) :=
  List.rec (some []) (fun x _ ih => ob (opv x E α) fun v => om ih fun vs => v :: vs) l

noncomputable def newBlk (h : H) (b : Blk) : H := ⟨Nat.succ h.next, h.bl.set h.next b, h.mem⟩
noncomputable def newCells (h : H) (vs : List Value) : H := ⟨Nat.succ h.next, h.bl.set h.next (.cells (T.setL vs 0 .leaf) h.next), h.mem.set h.next [h.next]⟩

noncomputable def getN (t : T Value) (n : Nat) : Nat → Option (List Value) :=
  Nat.rec (fun _ => some []) (fun _ ih o => ob (t.get o) fun v => om (ih (Nat.succ o)) fun vs => v :: vs) n

noncomputable def cellsAt (h : H) (b : Nat) : Option (T Value) := ob (h.bl.get b) fun x => match x with
  | .cells t _ => some t
  | .ro t => some t
  | _ => none

def isAggD : TypeDesc → Bool
  | .struct _ => true
  | .array _ _ => true
  | _ => false

noncomputable def loadE (E : Env) (t : TypeId) (v : Value) (h : H) : Option Value := match v with
  | .pointer (some ⟨b, o, none⟩) => ob (E.ty.get t) fun r => ob (cellsAt h b) fun c =>
    bi (isAggD r.u) (om (getN c r.size o) fun vs => .agg ⟨vs⟩) (c.get o)
  | _ => none

noncomputable def delN (n : Nat) : Nat → T Value → T Value :=
  Nat.rec (fun _ t => t) (fun _ ih o t => ih (Nat.succ o) (t.del o)) n
noncomputable def poison1 (o n b : Nat) (bl : T Blk) : T Blk := match bl.get b with
  | some (.cells t c) => bl.set b (.cells (delN n o t) c)
  | _ => bl
noncomputable def poison (o n skip : Nat) (l : List Nat) : T Blk → T Blk :=
  List.rec (fun bl => bl) (fun b _ ih bl => ih (bi (Nat.beq b skip) bl (poison1 o n b bl))) l
/-- blocks of which nothing is to be known any more -/
noncomputable def eraseL (l : List Nat) : T Blk → T Blk := List.rec (fun bl => bl) (fun b _ ih bl => ih (bl.del b)) l
/-- the value of one cell -/
def scal1 : Value → Bool
  | .agg _ => false
  | .tuple _ => false
  | _ => true
def scalL : List Value → Bool
  | [] => true
  | v :: l => bi (scal1 v) (scalL l) false
/-- stores cells in a row of a block -/
noncomputable def storeRow (h : H) (b o : Nat) (vs : List Value) : Option H :=
  bi (scalL vs) (ob (h.bl.get b) fun x => match x with
  | .cells t c => bi (match getN t vs.length o with | some _ => true | none => false) (om (h.mem.get c) fun l => ⟨h.next, poison o vs.length b l (h.bl.set b (.cells (T.setL vs o t) c)), h.mem⟩) none
  | _ => none) none

noncomputable def storeE (E : Env) (t : TypeId) (p v : Value) (h : H) : Option H := match p with
  | .pointer (some ⟨b, o, none⟩) => ob (E.ty.get t) fun r => bi (Nat.beq (vcells v).length r.size) (storeRow h b o (vcells v)) none
  | _ => none

def replaceL (vs : List Value) : Nat → List Value → List Value
  | 0, l => vs ++ l.drop vs.length
  | n + 1, l => match l with
    | [] => []
    | x :: l => x :: replaceL vs n l

noncomputable def fillE (place : Nat → Option (Nat × Nat)) (ps : List (Nat × Value)) : List Value → Option (List Value) :=
  List.rec (fun cells => some cells) (fun p _ ih cells => ob (place p.1) fun q =>
    bi (Nat.beq (vcells p.2).length q.2) (bi (Nat.ble (q.1 + q.2) cells.length) (ih (replaceL (vcells p.2) q.1 cells)) none) none) ps

noncomputable def partsE (E : Env) (α : A) (l : List (Nat × Operand)) : Option (List (Nat × Value)) :=
  List.rec (some []) (fun p _ ih => ob (opv p.2 E α) fun v => om ih fun vs => (p.1, v) :: vs) l

noncomputable def placesE (E : Env) (fs : List Field) : Option (List (Nat × Nat)) :=
  List.rec (some []) (fun f _ ih => ob (E.ty.get f.type) fun r => om ih fun l => (f.offset, r.size) :: l) fs

noncomputable def zeroOf (t : TypeId) : Option Value := ob (E.ty.get t) fun r => ob r.zero fun z => bi (flat z) (some z) none

noncomputable def partE (t : TypeId) (cs : List Value) (off : Nat) : Option Value :=
  ob (E.ty.get t) fun r => bi (isAggD r.u) (bi (Nat.ble (off + r.size) cs.length) (some (.agg ⟨(cs.drop off).take r.size⟩)) none) cs[off]?

def bytesLt : List UInt8 → List UInt8 → Bool
  | _, [] => false
  | [], _ :: _ => true
  | a :: l, b :: m => bi (Nat.beq a.toNat b.toNat) (bytesLt l m) (Nat.blt a.toNat b.toNat)

def intBin (op : BinOp) (k : IntKind) (a b : Int) : Option Value := match op with
  | .add => some (.int k (wrapF k (Int.add a b)))
  | .sub => some (.int k (wrapF k (Int.sub a b)))
  | .mul => some (.int k (wrapF k (Int.mul a b)))
  | .quo => bi (ieq b 0) none (some (.int k (wrapF k (Int.tdiv a b))))
  | .rem => bi (ieq b 0) none (some (.int k (Int.tmod a b)))
  | .eql => some (.bool (ieq a b))
  | .neq => some (.bool (bnot (ieq a b)))
  | .lss => some (.bool (bnot (ile b a)))
  | .leq => some (.bool (ile a b))
  | .gtr => some (.bool (bnot (ile a b)))
  | .geq => some (.bool (ile b a))
  | .and => some (.int k (k.wrap (BitVec.ofInt k.bits a &&& BitVec.ofInt k.bits b).toNat))
  | .or => some (.int k (k.wrap (BitVec.ofInt k.bits a ||| BitVec.ofInt k.bits b).toNat))
  | .xor => some (.int k (k.wrap (BitVec.ofInt k.bits a ^^^ BitVec.ofInt k.bits b).toNat))
  | .andNot => some (.int k (k.wrap (BitVec.ofInt k.bits a &&& ~~~ BitVec.ofInt k.bits b).toNat))
  | .shl => bi (ile 0 b) (some (.int k (k.wrap (a * 2 ^ (min b.toNat k.bits))))) none
  | .shr => bi (ile 0 b) (some (.int k (a.fdiv (2 ^ (min b.toNat k.bits))))) none

def isSh : BinOp → Bool
  | .shl => true
  | .shr => true
  | _ => false

def strBin (op : BinOp) (a b : List UInt8) : Option Value := match op with
  | .add => bi (Nat.ble (a.length + b.length) 1000000) (some (.string ⟨⟨a ++ b⟩⟩)) none
  | .eql => some (.bool (bytesEq a b))
  | .neq => some (.bool (bnot (bytesEq a b)))
  | .lss => some (.bool (bytesLt a b))
  | .leq => some (.bool (bnot (bytesLt b a)))
  | .gtr => some (.bool (bytesLt b a))
  | .geq => some (.bool (bnot (bytesLt a b)))
  | _ => none

/-- equality with nil, and of bools -/
def eqN (u : TypeDesc) (x y : Value) : Option Bool := match u, x, y with
  | .bool, .bool a, .bool b => some (beqB a b)
  | .pointer _, .pointer none, .pointer b => some b.isNone
  | .pointer _, .pointer (some _), .pointer none => some false
  | .slice _, .slice none _ _, .slice b _ _ => some b.isNone
  | .slice _, .slice (some _) _ _, .slice none _ _ => some false
  | .map _ _, .map none, .map b => some b.isNone
  | .map _ _, .map (some _), .map none => some false
  | .func _ _ _, .nilFunc, .nilFunc => some true
  | .func _ _ _, .nilFunc, .func _ _ _ => some false
  | .func _ _ _, .func _ _ _, .nilFunc => some false
  | .interface _, .nilIface, .iface _ _ => some false
  | .interface _, .iface _ _, .nilIface => some false
  | _, _, _ => none

/-- of keys: the same one? -/
def eqK : Value → Value → Option Bool
  | .int k a, .int k' b => bi (kEq k k') (some (ieq a b)) none
  | .string a, .string b => some (bytesEq (strL a) (strL b))
  | .bool a, .bool b => some (beqB a b)
  | _, _ => none
def scalarD : TypeDesc → Value → Bool
  | .int _, .int _ _ => true
  | .string, .string _ => true
  | .bool, .bool _ => true
  | _, _ => false
def natIn (n : Nat) : List Nat → Bool
  | [] => false
  | a :: l => bi (Nat.beq a n) true (natIn n l)
noncomputable def eqStruct (E : Env) (deep : TypeId → List Value → List Value → Option Bool) (a b : List Value) (fs : List Field) : Option Bool :=
  List.rec (some true) (fun f _ ih => ob (E.ty.get f.type) fun r => bi (isAggD r.u)
    (bi (Nat.ble (f.offset + r.size) a.length) (bi (Nat.ble (f.offset + r.size) b.length) (ob (deep f.type ((a.drop f.offset).take r.size) ((b.drop f.offset).take r.size)) fun e => bi e ih (some false)) none) none)
    (ob a[f.offset]? fun x => ob b[f.offset]? fun y => bi (scalarD r.u x) (ob (eqK x y) fun e => bi e ih (some false)) none)) fs
/-- the elements of an array, as if they were fields -/
def elemFields (e : TypeId) (n : Nat) : Nat → Nat → List Field
  | 0, _ => []
  | k + 1, i => ⟨"a", e, i * n, false, "", "", 0⟩ :: elemFields e n k (i + 1)
noncomputable def eqAggN (E : Env) (n : Nat) : TypeId → List Value → List Value → Option Bool :=
  Nat.rec (fun _ _ _ => none) (fun _ deep t a b => bi (natIn t E.eqs) (ob (E.ty.get t) fun r => match r.u with
    | .struct fs => eqStruct E deep a b fs.toList
    | .array len e => ob (E.ty.get e) fun re => eqStruct E deep a b (elemFields e re.size len 0)
    | _ => none) none) n
noncomputable def eqAgg (E : Env) (t : TypeId) (a b : List Value) : Option Bool := eqAggN E 5 t a b
/-- of interface values: with scalars in them -/
noncomputable def eqI (E : Env) (t tx : TypeId) (vx : Value) (ty : TypeId) (vy : Value) : Option Bool := ob (E.ty.get t) fun r => match r.u with
  | .interface _ => bi (Nat.beq tx ty) (ob (E.ty.get tx) fun rx => bi rx.cmp (bi (scalarD rx.u vx) (eqK vx vy) none) none) (some false)
  | _ => none
noncomputable def eqV (E : Env) (t : TypeId) (x y : Value) : Option Bool := match x, y with
  | .agg ⟨a⟩, .agg ⟨b⟩ => eqAgg E t a b
  | .iface tx vx, .iface ty vy => eqI E t tx vx ty vy
  | x, y => ob (E.ty.get t) fun r => eqN r.u x y

noncomputable def binE (E : Env) (op : BinOp) (t : TypeId) (x y : Value) : Option Value := match x, y with
  | .int k a, .int k' b => bi (isSh op) (intBin op k a b) (bi (kEq k k') (intBin op k a b) none)
  | .string a, .string b => strBin op (strL a) (strL b)
  | x, y => match op with
    | .eql => om (eqV E t x y) .bool
    | .neq => om (eqV E t x y) fun b => .bool (bnot b)
    | _ => none

def unE (op : UnOp) (x : Value) : Option Value := match op, x with
  | .neg, .int k n => some (.int k (wrapF k (Int.sub 0 n)))
  | .not, .bool b => some (.bool (bnot b))
  | .xor, .int k n => intBin .xor k (if k.signed then -1 else k.max) n
  | _, _ => none

def idx (v : Value) (n : Nat) : Option Nat := match v with
  | .int _ (.ofNat i) => bi (Nat.blt i n) (some i) none
  | _ => none
def bound (v : Option Value) (d n : Nat) : Option Nat := match v with
  | none => some d
  | some (.int _ (.ofNat i)) => bi (Nat.ble i n) (some i) none
  | _ => none
noncomputable def oopv (E : Env) (α : A) (x : Option Operand) : Option (Option Value) :=
  Option.casesOn x (some none) (fun x => om (opv x E α) some)

/-- a capacity from capU on is not known: its element's size stands in it, and how much it is at least -/
def capM (cap : Nat) : Nat := Nat.div (Nat.sub cap capU) capK
def capZ (cap : Nat) : Nat := Nat.mod (Nat.sub cap capU) capK
/-- m is known, if it is more than the length -/
def capC (size m len : Nat) : Nat := bi (Nat.ble m len) (capU + size) (capU + size + capK * m)
def capL (len cap : Nat) : Nat := bi (Nat.ble capU cap) (bi (Nat.ble (capM cap) len) len (capM cap)) cap
def capS (len cap l h : Nat) : Nat := bi (Nat.ble capU cap) (capC (capZ cap) (Nat.sub (capL len cap) l) (Nat.sub h l)) (Nat.sub cap l)
def capOk (cap size : Nat) : Bool := bi (Nat.ble capU cap) (Nat.beq (capZ cap) size) true

noncomputable def sliceE (t : TypeId) (x : Value) (lo hi mx : Option Value) : Option Value :=
  ob (E.ty.get t) fun r => match r.u, x with
  | .string, .string s => match mx with
    | none => ob (bound hi (strL s).length (strL s).length) fun h => om (bound lo 0 h) fun l => .string ⟨⟨((strL s).drop l).take (Nat.sub h l)⟩⟩
    | some _ => none
  | .slice e, .slice a len cap => ob (E.ty.get e) fun re => bi (capOk cap re.size) (
    match mx with
    | none => ob (bound hi len (capL len cap)) fun h => om (bound lo 0 h) fun l => match a with
      | none => .slice none (Nat.sub h l) (capS len cap l h)
      | some a => .slice (some ⟨a.block, a.off + l * re.size, none⟩) (Nat.sub h l) (capS len cap l h)
    | some m => (match hi with
      | none => none
      | some u => ob (bound (some m) 0 (capL len cap)) fun m => bi (Nat.ble capU m) none <| ob (bound (some u) len m) fun h => om (bound lo 0 h) fun l => match a with
        | none => .slice none (Nat.sub h l) (Nat.sub m l)
        | some a => .slice (some ⟨a.block, a.off + l * re.size, none⟩) (Nat.sub h l) (Nat.sub m l))) none
  | .array n e, .pointer (some a) => (match mx with
    | none => bi (Nat.ble capU n) none <| ob (E.ty.get e) fun re => ob (bound hi n n) fun h => om (bound lo 0 h) fun l =>
      .slice (some ⟨a.block, a.off + l * re.size, none⟩) (Nat.sub h l) (Nat.sub n l)
    | some _ => none)
  | _, _ => none

/-- the beginning of an open slice -/
noncomputable def cutE (t : TypeId) (x : Value) (lo hi mx : Option Value) : Option Value := match lo, hi, mx with
  | none, some h, none => ob (E.ty.get t) fun r => (match r.u with | .slice e => ob (E.ty.get e) fun _ => lookF E.facts 31 x h | _ => none)
  | _, _, _ => none
/-- cells that are the same, one by one -/
noncomputable def bitsL : List Value → List Value → Bool
  | [], [] => true
  | a :: l, b :: m => (match eqK a b with | some true => bitsL l m | _ => false)
  | _, _ => false
/-- two keys; a key that is a struct holds scalars alone -/
noncomputable def keyE (E : Env) (kt : TypeId) (k e : Value) : Option Bool := match k with
  | .agg ⟨x⟩ => (match e with | .agg ⟨y⟩ => ob (eqAgg E kt x y) fun b => bi b (bi (bitsL y x) (some true) none) (some false) | _ => none)
  | k => eqK k e
noncomputable def keyOk (E : Env) (u : TypeDesc) (k : Value) : Bool := match k with
  | .agg ⟨x⟩ => (match u with | .struct fs => (match eqStruct E (fun _ _ _ => none) x x fs.toList with | some _ => true | none => false) | _ => false)
  | k => scalarD u k
noncomputable def findE (eq : Value → Option Bool) (l : List (Value × Value × Nat)) : Option (Option Value) :=
  List.rec (some none) (fun e _ ih => ob (eq e.1) fun b => bi b (some (some e.2.1)) ih) l
noncomputable def updE (eq : Value → Option Bool) (k v : Value) (clock : Nat) (l : List (Value × Value × Nat)) : Option (List (Value × Value × Nat) × Nat) :=
  List.rec (some ([(k, v, clock)], Nat.succ clock)) (fun e l ih => ob (eq e.1) fun b => bi b (some ((k, v, e.2.2) :: l, clock)) (om ih fun r => (e :: r.1, r.2))) l

noncomputable def mapAt (h : H) (r : Nat) : Option (List (Value × Value × Nat) × Nat) := ob (h.bl.get r) fun x => match x with
  | .mp es c => some (es, c)
  | _ => none

noncomputable def firstE (h : H) (size n : Nat) (v : Value) : Option (List Value) := match v with
  | .slice (some ⟨b, o, none⟩) _ _ => bi (Nat.beq n 0) (some []) (ob (cellsAt h b) fun c => getN c (n * size) o)
  | .slice none _ _ => some []
  | .string s => some (((strL s).take n).map fun b => .int .u8 b.toNat)
  | _ => none
def lenV : Value → Option Nat
  | .slice _ n _ => some n
  | .string s => some (strL s).length
  | _ => none

noncomputable def isIntT (E : Env) (t : TypeId) : Bool := match E.ty.get t with
  | some r => (match r.u with | .int _ => true | _ => false)
  | none => true
/-- so many zeros behind a nil slice -/
noncomputable def appendZ (h : H) (st xt : TypeId) (s x : Value) : Option (Value × H) :=
  ob (E.ty.get st) fun r => ob (E.ty.get xt) fun rx => match rx.u with
  | .int _ => (match r.u, s with
    | .slice e, .slice base _ _ => (match base, x with
      | none, .int _ (.ofNat (n + 1)) => ob (E.ty.get e) fun re => ob re.zero fun z =>
        bi (Nat.beq re.size 0) none <| bi (Nat.ble 1000000 re.bytes) none <| bi (Nat.ble capK re.size) none <| bi (Nat.ble 999999 n) none <| bi (Nat.beq (vcells z).length re.size) (bi (flat z)
          (some (.slice (some ⟨h.next, 0, none⟩) (Nat.succ n) (capU + re.size), newCells h (List.replicate (Nat.succ n) (vcells z)).flatten)) none) none
      | _, _ => none)
    | _, _ => none)
  | _ => none
noncomputable def appendE (h : H) (st xt : TypeId) (s x : Value) : Option (Value × H) :=
  bi (isIntT E xt) (appendZ E h st xt s x) <| ob (E.ty.get st) fun r => match r.u, s with
  | .slice e, .slice base sl cap => ob (E.ty.get e) fun re => ob re.zero fun z => bi (Nat.beq (vcells z).length re.size) (bi (Nat.ble 1000000 re.bytes) none <| ob (lenV x) fun n => ob (firstE h re.size n x) fun new => bi (Nat.beq new.length (n * re.size)) (bi (Nat.ble capK re.size) none <|
    match n with
    | 0 => some (s, h)
    | _ + 1 => bi (Nat.ble 1000000 (sl + n)) none <|
      match base with
      | none => some (.slice (some ⟨h.next, 0, none⟩) (sl + n) (capU + re.size), newCells h new)
      | some ⟨b, o, _⟩ => ob (cellsAt h b) fun c => ob (getN c (sl * re.size) o) fun old =>
        bi (Nat.ble capU cap)
          (bi (capOk cap re.size) (bi (Nat.ble (sl + n) (capM cap)) (om (storeRow h b (o + sl * re.size) new) fun h => (.slice base (sl + n) (capC re.size (capM cap) (sl + n)), h)) <| bi (scalL new) (ob (h.bl.get b) fun y => match y with
          | .cells _ c => ob (h.mem.get c) fun l => match o with
            | 0 => some (.slice (some ⟨h.next, 0, none⟩) (sl + n) (capU + re.size),
                ⟨Nat.succ h.next, (poison (sl * re.size) new.length h.next l h.bl).set h.next (.cells (T.setL (old ++ new) 0 .leaf) c), h.mem.set c (h.next :: l)⟩)
            | _ + 1 => some (.slice (some ⟨h.next, 0, none⟩) (sl + n) (capU + re.size),
                ⟨Nat.succ h.next, (eraseL l h.bl).set h.next (.cells (T.setL (old ++ new) 0 .leaf) h.next), h.mem.set h.next [h.next]⟩)
          | _ => none) none) none)
          (bi (Nat.blt cap (sl + n))
            (some (.slice (some ⟨h.next, 0, none⟩) (sl + n) (capU + re.size), newCells h (old ++ new)))
            (om (storeRow h b (o + sl * re.size) new) fun h => (.slice base (sl + n) cap, h)))) none) none
  | _, _ => none

noncomputable def copyE (h : H) (st : TypeId) (d x : Value) : Option (Value × H) :=
  ob (E.ty.get st) fun r => match r.u, d with
  | .slice e, .slice base dl _ => ob (E.ty.get e) fun re => ob (lenV x) fun n => ob (firstE h re.size (Nat.min n dl) x) fun new =>
    match new with
    | [] => some (.int .i64 (.ofNat (Nat.min n dl)), h)
    | _ :: _ => match base with
      | none => none
      | some ⟨b, o, _⟩ => om (storeRow h b o new) fun h => (.int .i64 (.ofNat (Nat.min n dl)), h)
  | _, _ => none

def isC : Operand → Bool
  | .const _ => true
  | _ => false

/-- the key of an operation of which something may be known -/
def someN : Option Operand → Nat
  | none => 0
  | some _ => 1
def okey (op : Op) : Option Nat := match op with
  | .load t _ => some (64 * t + 1)
  | .indexAddr t _ _ => some (64 * t + 2)
  | .index t _ _ => some (64 * t + 3)
  | .fieldAddr t _ i => bi (Nat.blt i 1024) (some (64 * (t * 1024 + i) + 4)) none
  | .slice t _ lo hi none => some (64 * (t * 4 + someN lo * 2 + someN hi) + 5)
  | .binOp op t _ _ _ => some (64 * (t * 32 + bcode op) + 6)
  | .nilCheck _ => some 7
  | .call c => (match c.callee, c.argTypes.toList with
    | .builtin .len, [t] => some (64 * t + 8)
    | _, _ => none)
  | _ => none
noncomputable def lookO (l : List OF) (k : Nat) (args : List Value) : Option Value :=
  List.rec none (fun c _ ih => bi (Nat.beq c.key k) (bi (caEqL c.args args) (some c.v) ih) ih) l
noncomputable def knownO (l : List OF) (op : Op) (E : Env) (α : A) : Option Value :=
  List.casesOn l none (fun _ _ => ob (okey op) fun k => ob (opvs E α op.operands.toList) fun args => lookO l k args)
-- what only looks at operands
noncomputable def pMove (x : Operand) (E : Env) (α : A) : Option Value := opv x E α
noncomputable def pPick (c a b : Operand) (E : Env) (α : A) : Option Value := ob (opv c E α) fun v => match v with
  | .bool t => bi t (opv a E α) (opv b E α)
  | _ => none
noncomputable def pBuild (t : TypeId) (ps : Array (Nat × Operand)) (E : Env) (α : A) : Option Value :=
  ob (E.ty.get t) fun r => ob r.zero fun z => bi (flat z) (ob (partsE E α ps.toList) fun ps => match r.u with
    | .struct fs => ob (placesE E fs.toList) fun pl => om (fillE (fun i => pl[i]?) ps (vcells z)) fun l => .agg ⟨l⟩
    | .array _ e => ob (E.ty.get e) fun re => om (fillE (fun i => some (i * re.size, re.size)) ps (vcells z)) fun l => .agg ⟨l⟩
    | _ => none) none
noncomputable def pNil (x : Operand) (E : Env) (α : A) : Option Value := ob (opv x E α) fun v => match v with
  | .pointer (some a) => some (.pointer (some a))
  | .func (.func f) a b => some (.func (.func f) a b)
  | _ => none
noncomputable def pBin (op : BinOp) (t : TypeId) (x y : Operand) (_ : TypeId) (E : Env) (α : A) : Option Value :=
  ob (opv x E α) fun v => ob (opv y E α) fun u => bi (bi (isSy v) true (isSy u)) (lookF E.facts (bcode op) v u) <| match v, u with
  | .nilIface, .nilIface => bi (isC x || isC y) (ob (E.ty.get t) fun r => match r.u, op with | .interface _, .eql => some (.bool true) | .interface _, .neq => some (.bool false) | _, _ => none) none
  | v, u => binE E op t v u
noncomputable def pUn (op : UnOp) (_ : TypeId) (x : Operand) (E : Env) (α : A) : Option Value := ob (opv x E α) fun v => bi (isSy v) (lookF E.facts (ucode op) v (.bool true)) (unE op v)
noncomputable def pConv (s d : TypeId) (x : Operand) (E : Env) (α : A) : Option Value :=
  ob (opv x E α) fun v => ob (E.ty.get s) fun rs => ob (E.ty.get d) fun rd => match rd.u, v with
  | .int k, .float .f64 c => lookF E.facts (kcode k) (.float .f64 c) (.bool true)
  | .int k, .int _ n => some (.int k (wrapF k n))
  | .string, .string b => (match rs.u with | .string => some (.string b) | _ => none)
  | _, _ => none
noncomputable def pIface (t : TypeId) (x : Operand) (E : Env) (α : A) : Option Value := ob (opv x E α) fun v => ob (E.ty.get t) fun r => match r.u with
  | .interface _ => none
  | _ => some (.iface t v)
noncomputable def pFunc (fn : Fn) (a b : Array Operand) (E : Env) (α : A) : Option Value := match fn with
  | .func g => ob (opvs E α a.toList) fun f => om (opvs E α b.toList) fun c => .func (.func g) ⟨f⟩ ⟨c⟩
  | _ => none
noncomputable def pSlice (t : TypeId) (x : Operand) (lo hi mx : Option Operand) (E : Env) (α : A) : Option Value :=
  ob (opv x E α) fun v => ob (oopv E α lo) fun lo => ob (oopv E α hi) fun hi => ob (oopv E α mx) fun mx => bi (isSy v) (cutE E t v lo hi mx) (sliceE E t v lo hi mx)
noncomputable def pFieldAddr (t : TypeId) (x : Operand) (i : Nat) (E : Env) (α : A) : Option Value :=
  ob (opv x E α) fun v => ob (E.ty.get t) fun r => match r.u, v with
  | .struct fs, .pointer (some ⟨b, o, none⟩) => ob (fs.toList[i]?) fun f => ob (E.ty.get f.type) fun rf => match rf.size with
    | 0 => none
    | _ + 1 => some (.pointer (some ⟨b, o + f.offset, none⟩))
  | _, _ => none
noncomputable def pField (t : TypeId) (x : Operand) (i : Nat) (E : Env) (α : A) : Option Value :=
  ob (opv x E α) fun v => ob (E.ty.get t) fun r => match r.u, v with
  | .struct fs, .agg ⟨cs⟩ => ob (fs.toList[i]?) fun f => partE E f.type cs f.offset
  | _, _ => none
/-- an open value that is known: fact 50 -/
noncomputable def normE (E : Env) (v : Value) : Value := match v with
  | .float .f64 c => (match lookF E.facts 50 (.float .f64 c) (.bool true) with | some u => u | none => .float .f64 c)
  | v => v
noncomputable def pIndexAddr (t : TypeId) (x i : Operand) (E : Env) (α : A) : Option Value :=
  ob (opv x E α) fun v => ob (opv i E α) fun i0 => let i := normE E i0; ob (E.ty.get t) fun r => match r.u, v with
  | .array n e, .pointer (some ⟨b, o, none⟩) => ob (E.ty.get e) fun re => om (idx i n) fun i => .pointer (some ⟨b, o + i * re.size, none⟩)
  | .slice e, .slice (some ⟨b, o, none⟩) n _ => ob (E.ty.get e) fun re => om (idx i n) fun i => .pointer (some ⟨b, o + i * re.size, none⟩)
  | _, _ => none
noncomputable def pIndex (t : TypeId) (x i : Operand) (E : Env) (α : A) : Option Value :=
  ob (opv x E α) fun v => ob (opv i E α) fun i => ob (E.ty.get t) fun r => match r.u, v with
  | .array n e, .agg ⟨cs⟩ => ob (E.ty.get e) fun re => ob (idx i n) fun i => partE E e cs (i * re.size)
  | .string, .string s => ob (idx i (strL s).length) fun i => om ((strL s)[i]?) fun (b : UInt8) => .int .u8 b.toNat
  | _, _ => none
noncomputable def pAssert (x : Operand) (_ t : TypeId) (ok : Bool) (E : Env) (α : A) : Option Value := ob (opv x E α) fun v => ob (E.ty.get t) fun r => match r.u, v with
  | .interface _, _ => none
  | _, .iface u v => bi (Nat.beq u t) (some (bi ok (.tuple #[v, .bool true]) v)) (bi ok (ob r.zero fun z => bi (flat z) (some (.tuple #[z, .bool false])) none) none)
  | _, .nilIface => bi ok (ob r.zero fun z => bi (flat z) (some (.tuple #[z, .bool false])) none) none
  | _, _ => none
noncomputable def pExtract (x : Operand) (i : Nat) (E : Env) (α : A) : Option Value := ob (opv x E α) fun v => match v with
  | .tuple ⟨l⟩ => l[i]?
  | _ => none
noncomputable def pCall (c : Call) (E : Env) (α : A) : Option Value := ob (opvs E α c.args.toList) fun args => match c.callee with
  | .builtin .len => ob (c.argTypes.toList[0]?) fun t => ob (E.ty.get t) fun r => match r.u, args with
    | .string, [.string s] => some (.int .i64 (.ofNat (strL s).length))
    | .slice _, [.slice _ n _] => some (.int .i64 (.ofNat n))
    | .slice _, [.float .f64 c] => lookF E.facts 30 (.float .f64 c) (.bool true)
    | .array n _, [_] => some (.int .i64 (.ofNat n))
    | _, _ => none
  | .builtin .max => (match args with
    | [.int k a, .int k' b] => bi (kEq k k') (some (.int k (bi (ile b a) a b))) none
    | [a, b] => ob (lookF E.facts 8 b a) fun r => match r with
      | .bool true => some a
      | .bool false => some b
      | _ => none
    | _ => none)
  | .builtin .min => (match args with | [.int k a, .int k' b] => bi (kEq k k') (some (.int k (bi (ile a b) a b))) none | _ => none)
  | .builtin .cap => ob (c.argTypes.toList[0]?) fun t => ob (E.ty.get t) fun r => match r.u, args with
    | .slice _, [.slice _ _ m] => bi (Nat.ble capU m) none (some (.int .i64 (.ofNat m)))
    | _, _ => none
  | _ => none
noncomputable def p0 (_ : Env) (_ : A) : Option Value := none
noncomputable def pureE0 (op : Op) : Env → A → Option Value := match op with
  | .move x => pMove x
  | .assign x => pMove x
  | .pick c a b => pPick c a b
  | .build t ps => pBuild t ps
  | .nilCheck x => pNil x
  | .binOp op t x y u => pBin op t x y u
  | .unOp op t x => pUn op t x
  | .convert s d x => pConv s d x
  | .makeInterface t x => pIface t x
  | .makeFunc fn a b => pFunc fn a b
  | .slice t x lo hi mx => pSlice t x lo hi mx
  | .fieldAddr t x i => pFieldAddr t x i
  | .field t x i => pField t x i
  | .indexAddr t x i => pIndexAddr t x i
  | .index t x i => pIndex t x i
  | .typeAssert x s t ok => pAssert x s t ok
  | .extract x i => pExtract x i
  | .call c => pCall c
  | _ => p0

noncomputable def pureE (op : Op) (E : Env) (α : A) : Option Value := Option.casesOn (knownO E.pures op E α) (pureE0 op E α) some

-- what reads memory
noncomputable def rLoad (t : TypeId) (x : Operand) (E : Env) (α : A) (h : H) : Option Value := ob (opv x E α) fun v => loadE E t v h
noncomputable def rLookup (t : TypeId) (x k : Operand) (ok : Bool) (E : Env) (α : A) (h : H) : Option Value :=
  ob (opv x E α) fun m => ob (opv k E α) fun k => ob (E.ty.get t) fun r => match r.u, m with
  | .map kt e, .map m => ob (E.ty.get kt) fun rk => bi (keyOk E rk.u k) (ob (match m with | none => some [] | some r => om (mapAt h r) Prod.fst) fun es =>
    ob (findE (keyE E kt k) es) fun f => match f with
      | some v => some (bi ok (.tuple #[v, .bool true]) v)
      | none => om (zeroOf E e) fun v => bi ok (.tuple #[v, .bool false]) v) none
  | _, _ => none
def bornE (n : Nat) : List (Value × Value × Nat) → Option Value
  | [] => none
  | e :: l => bi (Nat.beq e.2.2 n) (some (.tuple #[e.1, e.2.1])) (bornE n l)
noncomputable def rEntry (x : Operand) (E : Env) (α : A) (h : H) : Option Value := ob (opv x E α) fun p => match p with
  | .pointer (some ⟨b, 0, none⟩) => ob (h.bl.get b) fun y => match y with
    | .it (some m) _ seen last => ob seen.getLast? fun st => ob (mapAt h m) fun e => bi (Nat.beq e.2 last) (bornE st e.1) none
    | _ => none
  | _ => none
def bytesV : List Value → Option (List UInt8)
  | [] => some []
  | v :: l => match v with
    | .int .u8 (.ofNat n) => om (bytesV l) fun bs => UInt8.ofNat n :: bs
    | _ => none
/-- string(b) -/
noncomputable def rBytes (s d : TypeId) (x : Operand) (E : Env) (α : A) (h : H) : Option Value :=
  ob (opv x E α) fun v => ob (E.ty.get s) fun rs => ob (E.ty.get d) fun rd => match rs.u, rd.u, v with
  | .slice e, .string, .slice a n _ => ob (E.ty.get e) fun re => (match re.u with
    | .int .u8 => (match a with
      | none => some (.string ⟨⟨[]⟩⟩)
      | some ⟨b, o, none⟩ => ob (cellsAt h b) fun c => ob (getN c n o) fun l => om (bytesV l) fun bs => .string ⟨⟨bs⟩⟩
      | _ => none)
    | _ => none)
  | _, _, _ => none
noncomputable def r0 (_ : Env) (_ : A) (_ : H) : Option Value := none
noncomputable def readE0 (op : Op) : Env → A → H → Option Value := match op with
  | .load t x => rLoad t x
  | .lookup t x k ok => rLookup t x k ok
  | .entry x => rEntry x
  | .convert s d x => rBytes s d x
  | _ => r0

noncomputable def readE (op : Op) (E : Env) (α : A) (h : H) : Option Value := Option.casesOn (knownO E.loads op E α) (readE0 op E α h) some

-- what makes memory: the block, and the value for its number
noncomputable def aAlloc (t : TypeId) (E : Env) (_ : A) : Option (List Value × Option (Nat × Nat)) := om (zeroOf E t) fun z => (vcells z, none)
noncomputable def aBox (_ : TypeId) (x : Operand) (E : Env) (α : A) : Option (List Value × Option (Nat × Nat)) := om (opv x E α) fun z => (vcells z, none)
noncomputable def aSlice (t : TypeId) (len : Nat) (ps : Array (Nat × Operand)) (E : Env) (α : A) : Option (List Value × Option (Nat × Nat)) :=
  ob (E.ty.get t) fun r => ob (partsE E α ps.toList) fun ps => match r.u with
  | .slice e => ob (E.ty.get e) fun re => ob re.zero fun z => bi (flat z) (bi (Nat.beq (vcells z).length re.size) (bi (Nat.ble 1000000 (len * re.size)) none (bi (Nat.ble 1000000 len) none
      (om (fillE (fun i => some (i * re.size, re.size)) ps (List.flatten (List.replicate len (vcells z)))) fun l => (l, some (len, len))))) none) none
  | _ => none
noncomputable def aMake (t : TypeId) (l c : Operand) (E : Env) (α : A) : Option (List Value × Option (Nat × Nat)) :=
  ob (opv l E α) fun l => ob (opv c E α) fun c => ob (E.ty.get t) fun r => match r.u, l, c with
  | .slice e, .int _ (.ofNat l), .int _ (.ofNat c) => ob (E.ty.get e) fun re => ob re.zero fun z => bi (flat z) (bi (Nat.beq (vcells z).length re.size) (bi (Nat.ble l c) (bi (Nat.ble 1000000 re.bytes) none (bi (Nat.ble 1000000 c) none
      (some (List.flatten (List.replicate c (vcells z)), some (l, c))))) none) none) none
  | _, _, _ => none
noncomputable def a0 (_ : Env) (_ : A) : Option (List Value × Option (Nat × Nat)) := none
noncomputable def allocE (op : Op) : Env → A → Option (List Value × Option (Nat × Nat)) := match op with
  | .alloc t => aAlloc t
  | .box t x => aBox t x
  | .buildSlice t n ps => aSlice t n ps
  | .makeSlice t l c => aMake t l c
  | _ => a0
def mkA (b : Nat) (n : Option (Nat × Nat)) : Value := Option.casesOn n (.pointer (some ⟨b, 0, none⟩)) (fun n => .slice (some ⟨b, 0, none⟩) n.1 n.2)

-- what turns memory
abbrev CallT := Fn → List Value → H → Option (Value × H)
noncomputable def lStore (t : TypeId) (x y : Operand) (E : Env) (_ : CallT) (α : A) (h : H) : Option (Value × H) :=
  ob (opv x E α) fun p => ob (opv y E α) fun v => om (storeE E t p v h) fun h => (.tuple #[], h)
noncomputable def lUpdate (t : TypeId) (m k x : Operand) (E : Env) (_ : CallT) (α : A) (h : H) : Option (Value × H) :=
  ob (opv m E α) fun m => ob (opv k E α) fun k => ob (opv x E α) fun x => ob (E.ty.get t) fun r => match r.u, m with
  | .map kt _, .map (some b) => ob (E.ty.get kt) fun rk => bi (keyOk E rk.u k) (ob (mapAt h b) fun e => om (updE (keyE E kt k) k x e.2 e.1) fun u =>
      (.tuple #[], ⟨h.next, h.bl.set b (.mp u.1 u.2), h.mem⟩)) none
  | _, _ => none
noncomputable def lMap (_ : TypeId) (r : Option Operand) (_ : Env) (_ : CallT) (_ : A) (h : H) : Option (Value × H) := match r with
  | none => some (.map (some h.next), newBlk h (.mp [] 0))
  | some _ => none
noncomputable def cloneE (args : List Value) (h : H) : Option (Value × H) := match args with
  | [.iface t (.map (some b))] => om (mapAt h b) fun e => (.iface t (.map (some h.next)), newBlk h (.mp e.1 e.2))
  | _ => none
def findB (c : Nat) : Nat → List UInt8 → Option Nat
  | _, [] => none
  | i, a :: l => bi (Nat.beq a.toNat c) (some i) (findB c (i + 1) l)
def idxE (args : List Value) (h : H) : Option (Value × H) := match args with
  | [.string s, .int .u8 (.ofNat c)] => bi (Nat.blt c 256) (some (match findB c 0 (strL s) with | some i => .int .i64 (.ofNat i) | none => .int .i64 (-1), h)) none
  | _ => none
def strE (args : List Value) (h : H) : Option (Value × H) := match args with
  | [.string s] => bi (Nat.ble (strL s).length 1000000) (some (.string s, h)) none
  | _ => none
noncomputable def callV (E : Env) (f : Value) (args : List Value) (cl : CallT) (h : H) : Option (Value × H) := match f with
  | .func (.func f) ⟨a⟩ ⟨b⟩ => bi (Nat.beq f E.clone.clone) (bi (Nat.beq f 0) none (cloneE (a ++ args ++ b) h)) (bi (Nat.beq f E.clone.idx) (bi (Nat.beq f 0) none (idxE (a ++ args ++ b) h)) (bi (Nat.beq f E.clone.str) (bi (Nat.beq f 0) none (strE (a ++ args ++ b) h)) (cl (.func f) (a ++ args ++ b) h)))
  | .func (.yield l) ⟨[]⟩ ⟨[]⟩ => cl (.yield l) args h
  | _ => none
noncomputable def lRange (t : TypeId) (x : Operand) (E : Env) (_ : CallT) (α : A) (h : H) : Option (Value × H) := ob (opv x E α) fun m => ob (E.ty.get t) fun r => match r.u, m with
  | .map _ _, .map none => some (.pointer (some ⟨h.next, 0, none⟩), newBlk h (.it none 0 [] 0))
  | .map _ _, .map (some b) => om (mapAt h b) fun e => (.pointer (some ⟨h.next, 0, none⟩), newBlk h (.it (some b) e.2 [] e.2))
  | _, _ => none
def leftE (seen : List Nat) : List (Value × Value × Nat) → List (Value × Value × Nat)
  | [] => []
  | e :: l => bi (natIn e.2.2 seen) (leftE seen l) (e :: leftE seen l)
noncomputable def lNext (x : Operand) (isS : Bool) (E : Env) (_ : CallT) (α : A) (h : H) : Option (Value × H) := bi isS none (ob (opv x E α) fun p => match p with
  | .pointer (some ⟨b, 0, none⟩) => ob (h.bl.get b) fun y => match y with
    | .it none _ _ _ => some (.tuple #[.bool false], h)
    | .it (some m) since seen last => ob (mapAt h m) fun e => match leftE seen e.1 with
      | [] => (match seen, e.1 with
        | [], [] => some (.tuple #[.bool false], h)
        | _ :: _, [] => some (.tuple #[.bool false], h)
        | _, _ :: _ => bi (List.all e.1 fun x => Nat.ble last x.2.2) none (some (.tuple #[.bool false], h)))
      | [x] => (match seen with
        | [] => bi (Nat.blt x.2.2 since) (some (.tuple #[.bool true, x.1, x.2.1], ⟨h.next, h.bl.set b (.it (some m) since (seen ++ [x.2.2]) e.2), h.mem⟩)) none
        | _ :: _ => none)
      | _ => none
    | _ => none
  | _ => none)
noncomputable def delKey (eq : Value → Option Bool) (l : List (Value × Value × Nat)) : Option (List (Value × Value × Nat)) :=
  List.rec (some []) (fun e l ih => ob (eq e.1) fun b => bi b (some l) (om ih fun r => e :: r)) l
noncomputable def deleteM (E : Env) (h : H) (t : TypeId) (m k : Value) : Option (Value × H) := ob (E.ty.get t) fun r => match r.u, m with
  | .map kt _, .map (some b) => ob (E.ty.get kt) fun rk => bi (keyOk E rk.u k) (ob (mapAt h b) fun e => om (delKey (keyE E kt k) e.1) fun es =>
      (.tuple #[], ⟨h.next, h.bl.set b (.mp es e.2), h.mem⟩)) none
  | _, _ => none
/-- clear -/
noncomputable def clearE (E : Env) (h : H) (t : TypeId) (x : Value) : Option (Value × H) := ob (E.ty.get t) fun r => match r.u, x with
  | .slice e, .slice (some ⟨b, o, none⟩) (n + 1) _ => ob (E.ty.get e) fun re => ob re.zero fun z => bi (flat z) (om (storeRow h b o (List.replicate (n + 1) (vcells z)).flatten) fun h => (.tuple #[], h)) none
  | .slice _, .slice _ 0 _ => some (.tuple #[], h)
  | .map _ _, .map none => some (.tuple #[], h)
  | .map _ _, .map (some b) => om (mapAt h b) fun e => (.tuple #[], ⟨h.next, h.bl.set b (.mp [] e.2), h.mem⟩)
  | _, _ => none
noncomputable def lCall (c : Call) (E : Env) (cl : CallT) (α : A) (h : H) : Option (Value × H) := ob (opvs E α c.args.toList) fun args => match c.callee with
  | .value f => ob (opv f E α) fun f => callV E f args cl h
  | .builtin .append => (match args with | [s, x] => (match c.argTypes.toList with | [t, u] => appendE E h t u s x | _ => none) | _ => none)
  | .builtin .copy => (match args with | [s, x] => (match c.argTypes.toList with | [t, _] => copyE E h t s x | _ => none) | _ => none)
  | .builtin .clear => (match args with | [x] => (match c.argTypes.toList with | t :: _ => clearE E h t x | _ => none) | _ => none)
  | .builtin .delete => (match args with | [m, k] => (match c.argTypes.toList with | t :: _ => deleteM E h t m k | _ => none) | _ => none)
  | .builtin .len => (match c.argTypes.toList with
    | [t] => ob (E.ty.get t) fun r => match r.u, args with
      | .map _ _, [.map none] => some (.int .i64 0, h)
      | .map _ _, [.map (some b)] => om (mapAt h b) fun e => (.int .i64 (.ofNat e.1.length), h)
      | _, _ => none
    | _ => none)
  | _ => none
/-- []byte(s) -/
noncomputable def lBytes (s d : TypeId) (x : Operand) (E : Env) (_ : CallT) (α : A) (h : H) : Option (Value × H) :=
  ob (opv x E α) fun v => ob (E.ty.get s) fun rs => ob (E.ty.get d) fun rd => match rs.u, rd.u, v with
  | .string, .slice e, .string str => ob (E.ty.get e) fun re => (match re.u with
    | .int .u8 => some (.slice (some ⟨h.next, 0, none⟩) (strL str).length (capU + 1), newCells h ((strL str).map fun b => .int .u8 b.toNat))
    | _ => none)
  | _, _, _ => none
noncomputable def l0 (_ : Env) (_ : CallT) (_ : A) (_ : H) : Option (Value × H) := none
noncomputable def loudE (op : Op) : Env → CallT → A → H → Option (Value × H) := match op with
  | .store t x y => lStore t x y
  | .mapUpdate t m k x => lUpdate t m k x
  | .insert t m k x => lUpdate t m k x
  | .makeMap t r => lMap t r
  | .range t x => lRange t x
  | .next x b => lNext x b
  | .convert s d x => lBytes s d x
  | .call c => lCall c
  | _ => l0

def isPureB : Builtin → Bool
  | .max => true
  | .min => true
  | .cap => true
  | _ => false
noncomputable def isMapT (E : Env) (t : TypeId) : Bool := match E.ty.get t with
  | some r => (match r.u with | .map _ _ => true | _ => false)
  | none => false
noncomputable def convK (E : Env) (s d : TypeId) : Nat := match E.ty.get s, E.ty.get d with
  | some rs, some rd => (match rs.u, rd.u with
    | .string, .slice _ => 3
    | .slice _, .string => 1
    | _, _ => 0)
  | _, _ => 0
/-- 0: looks at operands alone; 1: reads; 2: makes; 3: turns; 4: defers -/
noncomputable def kindOf (E : Env) (op : Op) : Nat := match op with
  | .load _ _ => 1
  | .lookup _ _ _ _ => 1
  | .entry _ => 1
  | .alloc _ => 2
  | .box _ _ => 2
  | .buildSlice _ _ _ => 2
  | .makeSlice _ _ _ => 2
  | .store _ _ _ => 3
  | .mapUpdate _ _ _ _ => 3
  | .insert _ _ _ _ => 3
  | .makeMap _ r => Option.casesOn r 5 fun _ => 3
  | .range _ _ => 3
  | .next _ _ => 3
  | .convert s d _ => convK E s d
  | .call c => (match c.callee with
    | .builtin .len => bi (match c.argTypes.toList with | [t] => isMapT E t | _ => false) 3 0
    | .builtin b => bi (isPureB b) 0 3
    | _ => 3)
  | .defer _ => 4
  | _ => 0

noncomputable def putD (α : A) (d : Option Tmp) (v : Value) : A := Option.casesOn d α (fun d => ⟨α.t.set d v, α.d⟩)

noncomputable def deferE (op : Op) (E : Env) (α : A) : Option A := match op with
  | .defer c => (match c.callee with
    | .value f => ob (opvs E α c.args.toList) fun args => ob (opv f E α) fun f => match f with
      | .func (.func f) ⟨a⟩ ⟨b⟩ => some ⟨α.t, .fn f (a ++ args ++ b) :: α.d⟩
      | _ => none
    | _ => none)
  | _ => none

/-- one operation, wanted -/
noncomputable def stepK (E : Env) (cl : CallT) (o : Oper) (α : A) (h : H) (k : Nat) : Option (A × H) :=
  Nat.casesOn k (om (pureE o.op E α) fun v => (putD α o.dst v, h)) fun k =>
  Nat.casesOn k (om (readE o.op E α h) fun v => (putD α o.dst v, h)) fun k =>
  Nat.casesOn k (om (allocE o.op E α) fun p => (putD α o.dst (mkA h.next p.2), newCells h p.1)) fun k =>
  Nat.casesOn k (om (loudE o.op E cl α h) fun p => (putD α o.dst p.1, p.2)) fun k =>
  Nat.casesOn k (om (deferE o.op E α) fun α => (putD α o.dst (.tuple #[]), h)) fun _ =>
  om (loudE o.op E cl α h) fun p => (putD α o.dst p.1, p.2)

noncomputable def wantedE (ops : List Oper) (α : A) (o : Oper) : Option Bool := Option.casesOn o.guard (some true) fun g =>
  ob (ops[g.1]?) fun p => ob p.dst fun t => ob (α.t.get t) fun v => match v with
    | .bool b => some (beqB b g.2)
    | .float _ _ => none
    | _ => some false

noncomputable def stepE (E : Env) (cl : CallT) (N : Nat) (ops : List Oper) (o : Oper) (α : A) (h : H) : Option (A × H) :=
  bi (Option.casesOn o.dst true fun d => Nat.blt d N)
    (ob (wantedE ops α o) fun w => bi w (stepK E cl o α h (kindOf E o.op)) (some (putD α o.dst (.tuple #[]), h))) none

noncomputable def seqE (E : Env) (cl : CallT) (N : Nat) (ops : List Oper) (l : List Oper) : A → H → Option (A × H) :=
  List.rec (fun α h => some (α, h)) (fun o _ ih α h => ob (stepE E cl N ops o α h) fun p => ih p.1 p.2) l

noncomputable def resE (E : Env) (α : A) (h : H) (l : List ResultVar) : Option (List Value) :=
  List.rec (some []) (fun r _ ih => ResultVar.casesOn r (fun t => ob (α.t.get t) fun v => om ih fun vs => v :: vs)
    (fun a t => ob (α.t.get a) fun p => ob (loadE E t p h) fun v => om ih fun vs => v :: vs)) l

abbrev RegT := List Oper → A → H → Option (A × H)
abbrev Out := Option (Ex × A × H)

noncomputable def iterE (b : A → H → Out) (n : Nat) : A → H → Out :=
  Nat.rec (fun _ _ => none) (fun _ ih α h => ob (b α h) fun r => Ex.casesOn r.1 (ih r.2.1 r.2.2) (fun i => some (.exit i, r.2)) (some (.ret, r.2))) n

/-- the first region of a piece of code -/
noncomputable def firstId (c : Code) : Option Nat :=
  Code.rec (motive := fun _ => Unit → Option Nat) (fun _ => none) (fun id _ _ _ => some id) (fun _ _ ia ib u => Option.casesOn (ia u) (ib u) some) (fun _ _ _ ia ib u => Option.casesOn (ia u) (ib u) some) (fun _ _ ib => ib) (fun _ ib => ib) (fun _ _ _ _ _ _ _ => none) (fun _ _ => none) (fun _ ib => ib) (fun _ _ => none) (fun _ _ => none) (fun _ => none) (fun _ _ => none) c ()
noncomputable def slotsHave (t : T Value) (l : List (Nat × Value)) : Bool := List.rec true (fun p _ ih => bi (match t.get p.1 with | some v => caEq p.2 v | none => false) ih false) l
noncomputable def slotT (l : List (Nat × Value)) : T Value := List.rec .leaf (fun p _ ih => T.set ih p.1 p.2) l
/-- slots that point to rows -/
noncomputable def boxHas (h : H) (v : Value) (l : List Value) : Bool := match v with
  | .pointer (some ⟨b, o, none⟩) => (match ob (cellsAt h b) fun c => getN c l.length o with | some vs => caEqL l vs | none => false)
  | _ => false
noncomputable def boxesHave (t : T Value) (h : H) (l : List (Nat × List Value)) : Bool := List.rec true (fun p _ ih => bi (match t.get p.1 with | some v => boxHas h v p.2 | none => false) ih false) l
noncomputable def keepS (t : T Value) (l : List (Nat × List Value)) (s : T Value) : T Value := List.rec s (fun p _ ih => match t.get p.1 with | some v => T.set ih p.1 v | none => ih) l
noncomputable def lookL (l : List LF) (f id : Nat) (t : T Value) (h : H) : Option LF :=
  List.rec none (fun c _ ih => bi (Nat.beq c.f f) (bi (Nat.beq c.id id) (bi (slotsHave t c.ins) (bi (boxesHave t h c.boxes) (some c) ih) ih) ih) ih) l
noncomputable def knownL (E : Env) (ro : Option Nat) (body : Code) (α : A) (h : H) : Option LF :=
  Option.casesOn ro (List.casesOn E.loops none (fun _ _ => Nat.casesOn E.cur none (fun f => List.casesOn α.d (ob (firstId body) fun id => lookL E.loops f id α.t h) (fun _ _ => none)))) (fun _ => none)
noncomputable def loopE (E : Env) (ro : Option Nat) (body : Code) (ib : A → H → Out) (α : A) (h : H) : Out :=
  Option.casesOn (knownL E ro body α h) (iterE ib 100000 α h) (fun c => some (c.ex, ⟨keepS α.t c.boxes (slotT c.outs), α.d⟩, h))
/-- no operation defers -/
def noDefL : List Oper → Bool
  | [] => true
  | o :: l => match o.op with | .defer _ => false | _ => noDefL l
def noDefC : Code → Bool
  | .region _ ops _ => noDefL ops.toList
  | .seq a b => bi (noDefC a) (noDefC b) false
  | .cond _ a b => bi (noDefC a) (noDefC b) false
  | .block _ a => noDefC a
  | .loop a => noDefC a
  | .rangeFunc _ _ a b => bi (noDefC a) (noDefC b) false
  | .scope a => noDefC a
  | _ => true
/-- a loop over a function is entered: outermost, or in the round of another one -/
noncomputable def enterE (ro : Option Nat) (α : A) (h : H) : Option (A × H) := match ro with
  | none => some (⟨α.t, .col h.next :: α.d⟩, newBlk h (.df true))
  | some l => ob (h.bl.get l) fun x => match x with
    | .lp _ => some (α, h)
    | _ => none
noncomputable def setLp (h : H) (l : Nat) (x : Lp) : T Blk := h.bl.set l (.lp x)
def jumpE (j : Option Code) : Option Ex := match j with
  | none => some .normal
  | some (.exit i) => some (.exit i)
  | some .ret => some .ret
  | _ => none
noncomputable def leaveE (l : Nat) (α : A) (h : H) : Out := ob (h.bl.get l) fun x => match x with
  | .lp x => bi (Nat.beq x.st 1) none (om (jumpE x.pend) fun e => (e, α, ⟨h.next, setLp h l ⟨3, x.pend, x.t, x.n, x.ps, x.as, x.body⟩, h.mem⟩))
  | _ => none
noncomputable def rangeE (E : Env) (cl : CallT) (N : Nat) (ro : Option Nat) (f : Operand) (ps : List Nat) (as body : Code) (α : A) (h : H) : Out :=
  ob (opv f E α) fun fv => match fv with
  | .func (.func g) ⟨a⟩ ⟨b⟩ => bi (noDefC as) (bi (noDefC body) (ob (enterE ro α h) fun p =>
      ob (cl (.func g) (a ++ [.func (.yield p.2.next) #[] #[]] ++ b) (newBlk p.2 (.lp ⟨0, none, α.t, N, ps, as, body⟩))) fun r => leaveE p.2.next p.1 r.2) none) none
  | _ => none
noncomputable def evC (E : Env) (cl : CallT) (N : Nat) (ro : Option Nat) (sq dr : RegT) (c : Code) : A → H → Out :=
  Code.rec (motive := fun _ => A → H → Out)
    (fun α h => some (.normal, α, h))
    (fun _ ops d α h => om (bi d (dr ops.toList α h) (sq ops.toList α h)) fun r => (.normal, r))
    (fun _ _ ia ib α h => ob (ia α h) fun r => Ex.casesOn r.1 (ib r.2.1 r.2.2) (fun i => some (.exit i, r.2)) (some (.ret, r.2)))
    (fun c _ _ ia ib α h => ob (opv c E α) fun v => match v with | .bool t => bi t (ia α h) (ib α h) | _ => none)
    (fun id _ ib α h => ob (ib α h) fun r => Ex.casesOn r.1 (some (.normal, r.2)) (fun i => bi (Nat.beq i id) (some (.normal, r.2)) (some (.exit i, r.2))) (some (.ret, r.2)))
    (fun b ib => loopE E ro b ib)
    (fun f ps as body _ _ α h => rangeE E cl N ro f ps.toList as body α h)
    (fun id α h => some (.exit id, α, h))
    (fun _ ib => ib)
    (fun _ α h => some (.normal, α, h))
    (fun _ _ _ => none)
    (fun α h => some (.ret, α, h))
    (fun _ _ _ => none) c

-- a region that draws its order
/-- of each operation: which must lie ahead (a bit each), by the list of those before it, in order from the last -/
def bitOr (a b : Nat) : Nat := Nat.lor a b
def shl1 (a : Nat) : Nat := Nat.shiftLeft 1 a
def binding (e : Edge) : Bool := match e.ground with
  | .textOnly _ => false
  | .gcOnly _ => false
  | _ => true
def directOf : List Edge → Nat
  | [] => 0
  | e :: l => bi (binding e) (bitOr (shl1 e.on) (directOf l)) (directOf l)
def closeOf (done : List Nat) : Nat → List Edge → Nat
  | acc, [] => acc
  | acc, e :: l => closeOf done (bi (binding e) (bitOr (bitOr acc (shl1 e.on)) (done.getD e.on 0)) acc) l
/-- the closures, in order -/
def closures : List Oper → List Nat → List Nat
  | [], done => done
  | o :: l, done => closures l (done ++ [closeOf done 0 o.after.toList])
def edgesOk (i : Nat) : List Edge → Bool
  | [] => true
  | e :: l => bi (binding e) (bi (Nat.blt e.on i) (edgesOk i l) false) (edgesOk i l)
def tmpOf : Operand → Option Tmp
  | .tmp t => some t
  | _ => none
/-- an operation from number k on that writes t lies directly ahead of the reader i (mask), or the reader directly ahead of it -/
def clear (t : Tmp) (i mask : Nat) : Nat → List Oper → Bool
  | _, [] => true
  | k, o :: l => bi (match o.dst with
    | some d => bi (Nat.beq d t) (bi (Nat.testBit mask k) true (Nat.testBit (directOf o.after.toList) i)) true
    | none => true) (clear t i mask (k + 1) l) false
def clearAll (ops : List Oper) (i mask : Nat) : List Operand → Bool
  | [] => true
  | x :: l => bi (match tmpOf x with
    | some t => clear t i mask 0 ops
    | none => true) (clearAll ops i mask l) false
/-- its destination is no other's -/
def alone (i : Nat) (d : Tmp) : Nat → List Oper → Bool
  | _, [] => true
  | k, o :: l => bi (Nat.beq k i) (alone i d (k + 1) l) (match o.dst with
    | some e => bi (Nat.beq d e) false (alone i d (k + 1) l)
    | none => alone i d (k + 1) l)
def guardOk (ops : List Oper) (mask : Nat) (g : Option (Nat × Bool)) : Bool := match g with
  | none => true
  | some g => match ops[g.1]? with
    | some p => (match p.dst with | some _ => Nat.testBit mask g.1 | none => false)
    | none => false
def opOk (ops : List Oper) (i : Nat) (o : Oper) : Bool :=
  bi (edgesOk i o.after.toList) (bi (clearAll ops i (directOf o.after.toList) o.op.operands.toList)
    (bi (guardOk ops (directOf o.after.toList) o.guard) (match o.dst with | some d => alone i d 0 ops | none => true) false) false) false
def opsOk (ops : List Oper) : Nat → List Oper → Bool
  | _, [] => true
  | i, o :: l => bi (opOk ops i o) (opsOk ops (i + 1) l) false
def regionOk (ops : List Oper) : Bool := opsOk ops 0 ops

/-- equality of values, sure where it says yes -/
def veq1 : Value → Value → Bool
  | .bool a, .bool b => beqB a b
  | .int k a, .int k' b => bi (kEq k k') (ieq a b) false
  | .string a, .string b => bytesEq (strL a) (strL b)
  | .pointer none, .pointer none => true
  | .pointer (some ⟨b, o, none⟩), .pointer (some ⟨b', o', none⟩) => bi (Nat.beq b b') (Nat.beq o o') false
  | .slice none n c, .slice none n' c' => bi (Nat.beq n n') (Nat.beq c c') false
  | .slice (some ⟨b, o, none⟩) n c, .slice (some ⟨b', o', none⟩) n' c' => bi (Nat.beq b b') (bi (Nat.beq o o') (bi (Nat.beq n n') (Nat.beq c c') false) false) false
  | .map none, .map none => true
  | .map (some a), .map (some b) => Nat.beq a b
  | .nilFunc, .nilFunc => true
  | .nilIface, .nilIface => true
  | .float .f64 c, .float .f64 d => Nat.beq c d
  | _, _ => false
def veqL : List Value → List Value → Bool
  | [], [] => true
  | a :: l, b :: m => bi (veq1 a b) (veqL l m) false
  | _, _ => false
def veq : Value → Value → Bool
  | .agg ⟨a⟩, .agg ⟨b⟩ => veqL a b
  | .tuple ⟨a⟩, .tuple ⟨b⟩ => veqL a b
  | .func (.func f) ⟨a⟩ ⟨b⟩, .func (.func g) ⟨c⟩ ⟨d⟩ => bi (Nat.beq f g) (bi (veqL a c) (veqL b d) false) false
  | a, b => veq1 a b

structure Pend where
  i : Nat
  id : Nat
  row : Option (List Value)
structure Rd where
  i : Nat
  op : Op
  α : A
  v : Value
/-- of a region under way: the slots; the memory; the rows that no loud operation needs yet; what was read; the loud operations till now, from the last, each with the memory ahead of it -/
structure G where
  α : A
  h : H
  pend : List Pend
  rds : List Rd
  past : List (Nat × H)

noncomputable def addRow (h : H) (p : Pend) : H := Option.casesOn p.row ⟨Nat.succ h.next, h.bl.set p.id (.mp [] 0), h.mem⟩ fun row => ⟨Nat.succ h.next, h.bl.set p.id (.cells (T.setL row 0 .leaf) h.next), h.mem.set h.next [p.id]⟩
/-- the rows of a mask into memory; the others stay -/
noncomputable def absorb (mask : Nat) (l : List Pend) : H → H × List Pend :=
  List.rec (fun h => (h, [])) (fun p _ ih h => bi (Nat.testBit mask p.i) (ih (addRow h p)) (let r := ih h; (r.1, p :: r.2))) l
noncomputable def absorbAll (l : List Pend) : H → H := List.rec (fun h => h) (fun p _ ih h => ih (addRow h p)) l
/-- what was read and may be read behind the loud operation still reads so -/
noncomputable def rdsOk (E : Env) (h : H) (mask : Nat) (l : List Rd) : Bool :=
  List.rec true (fun r _ ih => bi (Nat.testBit mask r.i) ih (match readE r.op E r.α h with | some v => bi (veq v r.v) ih false | none => false)) l
/-- what is read now would have read so ahead of the loud operations that need not lie ahead of it -/
noncomputable def pastOk (E : Env) (α : A) (op : Op) (v : Value) (mask : Nat) (l : List (Nat × H)) : Bool :=
  List.rec true (fun r _ ih => bi (Nat.testBit mask r.1) true (match readE op E α r.2 with | some u => bi (veq u v) ih false | none => false)) l
def lastOk (mask : Nat) : List (Nat × H) → Bool
  | [] => true
  | p :: _ => Nat.testBit mask p.1

/-- makes an empty map -/
def isMk : Op → Bool
  | .makeMap _ none => true
  | _ => false
noncomputable def drawK (E : Env) (cl : CallT) (base i mask : Nat) (o : Oper) (g : G) (k : Nat) : Option G :=
  Nat.casesOn k (om (pureE o.op E g.α) fun v => ⟨putD g.α o.dst v, g.h, g.pend, g.rds, g.past⟩) fun k =>
  Nat.casesOn k (ob (readE o.op E g.α g.h) fun v => bi (pastOk E g.α o.op v mask g.past) (some ⟨putD g.α o.dst v, g.h, g.pend, ⟨i, o.op, g.α, v⟩ :: g.rds, g.past⟩) none) fun k =>
  Nat.casesOn k (om (allocE o.op E g.α) fun p => ⟨putD g.α o.dst (mkA (base + i) p.2), g.h, ⟨i, base + i, some p.1⟩ :: g.pend, g.rds, g.past⟩) fun k =>
  Nat.casesOn k (bi (lastOk mask g.past) (let r := absorb mask g.pend g.h
    ob (loudE o.op E cl g.α r.1) fun p => bi (rdsOk E p.2 mask g.rds) (some ⟨putD g.α o.dst p.1, p.2, r.2, g.rds, (i, g.h) :: g.past⟩) none) none) fun k =>
  Nat.casesOn k (bi (lastOk mask g.past) (bi (rdsOk E g.h mask g.rds) (om (deferE o.op E g.α) fun α => ⟨putD α o.dst (.tuple #[]), g.h, g.pend, g.rds, (i, g.h) :: g.past⟩) none) none) fun _ =>
  bi (isMk o.op) (some ⟨putD g.α o.dst (.map (some (base + i))), g.h, ⟨i, base + i, none⟩ :: g.pend, g.rds, g.past⟩) none

noncomputable def drawE (E : Env) (cl : CallT) (N : Nat) (ops : List Oper) (base : Nat) (l : List Oper) : Nat → List Nat → G → Option G :=
  List.rec (fun _ _ g => some g) (fun o _ ih i ms g => List.casesOn ms none fun m ms =>
    bi (Option.casesOn o.dst true fun d => Nat.blt d N)
      (ob (wantedE ops g.α o) fun w => ob (bi w (drawK E cl base i m o g (kindOf E o.op)) (some ⟨putD g.α o.dst (.tuple #[]), g.h, g.pend, g.rds, g.past⟩)) fun g => ih (Nat.succ i) ms g) none) l

noncomputable def regD (E : Env) (cl : CallT) (N : Nat) (ops : List Oper) (α : A) (h : H) : Option (A × H) :=
  bi (regionOk ops) (om (drawE E cl N ops h.next ops 0 (closures ops []) ⟨α, ⟨h.next + ops.length, h.bl, h.mem⟩, [], [], []⟩) fun g => (g.α, absorbAll g.pend g.h)) none

-- panics
noncomputable def delDst (ops : List Oper) (t : T Value) : T Value := List.rec t (fun o _ ih => Option.casesOn o.dst ih fun d => T.del ih d) ops
def isCand (op : Op) : Bool := match op with
  | .panic _ => true
  | .call c => (match c.callee with | .value _ => true | _ => false)
  | _ => false
def candsE : Nat → List Oper → List Nat
  | _, [] => []
  | i, o :: l => bi (isCand o.op) (i :: candsE (i + 1) l) (candsE (i + 1) l)
/-- an operation that panics, or comes to a call that does -/
noncomputable def panK (E : Env) (pn : CallT) (o : Oper) (α : A) (h : H) : Option (Value × H) := match o.op with
  | .panic x => ob (opv x E α) fun v => match v with
    | .iface t u => some (.iface t u, h)
    | _ => none
  | .call c => (match c.callee with
    | .value f => ob (opvs E α c.args.toList) fun args => ob (opv f E α) fun fv => match fv with
      | .func (.func g) ⟨a⟩ ⟨b⟩ => pn (.func g) (a ++ args ++ b) h
      | _ => none
    | _ => none)
  | _ => none
abbrev OutP := Option (Value × A × H)
noncomputable def panS (E : Env) (cl pn : CallT) (N : Nat) (ops : List Oper) (i : Nat) (α : A) (h : H) : OutP :=
  ob (ops[i]?) fun o => ob (seqE E cl N ops (ops.take i) α h) fun p => ob (wantedE ops p.1 o) fun w => bi w (om (panK E pn o p.1 p.2) fun q => (q.1, p.1, q.2)) none
/-- those behind number i need it -/
def laterOk (i : Nat) : Nat → List Nat → Bool
  | _, [] => true
  | k, m :: l => bi (Nat.ble k i) (laterOk i (k + 1) l) (bi (Nat.testBit m i) (laterOk i (k + 1) l) false)
noncomputable def panD (E : Env) (cl pn : CallT) (N : Nat) (ops : List Oper) (i : Nat) (α : A) (h : H) : OutP :=
  ob (ops[i]?) fun o => ob ((closures ops [])[i]?) fun m => bi (regionOk (ops.take i)) (bi (opOk (ops.take i) i o) (bi (laterOk i 0 (closures ops []))
    (ob (drawE E cl N (ops.take i) h.next (ops.take i) 0 (closures (ops.take i) []) ⟨α, ⟨h.next + (ops.take i).length, h.bl, h.mem⟩, [], [], []⟩) fun g => ob (wantedE (ops.take i) g.α o) fun w => bi w
      (bi (lastOk m g.past) (om (panK E pn o g.α (absorb m g.pend g.h).1) fun q => (q.1, ⟨delDst (ops.take i) g.α.t, g.α.d⟩, q.2)) none) none) none) none) none
noncomputable def panR (E : Env) (cl pn : CallT) (N : Nat) (ops : List Oper) (d : Bool) (α : A) (h : H) : OutP :=
  List.rec none (fun i _ ih => Option.casesOn (bi d (panD E cl pn N ops i α h) (panS E cl pn N ops i α h)) ih some) (candsE 0 ops)
/-- a range over a function that panics -/
noncomputable def rangeP (E : Env) (pn : CallT) (N : Nat) (f : Operand) (ps : List Nat) (as body : Code) (α : A) (h : H) : OutP :=
  ob (opv f E α) fun fv => match fv with
  | .func (.func g) ⟨a⟩ ⟨b⟩ => bi (noDefC as) (bi (noDefC body) (ob (enterE none α h) fun p =>
      om (pn (.func g) (a ++ [.func (.yield p.2.next) #[] #[]] ++ b) (newBlk p.2 (.lp ⟨0, none, α.t, N, ps, as, body⟩))) fun q => (q.1, p.1, q.2)) none) none
  | _ => none
noncomputable def iterP (b : A → H → Out) (p : A → H → OutP) (n : Nat) : A → H → OutP :=
  Nat.rec (fun _ _ => none) (fun _ ih α h => Option.casesOn (b α h) (p α h) (fun r => Ex.casesOn r.1 (ih r.2.1 r.2.2) (fun _ => none) none)) n
/-- code that is left by a panic -/
noncomputable def evP (E : Env) (cl pn : CallT) (N : Nat) (sq dr : RegT) (c : Code) : A → H → OutP :=
  Code.rec (motive := fun _ => A → H → OutP)
    (fun _ _ => none)
    (fun _ ops d α h => panR E cl pn N ops.toList d α h)
    (fun a _ ia ib α h => Option.casesOn (evC E cl N none sq dr a α h) (ia α h) (fun r => Ex.casesOn r.1 (ib r.2.1 r.2.2) (fun _ => none) none))
    (fun c _ _ ia ib α h => ob (opv c E α) fun v => match v with | .bool t => bi t (ia α h) (ib α h) | _ => none)
    (fun _ _ ib => ib)
    (fun b ib => iterP (evC E cl N none sq dr b) ib 100000)
    (fun f ps as body _ _ α h => rangeP E pn N f ps.toList as body α h)
    (fun _ _ _ => none)
    (fun _ _ _ _ => none)
    (fun _ _ _ => none)
    (fun _ _ _ => none)
    (fun _ _ => none)
    (fun _ _ _ => none) c

-- a deferred call: s: what recover gives (nothing: nil)
noncomputable def isRec (op : Op) : Bool := match op with
  | .call c => (match c.callee with | .builtin .recover => true | _ => false)
  | _ => false
noncomputable def isStore (op : Op) : Bool := match op with
  | .store _ _ _ => true
  | _ => false
abbrev DSt := Option Value
def recV (s : DSt) : Value := Option.casesOn s .nilIface fun v => v
noncomputable def stepD (E : Env) (cl : CallT) (N : Nat) (ops : List Oper) (o : Oper) (α : A) (h : H) (s : DSt) : Option (A × H × DSt) :=
  bi (isRec o.op) (bi (Option.casesOn o.dst true fun d => Nat.blt d N) (ob (wantedE ops α o) fun w => some (bi w (putD α o.dst (recV s), h, none) (putD α o.dst (.tuple #[]), h, s))) none)
    (bi (bi (Nat.blt (kindOf E o.op) 3) true (isStore o.op)) (om (stepE E cl N ops o α h) fun p => (p.1, p.2, s)) none)
noncomputable def seqD (E : Env) (cl : CallT) (N : Nat) (ops : List Oper) (l : List Oper) : A → H → DSt → Option (A × H × DSt) :=
  List.rec (fun α h s => some (α, h, s)) (fun o _ ih α h s => ob (stepD E cl N ops o α h s) fun p => ih p.1 p.2.1 p.2.2) l
abbrev OutD := Option (Ex × A × H × DSt)
noncomputable def evD (E : Env) (cl : CallT) (N : Nat) (sq dr : RegT) (c : Code) : A → H → DSt → OutD := match c with
  | .seq a b => fun α h s => ob (evD E cl N sq dr a α h s) fun r => Ex.casesOn r.1 (evD E cl N sq dr b r.2.1 r.2.2.1 r.2.2.2) (fun i => some (.exit i, r.2)) (some (.ret, r.2))
  | .cond c a b => fun α h s => ob (opv c E α) fun v => match v with | .bool t => bi t (evD E cl N sq dr a α h s) (evD E cl N sq dr b α h s) | _ => none
  | .region id ops false => fun α h s => bi (List.any ops.toList fun o => isRec o.op) (om (seqD E cl N ops.toList ops.toList α h s) fun r => (.normal, r)) (om (evC E cl N none sq dr (.region id ops false) α h) fun r => (r.1, r.2.1, r.2.2, s))
  | c => fun α h s => om (evC E cl N none sq dr c α h) fun r => (r.1, r.2.1, r.2.2, s)

-- calls
noncomputable def initA (args : List Value) : A := ⟨T.ofList args, []⟩
def pack (l : List Value) : Value := match l with
  | [v] => v
  | l => .tuple ⟨l⟩
noncomputable def endD (E : Env) (fn : Func) (α : A) (h : H) : Option H := List.casesOn α.d (om (resE E α h fn.results.toList) fun _ => h) fun _ _ => none
noncomputable def bodyD (E : Env) (cl : CallT) (fn : Func) (args : List Value) (h : H) (s : DSt) : Option (H × DSt) :=
  ob fn.body fun b => bi (Nat.ble args.length fn.ntmps)
    (ob (evD E cl fn.ntmps (fun ops => seqE E cl fn.ntmps ops ops) (regD E cl fn.ntmps) b (initA args) h s) fun r => Ex.casesOn r.1 (om (endD E fn r.2.1 r.2.2.1) fun h => (h, r.2.2.2)) (fun _ => none) (om (endD E fn r.2.1 r.2.2.1) fun h => (h, r.2.2.2))) none
noncomputable def shutE (h : H) (id : Nat) : T Blk := h.bl.set id (.df false)
noncomputable def runDefers (E : Env) (cl : CallT) (l : List Df) : H → Option H :=
  List.rec (fun h => some h) (fun d _ ih h => match d with
    | .fn f args => ob (E.fn.get f) fun fn => ob (bodyD E cl fn args h none) fun r => ih r.1
    | .col id => ob (h.bl.get id) fun x => match x with
      | .df true => ih ⟨h.next, shutE h id, h.mem⟩
      | _ => none) l
/-- deferred calls of a function that panics: one of them recovers -/
noncomputable def runDefP (E : Env) (cl : CallT) (v : Value) (l : List Df) : H → Option H :=
  List.rec (fun _ => none) (fun d rest ih h => match d with
    | .fn f args => ob (E.fn.get f) fun fn => ob (bodyD E cl fn args h (some v)) fun r => Option.casesOn r.2 (runDefers E cl rest r.1) (fun _ => ih r.1)
    | .col id => ob (h.bl.get id) fun x => match x with
      | .df true => ih ⟨h.next, shutE h id, h.mem⟩
      | _ => none) l
noncomputable def doneE (E : Env) (cl : CallT) (fn : Func) (α : A) (h : H) : Option (Value × H) :=
  ob (runDefers E cl α.d h) fun h => om (resE E α h fn.results.toList) fun l => (pack l, h)
noncomputable def bodyE (E : Env) (cl : CallT) (f : Nat) (fn : Func) (args : List Value) (h : H) : Option (Value × H) :=
  ob fn.body fun b => bi (Nat.ble args.length fn.ntmps)
    (ob (evC (E.cu (Nat.succ f)) cl fn.ntmps none (fun ops => seqE E cl fn.ntmps ops ops) (regD E cl fn.ntmps) b (initA args) h) fun r => Ex.casesOn r.1 (doneE E cl fn r.2.1 r.2.2) (fun _ => none) (doneE E cl fn r.2.1 r.2.2)) none
/-- the round of a loop over a function -/
noncomputable def setPs : List Nat → List Value → T Value → T Value
  | p :: ps, a :: l, t => setPs ps l (t.set p a)
  | _, _, t => t
noncomputable def endRE (l : Nat) (st : Nat) (j : Option Code) (b : Bool) (h : H) : Option (Value × H) := ob (h.bl.get l) fun x => match x with
  | .lp x => some (.bool b, ⟨h.next, setLp h l ⟨st, j, x.t, x.n, x.ps, x.as, x.body⟩, h.mem⟩)
  | _ => none
noncomputable def beginE (l : Nat) (h : H) : Option H := ob (h.bl.get l) fun x => match x with
  | .lp x => bi (Nat.beq x.st 0) (some ⟨h.next, setLp h l ⟨1, x.pend, x.t, x.n, x.ps, x.as, x.body⟩, h.mem⟩) none
  | _ => none
noncomputable def runRE (E : Env) (cl : CallT) (l N : Nat) (as body : Code) (t : T Value) (h : H) : Option (Value × H) :=
  ob (evC E cl N (some l) (fun ops => seqE E cl N ops ops) (regD E cl N) as ⟨t, []⟩ h) fun r => Ex.casesOn r.1
    (ob (beginE l r.2.2) fun h1 => ob (evC E cl N (some l) (fun ops => seqE E cl N ops ops) (regD E cl N) body r.2.1 h1) fun r =>
      Ex.casesOn r.1 (endRE l 0 none true r.2.2) (fun i => endRE l 2 (some (.exit i)) false r.2.2) (endRE l 2 (some .ret) false r.2.2))
    (fun _ => none) none
noncomputable def roundE (E : Env) (cl : CallT) (l : Nat) (args : List Value) (h : H) : Option (Value × H) := ob (h.bl.get l) fun x => match x with
  | .lp x => bi (Nat.beq args.length x.ps.length) (bi (List.all x.ps fun p => Nat.blt p x.n) (runRE E cl l x.n x.as x.body (setPs x.ps args x.t) h) none) none
  | _ => none
/-- a row as it stands in a block that is only read -/
noncomputable def rowIs (t : T Value) (l : List Value) : Nat → Bool :=
  List.rec (fun _ => true) (fun u _ ih o => bi (match t.get o with | some v => bi (flat1 u) (veq1 v u) false | none => false) (ih (Nat.succ o)) false) l
noncomputable def needsE (h : H) (l : List (Nat × List Value)) : Bool :=
  List.rec true (fun p _ ih => bi (match h.bl.get p.1 with | some (.ro t) => rowIs t p.2 0 | _ => false) ih false) l
-- runs that are known
def listEq {α : Type} (f : α → α → Bool) : List α → List α → Bool
  | [], [] => true
  | a :: l, b :: m => bi (f a b) (listEq f l m) false
  | _, _ => false
noncomputable def valEq (n : Nat) : Value → Value → Bool :=
  Nat.rec veq1 (fun _ ih a b => match a, b with
    | .agg ⟨x⟩, .agg ⟨y⟩ => listEq ih x y
    | .tuple ⟨x⟩, .tuple ⟨y⟩ => listEq ih x y
    | .func (.func f) ⟨x⟩ ⟨z⟩, .func (.func g) ⟨y⟩ ⟨u⟩ => bi (Nat.beq f g) (bi (listEq ih x y) (listEq ih z u) false) false
    | .iface t v, .iface u w => bi (Nat.beq t u) (ih v w) false
    | a, b => veq1 a b) n
def optEq (f : Value → Value → Bool) (a b : Option Value) : Bool := match a, b with
  | none, none => true
  | some a, some b => f a b
  | _, _ => false
noncomputable def treeEq (t : T Value) : T Value → Bool :=
  T.rec (fun s => T.casesOn s true (fun _ _ _ => false)) (fun v _ _ il ir s => T.casesOn s false (fun u m n => bi (optEq (valEq 3) v u) (bi (il m) (ir n) false) false)) t
def entEq (f : Value → Value → Bool) (a b : Value × Value × Nat) : Bool := bi (f a.1 b.1) (bi (f a.2.1 b.2.1) (Nat.beq a.2.2 b.2.2) false) false
def onatEq (a b : Option Nat) : Bool := match a, b with
  | none, none => true
  | some a, some b => Nat.beq a b
  | _, _ => false
noncomputable def blkEq (a b : Blk) : Bool := match a, b with
  | .cells t c, .cells s d => bi (Nat.beq c d) (treeEq t s) false
  | .ro t, .ro s => treeEq t s
  | .mp es k, .mp fs l => bi (Nat.beq k l) (listEq (entEq (valEq 3)) es fs) false
  | .it m s n st, .it m' s' n' st' => bi (onatEq m m') (bi (Nat.beq s s') (bi (listEq Nat.beq n n') (Nat.beq st st') false) false) false
  | _, _ => false
def fsts {α : Type} : List (Nat × α) → List Nat
  | [] => []
  | p :: l => p.1 :: fsts l
noncomputable def setP {α : Type} (l : List (Nat × α)) (t : T α) : T α := List.rec t (fun p _ ih => T.set ih p.1 p.2) l
noncomputable def delP {α : Type} (l : List Nat) (t : T α) : T α := List.rec t (fun i _ ih => T.del ih i) l
noncomputable def startR (r : Run) : H := ⟨r.next, setP r.pre .leaf, setP r.mem .leaf⟩
noncomputable def endR (r : Run) : H := ⟨r.next', setP r.post .leaf, setP r.mem' .leaf⟩
/-- without what may lie where rows of these classes lie -/
noncomputable def delC {α : Type} (l : List (Nat × List Nat)) (t : T α) : T α := List.rec t (fun p _ ih => delP p.2 ih) l
noncomputable def mergeR (h : H) (r : Run) : H := ⟨r.next', setP r.post (delC r.mem (delP (fsts r.pre) h.bl)), setP r.mem' (delP (fsts r.mem) h.mem)⟩
/-- the blocks of a run are there -/
noncomputable def preOk (h : H) (r : Run) : Bool :=
  bi (List.all r.pre fun p => match h.bl.get p.1 with | some x => blkEq x p.2 | none => false)
    (List.all r.mem fun p => match h.mem.get p.1 with | some l => listEq Nat.beq l p.2 | none => false) false
noncomputable def lookR (l : List Run) (f : Nat) (args : List Value) (h : H) : Option Run :=
  List.rec none (fun r _ ih => bi (Nat.beq r.f f) (bi (Nat.beq r.next h.next) (bi (listEq (valEq 3) r.args args) (bi (preOk h r) (some r) ih) ih) ih) ih) l
/-- what is asked of a run that is known, beside that it is one -/
def classOf : Blk → Option Nat
  | .cells _ c => some c
  | _ => none
/-- the place of an entry of a tree -/
noncomputable def placeE (t : T Value) : Option Nat :=
  T.rec none (fun v _ _ il ir => Option.casesOn v (Option.casesOn il (om ir fun k => Nat.succ (Nat.succ (2 * k))) (fun k => some (Nat.succ (2 * k)))) (fun _ => some 0)) t
noncomputable def runChk (r : Run) : Bool :=
  bi (List.all r.pre fun p => match p.2 with | .cells t c => bi (natIn c (fsts r.mem)) (match placeE t with | some q => (match t.get q with | some _ => true | none => false) | none => false) false | .ro _ => true | _ => false)
  (bi (List.all r.post fun p => bi (bi (natIn p.1 (fsts r.pre)) true (Nat.ble r.next p.1)) (bi (match classOf p.2 with | some c => natIn c (fsts r.mem') | none => true) (match (endR r).bl.get p.1 with | some x => blkEq x p.2 | none => false) false) false)
  (List.all r.mem' fun p => bi (bi (natIn p.1 (fsts r.mem)) true (Nat.ble r.next p.1)) (match (endR r).mem.get p.1 with | some x => listEq Nat.beq x p.2 | none => false) false) false) false
/-- a function that panics: with deferred calls that recover; without any -/
noncomputable def bodyR (E : Env) (cl pn : CallT) (fn : Func) (args : List Value) (h : H) : Option (Value × H) :=
  ob fn.body fun b => bi (noDefC b) none (bi (Nat.ble args.length fn.ntmps)
    (ob (evP E cl pn fn.ntmps (fun ops => seqE E cl fn.ntmps ops ops) (regD E cl fn.ntmps) b (initA args) h) fun r =>
      ob (runDefP E cl r.1 r.2.1.d r.2.2) fun h => om (resE E r.2.1 h fn.results.toList) fun l => (pack l, h)) none)
/-- what the rounds of loops have deferred: nothing -/
noncomputable def runCols (l : List Df) : H → Option H :=
  List.rec (fun h => some h) (fun d _ ih h => match d with
    | .fn _ _ => none
    | .col id => ob (h.bl.get id) fun x => match x with
      | .df true => ih ⟨h.next, shutE h id, h.mem⟩
      | _ => none) l
noncomputable def panF (E : Env) (cl pn : CallT) (f : Nat) (args : List Value) (h : H) : Option (Value × H) :=
  ob (E.fn.get f) fun fn => ob fn.body fun b => bi (Nat.ble args.length fn.ntmps)
    (ob (evP E cl pn fn.ntmps (fun ops => seqE E cl fn.ntmps ops ops) (regD E cl fn.ntmps) b (initA args) h) fun r => om (runCols r.2.1.d r.2.2) fun h => (r.1, h)) none
noncomputable def callF (E : Env) (cl pn : CallT) (f : Nat) (args : List Value) (h : H) : Option (Value × H) :=
  Option.casesOn (lookC E.calls f args) (Option.casesOn (lookR E.runs f args h) (ob (E.fn.get f) fun fn => Option.casesOn (bodyE E cl f fn args h) (bodyR E cl pn fn args h) some) (fun r => some (r.v, mergeR h r))) (fun c => bi (needsE h c.need) (some (c.v, h)) none)
/-- calls: those that return (false), those that panic (true) -/
noncomputable def callB (E : Env) (n : Nat) : Bool → CallT :=
  Nat.rec (fun _ _ _ _ => none) (fun _ cb b f args h => Bool.casesOn b
    (match f with
    | .func f => callF E (cb false) (cb true) f args h
    | .yield l => roundE E (cb false) l args h
    | _ => none)
    (match f with
    | .func f => panF E (cb false) (cb true) f args h
    | _ => none)) n
noncomputable def callM (E : Env) (n : Nat) : CallT := callB E n false
noncomputable def callN (E : Env) (n f : Nat) (args : List Value) (h : H) : Option (Value × H) := callM E n (.func f) args h
-- several ways: the order of the entries of a map; operations of a region whose order is open
noncomputable def obL {α β : Type} (l : List α) (f : α → Option (List β)) : Option (List β) :=
  List.rec (some []) (fun a _ ih => ob (f a) fun x => om ih fun y => x ++ y) l
def sing {α : Type} (a : α) : List α := [a]
abbrev OutT := Option (List (Ex × A × H))
abbrev CallTT := Fn → List Value → H → Option (List (Value × H))
abbrev RegTT := List Oper → A → H → Option (List (A × H))
noncomputable def nextT (x : Operand) (isS : Bool) (E : Env) (α : A) (h : H) : Option (List (Value × H)) := bi isS none (ob (opv x E α) fun p => match p with
  | .pointer (some ⟨b, 0, none⟩) => ob (h.bl.get b) fun y => match y with
    | .it (some m) since seen last => ob (mapAt h m) fun e => match leftE seen e.1 with
      | [] => none
      | q :: l => bi (List.all e.1 fun x => Nat.blt x.2.2 since) (bi (Nat.ble since last)
          (some (List.map (fun x => (Value.tuple #[.bool true, x.1, x.2.1], (⟨h.next, h.bl.set b (.it (some m) since (seen ++ [x.2.2]) e.2), h.mem⟩ : H))) (q :: l))) none) none
    | _ => none
  | _ => none)
noncomputable def callTV (E : Env) (f : Value) (args : List Value) (ct : CallTT) (h : H) : Option (List (Value × H)) := match f with
  | .func (.func f) ⟨a⟩ ⟨b⟩ => bi (Nat.beq f E.clone.clone) none (bi (Nat.beq f E.clone.idx) none (bi (Nat.beq f E.clone.str) none (ct (.func f) (a ++ args ++ b) h)))
  | .func (.yield l) ⟨[]⟩ ⟨[]⟩ => ct (.yield l) args h
  | _ => none
noncomputable def multiE (E : Env) (ct : CallTT) (op : Op) (α : A) (h : H) : Option (List (Value × H)) := match op with
  | .next x b => nextT x b E α h
  | .call c => (match c.callee with
    | .value f => ob (opvs E α c.args.toList) fun args => ob (opv f E α) fun f => callTV E f args ct h
    | _ => none)
  | _ => none
noncomputable def stepT (E : Env) (cl : CallT) (ct : CallTT) (N : Nat) (ops : List Oper) (o : Oper) (α : A) (h : H) : Option (List (A × H)) :=
  bi (Option.casesOn o.dst true fun d => Nat.blt d N)
    (ob (wantedE ops α o) fun w => bi w
      (Option.casesOn (multiE E ct o.op α h) (om (stepK E cl o α h (kindOf E o.op)) sing) (fun l => some (List.map (fun p => (putD α o.dst p.1, p.2)) l)))
      (some (sing (putD α o.dst (.tuple #[]), h)))) none
noncomputable def seqT (E : Env) (cl : CallT) (ct : CallTT) (N : Nat) (ops : List Oper) (l : List Oper) : A → H → Option (List (A × H)) :=
  List.rec (fun α h => some (sing (α, h))) (fun o _ ih α h => ob (stepT E cl ct N ops o α h) fun L => obL L fun p => ih p.1 p.2) l
-- a region whose order is open: each order of two operations that turn memory
noncomputable def pairE (E : Env) : List Oper → List Nat → Nat → Option Nat → Option (Nat × Nat)
  | o :: l, m :: ms, i, p => bi (bi (Nat.blt (kindOf E o.op) 3) true (isMk o.op)) (pairE E l ms (i + 1) p) (match p with
    | none => pairE E l ms (i + 1) (some i)
    | some j => bi (Nat.testBit m j) (pairE E l ms (i + 1) (some i)) (some (j, i)))
  | _, _, _, _ => none
def addE (j : Nat) : List Oper → Nat → List Oper
  | [], _ => []
  | o :: l, 0 => { o with after := ⟨⟨j, .chain⟩ :: o.after.toList⟩ } :: l
  | o :: l, i + 1 => o :: addE j l i
def posOf (i : Nat) : List Nat → Nat
  | [] => 0
  | j :: l => bi (Nat.beq j i) 0 (posOf i l + 1)
def renum (order : List Nat) (o : Oper) : Oper :=
  { o with after := ⟨o.after.toList.map fun e => ⟨posOf e.on order, e.ground⟩⟩, guard := match o.guard with | none => none | some g => some (posOf g.1 order, g.2) }
def permR (ops : List Oper) (order : List Nat) : List Nat → List Oper
  | [] => []
  | i :: l => match ops[i]? with
    | some o => renum order o :: permR ops order l
    | none => permR ops order l
def nodupB : List Nat → Bool
  | [] => true
  | a :: l => bi (natIn a l) false (nodupB l)
def okOrder (order : List Nat) (n : Nat) : Bool := bi (Nat.beq order.length n) (bi (nodupB order) (bi (List.all order fun i => Nat.blt i n) (List.all (List.range n) fun i => natIn i order) false) false) false
def orderE (n m i : Nat) : List Nat := (List.range n).filter (fun k => Nat.testBit m k) ++ i :: (List.range n).filter (fun k => bi (Nat.testBit m k) false (bi (Nat.beq k i) false true))
def flipE (ops : List Oper) (i j : Nat) : Option (List Oper) := match (closures ops [])[j]? with
  | none => none
  | some m => bi (Nat.beq i j) none (bi (okOrder (orderE ops.length m j) ops.length) (some (permR (addE j ops i) (orderE ops.length m j) (orderE ops.length m j))) none)
noncomputable def drawT (E : Env) (cl : CallT) (N n : Nat) : List Oper → A → H → Option (List (A × H)) :=
  Nat.rec (fun ops α h => om (regD E cl N ops α h) sing) (fun _ ih ops α h => Option.casesOn (regD E cl N ops α h)
    (ob (pairE E ops (closures ops []) 0 none) fun p => ob (flipE ops p.1 p.2) fun B => ob (ih (addE p.1 ops p.2) α h) fun x => om (ih B α h) fun y => x ++ y) (fun p => some (sing p))) n
noncomputable def iterT (b : A → H → OutT) (n : Nat) : A → H → OutT :=
  Nat.rec (fun _ _ => none) (fun _ ih α h => ob (b α h) fun L => obL L fun r => Ex.casesOn r.1 (ih r.2.1 r.2.2) (fun i => some (sing (.exit i, r.2))) (some (sing (.ret, r.2)))) n
noncomputable def rangeT (E : Env) (ct : CallTT) (N : Nat) (ro : Option Nat) (f : Operand) (ps : List Nat) (as body : Code) (α : A) (h : H) : OutT :=
  ob (opv f E α) fun fv => match fv with
  | .func (.func g) ⟨a⟩ ⟨b⟩ => bi (noDefC as) (bi (noDefC body) (ob (enterE ro α h) fun p =>
      ob (ct (.func g) (a ++ [.func (.yield p.2.next) #[] #[]] ++ b) (newBlk p.2 (.lp ⟨0, none, α.t, N, ps, as, body⟩))) fun L => obL L fun r => om (leaveE p.2.next p.1 r.2) sing) none) none
  | _ => none
noncomputable def evT (E : Env) (ct : CallTT) (N : Nat) (ro : Option Nat) (sq dr : RegTT) (c : Code) : A → H → OutT :=
  Code.rec (motive := fun _ => A → H → OutT)
    (fun α h => some (sing (.normal, α, h)))
    (fun _ ops d α h => om (bi d (dr ops.toList α h) (sq ops.toList α h)) fun L => List.map (fun r => (Ex.normal, r)) L)
    (fun _ _ ia ib α h => ob (ia α h) fun L => obL L fun r => Ex.casesOn r.1 (ib r.2.1 r.2.2) (fun i => some (sing (.exit i, r.2))) (some (sing (.ret, r.2))))
    (fun c _ _ ia ib α h => ob (opv c E α) fun v => match v with | .bool t => bi t (ia α h) (ib α h) | _ => none)
    (fun id _ ib α h => ob (ib α h) fun L => obL L fun r => Ex.casesOn r.1 (some (sing (.normal, r.2))) (fun i => bi (Nat.beq i id) (some (sing (.normal, r.2))) (some (sing (.exit i, r.2)))) (some (sing (.ret, r.2))))
    (fun _ ib => iterT ib 100000)
    (fun f ps as body _ _ α h => rangeT E ct N ro f ps.toList as body α h)
    (fun id α h => some (sing (.exit id, α, h)))
    (fun _ ib => ib)
    (fun _ α h => some (sing (.normal, α, h)))
    (fun _ _ _ => none)
    (fun α h => some (sing (.ret, α, h)))
    (fun _ _ _ => none) c
noncomputable def bodyT (E : Env) (cl : CallT) (ct : CallTT) (fn : Func) (args : List Value) (h : H) : Option (List (Value × H)) :=
  ob fn.body fun b => bi (Nat.ble args.length fn.ntmps)
    (ob (evT E ct fn.ntmps none (fun ops => seqT E cl ct fn.ntmps ops ops) (drawT E cl fn.ntmps 8) b (initA args) h) fun L => obL L fun r => Ex.casesOn r.1 (om (doneE E cl fn r.2.1 r.2.2) sing) (fun _ => none) (om (doneE E cl fn r.2.1 r.2.2) sing)) none
noncomputable def runRT (E : Env) (cl : CallT) (ct : CallTT) (l N : Nat) (as body : Code) (t : T Value) (h : H) : Option (List (Value × H)) :=
  ob (evT E ct N (some l) (fun ops => seqT E cl ct N ops ops) (drawT E cl N 8) as ⟨t, []⟩ h) fun L => obL L fun r => Ex.casesOn r.1
    (ob (beginE l r.2.2) fun h1 => ob (evT E ct N (some l) (fun ops => seqT E cl ct N ops ops) (drawT E cl N 8) body r.2.1 h1) fun L => obL L fun r =>
      Ex.casesOn r.1 (om (endRE l 0 none true r.2.2) sing) (fun i => om (endRE l 2 (some (.exit i)) false r.2.2) sing) (om (endRE l 2 (some .ret) false r.2.2) sing))
    (fun _ => none) none
noncomputable def roundT (E : Env) (cl : CallT) (ct : CallTT) (l : Nat) (args : List Value) (h : H) : Option (List (Value × H)) := ob (h.bl.get l) fun x => match x with
  | .lp x => bi (Nat.beq args.length x.ps.length) (bi (List.all x.ps fun p => Nat.blt p x.n) (runRT E cl ct l x.n x.as x.body (setPs x.ps args x.t) h) none) none
  | _ => none
/-- the ways go on with the same next number -/
noncomputable def maxN (L : List (Value × H)) : Nat := List.rec 0 (fun p _ ih => bi (Nat.ble ih p.2.next) p.2.next ih) L
noncomputable def padL (L : List (Value × H)) : List (Value × H) := List.map (fun p => (p.1, (⟨maxN L, p.2.bl, p.2.mem⟩ : H))) L
noncomputable def callFT (E : Env) (cl : CallT) (ct : CallTT) (f : Nat) (args : List Value) (h : H) : Option (List (Value × H)) :=
  Option.casesOn (lookC E.calls f args) (Option.casesOn (lookR E.runs f args h) (ob (E.fn.get f) fun fn => om (bodyT E cl ct fn args h) padL) (fun r => some (sing (r.v, mergeR h r)))) (fun c => bi (needsE h c.need) (some (sing (c.v, h))) none)
noncomputable def callT (E : Env) (cl : CallT) (n : Nat) : CallTT :=
  Nat.rec (fun _ _ _ => none) (fun _ ct f args h => match f with
    | .func f => callFT E cl ct f args h
    | .yield l => roundT E cl ct l args h
    | _ => none) n
end
end Go.Ev
