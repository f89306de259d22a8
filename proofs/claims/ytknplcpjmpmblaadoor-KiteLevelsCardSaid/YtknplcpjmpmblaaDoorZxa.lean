/- A run of the program at known arguments, worked out: its values, its memory, its operations. -/
import Derived.Test.YtknplcpjmpmblaaDoorRows
import Derived.WalkKit
import Derived.WalkSpells
import Derived.WalkLawsBesides
import Derived.Lib.Hide
import Derived.Orders
import Derived.Still
set_option linter.unusedVariables false
set_option linter.unusedSimpArgs false
namespace Go.Proofs.YtknplcpjmpmblaaDoor.GX
open Go

/-- Where a block of the run lies, which capacity a slice of it has, and an address that nothing is known of. -/
structure Ref where
  b : Nat
  c : Nat
  a : Option Addr
abbrev Th := Nat → Ref

/-- A value of the run: blocks are named by numbers of its own. -/
inductive AV where
  | lit (v : Value)
  | ptr (id off : Nat)
  | slc (id off len sub : Nat)
  | slx (id off len cap : Nat)
  | slo (id : Nat)
  | mp (id : Nat)
  | yld (id : Nat)
  | fn (f : FuncId) (first cap : List AV)
  | ifc (t : TypeId) (v : AV)
  | agg (cs : List AV)
  | tup (cs : List AV)

/-- A tree of things by number. -/
inductive T (α : Type) where
  | e
  | n (l : T α) (v : Option α) (r : T α)
noncomputable def T.get {α : Type} (t : T α) : Nat → Option α :=
  T.rec (motive := fun _ => Nat → Option α) (fun _ => none)
    (fun _ v _ gl gr i => Nat.casesOn (motive := fun _ => Option α) i v fun j => Bool.casesOn (motive := fun _ => Option α) (Nat.beq (j % 2) 0) (gr (j / 2)) (gl (j / 2))) t
noncomputable def T.put {α : Type} (v : Option α) (k : Nat) : T α → Nat → T α :=
  Nat.rec (motive := fun _ => T α → Nat → T α) (fun t _ => t)
    (fun _ put t i => T.casesOn (motive := fun _ => T α) t
      (Nat.casesOn (motive := fun _ => T α) i (.n .e v .e) fun j => Bool.casesOn (motive := fun _ => T α) (Nat.beq (j % 2) 0) (.n .e none (put .e (j / 2))) (.n (put .e (j / 2)) none .e))
      (fun l u r => Nat.casesOn (motive := fun _ => T α) i (.n l v r) fun j => Bool.casesOn (motive := fun _ => T α) (Nat.beq (j % 2) 0) (.n l u (put r (j / 2))) (.n (put l (j / 2)) u r))) k
noncomputable def T.set {α : Type} (v : Option α) (k : Nat) (t : T α) (i : Nat) : T α := T.put v k t i

structure ALoop where
  busy : Bool
  done : Bool
  pending : Option Code
  params : Array Tmp
  assign : Code
  body : Code
  t : T AV
  nt : Nat
  dfr : Nat

inductive AO where
  | cells (cs : List AV) (el : TypeId) (row : Option Nat)
  | map (es : List (AV × AV × Nat)) (clock : Nat)
  | loop (r : ALoop)
  | dfr (shut : Bool)

structure AH where
  m : T AO
  next : Nat

/-- What is known of a type. -/
structure TyI where
  desc : TypeDesc
  size : Nat
  bytes : Nat
  agg : Bool
  zero : List Value

inductive AD where
  | col (id : Nat)
  | call (f : FuncId) (cap args : List AV)

structure AA where
  t : T AV
  n : Nat
  ds : List AD

inductive AExit where
  | norm | exit (id : Nat) | goto (l : Nat) | ret
  deriving DecidableEq

/-- Tables: types, functions, and functions whose results are known otherwise. -/
structure Tab where
  ty : T TyI
  fn : T Func
  nat : T (AH → List AV → Option AV)
  dnat : T (AH → List AV → Option AH)
  nat2 : T (AH → List AV → Option (AV × AH)) := .e
  eqs : T Nat := .e
  pur : T (List Value → Option AV) := .e
  keyEq : T Nat   -- types of keys: how many numbers a key has

noncomputable def forceN {α : Type} (n : Nat) (k : Nat → α) : α := Nat.casesOn (motive := fun _ => α) n (k 0) fun m => k (Nat.succ m)
noncomputable def forceI {α : Type} (n : Int) (k : Int → α) : α := Int.casesOn (motive := fun _ => α) n (fun m => forceN m fun m => k (.ofNat m)) (fun m => forceN m fun m => k (.negSucc m))
noncomputable def AH.put (h : AH) (id : Nat) (o : AO) : Option AH := match h with
  | ⟨m, next⟩ => bif Nat.blt id 1099511627776 then some ⟨T.set (some o) 41 m id, next⟩ else none
noncomputable def AH.add (h : AH) (o : AO) : Option AH := match h with
  | ⟨m, next⟩ => forceN next fun next => bif Nat.blt next 1099511627776 then some ⟨T.set (some o) 41 m next, Nat.succ next⟩ else none
noncomputable def AA.put (A : AA) (dst : Option Tmp) (v : AV) : Option AA := match dst with
  | none => some A
  | some d => match A with
    | ⟨t, n, ds⟩ => bif Nat.blt d 1024 && Nat.blt d n then some ⟨T.set (some v) 11 t d, n, ds⟩ else none
noncomputable def AA.ev (A : AA) : Operand → Option AV
  | .tmp t => A.t.get t
  | .const v => some (.lit v)
  | .global _ => none
  | .func f => some (.fn f [] [])

noncomputable def isOne : AV → Bool
  | .agg _ => false
  | .tup _ => false
  | .lit v => v.oneCell'
  | _ => true
noncomputable def ones : List AV → Bool
  | [] => true
  | v :: vs => isOne v && ones vs
noncomputable def acells : AV → List AV
  | .agg cs => cs
  | .lit v => v.cells.toList.map .lit
  | v => [v]
/-- One value out of the cells of a variable. -/
noncomputable def apart (agg : Bool) (cs : List AV) (off size : Nat) : Option AV :=
  if agg then (if off + size ≤ cs.length then some (.agg ((cs.drop off).take size)) else none) else cs[off]?
noncomputable def aint : AV → Option (IntKind × Int)
  | .lit (.int k n) => some (k, n)
  | _ => none
noncomputable def abool : AV → Option Bool
  | .lit (.bool b) => some b
  | _ => none

noncomputable def evs (ev : Operand → Option AV) : List Operand → Option (List AV)
  | [] => some []
  | x :: xs => match ev x with
    | none => none
    | some v => match evs ev xs with
      | none => none
      | some vs => some (v :: vs)
noncomputable def evps (ev : Operand → Option AV) : List (Nat × Operand) → Option (List (Nat × AV))
  | [] => some []
  | (i, x) :: xs => match ev x with
    | none => none
    | some v => match evps ev xs with
      | none => none
      | some vs => some ((i, v) :: vs)

/-- Numbers that a kind of integers has. -/
noncomputable def arange : IntKind → Int × Int
  | .i64 => (-9223372036854775808, 9223372036854775807)
  | .u64 => (0, 18446744073709551615)
  | .i32 => (-2147483648, 2147483647)
  | .u32 => (0, 4294967295)
  | .u8 => (0, 255)
  | .i8 => (-128, 127)
  | .i16 => (-32768, 32767)
  | .u16 => (0, 65535)
noncomputable def aInt (k : IntKind) (n : Int) : Option Value := forceI n fun n => if (arange k).1 ≤ n ∧ n ≤ (arange k).2 then some (.int k n) else none
noncomputable def abinI (op : BinOp) (k : IntKind) (a b : Int) : Option Value := match op with
  | .add => aInt k (a + b)
  | .sub => aInt k (a - b)
  | .mul => aInt k (a * b)
  | .quo => if b = 0 then none else aInt k (a.tdiv b)
  | .rem => if b = 0 then none else some (.int k (a.tmod b))
  | .eql => some (.bool (a == b))
  | .neq => some (.bool (a != b))
  | .lss => some (.bool (a < b))
  | .leq => some (.bool (a ≤ b))
  | .gtr => some (.bool (a > b))
  | .geq => some (.bool (a ≥ b))
  | _ => none
noncomputable def abinS (op : BinOp) (a b : ByteArray) : Option Value := match op with
  | .add => if a.size + b.size ≤ 4294967296 then some (.string (a ++ b)) else none
  | .eql => some (.bool (a.toList == b.toList))
  | .neq => some (.bool !(a.toList == b.toList))
  | _ => none
/-- Two operands of a binary operator, both plain. -/
noncomputable def abin (op : BinOp) (x y : Value) : Option Value :=
  match x, y with
  | .int k a, .int k' b => if k = k' then abinI op k a b else none
  | .string a, .string b => abinS op a b
  | _, _ => none

noncomputable def afill (place : Nat → Option (Nat × Nat)) (cells : List AV) : List (Nat × AV) → Option (List AV)
  | [] => some cells
  | (i, v) :: rest =>
    match place i with
    | none => none
    | some (off, size) =>
      let cs := acells v
      if cs.length = size ∧ off + size ≤ cells.length then afill place (cells.take off ++ cs ++ cells.drop (off + size)) rest else none
noncomputable def offs (tb : Tab) : List Field → Option (List (Nat × Nat))
  | [] => some []
  | f :: fs => match tb.ty.get f.type with
    | none => none
    | some i => match offs tb fs with
      | none => none
      | some r => some ((f.offset, i.size) :: r)
noncomputable def rep (l : List AV) : Nat → List AV
  | 0 => []
  | n + 1 => l ++ rep l n

noncomputable def abound (x : Option AV) (deflt y : Nat) : Option Nat := match x with
  | none => some deflt
  | some v => match aint v with
    | some (_, i) => if 0 ≤ i ∧ i ≤ y then some i.toNat else none
    | none => none

/-- Operations that touch no memory. -/
noncomputable def xPick (ev : Operand → Option AV) (c a b : Operand) : Option AV := match ev c with
  | some (.lit (.bool t)) => if t then ev a else ev b
  | _ => none
noncomputable def xBin2 (op : BinOp) (a : Value) : Option AV → Option AV
  | some (.lit b) => (abin op a b).map .lit
  | _ => none
noncomputable def isSliceT (tb : Tab) (t : TypeId) : Bool := match tb.ty.get t with
  | some i => match i.desc with
    | .slice _ => true
    | _ => false
  | none => false
noncomputable def hasRow : AV → Bool
  | .slc _ _ _ _ => true
  | .slx _ _ _ _ => true
  | _ => false
noncomputable def xBinN (tb : Tab) (op : BinOp) (t : TypeId) : Option AV → Bool → Option AV
  | some (.lit (.slice none _ _)), r => if isSliceT tb t then match op with
      | .eql => some (.lit (.bool !r))
      | .neq => some (.lit (.bool r))
      | _ => none
    else none
  | _, _ => none
noncomputable def isNilS : AV → Bool
  | .lit (.slice none _ _) => true
  | _ => false
/-- Two pairs of numbers compared. -/
noncomputable def isTwo (tb : Tab) (t : TypeId) : Bool := match tb.keyEq.get t with
  | some n => Nat.beq n 2
  | none => false
noncomputable def xPair (op : BinOp) : List AV → Option AV → Option AV
  | [.lit (.int .i64 a), .lit (.int .i64 b)], some (.agg [.lit (.int .i64 c), .lit (.int .i64 d)]) => match op with
    | .eql => some (.lit (.bool (decide ([a, b] = [c, d]))))
    | .neq => some (.lit (.bool !(decide ([a, b] = [c, d]))))
    | _ => none
  | _, _ => none
noncomputable def ai64' : AV → Option Int
  | .lit (.int .i64 n) => some n
  | _ => none
noncomputable def ai64s' : List AV → Option (List Int)
  | [] => some []
  | v :: vs => match ai64' v, ai64s' vs with
    | some n, some ns => some (n :: ns)
    | _, _ => none
noncomputable def isEq : List Int → List Int → Bool
  | a :: al, b :: bl => match al, bl with
    | [], [] => decide (a = b)
    | _, _ => decide (a = b) && isEq al bl
  | _, _ => true
/-- Structs of numbers compared. -/
noncomputable def isInts (tb : Tab) (t : TypeId) (m : Nat) : Bool := match tb.eqs.get t with
  | some n => Nat.beq n m
  | none => false
noncomputable def xPairN (tb : Tab) (op : BinOp) (t : TypeId) (al : List AV) : Option AV → Option AV
  | some (.agg bl) => match ai64s' al, ai64s' bl with
    | some xs, some ys => if isInts tb t xs.length && isInts tb t ys.length then match op with
        | .eql => some (.lit (.bool (isEq xs ys)))
        | .neq => some (.lit (.bool !(isEq xs ys)))
        | _ => none
      else none
    | _, _ => none
  | _ => none
noncomputable def xBin (tb : Tab) (ev : Operand → Option AV) (op : BinOp) (t : TypeId) (x y : Operand) : Option AV := match ev x with
  | some v => if hasRow v then xBinN tb op t (ev y) true else if isNilS v then xBinN tb op t (ev y) false else match v with
    | .lit a => xBin2 op a (ev y)
    | .agg cs => bif isTwo tb t then xPair op cs (ev y) else xPairN tb op t cs (ev y)
    | _ => none
  | none => none
noncomputable def xUn (ev : Operand → Option AV) (op : UnOp) (x : Operand) : Option AV := match op, ev x with
  | .not, some (.lit (.bool b)) => some (.lit (.bool !b))
  | .neg, some (.lit (.int k n)) => (aInt k (0 - n)).map .lit
  | _, _ => none
noncomputable def xConv (tb : Tab) (ev : Operand → Option AV) (src dst : TypeId) (x : Operand) : Option AV := match tb.ty.get src, tb.ty.get dst, ev x with
  | some _, some d, some (.lit (.int k n)) => match d.desc with
    | .int k' => (aInt k' n).map .lit
    | _ => none
  | _, _, _ => none
noncomputable def afield (tb : Tab) (s : TypeId) (f : Nat) : Option (Nat × TyI) := match tb.ty.get s with
  | some i => match i.desc with
    | .struct fs => match fs[f]? with
      | some fd => match tb.ty.get fd.type with
        | some j => some (fd.offset, j)
        | none => none
      | none => none
    | _ => none
  | none => none
noncomputable def xFieldAddr (tb : Tab) (ev : Operand → Option AV) (s : TypeId) (x : Operand) (f : Nat) : Option AV := match ev x with
  | some (.ptr id off) => match afield tb s f with
    | some (o, j) => if j.size = 0 then none else some (.ptr id (off + o))
    | none => none
  | _ => none
noncomputable def xField (tb : Tab) (ev : Operand → Option AV) (s : TypeId) (x : Operand) (f : Nat) : Option AV := match ev x with
  | some (.agg cs) => match afield tb s f with
    | some (o, j) => apart j.agg cs o j.size
    | none => none
  | _ => none
noncomputable def asliceOf (tb : Tab) (t : TypeId) : Option (TypeId × TyI) := match tb.ty.get t with
  | some i => match i.desc with
    | .slice el => match tb.ty.get el with
      | some j => some (el, j)
      | none => none
    | _ => none
  | none => none
noncomputable def aarrayOf (tb : Tab) (t : TypeId) : Option (Nat × TyI) := match tb.ty.get t with
  | some i => match i.desc with
    | .array len el => match tb.ty.get el with
      | some j => some (len, j)
      | none => none
    | _ => none
  | none => none
noncomputable def xIxSlc (tb : Tab) (t : TypeId) (id off len : Nat) : Option (IntKind × Int) → Option AV
  | some (_, n) => match asliceOf tb t with
    | some (_, j) => if 0 ≤ n ∧ n < len then some (.ptr id (off + n.toNat * j.size)) else none
    | none => none
  | none => none
noncomputable def xIxArr (tb : Tab) (t : TypeId) (id off : Nat) : Option (IntKind × Int) → Option AV
  | some (_, n) => match aarrayOf tb t with
    | some (len, j) => if 0 ≤ n ∧ n < len then some (.ptr id (off + n.toNat * j.size)) else none
    | none => none
  | none => none
noncomputable def xIndexAddr (tb : Tab) (ev : Operand → Option AV) (t : TypeId) (x ix : Operand) : Option AV := match ev x with
  | some (.slc id off len _) => xIxSlc tb t id off len ((ev ix).bind aint)
  | some (.slx id off len _) => xIxSlc tb t id off len ((ev ix).bind aint)
  | some (.ptr id off) => xIxArr tb t id off ((ev ix).bind aint)
  | _ => none
noncomputable def xIx (tb : Tab) (t : TypeId) (cs : List AV) : Option (IntKind × Int) → Option AV
  | some (_, n) => match aarrayOf tb t with
    | some (len, j) => if 0 ≤ n ∧ n < len then apart j.agg cs (n.toNat * j.size) j.size else none
    | none => none
  | none => none
noncomputable def isStr (tb : Tab) (t : TypeId) : Bool := match tb.ty.get t with
  | some i => match i.desc with
    | .string => true
    | _ => false
  | none => false
noncomputable def xIxS (tb : Tab) (t : TypeId) (s : ByteArray) : Option (IntKind × Int) → Option AV
  | some (_, n) => if isStr tb t ∧ 0 ≤ n then match s[n.toNat]? with
      | some b => some (.lit (.int .u8 b.toNat))
      | none => none
    else none
  | none => none
noncomputable def xIndex (tb : Tab) (ev : Operand → Option AV) (t : TypeId) (x ix : Operand) : Option AV := match ev x with
  | some (.agg cs) => xIx tb t cs ((ev ix).bind aint)
  | some (.lit (.string s)) => xIxS tb t s ((ev ix).bind aint)
  | _ => none
noncomputable def xBuild2 (tb : Tab) (i : TyI) (ps : List (Nat × AV)) : Option AV := match i.desc with
  | .struct fs => match offs tb fs.toList with
    | some os => (afill (fun k => os[k]?) (i.zero.map .lit) ps).map .agg
    | none => none
  | .array _ el => match tb.ty.get el with
    | some j => (afill (fun k => some (k * j.size, j.size)) (i.zero.map .lit) ps).map .agg
    | none => none
  | _ => none
noncomputable def xBuild (tb : Tab) (ev : Operand → Option AV) (t : TypeId) (parts : Array (Nat × Operand)) : Option AV := match tb.ty.get t, evps ev parts.toList with
  | some i, some ps => xBuild2 tb i ps
  | _, _ => none
noncomputable def xMakeFunc (ev : Operand → Option AV) (g : Fn) (first cap : Array Operand) : Option AV := match g with
  | .func f => match evs ev first.toList, evs ev cap.toList with
    | some a, some b => some (.fn f a b)
    | _, _ => none
  | _ => none
noncomputable def xExtract (ev : Operand → Option AV) (x : Operand) (ix : Nat) : Option AV := match ev x with
  | some (.tup vs) => vs[ix]?
  | _ => none
noncomputable def evo (ev : Operand → Option AV) : Option Operand → Option (Option AV)
  | none => some none
  | some l => (ev l).map some
noncomputable def xSlice2 (id off len sub sz : Nat) (l h : Option AV) : Option AV := match abound h len len with
  | some H => match abound l 0 H with
    | some L => if L < len then some (.slc id (off + L * sz) (H - L) (sub + L)) else none
    | none => none
  | none => none
noncomputable def xSliceS (s : ByteArray) (l h : Option AV) : Option AV := match abound h s.size s.size with
  | some H => match abound l 0 H with
    | some L => some (.lit (.string (s.extract L H)))
    | none => none
  | none => none
noncomputable def xSliceX (id off len sub sz : Nat) (l h m : Option AV) : Option AV := match m, h with
  | some _, some _ => match abound m len len with
    | some M => match abound h M M with
      | some H => match abound l 0 H with
        | some L => some (.slx id (if M = L then off else off + L * sz) (H - L) (M - L))
        | none => none
      | none => none
    | none => none
  | _, _ => none
noncomputable def xSlice (tb : Tab) (ev : Operand → Option AV) (t : TypeId) (x : Operand) (lo hi mx : Option Operand) : Option AV := match ev x with
  | some (.slc id off len sub) => match asliceOf tb t, evo ev lo, evo ev hi, evo ev mx with
    | some (_, j), some l, some h, some none => xSlice2 id off len sub j.size l h
    | some (_, j), some l, some h, some m => xSliceX id off len sub j.size l h m
    | _, _, _, _ => none
  | some (.lit (.string s)) => match evo ev lo, evo ev hi, mx with
    | some l, some h, none => if isStr tb t then xSliceS s l h else none
    | _, _, _ => none
  | _ => none
noncomputable def xLen2 (d : TypeDesc) (v : AV) : Option AV := match v, d with
  | .slc _ _ len _, .slice _ => some (.lit (.int .i64 len))
  | .slx _ _ len _, .slice _ => some (.lit (.int .i64 len))
  | .slo _, .slice _ => some (.lit (.int .i64 0))
  | .lit (.slice _ n _), .slice _ => some (.lit (.int .i64 n))
  | .lit (.string s), .string => some (.lit (.int .i64 s.size))
  | _, _ => none
noncomputable def xLen (tb : Tab) (ev : Operand → Option AV) (args : Array Operand) (argTypes : Array TypeId) : Option AV := match argTypes.toList, args.toList with
  | [t], [x] => match tb.ty.get t, ev x with
    | some i, some v => xLen2 i.desc v
    | _, _ => none
  | _, _ => none
noncomputable def xMin2 : Option AV → Option AV → Option AV
  | some (.lit (.int k x)), some (.lit (.int _ y)) => some (.lit (.int k (if y < x then y else x)))
  | _, _ => none
noncomputable def xMin (ev : Operand → Option AV) (args : Array Operand) : Option AV := match args.toList with
  | [x, y] => xMin2 (ev x) (ev y)
  | _ => none
noncomputable def xMax2 : Option AV → Option AV → Option AV
  | some (.lit (.int k x)), some (.lit (.int _ y)) => some (.lit (.int k (if y > x then y else x)))
  | _, _ => none
noncomputable def xMax (ev : Operand → Option AV) (args : Array Operand) : Option AV := match args.toList with
  | [x, y] => xMax2 (ev x) (ev y)
  | _ => none
noncomputable def xpureCall (tb : Tab) (ev : Operand → Option AV) (c : Call) : Option AV := match c.callee with
  | .builtin .len => xLen tb ev c.args c.argTypes
  | .builtin .min => xMin ev c.args
  | .builtin .max => xMax ev c.args
  | _ => none
noncomputable def xNil : Option AV → Option AV
  | some (.ptr id off) => some (.ptr id off)
  | _ => none
noncomputable def xIfc (tb : Tab) (t : TypeId) : Option AV → Option AV
  | some v => match tb.ty.get t with
    | some i => match i.desc with
      | .interface _ => none
      | _ => some (.ifc t v)
    | none => none
  | none => none
noncomputable def xpure (tb : Tab) (ev : Operand → Option AV) (o : Oper) : Option AV :=
  match o.op with
  | .move x => ev x
  | .assign x => ev x
  | .pick c a b => xPick ev c a b
  | .binOp op t x y _ => xBin tb ev op t x y
  | .unOp op _ x => xUn ev op x
  | .convert src dst x => xConv tb ev src dst x
  | .fieldAddr s x f => xFieldAddr tb ev s x f
  | .indexAddr t x ix => xIndexAddr tb ev t x ix
  | .field s x f => xField tb ev s x f
  | .index t x ix => xIndex tb ev t x ix
  | .build t parts => xBuild tb ev t parts
  | .makeFunc g first cap => xMakeFunc ev g first cap
  | .extract x ix => xExtract ev x ix
  | .slice t x lo hi mx => xSlice tb ev t x lo hi mx
  | .call c => xpureCall tb ev c
  | .nilCheck x => xNil (ev x)
  | .makeInterface t x => xIfc tb t (ev x)
  | _ => none

/-- A load. -/
noncomputable def xLoad2 (tb : Tab) (h : AH) (t : TypeId) : Option AV → Option AV
  | some (.ptr id off) => match h.m.get id with
    | some (.cells cs _ _) => match tb.ty.get t with
      | some i => apart i.agg cs off i.size
      | none => none
    | _ => none
  | _ => none
noncomputable def xload (tb : Tab) (h : AH) (ev : Operand → Option AV) (o : Oper) : Option AV :=
  match o.op with
  | .load t a => xLoad2 tb h t (ev a)
  | _ => none

noncomputable def ai64 : AV → Option Int
  | .lit (.int .i64 n) => some n
  | _ => none
noncomputable def ai64s : List AV → Option (List Int)
  | [] => some []
  | v :: vs => match ai64 v, ai64s vs with
    | some n, some ns => some (n :: ns)
    | _, _ => none
noncomputable def akey : AV → Option (List Int)
  | .agg cs => ai64s cs
  | _ => none
noncomputable def afind (k : List Int) : List (AV × AV × Nat) → Nat → Option (Option (Nat × AV))
  | [], _ => some none
  | (k', v, _) :: es, i => match akey k' with
    | some k'' => if k''.length = k.length then (if k = k'' then some (some (i, v)) else afind k es (i + 1)) else none
    | none => none

inductive XR where
  | val (v : AV) (h : AH)
  | skip (h : AH)
  | enter (f : FuncId) (args : List AV)
  | round (id : Nat) (args : List AV)
  | no

/-- Operations that touch memory, and calls. -/
noncomputable def added (h : AH) (o : AO) (v : AV) : XR := match h.add o with
  | some h' => .val v h'
  | none => .no
noncomputable def stored (h : AH) (id : Nat) (o : AO) : XR := match h.put id o with
  | some h' => .skip h'
  | none => .no
noncomputable def xAlloc (tb : Tab) (h : AH) (t : TypeId) : XR := match tb.ty.get t with
  | some i => added h (.cells (i.zero.map .lit) t none) (.ptr h.next 0)
  | none => .no
noncomputable def xBox (h : AH) (t : TypeId) : Option AV → XR
  | some v => added h (.cells (acells v) t none) (.ptr h.next 0)
  | none => .no
noncomputable def xStore3 (h : AH) (id off size : Nat) (news cs : List AV) (el : TypeId) (row : Option Nat) : XR :=
  if news.length = size ∧ off + size ≤ cs.length ∧ ones news = true then stored h id (.cells (cs.take off ++ news ++ cs.drop (off + size)) el row) else .no
noncomputable def xStore2 (tb : Tab) (h : AH) (t : TypeId) (id off : Nat) : Option AV → XR
  | some v => match tb.ty.get t, h.m.get id with
    | some i, some (.cells cs el row) => xStore3 h id off i.size (acells v) cs el row
    | _, _ => .no
  | none => .no
noncomputable def xStore (tb : Tab) (h : AH) (ev : Operand → Option AV) (t : TypeId) (a x : Operand) : XR := match ev a with
  | some (.ptr id off) => xStore2 tb h t id off (ev x)
  | _ => .no
noncomputable def xBuildSlice (tb : Tab) (h : AH) (ev : Operand → Option AV) (t : TypeId) (len : Nat) (parts : Array (Nat × Operand)) : XR := match asliceOf tb t, evps ev parts.toList with
  | some (el, j), some ps => if 0 < j.size ∧ 0 < len ∧ len * j.size ≤ 65536 then match afill (fun k => some (k * j.size, j.size)) (rep (j.zero.map .lit) len) ps with
      | some cs => added h (.cells cs el (some j.size)) (.slc h.next 0 len 0)
      | none => .no
    else if len = 0 ∧ ps.length = 0 then added h (.cells [] el none) (.slx h.next 0 0 0) else .no
  | _, _ => .no
noncomputable def xMakeSlice (tb : Tab) (h : AH) (t : TypeId) (l c : Option (IntKind × Int)) : XR := match asliceOf tb t, l, c with
  | some (el, j), some (_, n), some (_, m) => if 0 < n ∧ n = m ∧ n ≤ 65536 ∧ 0 < j.size ∧ j.bytes ≤ 65536 then
      added h (.cells (rep (j.zero.map .lit) n.toNat) el (some j.size)) (.slc h.next 0 n.toNat 0)
    else .no
  | _, _, _ => .no
noncomputable def amapOf (tb : Tab) (t : TypeId) : Option (Nat × TyI) := match tb.ty.get t with
  | some i => match i.desc with
    | .map kt el => match tb.keyEq.get kt, tb.ty.get el with
      | some n, some j => some (n, j)
      | _, _ => none
    | _ => none
  | none => none
noncomputable def amapAt (h : AH) (id : Nat) : Option (List (AV × AV × Nat) × Nat) := match h.m.get id with
  | some (.map es clock) => some (es, clock)
  | _ => none
noncomputable def afindIn (n : Nat) (k : AV) (es : List (AV × AV × Nat)) : Option (Option (Nat × AV)) := match akey k with
  | some kk => if kk.length = n then afind kk es 0 else none
  | none => none
noncomputable def xLookup2 (tb : Tab) (h : AH) (t : TypeId) (id : Nat) (ok : Bool) : Option AV → XR
  | some k => match amapOf tb t, amapAt h id with
    | some (n, j), some (es, _) => match afindIn n k es with
      | some (some (_, v)) => .val (if ok then .tup [v, .lit (.bool true)] else v) h
      | some none => match apart j.agg (j.zero.map .lit) 0 j.size with
        | some z => .val (if ok then .tup [z, .lit (.bool false)] else z) h
        | none => .no
      | none => .no
    | _, _ => .no
  | none => .no
noncomputable def xLookup (tb : Tab) (h : AH) (ev : Operand → Option AV) (t : TypeId) (x ix : Operand) (ok : Bool) : XR := match ev x with
  | some (.mp id) => xLookup2 tb h t id ok (ev ix)
  | _ => .no
noncomputable def xMapUpd2 (tb : Tab) (h : AH) (t : TypeId) (id : Nat) : Option AV → Option AV → XR
  | some k, some v => match amapOf tb t, amapAt h id with
    | some (n, _), some (es, clock) => match afindIn n k es with
      | some (some (p, _)) => stored h id (.map (es.modify p fun e => (k, v, e.2.2)) clock)
      | some none => stored h id (.map (es ++ [(k, v, clock)]) (clock + 1))
      | none => .no
    | _, _ => .no
  | _, _ => .no
noncomputable def xMapUpd (tb : Tab) (h : AH) (ev : Operand → Option AV) (t : TypeId) (m k x : Operand) : XR := match ev m with
  | some (.mp id) => xMapUpd2 tb h t id (ev k) (ev x)
  | _ => .no
noncomputable def xMapEntry2 (tb : Tab) (h : AH) (t : TypeId) (id : Nat) : Option AV → XR
  | some k => match amapOf tb t, amapAt h id with
    | some (n, j), some (es, clock) => match afindIn n k es with
      | some (some (p, v)) => match es[p]? with
        | some e => match h.put id (.map (es.modify p fun e => (k, e.2.1, e.2.2)) clock) with
          | some h' => .val (.tup [v, .lit (.int .i64 e.2.2)]) h'
          | none => .no
        | none => .no
      | some none => match apart j.agg (j.zero.map .lit) 0 j.size with
        | some z => match h.put id (.map (es ++ [(k, z, clock)]) (clock + 1)) with
          | some h' => .val (.tup [z, .lit (.int .i64 clock)]) h'
          | none => .no
        | none => .no
      | none => .no
    | _, _ => .no
  | none => .no
noncomputable def xMapEntry (tb : Tab) (h : AH) (ev : Operand → Option AV) (t : TypeId) (m k : Operand) : XR := match ev m with
  | some (.mp id) => xMapEntry2 tb h t id (ev k)
  | _ => .no
noncomputable def aborn (n : Int) : List (AV × AV × Nat) → Nat → Option Nat
  | [], _ => none
  | e :: es, i => if (e.2.2 : Int) = n then some i else aborn n es (i + 1)
noncomputable def xEntryStore2 (h : AH) (id : Nat) : Option (IntKind × Int) → Option AV → XR
  | some (_, n), some v => match amapAt h id with
    | some (es, clock) => match aborn n es 0 with
      | some p => stored h id (.map (es.modify p fun e => (e.1, v, e.2.2)) clock)
      | none => .no
    | none => .no
  | _, _ => .no
noncomputable def xEntryStore (h : AH) (ev : Operand → Option AV) (m s x : Operand) : XR := match ev m with
  | some (.mp id) => xEntryStore2 h id ((ev s).bind aint) (ev x)
  | _ => .no
/-- An empty slice at the end of another one: where it lies hangs on the capacity. -/
noncomputable def xSliceE2 (h : AH) (len : Nat) (l hi : Option AV) : XR := match abound hi len len with
  | some H => match abound l 0 H with
    | some L => if L = len then (match h with | ⟨m, next⟩ => .val (.slo next) ⟨m, Nat.succ next⟩) else .no
    | none => .no
  | none => .no
noncomputable def xSliceE (tb : Tab) (h : AH) (ev : Operand → Option AV) (t : TypeId) (x : Operand) (lo hi mx : Option Operand) : XR := match ev x with
  | some (.slc _ _ len _) => match asliceOf tb t, evo ev lo, evo ev hi, mx with
    | some _, some l, some hh, none => xSliceE2 h len l hh
    | _, _, _, _ => .no
  | _ => .no
noncomputable def xAppend4 (h : AH) (el : TypeId) (sz n m id : Nat) (news cs : List AV) : XR :=
  if cs.length = n * sz ∧ n + m ≤ 65536 ∧ ones news = true then match AH.add { h with m := T.set none 41 h.m id } (.cells (cs ++ news) el (some sz)) with
    | some h' => .val (.slc h.next 0 (n + m) 0) h'
    | none => .no
  else .no
noncomputable def xAppend3 (h : AH) (el : TypeId) (j : TyI) (xid m : Nat) (news : List AV) : Option AV → XR
  | some (.slc id 0 n 0) => if id = xid then .no else match h.m.get id with
    | some (.cells cs el' (some sz)) => if el' = el ∧ sz = j.size then xAppend4 h el sz n m id news cs else .no
    | _ => .no
  | some (.slx _ _ 0 0) => if m ≤ 65536 ∧ ones news = true then added h (.cells news el (some j.size)) (.slc h.next 0 m 0) else .no
  | some (.lit (.slice none 0 0)) => if m ≤ 65536 ∧ ones news = true then added h (.cells news el (some j.size)) (.slc h.next 0 m 0) else .no
  | _ => .no
noncomputable def asrc : AV → Option (Nat × Nat × Nat)
  | .slc id off m _ => some (id, off, m)
  | .slx id off m _ => some (id, off, m)
  | _ => none
noncomputable def xAppend2 (h : AH) (el : TypeId) (j : TyI) (s : Option AV) : Option (Nat × Nat × Nat) → XR
  | some (xid, xoff, m) => match h.m.get xid with
    | some (.cells xs _ _) => if (xs.drop xoff).length ≥ m * j.size ∧ 0 < m ∧ 0 < j.size ∧ j.bytes ≤ 65536 then xAppend3 h el j xid m ((xs.drop xoff).take (m * j.size)) s else .no
    | _ => .no
  | none => .no
noncomputable def xAppend (tb : Tab) (h : AH) (ev : Operand → Option AV) (args : Array Operand) (argTypes : Array TypeId) : XR := match args.toList, argTypes.toList with
  | [s, x], [t, t'] => if t = t' then match asliceOf tb t with
    | some (el, j) => xAppend2 h el j (ev s) ((ev x).bind asrc)
    | none => .no
    else .no
  | _, _ => .no
noncomputable def xEnter (args : Option (List AV)) : Option AV → XR
  | some (.fn g first cap) => match args with
    | some xs => .enter g (first ++ xs ++ cap)
    | none => .no
  | some (.yld id) => match args with
    | some xs => .round id xs
    | none => .no
  | _ => .no
noncomputable def xCall (tb : Tab) (h : AH) (ev : Operand → Option AV) (c : Call) : XR := match c.callee with
  | .builtin .append => xAppend tb h ev c.args c.argTypes
  | .value f => xEnter (evs ev c.args.toList) (ev f)
  | _ => .no
noncomputable def xmem (tb : Tab) (h : AH) (ev : Operand → Option AV) (o : Oper) : XR :=
  match o.op with
  | .alloc t => xAlloc tb h t
  | .box t x => xBox h t (ev x)
  | .store t a x => xStore tb h ev t a x
  | .buildSlice t len parts => xBuildSlice tb h ev t len parts
  | .makeSlice t l c => xMakeSlice tb h t ((ev l).bind aint) ((ev c).bind aint)
  | .makeMap _ none => added h (.map [] 0) (.mp h.next)
  | .lookup t x ix ok => xLookup tb h ev t x ix ok
  | .mapUpdate t m k x => xMapUpd tb h ev t m k x
  | .mapEntry t m k => xMapEntry tb h ev t m k
  | .entryStore _ m s x => xEntryStore h ev m s x
  | .slice t x lo hi mx => xSliceE tb h ev t x lo hi mx
  | .call c => xCall tb h ev c
  | _ => .no

inductive Res where
  | ok (e : AExit) (A : AA) (h : AH)
  | no

noncomputable def aresult (h : AH) (A : AA) (tb : Tab) : ResultVar → Option AV
  | .tmp t => A.t.get t
  | .cell a t => match tb.ty.get t, A.t.get a with
    | some i, some (.ptr id off) => match h.m.get id with
      | some (.cells cs _ _) => apart i.agg cs off i.size
      | _ => none
    | _, _ => none
noncomputable def aresults (h : AH) (A : AA) (tb : Tab) : List ResultVar → Option (List AV)
  | [] => some []
  | r :: rs => match aresult h A tb r, aresults h A tb rs with
    | some v, some vs => some (v :: vs)
    | _, _ => none

noncomputable def args0 : List AV → Nat → T AV → T AV
  | [], _, t => t
  | v :: vs, i, t => args0 vs (i + 1) (T.set (some v) 11 t i)

noncomputable def leaves (tb : Tab) : List AD → AH → Option AH
  | [], h => some h
  | .col id :: ds, h => match h.m.get id with
    | some (.dfr false) => match h.put id (.dfr true) with
      | some h' => leaves tb ds h'
      | none => none
    | _ => none
  | .call f cap args :: ds, h => match tb.dnat.get f with
    | some g => match g h (args ++ cap) with
      | some h' => leaves tb ds h'
      | none => none
    | none => none

abbrev Rec := Code → Option Nat → AA → AH → Res

noncomputable def lits : List AV → Option (List Value)
  | [] => some []
  | v :: r => match v with
    | .lit v => match lits r with
      | some vs => some (v :: vs)
      | none => none
    | _ => none
/-- A call of a function. -/
noncomputable def xcall (tb : Tab) (rec : Rec) (f : FuncId) (args : List AV) (h : AH) : Option (AV × AH) :=
  match tb.pur.get f with
  | some g => match lits args with
    | some vs => (g vs).map fun v => (v, h)
    | none => none
  | none =>
  match tb.nat.get f with
  | some g => (g h args).map fun v => (v, h)
  | none => match tb.nat2.get f with
  | some g => g h args
  | none => match tb.fn.get f with
    | none => none
    | some fn => match fn.body with
      | none => none
      | some c => if args.length ≤ fn.ntmps ∧ args.length < 1024 then match rec c none { t := args0 args 0 .e, n := fn.ntmps, ds := [] } h with
        | .ok e A h1 => if e = .norm ∨ e = .ret then match leaves tb A.ds h1 with
            | some h2 => match aresults h2 A tb fn.results.toList with
              | some [v] => some (v, h2)
              | some vs => some (.tup vs, h2)
              | none => none
            | none => none
          else none
        | .no => none
        else none

noncomputable def aset (h : AH) (id : Nat) (r : ALoop) : Option AH := h.put id (.loop r)
noncomputable def params0 : List (Tmp × AV) → T AV → Nat → Option (T AV)
  | [], t, _ => some t
  | (d, v) :: r, t, n => if d < 1024 ∧ d < n then params0 r (T.set (some v) 11 t d) n else none

noncomputable def codeOf : AExit → Option Code
  | .norm => none
  | .ret => some .ret
  | .exit id => some (.exit id)
  | .goto l => some (.goto l)

/-- One round of a range over a function. -/
noncomputable def xround (rec : Rec) (id : Nat) (args : List AV) (h : AH) : Option (AV × AH) :=
  match h.m.get id with
  | some (.loop r) => if r.busy = false ∧ r.done = false ∧ args.length = r.params.size then
      match params0 (r.params.toList.zip args) r.t r.nt with
      | some t => match rec r.assign (some id) { t := t, n := r.nt, ds := [] } h with
        | .ok .norm A h1 => match h1.m.get id with
          | some (.loop r1) => if r1.busy = false ∧ r1.done = false then match aset h1 id { r1 with busy := true } with
              | some h2 => match rec r.body (some id) A h2 with
                | .ok e A' h3 => match h3.m.get id with
                  | some (.loop r3) => match aset h3 id { r3 with busy := false, done := (codeOf e).isSome, pending := codeOf e } with
                    | some h4 => some (.lit (.bool (codeOf e).isNone), h4)
                    | none => none
                  | _ => none
                | .no => none
              | none => none
            else none
          | _ => none
        | _ => none
      | none => none
    else none
  | _ => none

/-- Whether an operation of a region is carried out. -/
noncomputable def awanted (ops : List Oper) (A : AA) (o : Oper) : Option Bool :=
  match o.guard with
  | none => some true
  | some (j, want) => match ops[j]? with
    | some oj => match oj.dst with
      | some t => match A.t.get t with
        | some (.lit (.bool b)) => some (b == want)
        | some (.lit (.tuple _)) => some false
        | _ => none
      | none => none
    | none => none

/-- A call that is put off. -/
noncomputable def xdefer (A : AA) (rd : Option Nat) (c : Call) : Option AA := match c.callee, rd with
  | .value f, none => match A.ev f, evs A.ev c.args.toList with
    | some (.fn g first cap), some xs => match A with
      | ⟨t, n, ds⟩ => some ⟨t, n, .call g cap (first ++ xs) :: ds⟩
    | _, _ => none
  | _, _ => none
noncomputable def asDefer : Op → Option Call
  | .defer c => some c
  | _ => none
noncomputable def putH (A : AA) (dst : Option Tmp) (h : AH) (v : AV) : Option (AA × AH) := match A.put dst v with
  | some A' => some (A', h)
  | none => none
noncomputable def putO (A : AA) (dst : Option Tmp) : Option (AV × AH) → Option (AA × AH)
  | some (v, h) => putH A dst h v
  | none => none
noncomputable def xmemPut (tb : Tab) (rec : Rec) (A : AA) (h : AH) (dst : Option Tmp) : XR → Option (AA × AH)
  | .val v h' => putH A dst h' v
  | .skip h' => putH A dst h' (.lit undef)
  | .enter f args => putO A dst (xcall tb rec f args h)
  | .round id args => putO A dst (xround rec id args h)
  | .no => none
/-- One operation. -/
noncomputable def xop1 (tb : Tab) (rec : Rec) (o : Oper) (rd : Option Nat) (A : AA) (h : AH) : Option (AA × AH) :=
  match xpure tb A.ev o with
  | some v => putH A o.dst h v
  | none => match xload tb h A.ev o with
    | some v => putH A o.dst h v
    | none => match asDefer o.op with
      | some c => match xdefer A rd c with
        | some A' => putH A' o.dst h (.lit undef)
        | none => none
      | none => xmemPut tb rec A h o.dst (xmem tb h A.ev o)
noncomputable def xop (tb : Tab) (rec : Rec) (ops : List Oper) (o : Oper) (rd : Option Nat) (A : AA) (h : AH) : Option (AA × AH) :=
  match awanted ops A o with
  | none => none
  | some false => putH A o.dst h (.lit undef)
  | some true => xop1 tb rec o rd A h
noncomputable def xops (tb : Tab) (rec : Rec) (rd : Option Nat) (ops l : List Oper) : AA → AH → Res :=
  List.rec (motive := fun _ => AA → AH → Res) (fun A h => .ok .norm A h)
    (fun o _ k A h => match xop tb rec ops o rd A h with
      | some (A', h') => k A' h'
      | none => .no) l

/-- Regions that draw their order: what may be taken first, and what comes alone. -/
noncomputable def firstKind : Op → Bool
  | .move _ => true
  | .assign _ => true
  | .pick .. => true
  | .binOp .. => true
  | .unOp .. => true
  | .convert .. => true
  | .fieldAddr .. => true
  | .indexAddr .. => true
  | .field .. => true
  | .index .. => true
  | .build .. => true
  | .makeFunc .. => true
  | .extract .. => true
  | .slice .. => true
  | .load .. => true
  | .nilCheck .. => true
  | .makeInterface .. => true
  | .call c => match c.callee with
    | .builtin .len => true
    | .builtin .min => true
    | .builtin .max => true
    | _ => false
  | _ => false
noncomputable def pickFirst (ops : Array Oper) (listed : Array Bool) : List Nat → Option Nat
  | [] => none
  | i :: is => match ops[i]? with
    | some o => if firstKind o.op && Region.free .any ops listed i then some i else pickFirst ops listed is
    | none => pickFirst ops listed is
noncomputable def isAlloc : Op → Bool
  | .alloc _ => true
  | .box .. => true
  | .buildSlice .. => true
  | .makeSlice .. => true
  | .makeMap _ none => true
  | _ => false
/-- Calls of functions whose results hang on their arguments alone. -/
noncomputable def isPurOp (tb : Tab) (o : Oper) : Bool := match o.op with
  | .call c => match c.callee with
    | .value (.func f) => (tb.pur.get f).isSome
    | _ => false
  | _ => false
noncomputable def purOf (tb : Tab) (ev : Operand → Option AV) (o : Oper) : Option AV := match o.op with
  | .call c => match c.callee with
    | .value (.func f) => match tb.pur.get f with
      | some g => match evs ev c.args.toList with
        | some xs => match lits xs with
          | some vs => g vs
          | none => none
        | none => none
      | none => none
    | _ => none
  | _ => none
noncomputable def floatOp (tb : Tab) (o : Oper) : Bool := isAlloc o.op || isPurOp tb o
noncomputable def allocAt (tb : Tab) (ops : Array Oper) (i : Nat) : Bool := match ops[i]? with
  | some o => floatOp tb o && (match o.dst with
    | some d => !(o.looksAt ops).contains d
    | none => true)
  | none => false
noncomputable def apartAt (ops : Array Oper) (i j : Nat) : Bool := match ops[i]?, ops[j]? with
  | some a, some b => a.apart ops b
  | _, _ => false
noncomputable def depends (ops : Array Oper) (j i : Nat) : Bool := match ops[j]? with
  | some o => o.after.any fun e => Region.binds .any e && e.on == i
  | none => false
noncomputable def mark (listed : Array Bool) : List Nat → Array Bool
  | [] => listed
  | i :: is => mark (listed.setIfInBounds i true) is
noncomputable def pairs (ops : Array Oper) (fl : List Nat) : Bool := fl.all fun i => fl.all fun j => i == j || apartAt ops i j
inductive Step where
  | fst (i : Nat) (only : Bool)
  | only (i : Nat) (fl : List Nat)
  | bar (fl : List Nat)
noncomputable def onlyOK (ops : Array Oper) (listed : Array Bool) (e : Nat) (fl : List Nat) : Bool := decide (Region.ready .any ops (mark listed fl) = [e]) && (fl.all fun j => apartAt ops e j) && pairs ops fl
noncomputable def planOne (ops : Array Oper) (listed : Array Bool) (rec : Array Bool → Option (List Step)) (e : Nat) (fl : List Nat) : Option (List Step) := if onlyOK ops listed e fl then match rec (listed.setIfInBounds e true) with
    | some r => some (.only e fl :: r)
    | none => none
  else none
noncomputable def without (fl : List Nat) (e : Nat) : List Nat := fl.filter fun j => j != e
noncomputable def pickOne (ops : Array Oper) (listed : Array Bool) (fl : List Nat) : List Nat → Option Nat
  | [] => none
  | i :: is => if onlyOK ops listed i (without fl i) then some i else pickOne ops listed fl is
noncomputable def planEnd (ops : Array Oper) (listed : Array Bool) (rec : Array Bool → Option (List Step)) (fl : List Nat) : List Nat → Option (List Step)
  | [e] => planOne ops listed rec e fl
  | [] => match pickOne ops listed fl fl with
    | some e => planOne ops listed rec e (without fl e)
    | none => none
  | _ => none
noncomputable def plan (tb : Tab) (ops : Array Oper) : Nat → Array Bool → Option (List Step)
  | 0, listed => match Region.ready .any ops listed with
    | [] => some []
    | _ => none
  | k + 1, listed => match Region.ready .any ops listed with
    | [] => some []
    | i0 :: is => match pickFirst ops listed (i0 :: is) with
      | some i => match plan tb ops k (listed.setIfInBounds i true) with
        | some r => some (.fst i is.isEmpty :: r)
        | none => none
      | none => planEnd ops listed (plan tb ops k) ((i0 :: is).filter (allocAt tb ops)) ((i0 :: is).filter fun i => !allocAt tb ops i)
abbrev Held := List (Nat × Nat × List AV)
noncomputable def sameV : Value → Value → Bool
  | .int k n, .int k' n' => k = k' && n = n'
  | .bool a, .bool b => a == b
  | .string a, .string b => decide (a.data.toList = b.data.toList)
  | .pointer none, .pointer none => true
  | .slice none 0 0, .slice none 0 0 => true
  | .nilFunc, .nilFunc => true
  | .nilIface, .nilIface => true
  | .map none, .map none => true
  | _, _ => false
noncomputable def same0 : AV → AV → Bool
  | .lit a, .lit b => sameV a b
  | .ptr a b, .ptr c d => a = c && b = d
  | .slc a b c d, .slc a' b' c' d' => a = a' && b = b' && c = c' && d = d'
  | .mp a, .mp b => a = b
  | .yld a, .yld b => a = b
  | .fn f [] [], .fn g [] [] => f = g
  | .fn f [] [.ptr a b], .fn g [] [.ptr c d] => f = g && a = c && b = d
  | _, _ => false
noncomputable def sames0 : List AV → List AV → Bool
  | [], [] => true
  | a :: l, b :: m => same0 a b && sames0 l m
  | _, _ => false
noncomputable def same1 : AV → AV → Bool
  | .agg l, .agg m => sames0 l m
  | a, b => same0 a b
noncomputable def sames1 : List AV → List AV → Bool
  | [], [] => true
  | a :: l, b :: m => same1 a b && sames1 l m
  | _, _ => false
noncomputable def same : AV → AV → Bool
  | .fn f a c, .fn g b d => f = g && sames1 a b && sames1 c d
  | a, b => same1 a b
noncomputable def sames : List AV → List AV → Bool
  | [], [] => true
  | a :: l, b :: m => same a b && sames l m
  | _, _ => false
noncomputable def cellsAt (h : AH) (id off size : Nat) : Option (List AV) := match h.m.get id with
  | some (.cells cs _ _) => if off + size ≤ cs.length then some ((cs.drop off).take size) else none
  | _ => none
noncomputable def heldIn : Held → Nat → Nat → Nat → Option (List AV)
  | [], _, _, _ => none
  | (id', off', vs) :: L, id, off, size => if id' = id ∧ off' = off ∧ vs.length = size then some vs else heldIn L id off size
noncomputable def keeps (h : AH) : Held → Bool
  | [] => true
  | (id, off, vs) :: L => (match cellsAt h id off vs.length with
    | some us => sames us vs
    | none => false) && keeps h L
noncomputable def xheld (tb : Tab) (L : Held) (ev : Operand → Option AV) (o : Oper) : Option AV := match o.op with
  | .load t a => match ev a, tb.ty.get t with
    | some (.ptr id off), some i => match heldIn L id off i.size with
      | some vs => apart i.agg vs 0 i.size
      | none => none
    | _, _ => none
  | _ => none
noncomputable def gather (tb : Tab) (h : AH) (ops : Array Oper) : List Step → AA → Held
  | [], _ => []
  | .fst i _ :: r, A => match ops[i]? with
    | none => gather tb h ops r A
    | some o => match xpure tb A.ev o with
      | some v => match A.put o.dst v with
        | some A' => gather tb h ops r A'
        | none => []
      | none => match o.op with
        | .load t a => match A.ev a, tb.ty.get t with
          | some (.ptr id off), some i => match cellsAt h id off i.size with
            | some vs => match apart i.agg vs 0 i.size with
              | some v => match A.put o.dst v with
                | some A' => (id, off, vs) :: gather tb h ops r A'
                | none => []
              | none => []
            | none => gather tb h ops r A
          | _, _ => gather tb h ops r A
        | _ => gather tb h ops r A
  | _ :: r, A => gather tb h ops r A
noncomputable def xfirst (tb : Tab) (L : Held) (ops : List Oper) (A : AA) (o : Oper) : Option AV := match awanted ops A o with
  | none => none
  | some false => some (.lit undef)
  | some true => match xpure tb A.ev o with
    | some v => some v
    | none => xheld tb L A.ev o
/-- Nothing is known yet of where a new block's number goes, and the block can be made. -/
noncomputable def unset (A : AA) : Option Tmp → Bool
  | none => true
  | some d => (A.t.get d).isNone && Nat.blt d A.n
noncomputable def isVal : XR → Bool
  | .val _ _ => true
  | _ => false
noncomputable def isT : Option Bool → Bool
  | some true => true
  | _ => false
noncomputable def floatsOK (tb : Tab) (h : AH) (A : AA) (ops : Array Oper) : List Nat → Bool
  | [] => true
  | j :: js => (match ops[j]? with
    | some o => unset A o.dst && isT (awanted ops.toList A o) && (bif isPurOp tb o then (purOf tb A.ev o).isSome else isVal (xmem tb h A.ev o))
    | none => false) && floatsOK tb h A ops js
noncomputable def xfloats (tb : Tab) (ops : Array Oper) : List Nat → AA → AH → Option (AA × AH)
  | [], A, h => some (A, h)
  | j :: js, A, h => match ops[j]? with
    | some o => match isPurOp tb o with
      | true => match purOf tb A.ev o with
        | some v => match A.put o.dst v with
          | some A' => xfloats tb ops js A' h
          | none => none
        | none => none
      | false => match xmem tb h A.ev o with
        | .val v h' => match A.put o.dst v with
          | some A' => xfloats tb ops js A' h'
          | none => none
        | _ => none
    | none => none
noncomputable def isLoad : Op → Bool
  | .load .. => true
  | _ => false
/-- What comes up ahead of an operation. -/
noncomputable def ancStep (ops : Array Oper) (M : Array Bool) (j : Nat) : Array Bool := match M.getD j false with
  | true => match ops[j]? with
    | some o => o.after.foldl (fun M e => bif Region.binds .any e then M.setIfInBounds e.on true else M) M
    | none => M
  | false => M
noncomputable def anc (ops : Array Oper) (f : Nat) : Array Bool := (List.range ops.size).reverse.foldl (ancStep ops) ((Array.replicate ops.size false).setIfInBounds f true)
/-- An operation before which all loads have come up. -/
noncomputable def fullAt (ops : Array Oper) (j : Nat) : Bool := match ops[j]? with
  | some o => !firstKind o.op && (List.range ops.size).all fun i => match ops[i]? with
    | some oi => !isLoad oi.op || depends ops j i || (anc ops j).getD i false
    | none => true
  | none => false
noncomputable def xdraw (tb : Tab) (rec : Rec) (rd : Option Nat) (ops : Array Oper) : List Step → Held → AA → AH → Res
  | [], _, A, h => .ok .norm A h
  | .fst i only :: r, L, A, h => match ops[i]? with
    | none => .no
    | some o => match xfirst tb L ops.toList A o with
      | some v => match A.put o.dst v with
        | some A' => xdraw tb rec rd ops r L A' h
        | none => .no
      | none => if only then match xop tb rec ops.toList o rd A h with
          | some (A', h') => if keeps h' L then xdraw tb rec rd ops r L A' h' else .no
          | none => .no
        else .no
  | .only i fl :: r, L, A, h => match ops[i]? with
    | none => .no
    | some o => if floatsOK tb h A ops fl then match xop tb rec ops.toList o rd A h with
        | some (A', h') => if fullAt ops i then xdraw tb rec rd ops r [] A' h' else if keeps h' L then xdraw tb rec rd ops r L A' h' else .no
        | none => .no
      else .no
  | .bar fl :: r, L, A, h => if floatsOK tb h A ops fl then match xfloats tb ops fl A h with
      | some (A', h') => xdraw tb rec rd ops r L A' h'
      | none => .no
    else .no
noncomputable def planOf (tb : Tab) (ops : Array Oper) : Option (List Step) := if Region.noSelect ops then plan tb ops ops.size (Array.replicate ops.size false) else none
/-- Nothing is known of the temporaries into which blocks will come. -/
noncomputable def erase (tb : Tab) : List Oper → AA → AA
  | [], A => A
  | o :: os, A => match floatOp tb o, o.dst, A with
    | true, some d, ⟨t, n, ds⟩ => if d < 1024 then erase tb os ⟨T.set none 11 t d, n, ds⟩ else erase tb os ⟨t, n, ds⟩
    | _, _, A => erase tb os A
noncomputable def xdrawn (tb : Tab) (rec : Rec) (rd : Option Nat) (ops : Array Oper) (A : AA) (h : AH) : Res := match planOf tb ops with
  | some steps => let A0 := erase tb ops.toList A; xdraw tb rec rd ops steps (gather tb h ops steps A0) A0 h
  | none => .no

noncomputable def xloop (rec : Rec) (c : Code) (rd : Option Nat) (k : Nat) : AA → AH → Res :=
  Nat.rec (motive := fun _ => AA → AH → Res) (fun _ _ => .no)
    (fun _ go A h => match rec c rd A h with
      | .ok .norm A' h' => go A' h'
      | .ok e A' h' => .ok e A' h'
      | .no => .no) k

noncomputable def xrange (tb : Tab) (rec : Rec) (g : Operand) (ps : Array Tmp) (assign body : Code) (rd : Option Nat) (A : AA) (h : AH) : Res :=
  match (match rd with
    | some l => match h.m.get l with
      | some (.loop r) => some (r.dfr, ([] : List AD), h)
      | _ => none
    | none => match h.add (.dfr false) with
      | some h' => some (h.next, [AD.col h.next], h')
      | none => none : Option (Nat × List AD × AH)) with
  | none => .no
  | some (dfr, mark, h0) => match h0.add (.loop { busy := false, done := false, pending := none, params := ps, assign, body, t := A.t, nt := A.n, dfr }) with
    | none => .no
    | some h1 => match A.ev g with
      | some (.fn f first cap) => match xcall tb rec f (first ++ [.yld h0.next] ++ cap) h1 with
        | none => .no
        | some (_, h2) => match h2.m.get h0.next with
          | some (.loop r) => if r.busy then .no else match aset h2 h0.next { r with done := true } with
            | none => .no
            | some h3 => match r.pending with
              | none => .ok .norm { A with ds := mark ++ A.ds } h3
              | some c => rec c rd { A with ds := mark ++ A.ds } h3
          | _ => .no
      | _ => .no

/-- A statement. -/
noncomputable def stepE (tb : Tab) (rec : Rec) : Rec := fun c rd A h =>
  match c with
  | .skip => .ok .norm A h
  | .label _ => .ok .norm A h
  | .region _ ops draw => if draw then xdrawn tb rec rd ops A h else xops tb rec rd ops.toList ops.toList A h
  | .seq x y => match rec x rd A h with
    | .ok .norm A' h' => rec y rd A' h'
    | .ok e A' h' => .ok e A' h'
    | .no => .no
  | .cond c x y => match A.ev c with
    | some (.lit (.bool t)) => rec (if t then x else y) rd A h
    | _ => .no
  | .block id c => match rec c rd A h with
    | .ok e A' h' => .ok (if e = .exit id then .norm else e) A' h'
    | .no => .no
  | .loop c => xloop rec c rd 100000 A h
  | .exit id => .ok (.exit id) A h
  | .goto l => .ok (.goto l) A h
  | .ret => .ok .ret A h
  | .rangeFunc g ps assign body => xrange tb rec g ps assign body rd A h
  | .scope c => match rec c rd A h with
    | .ok (.goto _) _ _ => .no
    | r => r
  | .refuse _ => .no
noncomputable def exec (tb : Tab) (n : Nat) : Rec :=
  Nat.rec (motive := fun _ => Rec) (fun _ _ _ _ => .no) (fun _ r => stepE tb r) n
end Go.Proofs.YtknplcpjmpmblaaDoor.GX
