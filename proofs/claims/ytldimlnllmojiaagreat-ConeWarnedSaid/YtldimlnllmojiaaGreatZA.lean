/- Part of a claim on cone. -/
import Derived.Test.YtldimlnllmojiaaGreatRows
import Derived.WalkKit
import Derived.WalkSpells
import Derived.WalkLawsBesides
import Derived.Lib.Hide
import Derived.Orders
import Derived.Still
import Derived.Below
import Derived.Laws.Rows
import Derived.Laws.CopyRow
import Derived.Laws.AppendOwn
import Derived.Deep.AppendLies
import Derived.RangeFuncRecord
import Derived.RangeFuncCalls
import Derived.Great.BuildSlice
import Derived.Laws.MakeOwn
import Derived.MapKept
import Derived.RangeFuncLeaves
import Derived.OrdersIn
set_option linter.unusedVariables false
set_option linter.unusedSimpArgs false
namespace Go.Proofs.YtldimlnllmojiaaGreat.GX
section PartOfZxa
open Go
structure Ref where
  b : Nat
  c : Nat
  a : Option Addr
abbrev Th := Nat → Ref
inductive AV where
  | lit (v : Value)
  | ptr (id off : Nat)
  | slc (id off len sub : Nat)
  | slx (id off len cap : Nat)
  | slo (id : Nat)
  | mp (id : Nat)
  | yld (id : Nat)
  | fn (f : FuncId) (first cap : List AV)
  | ifc (t : TypeId) (v : AV)
  | agg (cs : List AV)
  | tup (cs : List AV)
inductive T (α : Type) where
  | e
  | n (l : T α) (v : Option α) (r : T α)
noncomputable def T.get {α : Type} (t : T α) : Nat → Option α :=
  T.rec (motive := fun _ => Nat → Option α) (fun _ => none)
    (fun _ v _ gl gr i => Nat.casesOn (motive := fun _ => Option α) i v fun j => Bool.casesOn (motive := fun _ => Option α) (Nat.beq (j % 2) 0) (gr (j / 2)) (gl (j / 2))) t
noncomputable def T.put {α : Type} (v : Option α) (k : Nat) : T α → Nat → T α :=
  Nat.rec (motive := fun _ => T α → Nat → T α) (fun t _ => t)
    (fun _ put t i => T.casesOn (motive := fun _ => T α) t
      (Nat.casesOn (motive := fun _ => T α) i (.n .e v .e) fun j => Bool.casesOn (motive := fun _ => T α) (Nat.beq (j % 2) 0) (.n .e none (put .e (j / 2))) (.n (put .e (j / 2)) none .e))
      (fun l u r => Nat.casesOn (motive := fun _ => T α) i (.n l v r) fun j => Bool.casesOn (motive := fun _ => T α) (Nat.beq (j % 2) 0) (.n l u (put r (j / 2))) (.n (put l (j / 2)) u r))) k
noncomputable def T.set {α : Type} (v : Option α) (k : Nat) (t : T α) (i : Nat) : T α := T.put v k t i
structure ALoop where
  busy : Bool
  done : Bool
  pending : Option Code
  params : Array Tmp
  assign : Code
  body : Code
  t : T AV
  nt : Nat
  dfr : Nat
inductive AO where
  | cells (cs : List AV) (el : TypeId) (row : Option Nat)
  | map (es : List (AV × AV × Nat)) (clock : Nat)
  | loop (r : ALoop)
  | dfr (shut : Bool)
structure AH where
  m : T AO
  next : Nat
structure TyI where
  desc : TypeDesc
  size : Nat
  bytes : Nat
  agg : Bool
  zero : List Value
inductive AD where
  | col (id : Nat)
  | call (f : FuncId) (cap args : List AV)
structure AA where
  t : T AV
  n : Nat
  ds : List AD
inductive AExit where
  | norm | exit (id : Nat) | goto (l : Nat) | ret
  deriving DecidableEq
structure Tab where
  ty : T TyI
  fn : T Func
  nat : T (AH → List AV → Option AV)
  dnat : T (AH → List AV → Option AH)
  keyEq : T Nat
noncomputable def forceN {α : Type} (n : Nat) (k : Nat → α) : α := Nat.casesOn (motive := fun _ => α) n (k 0) fun m => k (Nat.succ m)
noncomputable def forceI {α : Type} (n : Int) (k : Int → α) : α := Int.casesOn (motive := fun _ => α) n (fun m => forceN m fun m => k (.ofNat m)) (fun m => forceN m fun m => k (.negSucc m))
noncomputable def AH.put (h : AH) (id : Nat) (o : AO) : Option AH := match h with
  | ⟨m, next⟩ => bif Nat.blt id 1099511627776 then some ⟨T.set (some o) 41 m id, next⟩ else none
noncomputable def AH.add (h : AH) (o : AO) : Option AH := match h with
  | ⟨m, next⟩ => forceN next fun next => bif Nat.blt next 1099511627776 then some ⟨T.set (some o) 41 m next, Nat.succ next⟩ else none
noncomputable def AA.put (A : AA) (dst : Option Tmp) (v : AV) : Option AA := match dst with
  | none => some A
  | some d => match A with
    | ⟨t, n, ds⟩ => bif Nat.blt d 1024 && Nat.blt d n then some ⟨T.set (some v) 11 t d, n, ds⟩ else none
noncomputable def AA.ev (A : AA) : Operand → Option AV
  | .tmp t => A.t.get t
  | .const v => some (.lit v)
  | .global _ => none
  | .func f => some (.fn f [] [])
noncomputable def isOne : AV → Bool
  | .agg _ => false
  | .tup _ => false
  | .lit v => v.oneCell'
  | _ => true
noncomputable def ones : List AV → Bool
  | [] => true
  | v :: vs => isOne v && ones vs
noncomputable def acells : AV → List AV
  | .agg cs => cs
  | .lit v => v.cells.toList.map .lit
  | v => [v]
noncomputable def apart (agg : Bool) (cs : List AV) (off size : Nat) : Option AV :=
  if agg then (if off + size ≤ cs.length then some (.agg ((cs.drop off).take size)) else none) else cs[off]?
noncomputable def aint : AV → Option (IntKind × Int)
  | .lit (.int k n) => some (k, n)
  | _ => none
noncomputable def abool : AV → Option Bool
  | .lit (.bool b) => some b
  | _ => none
noncomputable def evs (ev : Operand → Option AV) : List Operand → Option (List AV)
  | [] => some []
  | x :: xs => match ev x with
    | none => none
    | some v => match evs ev xs with
      | none => none
      | some vs => some (v :: vs)
noncomputable def evps (ev : Operand → Option AV) : List (Nat × Operand) → Option (List (Nat × AV))
  | [] => some []
  | (i, x) :: xs => match ev x with
    | none => none
    | some v => match evps ev xs with
      | none => none
      | some vs => some ((i, v) :: vs)
noncomputable def arange : IntKind → Int × Int
  | .i64 => (-9223372036854775808, 9223372036854775807)
  | .u64 => (0, 18446744073709551615)
  | .i32 => (-2147483648, 2147483647)
  | .u32 => (0, 4294967295)
  | .u8 => (0, 255)
  | .i8 => (-128, 127)
  | .i16 => (-32768, 32767)
  | .u16 => (0, 65535)
noncomputable def aInt (k : IntKind) (n : Int) : Option Value := forceI n fun n => if (arange k).1 ≤ n ∧ n ≤ (arange k).2 then some (.int k n) else none
noncomputable def abinI (op : BinOp) (k : IntKind) (a b : Int) : Option Value := match op with
  | .add => aInt k (a + b)
  | .sub => aInt k (a - b)
  | .mul => aInt k (a * b)
  | .quo => if b = 0 then none else aInt k (a.tdiv b)
  | .rem => if b = 0 then none else some (.int k (a.tmod b))
  | .eql => some (.bool (a == b))
  | .neq => some (.bool (a != b))
  | .lss => some (.bool (a < b))
  | .leq => some (.bool (a ≤ b))
  | .gtr => some (.bool (a > b))
  | .geq => some (.bool (a ≥ b))
  | _ => none
noncomputable def abinS (op : BinOp) (a b : ByteArray) : Option Value := match op with
  | .add => if a.size + b.size ≤ 4294967296 then some (.string (a ++ b)) else none
  | .eql => some (.bool (a.toList == b.toList))
  | .neq => some (.bool !(a.toList == b.toList))
  | _ => none
noncomputable def abin (op : BinOp) (x y : Value) : Option Value :=
  match x, y with
  | .int k a, .int k' b => if k = k' then abinI op k a b else none
  | .string a, .string b => abinS op a b
  | _, _ => none
noncomputable def afill (place : Nat → Option (Nat × Nat)) (cells : List AV) : List (Nat × AV) → Option (List AV)
  | [] => some cells
  | (i, v) :: rest =>
    match place i with
    | none => none
    | some (off, size) =>
      let cs := acells v
      if cs.length = size ∧ off + size ≤ cells.length then afill place (cells.take off ++ cs ++ cells.drop (off + size)) rest else none
noncomputable def offs (tb : Tab) : List Field → Option (List (Nat × Nat))
  | [] => some []
  | f :: fs => match tb.ty.get f.type with
    | none => none
    | some i => match offs tb fs with
      | none => none
      | some r => some ((f.offset, i.size) :: r)
noncomputable def rep (l : List AV) : Nat → List AV
  | 0 => []
  | n + 1 => l ++ rep l n
noncomputable def abound (x : Option AV) (deflt y : Nat) : Option Nat := match x with
  | none => some deflt
  | some v => match aint v with
    | some (_, i) => if 0 ≤ i ∧ i ≤ y then some i.toNat else none
    | none => none
noncomputable def xPick (ev : Operand → Option AV) (c a b : Operand) : Option AV := match ev c with
  | some (.lit (.bool t)) => if t then ev a else ev b
  | _ => none
noncomputable def xBin2 (op : BinOp) (a : Value) : Option AV → Option AV
  | some (.lit b) => (abin op a b).map .lit
  | _ => none
noncomputable def isSliceT (tb : Tab) (t : TypeId) : Bool := match tb.ty.get t with
  | some i => match i.desc with
    | .slice _ => true
    | _ => false
  | none => false
noncomputable def hasRow : AV → Bool
  | .slc _ _ _ _ => true
  | .slx _ _ _ _ => true
  | _ => false
noncomputable def xBinN (tb : Tab) (op : BinOp) (t : TypeId) : Option AV → Bool → Option AV
  | some (.lit (.slice none _ _)), r => if isSliceT tb t then match op with
      | .eql => some (.lit (.bool !r))
      | .neq => some (.lit (.bool r))
      | _ => none
    else none
  | _, _ => none
noncomputable def isNilS : AV → Bool
  | .lit (.slice none _ _) => true
  | _ => false
noncomputable def isTwo (tb : Tab) (t : TypeId) : Bool := match tb.keyEq.get t with
  | some n => Nat.beq n 2
  | none => false
noncomputable def xPair (op : BinOp) : List AV → Option AV → Option AV
  | [.lit (.int .i64 a), .lit (.int .i64 b)], some (.agg [.lit (.int .i64 c), .lit (.int .i64 d)]) => match op with
    | .eql => some (.lit (.bool (decide ([a, b] = [c, d]))))
    | .neq => some (.lit (.bool !(decide ([a, b] = [c, d]))))
    | _ => none
  | _, _ => none
noncomputable def xBin (tb : Tab) (ev : Operand → Option AV) (op : BinOp) (t : TypeId) (x y : Operand) : Option AV := match ev x with
  | some v => if hasRow v then xBinN tb op t (ev y) true else if isNilS v then xBinN tb op t (ev y) false else match v with
    | .lit a => xBin2 op a (ev y)
    | .agg cs => bif isTwo tb t then xPair op cs (ev y) else none
    | _ => none
  | none => none
noncomputable def xUn (ev : Operand → Option AV) (op : UnOp) (x : Operand) : Option AV := match op, ev x with
  | .not, some (.lit (.bool b)) => some (.lit (.bool !b))
  | .neg, some (.lit (.int k n)) => (aInt k (0 - n)).map .lit
  | _, _ => none
noncomputable def xConv (tb : Tab) (ev : Operand → Option AV) (src dst : TypeId) (x : Operand) : Option AV := match tb.ty.get src, tb.ty.get dst, ev x with
  | some _, some d, some (.lit (.int k n)) => match d.desc with
    | .int k' => (aInt k' n).map .lit
    | _ => none
  | _, _, _ => none
noncomputable def afield (tb : Tab) (s : TypeId) (f : Nat) : Option (Nat × TyI) := match tb.ty.get s with
  | some i => match i.desc with
    | .struct fs => match fs[f]? with
      | some fd => match tb.ty.get fd.type with
        | some j => some (fd.offset, j)
        | none => none
      | none => none
    | _ => none
  | none => none
noncomputable def xFieldAddr (tb : Tab) (ev : Operand → Option AV) (s : TypeId) (x : Operand) (f : Nat) : Option AV := match ev x with
  | some (.ptr id off) => match afield tb s f with
    | some (o, j) => if j.size = 0 then none else some (.ptr id (off + o))
    | none => none
  | _ => none
noncomputable def xField (tb : Tab) (ev : Operand → Option AV) (s : TypeId) (x : Operand) (f : Nat) : Option AV := match ev x with
  | some (.agg cs) => match afield tb s f with
    | some (o, j) => apart j.agg cs o j.size
    | none => none
  | _ => none
noncomputable def asliceOf (tb : Tab) (t : TypeId) : Option (TypeId × TyI) := match tb.ty.get t with
  | some i => match i.desc with
    | .slice el => match tb.ty.get el with
      | some j => some (el, j)
      | none => none
    | _ => none
  | none => none
noncomputable def aarrayOf (tb : Tab) (t : TypeId) : Option (Nat × TyI) := match tb.ty.get t with
  | some i => match i.desc with
    | .array len el => match tb.ty.get el with
      | some j => some (len, j)
      | none => none
    | _ => none
  | none => none
noncomputable def xIxSlc (tb : Tab) (t : TypeId) (id off len : Nat) : Option (IntKind × Int) → Option AV
  | some (_, n) => match asliceOf tb t with
    | some (_, j) => if 0 ≤ n ∧ n < len then some (.ptr id (off + n.toNat * j.size)) else none
    | none => none
  | none => none
noncomputable def xIxArr (tb : Tab) (t : TypeId) (id off : Nat) : Option (IntKind × Int) → Option AV
  | some (_, n) => match aarrayOf tb t with
    | some (len, j) => if 0 ≤ n ∧ n < len then some (.ptr id (off + n.toNat * j.size)) else none
    | none => none
  | none => none
noncomputable def xIndexAddr (tb : Tab) (ev : Operand → Option AV) (t : TypeId) (x ix : Operand) : Option AV := match ev x with
  | some (.slc id off len _) => xIxSlc tb t id off len ((ev ix).bind aint)
  | some (.slx id off len _) => xIxSlc tb t id off len ((ev ix).bind aint)
  | some (.ptr id off) => xIxArr tb t id off ((ev ix).bind aint)
  | _ => none
noncomputable def xIx (tb : Tab) (t : TypeId) (cs : List AV) : Option (IntKind × Int) → Option AV
  | some (_, n) => match aarrayOf tb t with
    | some (len, j) => if 0 ≤ n ∧ n < len then apart j.agg cs (n.toNat * j.size) j.size else none
    | none => none
  | none => none
noncomputable def isStr (tb : Tab) (t : TypeId) : Bool := match tb.ty.get t with
  | some i => match i.desc with
    | .string => true
    | _ => false
  | none => false
noncomputable def xIxS (tb : Tab) (t : TypeId) (s : ByteArray) : Option (IntKind × Int) → Option AV
  | some (_, n) => if isStr tb t ∧ 0 ≤ n then match s[n.toNat]? with
      | some b => some (.lit (.int .u8 b.toNat))
      | none => none
    else none
  | none => none
noncomputable def xIndex (tb : Tab) (ev : Operand → Option AV) (t : TypeId) (x ix : Operand) : Option AV := match ev x with
  | some (.agg cs) => xIx tb t cs ((ev ix).bind aint)
  | some (.lit (.string s)) => xIxS tb t s ((ev ix).bind aint)
  | _ => none
noncomputable def xBuild2 (tb : Tab) (i : TyI) (ps : List (Nat × AV)) : Option AV := match i.desc with
  | .struct fs => match offs tb fs.toList with
    | some os => (afill (fun k => os[k]?) (i.zero.map .lit) ps).map .agg
    | none => none
  | .array _ el => match tb.ty.get el with
    | some j => (afill (fun k => some (k * j.size, j.size)) (i.zero.map .lit) ps).map .agg
    | none => none
  | _ => none
noncomputable def xBuild (tb : Tab) (ev : Operand → Option AV) (t : TypeId) (parts : Array (Nat × Operand)) : Option AV := match tb.ty.get t, evps ev parts.toList with
  | some i, some ps => xBuild2 tb i ps
  | _, _ => none
noncomputable def xMakeFunc (ev : Operand → Option AV) (g : Fn) (first cap : Array Operand) : Option AV := match g with
  | .func f => match evs ev first.toList, evs ev cap.toList with
    | some a, some b => some (.fn f a b)
    | _, _ => none
  | _ => none
noncomputable def xExtract (ev : Operand → Option AV) (x : Operand) (ix : Nat) : Option AV := match ev x with
  | some (.tup vs) => vs[ix]?
  | _ => none
noncomputable def evo (ev : Operand → Option AV) : Option Operand → Option (Option AV)
  | none => some none
  | some l => (ev l).map some
noncomputable def xSlice2 (id off len sub sz : Nat) (l h : Option AV) : Option AV := match abound h len len with
  | some H => match abound l 0 H with
    | some L => if L < len then some (.slc id (off + L * sz) (H - L) (sub + L)) else none
    | none => none
  | none => none
noncomputable def xSliceS (s : ByteArray) (l h : Option AV) : Option AV := match abound h s.size s.size with
  | some H => match abound l 0 H with
    | some L => some (.lit (.string (s.extract L H)))
    | none => none
  | none => none
noncomputable def xSliceX (id off len sub sz : Nat) (l h m : Option AV) : Option AV := match m, h with
  | some _, some _ => match abound m len len with
    | some M => match abound h M M with
      | some H => match abound l 0 H with
        | some L => some (.slx id (if M = L then off else off + L * sz) (H - L) (M - L))
        | none => none
      | none => none
    | none => none
  | _, _ => none
noncomputable def xSlice (tb : Tab) (ev : Operand → Option AV) (t : TypeId) (x : Operand) (lo hi mx : Option Operand) : Option AV := match ev x with
  | some (.slc id off len sub) => match asliceOf tb t, evo ev lo, evo ev hi, evo ev mx with
    | some (_, j), some l, some h, some none => xSlice2 id off len sub j.size l h
    | some (_, j), some l, some h, some m => xSliceX id off len sub j.size l h m
    | _, _, _, _ => none
  | some (.lit (.string s)) => match evo ev lo, evo ev hi, mx with
    | some l, some h, none => if isStr tb t then xSliceS s l h else none
    | _, _, _ => none
  | _ => none
noncomputable def xLen2 (d : TypeDesc) (v : AV) : Option AV := match v, d with
  | .slc _ _ len _, .slice _ => some (.lit (.int .i64 len))
  | .slx _ _ len _, .slice _ => some (.lit (.int .i64 len))
  | .slo _, .slice _ => some (.lit (.int .i64 0))
  | .lit (.slice _ n _), .slice _ => some (.lit (.int .i64 n))
  | .lit (.string s), .string => some (.lit (.int .i64 s.size))
  | _, _ => none
noncomputable def xLen (tb : Tab) (ev : Operand → Option AV) (args : Array Operand) (argTypes : Array TypeId) : Option AV := match argTypes.toList, args.toList with
  | [t], [x] => match tb.ty.get t, ev x with
    | some i, some v => xLen2 i.desc v
    | _, _ => none
  | _, _ => none
noncomputable def xMin2 : Option AV → Option AV → Option AV
  | some (.lit (.int k x)), some (.lit (.int _ y)) => some (.lit (.int k (if y < x then y else x)))
  | _, _ => none
noncomputable def xMin (ev : Operand → Option AV) (args : Array Operand) : Option AV := match args.toList with
  | [x, y] => xMin2 (ev x) (ev y)
  | _ => none
noncomputable def xMax2 : Option AV → Option AV → Option AV
  | some (.lit (.int k x)), some (.lit (.int _ y)) => some (.lit (.int k (if y > x then y else x)))
  | _, _ => none
noncomputable def xMax (ev : Operand → Option AV) (args : Array Operand) : Option AV := match args.toList with
  | [x, y] => xMax2 (ev x) (ev y)
  | _ => none
noncomputable def xpureCall (tb : Tab) (ev : Operand → Option AV) (c : Call) : Option AV := match c.callee with
  | .builtin .len => xLen tb ev c.args c.argTypes
  | .builtin .min => xMin ev c.args
  | .builtin .max => xMax ev c.args
  | _ => none
noncomputable def xNil : Option AV → Option AV
  | some (.ptr id off) => some (.ptr id off)
  | _ => none
noncomputable def xpure (tb : Tab) (ev : Operand → Option AV) (o : Oper) : Option AV :=
  match o.op with
  | .move x => ev x
  | .assign x => ev x
  | .pick c a b => xPick ev c a b
  | .binOp op t x y _ => xBin tb ev op t x y
  | .unOp op _ x => xUn ev op x
  | .convert src dst x => xConv tb ev src dst x
  | .fieldAddr s x f => xFieldAddr tb ev s x f
  | .indexAddr t x ix => xIndexAddr tb ev t x ix
  | .field s x f => xField tb ev s x f
  | .index t x ix => xIndex tb ev t x ix
  | .build t parts => xBuild tb ev t parts
  | .makeFunc g first cap => xMakeFunc ev g first cap
  | .extract x ix => xExtract ev x ix
  | .slice t x lo hi mx => xSlice tb ev t x lo hi mx
  | .call c => xpureCall tb ev c
  | .nilCheck x => xNil (ev x)
  | _ => none
noncomputable def xLoad2 (tb : Tab) (h : AH) (t : TypeId) : Option AV → Option AV
  | some (.ptr id off) => match h.m.get id with
    | some (.cells cs _ _) => match tb.ty.get t with
      | some i => apart i.agg cs off i.size
      | none => none
    | _ => none
  | _ => none
noncomputable def xload (tb : Tab) (h : AH) (ev : Operand → Option AV) (o : Oper) : Option AV :=
  match o.op with
  | .load t a => xLoad2 tb h t (ev a)
  | _ => none
noncomputable def ai64 : AV → Option Int
  | .lit (.int .i64 n) => some n
  | _ => none
noncomputable def ai64s : List AV → Option (List Int)
  | [] => some []
  | v :: vs => match ai64 v, ai64s vs with
    | some n, some ns => some (n :: ns)
    | _, _ => none
noncomputable def akey : AV → Option (List Int)
  | .agg cs => ai64s cs
  | _ => none
noncomputable def afind (k : List Int) : List (AV × AV × Nat) → Nat → Option (Option (Nat × AV))
  | [], _ => some none
  | (k', v, _) :: es, i => match akey k' with
    | some k'' => if k''.length = k.length then (if k = k'' then some (some (i, v)) else afind k es (i + 1)) else none
    | none => none
inductive XR where
  | val (v : AV) (h : AH)
  | skip (h : AH)
  | enter (f : FuncId) (args : List AV)
  | round (id : Nat) (args : List AV)
  | no
noncomputable def added (h : AH) (o : AO) (v : AV) : XR := match h.add o with
  | some h' => .val v h'
  | none => .no
noncomputable def stored (h : AH) (id : Nat) (o : AO) : XR := match h.put id o with
  | some h' => .skip h'
  | none => .no
noncomputable def xAlloc (tb : Tab) (h : AH) (t : TypeId) : XR := match tb.ty.get t with
  | some i => added h (.cells (i.zero.map .lit) t none) (.ptr h.next 0)
  | none => .no
noncomputable def xBox (h : AH) (t : TypeId) : Option AV → XR
  | some v => added h (.cells (acells v) t none) (.ptr h.next 0)
  | none => .no
noncomputable def xStore3 (h : AH) (id off size : Nat) (news cs : List AV) (el : TypeId) (row : Option Nat) : XR :=
  if news.length = size ∧ off + size ≤ cs.length ∧ ones news = true then stored h id (.cells (cs.take off ++ news ++ cs.drop (off + size)) el row) else .no
noncomputable def xStore2 (tb : Tab) (h : AH) (t : TypeId) (id off : Nat) : Option AV → XR
  | some v => match tb.ty.get t, h.m.get id with
    | some i, some (.cells cs el row) => xStore3 h id off i.size (acells v) cs el row
    | _, _ => .no
  | none => .no
noncomputable def xStore (tb : Tab) (h : AH) (ev : Operand → Option AV) (t : TypeId) (a x : Operand) : XR := match ev a with
  | some (.ptr id off) => xStore2 tb h t id off (ev x)
  | _ => .no
noncomputable def xBuildSlice (tb : Tab) (h : AH) (ev : Operand → Option AV) (t : TypeId) (len : Nat) (parts : Array (Nat × Operand)) : XR := match asliceOf tb t, evps ev parts.toList with
  | some (el, j), some ps => if 0 < j.size ∧ 0 < len ∧ len * j.size ≤ 65536 then match afill (fun k => some (k * j.size, j.size)) (rep (j.zero.map .lit) len) ps with
      | some cs => added h (.cells cs el (some j.size)) (.slc h.next 0 len 0)
      | none => .no
    else if len = 0 ∧ ps.length = 0 then added h (.cells [] el none) (.slx h.next 0 0 0) else .no
  | _, _ => .no
noncomputable def xMakeSlice (tb : Tab) (h : AH) (t : TypeId) (l c : Option (IntKind × Int)) : XR := match asliceOf tb t, l, c with
  | some (el, j), some (_, n), some (_, m) => if 0 < n ∧ n = m ∧ n ≤ 65536 ∧ 0 < j.size ∧ j.bytes ≤ 65536 then
      added h (.cells (rep (j.zero.map .lit) n.toNat) el (some j.size)) (.slc h.next 0 n.toNat 0)
    else .no
  | _, _, _ => .no
noncomputable def amapOf (tb : Tab) (t : TypeId) : Option (Nat × TyI) := match tb.ty.get t with
  | some i => match i.desc with
    | .map kt el => match tb.keyEq.get kt, tb.ty.get el with
      | some n, some j => some (n, j)
      | _, _ => none
    | _ => none
  | none => none
noncomputable def amapAt (h : AH) (id : Nat) : Option (List (AV × AV × Nat) × Nat) := match h.m.get id with
  | some (.map es clock) => some (es, clock)
  | _ => none
noncomputable def afindIn (n : Nat) (k : AV) (es : List (AV × AV × Nat)) : Option (Option (Nat × AV)) := match akey k with
  | some kk => if kk.length = n then afind kk es 0 else none
  | none => none
noncomputable def xLookup2 (tb : Tab) (h : AH) (t : TypeId) (id : Nat) (ok : Bool) : Option AV → XR
  | some k => match amapOf tb t, amapAt h id with
    | some (n, j), some (es, _) => match afindIn n k es with
      | some (some (_, v)) => .val (if ok then .tup [v, .lit (.bool true)] else v) h
      | some none => match apart j.agg (j.zero.map .lit) 0 j.size with
        | some z => .val (if ok then .tup [z, .lit (.bool false)] else z) h
        | none => .no
      | none => .no
    | _, _ => .no
  | none => .no
noncomputable def xLookup (tb : Tab) (h : AH) (ev : Operand → Option AV) (t : TypeId) (x ix : Operand) (ok : Bool) : XR := match ev x with
  | some (.mp id) => xLookup2 tb h t id ok (ev ix)
  | _ => .no
noncomputable def xMapUpd2 (tb : Tab) (h : AH) (t : TypeId) (id : Nat) : Option AV → Option AV → XR
  | some k, some v => match amapOf tb t, amapAt h id with
    | some (n, _), some (es, clock) => match afindIn n k es with
      | some (some (p, _)) => stored h id (.map (es.modify p fun e => (k, v, e.2.2)) clock)
      | some none => stored h id (.map (es ++ [(k, v, clock)]) (clock + 1))
      | none => .no
    | _, _ => .no
  | _, _ => .no
noncomputable def xMapUpd (tb : Tab) (h : AH) (ev : Operand → Option AV) (t : TypeId) (m k x : Operand) : XR := match ev m with
  | some (.mp id) => xMapUpd2 tb h t id (ev k) (ev x)
  | _ => .no
noncomputable def xMapEntry2 (tb : Tab) (h : AH) (t : TypeId) (id : Nat) : Option AV → XR
  | some k => match amapOf tb t, amapAt h id with
    | some (n, j), some (es, clock) => match afindIn n k es with
      | some (some (p, v)) => match es[p]? with
        | some e => match h.put id (.map (es.modify p fun e => (k, e.2.1, e.2.2)) clock) with
          | some h' => .val (.tup [v, .lit (.int .i64 e.2.2)]) h'
          | none => .no
        | none => .no
      | some none => match apart j.agg (j.zero.map .lit) 0 j.size with
        | some z => match h.put id (.map (es ++ [(k, z, clock)]) (clock + 1)) with
          | some h' => .val (.tup [z, .lit (.int .i64 clock)]) h'
          | none => .no
        | none => .no
      | none => .no
    | _, _ => .no
  | none => .no
noncomputable def xMapEntry (tb : Tab) (h : AH) (ev : Operand → Option AV) (t : TypeId) (m k : Operand) : XR := match ev m with
  | some (.mp id) => xMapEntry2 tb h t id (ev k)
  | _ => .no
noncomputable def aborn (n : Int) : List (AV × AV × Nat) → Nat → Option Nat
  | [], _ => none
  | e :: es, i => if (e.2.2 : Int) = n then some i else aborn n es (i + 1)
noncomputable def xEntryStore2 (h : AH) (id : Nat) : Option (IntKind × Int) → Option AV → XR
  | some (_, n), some v => match amapAt h id with
    | some (es, clock) => match aborn n es 0 with
      | some p => stored h id (.map (es.modify p fun e => (e.1, v, e.2.2)) clock)
      | none => .no
    | none => .no
  | _, _ => .no
noncomputable def xEntryStore (h : AH) (ev : Operand → Option AV) (m s x : Operand) : XR := match ev m with
  | some (.mp id) => xEntryStore2 h id ((ev s).bind aint) (ev x)
  | _ => .no
noncomputable def xSliceE2 (h : AH) (len : Nat) (l hi : Option AV) : XR := match abound hi len len with
  | some H => match abound l 0 H with
    | some L => if L = len then (match h with | ⟨m, next⟩ => .val (.slo next) ⟨m, Nat.succ next⟩) else .no
    | none => .no
  | none => .no
noncomputable def xSliceE (tb : Tab) (h : AH) (ev : Operand → Option AV) (t : TypeId) (x : Operand) (lo hi mx : Option Operand) : XR := match ev x with
  | some (.slc _ _ len _) => match asliceOf tb t, evo ev lo, evo ev hi, mx with
    | some _, some l, some hh, none => xSliceE2 h len l hh
    | _, _, _, _ => .no
  | _ => .no
noncomputable def xAppend4 (h : AH) (el : TypeId) (sz n m id : Nat) (news cs : List AV) : XR :=
  if cs.length = n * sz ∧ n + m ≤ 65536 ∧ ones news = true then match AH.add { h with m := T.set none 41 h.m id } (.cells (cs ++ news) el (some sz)) with
    | some h' => .val (.slc h.next 0 (n + m) 0) h'
    | none => .no
  else .no
noncomputable def xAppend3 (h : AH) (el : TypeId) (j : TyI) (xid m : Nat) (news : List AV) : Option AV → XR
  | some (.slc id 0 n 0) => if id = xid then .no else match h.m.get id with
    | some (.cells cs el' (some sz)) => if el' = el ∧ sz = j.size then xAppend4 h el sz n m id news cs else .no
    | _ => .no
  | some (.slx _ _ 0 0) => if m ≤ 65536 ∧ ones news = true then added h (.cells news el (some j.size)) (.slc h.next 0 m 0) else .no
  | some (.lit (.slice none 0 0)) => if m ≤ 65536 ∧ ones news = true then added h (.cells news el (some j.size)) (.slc h.next 0 m 0) else .no
  | _ => .no
noncomputable def asrc : AV → Option (Nat × Nat × Nat)
  | .slc id off m _ => some (id, off, m)
  | .slx id off m _ => some (id, off, m)
  | _ => none
noncomputable def xAppend2 (h : AH) (el : TypeId) (j : TyI) (s : Option AV) : Option (Nat × Nat × Nat) → XR
  | some (xid, xoff, m) => match h.m.get xid with
    | some (.cells xs _ _) => if (xs.drop xoff).length ≥ m * j.size ∧ 0 < m ∧ 0 < j.size ∧ j.bytes ≤ 65536 then xAppend3 h el j xid m ((xs.drop xoff).take (m * j.size)) s else .no
    | _ => .no
  | none => .no
noncomputable def xAppend (tb : Tab) (h : AH) (ev : Operand → Option AV) (args : Array Operand) (argTypes : Array TypeId) : XR := match args.toList, argTypes.toList with
  | [s, x], [t, t'] => if t = t' then match asliceOf tb t with
    | some (el, j) => xAppend2 h el j (ev s) ((ev x).bind asrc)
    | none => .no
    else .no
  | _, _ => .no
noncomputable def xEnter (args : Option (List AV)) : Option AV → XR
  | some (.fn g first cap) => match args with
    | some xs => .enter g (first ++ xs ++ cap)
    | none => .no
  | some (.yld id) => match args with
    | some xs => .round id xs
    | none => .no
  | _ => .no
noncomputable def xCall (tb : Tab) (h : AH) (ev : Operand → Option AV) (c : Call) : XR := match c.callee with
  | .builtin .append => xAppend tb h ev c.args c.argTypes
  | .value f => xEnter (evs ev c.args.toList) (ev f)
  | _ => .no
noncomputable def xmem (tb : Tab) (h : AH) (ev : Operand → Option AV) (o : Oper) : XR :=
  match o.op with
  | .alloc t => xAlloc tb h t
  | .box t x => xBox h t (ev x)
  | .store t a x => xStore tb h ev t a x
  | .buildSlice t len parts => xBuildSlice tb h ev t len parts
  | .makeSlice t l c => xMakeSlice tb h t ((ev l).bind aint) ((ev c).bind aint)
  | .makeMap _ none => added h (.map [] 0) (.mp h.next)
  | .lookup t x ix ok => xLookup tb h ev t x ix ok
  | .mapUpdate t m k x => xMapUpd tb h ev t m k x
  | .mapEntry t m k => xMapEntry tb h ev t m k
  | .entryStore _ m s x => xEntryStore h ev m s x
  | .slice t x lo hi mx => xSliceE tb h ev t x lo hi mx
  | .call c => xCall tb h ev c
  | _ => .no
inductive Res where
  | ok (e : AExit) (A : AA) (h : AH)
  | no
noncomputable def aresult (h : AH) (A : AA) (tb : Tab) : ResultVar → Option AV
  | .tmp t => A.t.get t
  | .cell a t => match tb.ty.get t, A.t.get a with
    | some i, some (.ptr id off) => match h.m.get id with
      | some (.cells cs _ _) => apart i.agg cs off i.size
      | _ => none
    | _, _ => none
noncomputable def aresults (h : AH) (A : AA) (tb : Tab) : List ResultVar → Option (List AV)
  | [] => some []
  | r :: rs => match aresult h A tb r, aresults h A tb rs with
    | some v, some vs => some (v :: vs)
    | _, _ => none
noncomputable def args0 : List AV → Nat → T AV → T AV
  | [], _, t => t
  | v :: vs, i, t => args0 vs (i + 1) (T.set (some v) 11 t i)
noncomputable def leaves (tb : Tab) : List AD → AH → Option AH
  | [], h => some h
  | .col id :: ds, h => match h.m.get id with
    | some (.dfr false) => match h.put id (.dfr true) with
      | some h' => leaves tb ds h'
      | none => none
    | _ => none
  | .call f cap args :: ds, h => match tb.dnat.get f with
    | some g => match g h (args ++ cap) with
      | some h' => leaves tb ds h'
      | none => none
    | none => none
abbrev Rec := Code → Option Nat → AA → AH → Res
noncomputable def xcall (tb : Tab) (rec : Rec) (f : FuncId) (args : List AV) (h : AH) : Option (AV × AH) :=
  match tb.nat.get f with
  | some g => (g h args).map fun v => (v, h)
  | none => match tb.fn.get f with
    | none => none
    | some fn => match fn.body with
      | none => none
      | some c => if args.length ≤ fn.ntmps ∧ args.length < 1024 then match rec c none { t := args0 args 0 .e, n := fn.ntmps, ds := [] } h with
        | .ok e A h1 => if e = .norm ∨ e = .ret then match leaves tb A.ds h1 with
            | some h2 => match aresults h2 A tb fn.results.toList with
              | some [v] => some (v, h2)
              | some vs => some (.tup vs, h2)
              | none => none
            | none => none
          else none
        | .no => none
        else none
noncomputable def aset (h : AH) (id : Nat) (r : ALoop) : Option AH := h.put id (.loop r)
noncomputable def params0 : List (Tmp × AV) → T AV → Nat → Option (T AV)
  | [], t, _ => some t
  | (d, v) :: r, t, n => if d < 1024 ∧ d < n then params0 r (T.set (some v) 11 t d) n else none
noncomputable def codeOf : AExit → Option Code
  | .norm => none
  | .ret => some .ret
  | .exit id => some (.exit id)
  | .goto l => some (.goto l)
noncomputable def xround (rec : Rec) (id : Nat) (args : List AV) (h : AH) : Option (AV × AH) :=
  match h.m.get id with
  | some (.loop r) => if r.busy = false ∧ r.done = false ∧ args.length = r.params.size then
      match params0 (r.params.toList.zip args) r.t r.nt with
      | some t => match rec r.assign (some id) { t := t, n := r.nt, ds := [] } h with
        | .ok .norm A h1 => match h1.m.get id with
          | some (.loop r1) => if r1.busy = false ∧ r1.done = false then match aset h1 id { r1 with busy := true } with
              | some h2 => match rec r.body (some id) A h2 with
                | .ok e A' h3 => match h3.m.get id with
                  | some (.loop r3) => match aset h3 id { r3 with busy := false, done := (codeOf e).isSome, pending := codeOf e } with
                    | some h4 => some (.lit (.bool (codeOf e).isNone), h4)
                    | none => none
                  | _ => none
                | .no => none
              | none => none
            else none
          | _ => none
        | _ => none
      | none => none
    else none
  | _ => none
noncomputable def awanted (ops : List Oper) (A : AA) (o : Oper) : Option Bool :=
  match o.guard with
  | none => some true
  | some (j, want) => match ops[j]? with
    | some oj => match oj.dst with
      | some t => match A.t.get t with
        | some (.lit (.bool b)) => some (b == want)
        | some (.lit (.tuple _)) => some false
        | _ => none
      | none => none
    | none => none
noncomputable def xdefer (A : AA) (rd : Option Nat) (c : Call) : Option AA := match c.callee, rd with
  | .value f, none => match A.ev f, evs A.ev c.args.toList with
    | some (.fn g first cap), some xs => match A with
      | ⟨t, n, ds⟩ => some ⟨t, n, .call g cap (first ++ xs) :: ds⟩
    | _, _ => none
  | _, _ => none
noncomputable def asDefer : Op → Option Call
  | .defer c => some c
  | _ => none
noncomputable def putH (A : AA) (dst : Option Tmp) (h : AH) (v : AV) : Option (AA × AH) := match A.put dst v with
  | some A' => some (A', h)
  | none => none
noncomputable def putO (A : AA) (dst : Option Tmp) : Option (AV × AH) → Option (AA × AH)
  | some (v, h) => putH A dst h v
  | none => none
noncomputable def xmemPut (tb : Tab) (rec : Rec) (A : AA) (h : AH) (dst : Option Tmp) : XR → Option (AA × AH)
  | .val v h' => putH A dst h' v
  | .skip h' => putH A dst h' (.lit undef)
  | .enter f args => putO A dst (xcall tb rec f args h)
  | .round id args => putO A dst (xround rec id args h)
  | .no => none
noncomputable def xop1 (tb : Tab) (rec : Rec) (o : Oper) (rd : Option Nat) (A : AA) (h : AH) : Option (AA × AH) :=
  match xpure tb A.ev o with
  | some v => putH A o.dst h v
  | none => match xload tb h A.ev o with
    | some v => putH A o.dst h v
    | none => match asDefer o.op with
      | some c => match xdefer A rd c with
        | some A' => putH A' o.dst h (.lit undef)
        | none => none
      | none => xmemPut tb rec A h o.dst (xmem tb h A.ev o)
noncomputable def xop (tb : Tab) (rec : Rec) (ops : List Oper) (o : Oper) (rd : Option Nat) (A : AA) (h : AH) : Option (AA × AH) :=
  match awanted ops A o with
  | none => none
  | some false => putH A o.dst h (.lit undef)
  | some true => xop1 tb rec o rd A h
noncomputable def xops (tb : Tab) (rec : Rec) (rd : Option Nat) (ops l : List Oper) : AA → AH → Res :=
  List.rec (motive := fun _ => AA → AH → Res) (fun A h => .ok .norm A h)
    (fun o _ k A h => match xop tb rec ops o rd A h with
      | some (A', h') => k A' h'
      | none => .no) l
noncomputable def firstKind : Op → Bool
  | .move _ => true
  | .assign _ => true
  | .pick .. => true
  | .binOp .. => true
  | .unOp .. => true
  | .convert .. => true
  | .fieldAddr .. => true
  | .indexAddr .. => true
  | .field .. => true
  | .index .. => true
  | .build .. => true
  | .makeFunc .. => true
  | .extract .. => true
  | .slice .. => true
  | .load .. => true
  | .nilCheck .. => true
  | .call c => match c.callee with
    | .builtin .len => true
    | .builtin .min => true
    | .builtin .max => true
    | _ => false
  | _ => false
noncomputable def pickFirst (ops : Array Oper) (listed : Array Bool) : List Nat → Option Nat
  | [] => none
  | i :: is => match ops[i]? with
    | some o => if firstKind o.op && Region.free .any ops listed i then some i else pickFirst ops listed is
    | none => pickFirst ops listed is
noncomputable def isAlloc : Op → Bool
  | .alloc _ => true
  | .box .. => true
  | .buildSlice .. => true
  | .makeSlice .. => true
  | .makeMap _ none => true
  | _ => false
noncomputable def allocAt (ops : Array Oper) (i : Nat) : Bool := match ops[i]? with
  | some o => isAlloc o.op && o.guard.isNone && (match o.dst with
    | some d => !(o.looksAt ops).contains d
    | none => true)
  | none => false
noncomputable def apartAt (ops : Array Oper) (i j : Nat) : Bool := match ops[i]?, ops[j]? with
  | some a, some b => a.apart ops b
  | _, _ => false
noncomputable def depends (ops : Array Oper) (j i : Nat) : Bool := match ops[j]? with
  | some o => o.after.any fun e => Region.binds .any e && e.on == i
  | none => false
noncomputable def mark (listed : Array Bool) : List Nat → Array Bool
  | [] => listed
  | i :: is => mark (listed.setIfInBounds i true) is
noncomputable def pairs (ops : Array Oper) (fl : List Nat) : Bool := fl.all fun i => fl.all fun j => i == j || apartAt ops i j
inductive Step where
  | fst (i : Nat) (only : Bool)
  | only (i : Nat) (fl : List Nat)
  | bar (fl : List Nat)
noncomputable def onlyOK (ops : Array Oper) (listed : Array Bool) (e : Nat) (fl : List Nat) : Bool := decide (Region.ready .any ops (mark listed fl) = [e]) && (fl.all fun j => apartAt ops e j) && pairs ops fl
noncomputable def planOne (ops : Array Oper) (listed : Array Bool) (rec : Array Bool → Option (List Step)) (e : Nat) (fl : List Nat) : Option (List Step) := if onlyOK ops listed e fl then match rec (listed.setIfInBounds e true) with
    | some r => some (.only e fl :: r)
    | none => none
  else none
noncomputable def without (fl : List Nat) (e : Nat) : List Nat := fl.filter fun j => j != e
noncomputable def pickOne (ops : Array Oper) (listed : Array Bool) (fl : List Nat) : List Nat → Option Nat
  | [] => none
  | i :: is => if onlyOK ops listed i (without fl i) then some i else pickOne ops listed fl is
noncomputable def planEnd (ops : Array Oper) (listed : Array Bool) (rec : Array Bool → Option (List Step)) (fl : List Nat) : List Nat → Option (List Step)
  | [e] => planOne ops listed rec e fl
  | [] => match pickOne ops listed fl fl with
    | some e => planOne ops listed rec e (without fl e)
    | none => none
  | _ => none
noncomputable def plan (ops : Array Oper) : Nat → Array Bool → Option (List Step)
  | 0, listed => match Region.ready .any ops listed with
    | [] => some []
    | _ => none
  | k + 1, listed => match Region.ready .any ops listed with
    | [] => some []
    | i0 :: is => match pickFirst ops listed (i0 :: is) with
      | some i => match plan ops k (listed.setIfInBounds i true) with
        | some r => some (.fst i is.isEmpty :: r)
        | none => none
      | none => planEnd ops listed (plan ops k) ((i0 :: is).filter (allocAt ops)) ((i0 :: is).filter fun i => !allocAt ops i)
abbrev Held := List (Nat × Nat × List AV)
noncomputable def sameV : Value → Value → Bool
  | .int k n, .int k' n' => k = k' && n = n'
  | .bool a, .bool b => a == b
  | .string a, .string b => decide (a.data.toList = b.data.toList)
  | .pointer none, .pointer none => true
  | .slice none 0 0, .slice none 0 0 => true
  | .nilFunc, .nilFunc => true
  | .nilIface, .nilIface => true
  | .map none, .map none => true
  | _, _ => false
noncomputable def same0 : AV → AV → Bool
  | .lit a, .lit b => sameV a b
  | .ptr a b, .ptr c d => a = c && b = d
  | .slc a b c d, .slc a' b' c' d' => a = a' && b = b' && c = c' && d = d'
  | .mp a, .mp b => a = b
  | .yld a, .yld b => a = b
  | .fn f [] [], .fn g [] [] => f = g
  | .fn f [] [.ptr a b], .fn g [] [.ptr c d] => f = g && a = c && b = d
  | _, _ => false
noncomputable def sames0 : List AV → List AV → Bool
  | [], [] => true
  | a :: l, b :: m => same0 a b && sames0 l m
  | _, _ => false
noncomputable def same1 : AV → AV → Bool
  | .agg l, .agg m => sames0 l m
  | a, b => same0 a b
noncomputable def sames1 : List AV → List AV → Bool
  | [], [] => true
  | a :: l, b :: m => same1 a b && sames1 l m
  | _, _ => false
noncomputable def same : AV → AV → Bool
  | .fn f a c, .fn g b d => f = g && sames1 a b && sames1 c d
  | a, b => same1 a b
noncomputable def sames : List AV → List AV → Bool
  | [], [] => true
  | a :: l, b :: m => same a b && sames l m
  | _, _ => false
noncomputable def cellsAt (h : AH) (id off size : Nat) : Option (List AV) := match h.m.get id with
  | some (.cells cs _ _) => if off + size ≤ cs.length then some ((cs.drop off).take size) else none
  | _ => none
noncomputable def heldIn : Held → Nat → Nat → Nat → Option (List AV)
  | [], _, _, _ => none
  | (id', off', vs) :: L, id, off, size => if id' = id ∧ off' = off ∧ vs.length = size then some vs else heldIn L id off size
noncomputable def keeps (h : AH) : Held → Bool
  | [] => true
  | (id, off, vs) :: L => (match cellsAt h id off vs.length with
    | some us => sames us vs
    | none => false) && keeps h L
noncomputable def xheld (tb : Tab) (L : Held) (ev : Operand → Option AV) (o : Oper) : Option AV := match o.op with
  | .load t a => match ev a, tb.ty.get t with
    | some (.ptr id off), some i => match heldIn L id off i.size with
      | some vs => apart i.agg vs 0 i.size
      | none => none
    | _, _ => none
  | _ => none
noncomputable def gather (tb : Tab) (h : AH) (ops : Array Oper) : List Step → AA → Held
  | [], _ => []
  | .fst i _ :: r, A => match ops[i]? with
    | none => gather tb h ops r A
    | some o => match xpure tb A.ev o with
      | some v => match A.put o.dst v with
        | some A' => gather tb h ops r A'
        | none => []
      | none => match o.op with
        | .load t a => match A.ev a, tb.ty.get t with
          | some (.ptr id off), some i => match cellsAt h id off i.size with
            | some vs => match apart i.agg vs 0 i.size with
              | some v => match A.put o.dst v with
                | some A' => (id, off, vs) :: gather tb h ops r A'
                | none => []
              | none => []
            | none => gather tb h ops r A
          | _, _ => gather tb h ops r A
        | _ => gather tb h ops r A
  | _ :: r, A => gather tb h ops r A
noncomputable def xfirst (tb : Tab) (L : Held) (ops : List Oper) (A : AA) (o : Oper) : Option AV := match awanted ops A o with
  | none => none
  | some false => some (.lit undef)
  | some true => match xpure tb A.ev o with
    | some v => some v
    | none => xheld tb L A.ev o
noncomputable def unset (A : AA) : Option Tmp → Bool
  | none => true
  | some d => (A.t.get d).isNone && Nat.blt d A.n
noncomputable def isVal : XR → Bool
  | .val _ _ => true
  | _ => false
noncomputable def floatsOK (tb : Tab) (h : AH) (A : AA) (ops : Array Oper) : List Nat → Bool
  | [] => true
  | j :: js => (match ops[j]? with
    | some o => unset A o.dst && isVal (xmem tb h A.ev o)
    | none => false) && floatsOK tb h A ops js
noncomputable def xfloats (tb : Tab) (ops : Array Oper) : List Nat → AA → AH → Option (AA × AH)
  | [], A, h => some (A, h)
  | j :: js, A, h => match ops[j]? with
    | some o => match xmem tb h A.ev o with
      | .val v h' => match A.put o.dst v with
        | some A' => xfloats tb ops js A' h'
        | none => none
      | _ => none
    | none => none
noncomputable def isLoad : Op → Bool
  | .load .. => true
  | _ => false
noncomputable def fullAt (ops : Array Oper) (j : Nat) : Bool := match ops[j]? with
  | some o => !firstKind o.op && (List.range ops.size).all fun i => match ops[i]? with
    | some oi => !isLoad oi.op || depends ops j i
    | none => true
  | none => false
noncomputable def xdraw (tb : Tab) (rec : Rec) (rd : Option Nat) (ops : Array Oper) : List Step → Held → AA → AH → Res
  | [], _, A, h => .ok .norm A h
  | .fst i only :: r, L, A, h => match ops[i]? with
    | none => .no
    | some o => match xfirst tb L ops.toList A o with
      | some v => match A.put o.dst v with
        | some A' => xdraw tb rec rd ops r L A' h
        | none => .no
      | none => if only then match xop tb rec ops.toList o rd A h with
          | some (A', h') => if keeps h' L then xdraw tb rec rd ops r L A' h' else .no
          | none => .no
        else .no
  | .only i fl :: r, L, A, h => match ops[i]? with
    | none => .no
    | some o => if floatsOK tb h A ops fl then match xop tb rec ops.toList o rd A h with
        | some (A', h') => if fullAt ops i then xdraw tb rec rd ops r [] A' h' else if keeps h' L then xdraw tb rec rd ops r L A' h' else .no
        | none => .no
      else .no
  | .bar fl :: r, L, A, h => if floatsOK tb h A ops fl then match xfloats tb ops fl A h with
      | some (A', h') => xdraw tb rec rd ops r L A' h'
      | none => .no
    else .no
noncomputable def planOf (ops : Array Oper) : Option (List Step) := if Region.noSelect ops then plan ops ops.size (Array.replicate ops.size false) else none
noncomputable def erase : List Oper → AA → AA
  | [], A => A
  | o :: os, A => match isAlloc o.op, o.dst, A with
    | true, some d, ⟨t, n, ds⟩ => if d < 1024 then erase os ⟨T.set none 11 t d, n, ds⟩ else erase os ⟨t, n, ds⟩
    | _, _, A => erase os A
noncomputable def xdrawn (tb : Tab) (rec : Rec) (rd : Option Nat) (ops : Array Oper) (A : AA) (h : AH) : Res := match planOf ops with
  | some steps => let A0 := erase ops.toList A; xdraw tb rec rd ops steps (gather tb h ops steps A0) A0 h
  | none => .no
noncomputable def xloop (rec : Rec) (c : Code) (rd : Option Nat) (k : Nat) : AA → AH → Res :=
  Nat.rec (motive := fun _ => AA → AH → Res) (fun _ _ => .no)
    (fun _ go A h => match rec c rd A h with
      | .ok .norm A' h' => go A' h'
      | .ok e A' h' => .ok e A' h'
      | .no => .no) k
noncomputable def xrange (tb : Tab) (rec : Rec) (g : Operand) (ps : Array Tmp) (assign body : Code) (rd : Option Nat) (A : AA) (h : AH) : Res :=
  match (match rd with
    | some l => match h.m.get l with
      | some (.loop r) => some (r.dfr, ([] : List AD), h)
      | _ => none
    | none => match h.add (.dfr false) with
      | some h' => some (h.next, [AD.col h.next], h')
      | none => none : Option (Nat × List AD × AH)) with
  | none => .no
  | some (dfr, mark, h0) => match h0.add (.loop { busy := false, done := false, pending := none, params := ps, assign, body, t := A.t, nt := A.n, dfr }) with
    | none => .no
    | some h1 => match A.ev g with
      | some (.fn f first cap) => match xcall tb rec f (first ++ [.yld h0.next] ++ cap) h1 with
        | none => .no
        | some (_, h2) => match h2.m.get h0.next with
          | some (.loop r) => if r.busy then .no else match aset h2 h0.next { r with done := true } with
            | none => .no
            | some h3 => match r.pending with
              | none => .ok .norm { A with ds := mark ++ A.ds } h3
              | some c => rec c rd { A with ds := mark ++ A.ds } h3
          | _ => .no
      | _ => .no
noncomputable def stepE (tb : Tab) (rec : Rec) : Rec := fun c rd A h =>
  match c with
  | .skip => .ok .norm A h
  | .label _ => .ok .norm A h
  | .region _ ops draw => if draw then xdrawn tb rec rd ops A h else xops tb rec rd ops.toList ops.toList A h
  | .seq x y => match rec x rd A h with
    | .ok .norm A' h' => rec y rd A' h'
    | .ok e A' h' => .ok e A' h'
    | .no => .no
  | .cond c x y => match A.ev c with
    | some (.lit (.bool t)) => rec (if t then x else y) rd A h
    | _ => .no
  | .block id c => match rec c rd A h with
    | .ok e A' h' => .ok (if e = .exit id then .norm else e) A' h'
    | .no => .no
  | .loop c => xloop rec c rd 100000 A h
  | .exit id => .ok (.exit id) A h
  | .goto l => .ok (.goto l) A h
  | .ret => .ok .ret A h
  | .rangeFunc g ps assign body => xrange tb rec g ps assign body rd A h
  | .scope c => match rec c rd A h with
    | .ok (.goto _) _ _ => .no
    | r => r
  | .refuse _ => .no
noncomputable def exec (tb : Tab) (n : Nat) : Rec :=
  Nat.rec (motive := fun _ => Rec) (fun _ _ _ _ => .no) (fun _ r => stepE tb r) n

end PartOfZxa

section PartOfZxb
open Go
section
variable {α : Type}
@[simp] theorem T.get_e (i : Nat) : (T.e : T α).get i = none := rfl
theorem T.get_nS (l r : T α) (v : Option α) (j : Nat) : (T.n l v r).get (j + 1) = if j % 2 = 0 then l.get (j / 2) else r.get (j / 2) := by
  show Bool.casesOn (motive := fun _ => Option α) (Nat.beq (j % 2) 0) (r.get (j / 2)) (l.get (j / 2)) = _
  by_cases h : j % 2 = 0
  · simp [h]
  · have : Nat.beq (j % 2) 0 = false := by
      cases hb : Nat.beq (j % 2) 0 with
      | false => rfl
      | true => exact absurd (Nat.eq_of_beq_eq_true hb) h
    simp [h, this]
theorem T.set_e0 (v : Option α) (k : Nat) : T.set v (k + 1) .e 0 = .n .e v .e := rfl
theorem beq0 (j : Nat) : (Nat.beq (j % 2) 0 = true ∧ j % 2 = 0) ∨ (Nat.beq (j % 2) 0 = false ∧ ¬ j % 2 = 0) := by
  cases hb : Nat.beq (j % 2) 0 with
  | false => exact .inr ⟨rfl, fun h => by rw [h] at hb; cases hb⟩
  | true => exact .inl ⟨rfl, Nat.eq_of_beq_eq_true hb⟩
theorem T.set_eS (v : Option α) (k j : Nat) : T.set v (k + 1) .e (j + 1) = if j % 2 = 0 then .n (T.set v k .e (j / 2)) none .e else .n .e none (T.set v k .e (j / 2)) := by
  show Bool.casesOn (motive := fun _ => T α) (Nat.beq (j % 2) 0) (.n .e none (T.set v k .e (j / 2))) (.n (T.set v k .e (j / 2)) none .e) = _
  rcases beq0 j with ⟨h, h'⟩ | ⟨h, h'⟩ <;> simp [h, h']
theorem T.set_n0 (v u : Option α) (k : Nat) (l r : T α) : T.set v (k + 1) (.n l u r) 0 = .n l v r := rfl
theorem T.set_nS (v u : Option α) (k j : Nat) (l r : T α) : T.set v (k + 1) (.n l u r) (j + 1) = if j % 2 = 0 then .n (T.set v k l (j / 2)) u r else .n l u (T.set v k r (j / 2)) := by
  show Bool.casesOn (motive := fun _ => T α) (Nat.beq (j % 2) 0) (.n l u (T.set v k r (j / 2))) (.n (T.set v k l (j / 2)) u r) = _
  rcases beq0 j with ⟨h, h'⟩ | ⟨h, h'⟩ <;> simp [h, h']
theorem T.get_set_same (v : Option α) : ∀ (k : Nat) (t : T α) (i : Nat), i + 1 < 2 ^ k → (T.set v k t i).get i = v
  | 0, t, i, h => by simp at h
  | k + 1, t, 0, h => by cases t <;> rfl
  | k + 1, t, j + 1, h => by
    have h' : j / 2 + 1 < 2 ^ k := by rw [Nat.pow_succ] at h; omega
    cases t with
    | e =>
      rw [T.set_eS]
      by_cases hj : j % 2 = 0
      · rw [if_pos hj, T.get_nS, if_pos hj]; exact T.get_set_same v k _ _ h'
      · rw [if_neg hj, T.get_nS, if_neg hj]; exact T.get_set_same v k _ _ h'
    | n l u r =>
      rw [T.set_nS]
      by_cases hj : j % 2 = 0
      · rw [if_pos hj, T.get_nS, if_pos hj]; exact T.get_set_same v k _ _ h'
      · rw [if_neg hj, T.get_nS, if_neg hj]; exact T.get_set_same v k _ _ h'
theorem T.get_set_other (v : Option α) : ∀ (k : Nat) (t : T α) (i j : Nat), j ≠ i → (T.set v k t i).get j = t.get j
  | 0, t, i, j, h => rfl
  | k + 1, t, 0, 0, h => absurd rfl h
  | k + 1, t, 0, j + 1, h => by
    cases t with
    | e => rw [T.set_e0, T.get_nS]; split <;> rfl
    | n l u r => rw [T.set_n0, T.get_nS, T.get_nS]
  | k + 1, t, i + 1, 0, h => by
    cases t with
    | e => rw [T.set_eS]; split <;> rfl
    | n l u r => rw [T.set_nS]; split <;> rfl
  | k + 1, t, i + 1, j + 1, h => by
    have hne : i % 2 = j % 2 → j / 2 ≠ i / 2 := fun e e' => h (by omega)
    cases t with
    | e =>
      rw [T.set_eS]
      by_cases hi : i % 2 = 0 <;> by_cases hj : j % 2 = 0
      · rw [if_pos hi, T.get_nS, if_pos hj, T.get_set_other v k _ _ _ (hne (by omega))]; rfl
      · rw [if_pos hi, T.get_nS, if_neg hj]; rfl
      · rw [if_neg hi, T.get_nS, if_pos hj]; rfl
      · rw [if_neg hi, T.get_nS, if_neg hj, T.get_set_other v k _ _ _ (hne (by omega))]; rfl
    | n l u r =>
      rw [T.set_nS, T.get_nS]
      by_cases hi : i % 2 = 0 <;> by_cases hj : j % 2 = 0
      · rw [if_pos hi, T.get_nS, if_pos hj, if_pos hj, T.get_set_other v k _ _ _ (hne (by omega))]
      · rw [if_pos hi, T.get_nS, if_neg hj, if_neg hj]
      · rw [if_neg hi, T.get_nS, if_pos hj, if_pos hj]
      · rw [if_neg hi, T.get_nS, if_neg hj, if_neg hj, T.get_set_other v k _ _ _ (hne (by omega))]
end
theorem forceN_eq {α : Type} (n : Nat) (k : Nat → α) : forceN n k = k n := by cases n <;> rfl
theorem forceI_eq {α : Type} (n : Int) (k : Int → α) : forceI n k = k n := by
  cases n with
  | ofNat m => exact forceN_eq m fun m => k (.ofNat m)
  | negSucc m => exact forceN_eq m fun m => k (.negSucc m)
noncomputable def conc (θ : Th) : AV → Value
  | .lit v => v
  | .ptr id off => .pointer (some ⟨(θ id).b, off, none⟩)
  | .slc id off len sub => .slice (some ⟨(θ id).b, off, none⟩) len ((θ id).c - sub)
  | .slx id off len cap => .slice (some ⟨(θ id).b, off, none⟩) len cap
  | .slo id => .slice (θ id).a 0 (θ id).c
  | .mp id => .map (some (θ id).b)
  | .yld id => .func (.yield (θ id).b) #[] #[]
  | .fn f a b => .func (.func f) (a.map (conc θ)).toArray (b.map (conc θ)).toArray
  | .ifc t v => .iface t (conc θ v)
  | .agg cs => .agg (cs.map (conc θ)).toArray
  | .tup cs => .tuple (cs.map (conc θ)).toArray
def bd (θ : Th) (n : Nat) : AV → Prop
  | .lit _ => True
  | .ptr id _ => id < n
  | .slc id _ len sub => id < n ∧ len + sub ≤ (θ id).c
  | .slx id _ _ _ => id < n
  | .slo id => id < n
  | .mp id => id < n
  | .yld id => id < n
  | .fn _ a b => (∀ x ∈ a, bd θ n x) ∧ ∀ x ∈ b, bd θ n x
  | .ifc _ v => bd θ n v
  | .agg cs => ∀ x ∈ cs, bd θ n x
  | .tup cs => ∀ x ∈ cs, bd θ n x
def Ext (θ θ' : Th) (n : Nat) : Prop := ∀ id, id < n → θ' id = θ id
theorem Ext.refl (θ : Th) (n : Nat) : Ext θ θ n := fun _ _ => rfl
theorem Ext.trans {θ θ' θ'' : Th} {n m : Nat} (h : Ext θ θ' n) (h' : Ext θ' θ'' m) (hnm : n ≤ m) : Ext θ θ'' n := fun id hid => (h' id (Nat.lt_of_lt_of_le hid hnm)).trans (h id hid)
theorem bd_ext {θ θ' : Th} {n m : Nat} (he : Ext θ θ' n) (hnm : n ≤ m) : ∀ v, bd θ n v → bd θ' m v
  | .lit _, _ => by simp [bd]
  | .ptr id _, h => by simp only [bd] at h ⊢; omega
  | .slc id _ _ _, h => by simp only [bd] at h ⊢; rw [he id h.1]; exact ⟨by omega, h.2⟩
  | .slx id _ _ _, h => by simp only [bd] at h ⊢; omega
  | .slo id, h => by simp only [bd] at h ⊢; omega
  | .mp id, h => by simp only [bd] at h ⊢; omega
  | .yld id, h => by simp only [bd] at h ⊢; omega
  | .fn _ a b, h => by
    simp only [bd] at h ⊢
    exact ⟨fun x hx => bd_ext he hnm x (h.1 x hx), fun x hx => bd_ext he hnm x (h.2 x hx)⟩
  | .ifc _ v, h => by simp only [bd] at h ⊢; exact bd_ext he hnm v h
  | .agg cs, h => by simp only [bd] at h ⊢; exact fun x hx => bd_ext he hnm x (h x hx)
  | .tup cs, h => by simp only [bd] at h ⊢; exact fun x hx => bd_ext he hnm x (h x hx)
theorem conc_ext {θ θ' : Th} {n : Nat} (he : Ext θ θ' n) : ∀ v, bd θ n v → conc θ' v = conc θ v
  | .lit _, _ => by simp [conc]
  | .ptr id _, h => by simp only [bd] at h; simp only [conc, he id h]
  | .slc id _ _ _, h => by simp only [bd] at h; simp only [conc, he id h.1]
  | .slx id _ _ _, h => by simp only [bd] at h; simp only [conc, he id h]
  | .slo id, h => by simp only [bd] at h; simp only [conc, he id h]
  | .mp id, h => by simp only [bd] at h; simp only [conc, he id h]
  | .yld id, h => by simp only [bd] at h; simp only [conc, he id h]
  | .fn _ a b, h => by
    simp only [bd] at h
    have e1 : a.map (conc θ') = a.map (conc θ) := List.map_congr_left fun x hx => conc_ext he x (h.1 x hx)
    have e2 : b.map (conc θ') = b.map (conc θ) := List.map_congr_left fun x hx => conc_ext he x (h.2 x hx)
    simp only [conc, e1, e2]
  | .ifc _ v, h => by simp only [bd] at h; simp only [conc, conc_ext he v h]
  | .agg cs, h => by
    simp only [bd] at h
    have e1 : cs.map (conc θ') = cs.map (conc θ) := List.map_congr_left fun x hx => conc_ext he x (h x hx)
    simp only [conc, e1]
  | .tup cs, h => by
    simp only [bd] at h
    have e1 : cs.map (conc θ') = cs.map (conc θ) := List.map_congr_left fun x hx => conc_ext he x (h x hx)
    simp only [conc, e1]
def bdl (θ : Th) (n : Nat) (l : List AV) : Prop := ∀ x ∈ l, bd θ n x
theorem bdl_ext {θ θ' : Th} {n m : Nat} (he : Ext θ θ' n) (hnm : n ≤ m) {l : List AV} (h : bdl θ n l) : bdl θ' m l := fun x hx => bd_ext he hnm x (h x hx)
theorem concl_ext {θ θ' : Th} {n : Nat} (he : Ext θ θ' n) {l : List AV} (h : bdl θ n l) : l.map (conc θ') = l.map (conc θ) := List.map_congr_left fun x hx => conc_ext he x (h x hx)
theorem conc_cells (θ : Th) (v : AV) : (conc θ v).cells.toList = (acells v).map (conc θ) := by
  cases v <;> simp [conc, acells, Value.cells, Function.comp_def]
theorem bd_cells {θ : Th} {n : Nat} {v : AV} (h : bd θ n v) : bdl θ n (acells v) := by
  cases v <;> simp only [acells, bd] at h ⊢
  case agg cs => exact h
  case lit v => intro x hx; obtain ⟨u, _, rfl⟩ := List.mem_map.1 hx; simp [bd]
  all_goals (intro x hx; obtain rfl := List.mem_singleton.1 hx; simpa [bd] using h)
theorem bd_lits {θ : Th} {n : Nat} (l : List Value) : bdl θ n (l.map .lit) := fun x hx => by obtain ⟨u, _, rfl⟩ := List.mem_map.1 hx; simp [bd]
theorem conc_lits (θ : Th) (l : List Value) : (l.map AV.lit).map (conc θ) = l := by simp [Function.comp_def, conc]

end PartOfZxb

section PartOfZxc
open Go Go.RowKit
def KT (θ : Th) (n : Nat) (t : T AV) (tmps : Array Value) : Prop := ∀ i v, t.get i = some v → bd θ n v ∧ tmps[i]? = some (conc θ v)
theorem KT.ext {θ θ' : Th} {n m : Nat} {t : T AV} {tmps : Array Value} (h : KT θ n t tmps) (he : Ext θ θ' n) (hn : n ≤ m) : KT θ' m t tmps := fun i v hv => by
  obtain ⟨a, b⟩ := h i v hv
  exact ⟨bd_ext he hn _ a, by rw [conc_ext he _ a]; exact b⟩
theorem KT.set {θ : Th} {n : Nat} {t : T AV} {tmps : Array Value} (h : KT θ n t tmps) {d : Nat} {v : AV} (hv : bd θ n v) (hd : d < 1024) (hs : d < tmps.size) : KT θ n (T.set (some v) 11 t d) (tmps.setIfInBounds d (conc θ v)) := fun i u hu => by
  by_cases hi : i = d
  · subst hi
    rw [T.get_set_same _ 11 t i (by omega)] at hu
    cases hu
    exact ⟨hv, by simp [hs]⟩
  · rw [T.get_set_other _ 11 t d i hi] at hu
    obtain ⟨a, b⟩ := h i u hu
    exact ⟨a, by rw [Array.getElem?_setIfInBounds_ne (Ne.symm hi)]; exact b⟩
noncomputable def entryC (θ : Th) (e : AV × AV × Nat) : MapEntry := { key := conc θ e.1, val := conc θ e.2.1, born := e.2.2 }
def lstate (r : ALoop) : LoopState := if r.busy then .busy else if r.done then .done else .ready
def OOK (θ : Th) (n : Nat) (id : Nat) (o : AO) (w : World) : Prop :=
  match o with
  | .cells cs el row => bdl θ n cs ∧ ∃ cur, w.heap[(θ id).b]? = some (.cells cur el (0, 0)) ∧ cur.toList.take cs.length = cs.map (conc θ) ∧
      (match row with
       | none => cur.size = cs.length
       | some sz => ∃ k, cs.length = k * sz ∧ k ≤ (θ id).c ∧ (θ id).c ≤ maxLen ∧ cur.size = (θ id).c * sz)
  | .map es clock => (∀ e ∈ es, bd θ n e.1 ∧ bd θ n e.2.1) ∧ w.heap[(θ id).b]? = some (.map (es.map (entryC θ)).toArray clock)
  | .loop r => r.dfr < n ∧ ∃ L : Loop, w.heap[(θ id).b]? = some (.loop L) ∧ (r.done = false ∨ r.busy = true → L.state = lstate r) ∧ (r.busy = false → L.state ≠ .busy) ∧ L.pending = r.pending ∧ L.params = r.params ∧ L.assign = r.assign ∧ L.body = r.body ∧
      KT θ n r.t L.tmps ∧ L.tmps.size = r.nt ∧ L.defers = (θ r.dfr).b
  | .dfr shut => w.heap[(θ id).b]? = some (.deferred (if shut then none else some []))
theorem OOK.ext {θ θ' : Th} {n m id : Nat} {o : AO} {w w' : World} (h : OOK θ n id o w) (he : Ext θ θ' n) (hn : n ≤ m) (hid : id < n) (hw : w'.heap[(θ id).b]? = w.heap[(θ id).b]?) : OOK θ' m id o w' := by
  have hi := he id hid
  cases o with
  | cells cs el row =>
    obtain ⟨hb, cur, hc, ht, hr⟩ := h
    refine ⟨bdl_ext he hn hb, cur, by rw [hi, hw]; exact hc, by rw [concl_ext he hb]; exact ht, ?_⟩
    cases row with
    | none => exact hr
    | some sz => rw [hi]; exact hr
  | map es clock =>
    obtain ⟨hb, hc⟩ := h
    refine ⟨fun e hx => ⟨bd_ext he hn _ (hb e hx).1, bd_ext he hn _ (hb e hx).2⟩, ?_⟩
    have e1 : es.map (entryC θ') = es.map (entryC θ) := List.map_congr_left fun x hx => by simp only [entryC, conc_ext he _ (hb x hx).1, conc_ext he _ (hb x hx).2]
    rw [hi, hw, e1]; exact hc
  | loop r =>
    obtain ⟨hd, L, hL, a, a', b, c, d, e, f, g, i⟩ := h
    exact ⟨Nat.lt_of_lt_of_le hd hn, L, by rw [hi, hw]; exact hL, a, a', b, c, d, e, f.ext he hn, g, by rw [he _ hd]; exact i⟩
  | dfr shut => show w'.heap[(θ' id).b]? = _; rw [hi, hw]; exact h
theorem OOK.lt {θ : Th} {n id : Nat} {o : AO} {w : World} (h : OOK θ n id o w) : (θ id).b < w.heap.size := by
  have : ∃ x, w.heap[(θ id).b]? = some x := by
    cases o with
    | cells cs el row => obtain ⟨_, cur, hc, _⟩ := h; exact ⟨_, hc⟩
    | map es clock => exact ⟨_, h.2⟩
    | loop r => obtain ⟨_, L, hL, _⟩ := h; exact ⟨_, hL⟩
    | dfr shut => exact ⟨_, h⟩
  obtain ⟨x, hx⟩ := this
  exact (Array.getElem?_eq_some_iff.1 hx).1
structure Bs where
  n : Nat
  w : World
instance : Coe Bs Nat := ⟨Bs.n⟩
structure R (base : Bs) (θ : Th) (h : AH) (w : World) : Prop where
  obj : ∀ id o, h.m.get id = some o → id < h.next ∧ base ≤ (θ id).b ∧ OOK θ h.next id o w
  inj : ∀ id id' o o', h.m.get id = some o → h.m.get id' = some o' → id ≠ id' → (θ id).b ≠ (θ id').b
  size : base ≤ w.heap.size
  b0 : ∀ k, k < base.n → w.heap[k]? = base.w.heap[k]?
structure Post (base : Bs) (θ : Th) (h : AH) (w : World) (θ' : Th) (h' : AH) (w' : World) : Prop where
  ext : Ext θ θ' h.next
  next : h.next ≤ h'.next
  r : R base θ' h' w'
  below : Below base w w'
  frame : ∀ k, k < w.heap.size → (∀ id o, h.m.get id = some o → (θ id).b ≠ k) → w'.heap[k]? = w.heap[k]?
  own : ∀ id o, h'.m.get id = some o → (∃ id0 o0, h.m.get id0 = some o0 ∧ (θ id0).b = (θ' id).b) ∨ w.heap.size ≤ (θ' id).b
theorem Post.trans {base : Bs} {θ θ' θ'' : Th} {h h' h'' : AH} {w w' w'' : World} (p : Post base θ h w θ' h' w') (q : Post base θ' h' w' θ'' h'' w'') : Post base θ h w θ'' h'' w'' := by
  refine ⟨p.ext.trans q.ext p.next, Nat.le_trans p.next q.next, q.r, p.below.trans q.below, fun k hk hu => ?_, fun id o hg => ?_⟩
  · rw [q.frame k (Nat.lt_of_lt_of_le hk p.below.size) (fun id o hg => ?_), p.frame k hk hu]
    rcases p.own id o hg with ⟨id0, o0, h0, e⟩ | e
    · rw [← e]; exact hu id0 o0 h0
    · omega
  · rcases q.own id o hg with ⟨id1, o1, h1, e⟩ | e
    · rcases p.own id1 o1 h1 with ⟨id0, o0, h0, e'⟩ | e'
      · exact .inl ⟨id0, o0, h0, e'.trans e⟩
      · right; rw [← e]; exact e'
    · right; have := p.below.size; omega
theorem Post.refl {base : Bs} {θ : Th} {h : AH} {w : World} (r : R base θ h w) : Post base θ h w θ h w := ⟨Ext.refl _ _, Nat.le_refl _, r, Below.refl _ _, fun _ _ _ => rfl, fun id o hg => .inl ⟨id, o, hg, rfl⟩⟩
def upd (θ : Th) (n : Nat) (r : Ref) : Th := fun id => if id = n then r else θ id
theorem upd_same (θ : Th) (n : Nat) (r : Ref) : upd θ n r n = r := if_pos rfl
theorem upd_ext (θ : Th) (n : Nat) (r : Ref) : Ext θ (upd θ n r) n := fun id hid => if_neg (by omega)
theorem AH.add_spec {h h' : AH} {o : AO} (ha : h.add o = some h') : h.next < 1099511627776 ∧ h'.m = T.set (some o) 41 h.m h.next ∧ h'.next = h.next + 1 := by
  obtain ⟨m, next⟩ := h
  simp only [AH.add, forceN_eq] at ha
  cases hb : Nat.blt next 1099511627776 with
  | false => rw [hb] at ha; cases ha
  | true =>
    rw [hb] at ha
    simp only [cond_true, Option.some.injEq] at ha
    subst ha
    exact ⟨Nat.le_of_ble_eq_true hb, rfl, rfl⟩
theorem AH.put_spec {h h' : AH} {id : Nat} {o : AO} (ha : h.put id o = some h') : id < 1099511627776 ∧ h'.m = T.set (some o) 41 h.m id ∧ h'.next = h.next := by
  obtain ⟨m, next⟩ := h
  simp only [AH.put] at ha
  cases hb : Nat.blt id 1099511627776 with
  | false => rw [hb] at ha; cases ha
  | true =>
    rw [hb] at ha
    simp only [cond_true, Option.some.injEq] at ha
    subst ha
    exact ⟨Nat.le_of_ble_eq_true hb, rfl, rfl⟩
section
variable {base : Bs} {θ θ' : Th} {h h' : AH} {w w' : World}
theorem R.add (hR : R base θ h w) {o : AO} (ha : h.add o = some h') {r : Ref} (hr : w.heap.size ≤ r.b) (hw : ∀ k, k < w.heap.size → w'.heap[k]? = w.heap[k]?) (hs : w.heap.size ≤ w'.heap.size)
    (ho : OOK (upd θ h.next r) (h.next + 1) h.next o w') : R base (upd θ h.next r) h' w' := by
  obtain ⟨h1, hm, hn⟩ := AH.add_spec ha
  have hE := upd_ext θ h.next r
  have old : ∀ id o', id ≠ h.next → h'.m.get id = some o' → h.m.get id = some o' := fun id o' hne hg => by rw [hm, T.get_set_other _ _ _ _ _ hne] at hg; exact hg
  have new : h'.m.get h.next = some o := by rw [hm]; exact T.get_set_same _ 41 _ _ (by omega)
  have bne : ∀ id o', h.m.get id = some o' → (θ id).b ≠ r.b := fun id o' hg => by
    have := (hR.obj id o' hg).2.2.lt; omega
  have eqo : ∀ id o', h.m.get id = some o' → upd θ h.next r id = θ id := fun id o' hg => hE id (hR.obj id o' hg).1
  refine ⟨fun id o' hg => ?_, fun id id' o1 o2 hg1 hg2 hne => ?_, Nat.le_trans hR.size hs, fun k hk => (hw k (Nat.lt_of_lt_of_le hk hR.size)).trans (hR.b0 k hk)⟩
  · by_cases hid : id = h.next
    · subst hid
      rw [new] at hg; cases hg
      exact ⟨by omega, by rw [upd_same]; exact Nat.le_trans hR.size hr, by rw [hn]; exact ho⟩
    · have hg' := old id o' hid hg
      obtain ⟨a, b, c⟩ := hR.obj id o' hg'
      exact ⟨by omega, by rw [eqo id o' hg']; exact b, by rw [hn]; exact c.ext hE (by omega) a (hw _ c.lt)⟩
  · by_cases h1' : id = h.next
    · subst h1'
      have hg' := old id' o2 (Ne.symm hne) hg2
      rw [upd_same, eqo id' o2 hg']
      exact (bne id' o2 hg').symm
    · have hg1' := old id o1 h1' hg1
      by_cases h2' : id' = h.next
      · subst h2'
        rw [upd_same, eqo id o1 hg1']
        exact bne id o1 hg1'
      · have hg2' := old id' o2 h2' hg2
        rw [eqo id o1 hg1', eqo id' o2 hg2']
        exact hR.inj id id' o1 o2 hg1' hg2' hne
theorem Post.bump (hR : R base θ h w) (r : Ref) : Post base θ h w (upd θ h.next r) ⟨h.m, Nat.succ h.next⟩ w := by
  have hE := upd_ext θ h.next r
  refine ⟨hE, Nat.le_succ _, ⟨fun id o hg => ?_, fun id id' o o' h1 h2 hne => ?_, hR.size, hR.b0⟩, Below.refl _ _, fun _ _ _ => rfl, fun id o hg => .inl ⟨id, o, hg, by rw [hE id (hR.obj id o hg).1]⟩⟩
  · obtain ⟨a, b, c⟩ := hR.obj id o hg
    exact ⟨Nat.lt_succ_of_lt a, by rw [hE id a]; exact b, c.ext hE (Nat.le_succ _) a rfl⟩
  · rw [hE id (hR.obj id o h1).1, hE id' (hR.obj id' o' h2).1]
    exact hR.inj id id' o o' h1 h2 hne
theorem R.adopt (hR : R base θ h w) {o : AO} (ha : h.add o = some h') {r : Ref} (hb : base ≤ r.b) (hu : ∀ id o, h.m.get id = some o → (θ id).b ≠ r.b) (ho : OOK (upd θ h.next r) (h.next + 1) h.next o w) : R base (upd θ h.next r) h' w := by
  obtain ⟨h1, hm, hn⟩ := AH.add_spec ha
  have hE := upd_ext θ h.next r
  have old : ∀ id o', id ≠ h.next → h'.m.get id = some o' → h.m.get id = some o' := fun id o' hne hg => by rw [hm, T.get_set_other _ _ _ _ _ hne] at hg; exact hg
  have new : h'.m.get h.next = some o := by rw [hm]; exact T.get_set_same _ 41 _ _ (by omega)
  have eqo : ∀ id o', h.m.get id = some o' → upd θ h.next r id = θ id := fun id o' hg => hE id (hR.obj id o' hg).1
  refine ⟨fun id o' hg => ?_, fun id id' o1 o2 hg1 hg2 hne => ?_, hR.size, hR.b0⟩
  · by_cases hid : id = h.next
    · subst hid
      rw [new] at hg; cases hg
      exact ⟨by omega, by rw [upd_same]; exact hb, by rw [hn]; exact ho⟩
    · have hg' := old id o' hid hg
      obtain ⟨a, b, c⟩ := hR.obj id o' hg'
      exact ⟨by omega, by rw [eqo id o' hg']; exact b, by rw [hn]; exact c.ext hE (by omega) a rfl⟩
  · by_cases h1' : id = h.next
    · subst h1'
      have hg' := old id' o2 (Ne.symm hne) hg2
      rw [upd_same, eqo id' o2 hg']
      exact (hu id' o2 hg').symm
    · have hg1' := old id o1 h1' hg1
      by_cases h2' : id' = h.next
      · subst h2'
        rw [upd_same, eqo id o1 hg1']
        exact hu id o1 hg1'
      · have hg2' := old id' o2 h2' hg2
        rw [eqo id o1 hg1', eqo id' o2 hg2']
        exact hR.inj id id' o1 o2 hg1' hg2' hne
theorem R.put (hR : R base θ h w) {id : Nat} {o0 o : AO} (h0 : h.m.get id = some o0) (ha : h.put id o = some h') (hw : ∀ k, k ≠ (θ id).b → w'.heap[k]? = w.heap[k]?) (hs : w'.heap.size = w.heap.size)
    (ho : OOK θ h.next id o w') : R base θ h' w' := by
  obtain ⟨h1, hm, hn⟩ := AH.put_spec ha
  have old : ∀ i o', i ≠ id → h'.m.get i = some o' → h.m.get i = some o' := fun i o' hne hg => by rw [hm, T.get_set_other _ _ _ _ _ hne] at hg; exact hg
  have new : h'.m.get id = some o := by rw [hm]; exact T.get_set_same _ 41 _ _ (by omega)
  have ex : ∀ i o', h'.m.get i = some o' → ∃ o'', h.m.get i = some o'' := fun i o' hg => by
    by_cases hi : i = id
    · subst hi; exact ⟨_, h0⟩
    · exact ⟨_, old i o' hi hg⟩
  refine ⟨fun i o' hg => ?_, fun i i' o1 o2 hg1 hg2 hne => ?_, by rw [hs]; exact hR.size, fun k hk => (hw k (Nat.ne_of_lt (Nat.lt_of_lt_of_le hk (hR.obj _ _ h0).2.1))).trans (hR.b0 k hk)⟩
  · by_cases hi : i = id
    · subst hi
      rw [new] at hg; cases hg
      obtain ⟨a, b, _⟩ := hR.obj i o0 h0
      exact ⟨by omega, b, by rw [hn]; exact ho⟩
    · have hg' := old i o' hi hg
      obtain ⟨a, b, c⟩ := hR.obj i o' hg'
      exact ⟨by omega, b, by rw [hn]; exact c.ext (Ext.refl _ _) (Nat.le_refl _) a (hw _ (hR.inj i id o' o0 hg' h0 hi))⟩
  · obtain ⟨_, g1⟩ := ex i o1 hg1
    obtain ⟨_, g2⟩ := ex i' o2 hg2
    exact hR.inj i i' _ _ g1 g2 hne
theorem R.swap (hR : R base θ h w) {id : Nat} {o0 o : AO} (h0 : h.m.get id = some o0) (ha : AH.add ⟨T.set none 41 h.m id, h.next⟩ o = some h') {r : Ref} (hr : r.b = (θ id).b ∨ r.b = w.heap.size)
    (hw : ∀ k, k < w.heap.size → k ≠ (θ id).b → w'.heap[k]? = w.heap[k]?) (hs : w.heap.size ≤ w'.heap.size) (ho : OOK (upd θ h.next r) (h.next + 1) h.next o w') : R base (upd θ h.next r) h' w' := by
  obtain ⟨h1, hm, hn⟩ := AH.add_spec ha
  simp only at h1 hm hn
  obtain ⟨i0, b0, c0⟩ := hR.obj id o0 h0
  have hE := upd_ext θ h.next r
  have hidx : id ≠ h.next := by omega
  have old : ∀ i o', i ≠ h.next → h'.m.get i = some o' → i ≠ id ∧ h.m.get i = some o' := fun i o' hne hg => by
    rw [hm, T.get_set_other _ _ _ _ _ hne] at hg
    by_cases hi : i = id
    · subst hi; rw [T.get_set_same _ 41 _ _ (by omega)] at hg; cases hg
    · rw [T.get_set_other _ _ _ _ _ hi] at hg; exact ⟨hi, hg⟩
  have new : h'.m.get h.next = some o := by rw [hm]; exact T.get_set_same _ 41 _ _ (by omega)
  have bne : ∀ i o', i ≠ id → h.m.get i = some o' → (θ i).b ≠ r.b := fun i o' hi hg => by
    rcases hr with e | e
    · rw [e]; exact hR.inj i id o' o0 hg h0 hi
    · have := (hR.obj i o' hg).2.2.lt; omega
  have eqo : ∀ i o', h.m.get i = some o' → upd θ h.next r i = θ i := fun i o' hg => hE i (hR.obj i o' hg).1
  refine ⟨fun i o' hg => ?_, fun i i' o1 o2 hg1 hg2 hne => ?_, Nat.le_trans hR.size hs, fun k hk => (hw k (Nat.lt_of_lt_of_le hk hR.size) (Nat.ne_of_lt (Nat.lt_of_lt_of_le hk b0))).trans (hR.b0 k hk)⟩
  · by_cases hi : i = h.next
    · subst hi
      rw [new] at hg; cases hg
      refine ⟨by omega, ?_, by rw [hn]; exact ho⟩
      rw [upd_same]
      rcases hr with e | e <;> rw [e]
      · exact b0
      · exact hR.size
    · obtain ⟨hne, hg'⟩ := old i o' hi hg
      obtain ⟨a, b, c⟩ := hR.obj i o' hg'
      exact ⟨by omega, by rw [eqo i o' hg']; exact b, by rw [hn]; exact c.ext hE (by omega) a (hw _ c.lt (hR.inj i id o' o0 hg' h0 hne))⟩
  · by_cases h1' : i = h.next
    · subst h1'
      obtain ⟨hx, hg'⟩ := old i' o2 (Ne.symm hne) hg2
      rw [upd_same, eqo i' o2 hg']
      exact (bne i' o2 hx hg').symm
    · obtain ⟨hx1, hg1'⟩ := old i o1 h1' hg1
      by_cases h2' : i' = h.next
      · subst h2'
        rw [upd_same, eqo i o1 hg1']
        exact bne i o1 hx1 hg1'
      · obtain ⟨hx2, hg2'⟩ := old i' o2 h2' hg2
        rw [eqo i o1 hg1', eqo i' o2 hg2']
        exact hR.inj i i' o1 o2 hg1' hg2' hne
theorem R.more (hR : R base θ h w) (hb : Below w.heap.size w w') : R base θ h w' :=
  ⟨fun id o hg => by
    obtain ⟨a, b, c⟩ := hR.obj id o hg
    exact ⟨a, b, c.ext (Ext.refl _ _) (Nat.le_refl _) a (hb.block _ c.lt)⟩, hR.inj, Nat.le_trans hR.size hb.size, fun k hk => (hb.block k (Nat.lt_of_lt_of_le hk hR.size)).trans (hR.b0 k hk)⟩
theorem Post.more (hR : R base θ h w) (hb : Below w.heap.size w w') : Post base θ h w θ h w' := ⟨Ext.refl _ _, Nat.le_refl _, hR.more hb, hb.mono hR.size, fun k hk _ => hb.block k hk, fun id o hg => .inl ⟨id, o, hg, rfl⟩⟩
theorem Post.add (hR : R base θ h w) {o : AO} (ha : h.add o = some h') {r : Ref} (hr : w.heap.size ≤ r.b) (hw : ∀ k, k < w.heap.size → w'.heap[k]? = w.heap[k]?) (hbel : Below base w w')
    (ho : OOK (upd θ h.next r) (h.next + 1) h.next o w') : Post base θ h w (upd θ h.next r) h' w' := by
  obtain ⟨_, hm, hn⟩ := AH.add_spec ha
  refine ⟨upd_ext _ _ _, by omega, hR.add ha hr hw hbel.size ho, hbel, fun k hk _ => hw k hk, fun id o' hg => ?_⟩
  by_cases hid : id = h.next
  · subst hid; right; rw [upd_same]; exact hr
  · rw [hm, T.get_set_other _ _ _ _ _ hid] at hg
    exact .inl ⟨id, o', hg, by rw [upd_ext θ h.next r id (hR.obj id o' hg).1]⟩
theorem Post.put (hR : R base θ h w) {id : Nat} {o0 o : AO} (h0 : h.m.get id = some o0) (ha : h.put id o = some h') (hw : ∀ k, k ≠ (θ id).b → w'.heap[k]? = w.heap[k]?) (hs : w'.heap.size = w.heap.size)
    (hbel : Below base w w') (ho : OOK θ h.next id o w') : Post base θ h w θ h' w' := by
  obtain ⟨_, hm, hn⟩ := AH.put_spec ha
  refine ⟨Ext.refl _ _, by omega, hR.put h0 ha hw hs ho, hbel, fun k _ hu => hw k (hu id o0 h0).symm, fun i o' hg => ?_⟩
  by_cases hi : i = id
  · subst hi; exact .inl ⟨i, o0, h0, rfl⟩
  · rw [hm, T.get_set_other _ _ _ _ _ hi] at hg; exact .inl ⟨i, o', hg, rfl⟩
theorem Post.swap (hR : R base θ h w) {id : Nat} {o0 o : AO} (h0 : h.m.get id = some o0) (ha : AH.add ⟨T.set none 41 h.m id, h.next⟩ o = some h') {r : Ref} (hr : r.b = (θ id).b ∨ r.b = w.heap.size)
    (hw : ∀ k, k < w.heap.size → k ≠ (θ id).b → w'.heap[k]? = w.heap[k]?) (hbel : Below base w w') (ho : OOK (upd θ h.next r) (h.next + 1) h.next o w') : Post base θ h w (upd θ h.next r) h' w' := by
  obtain ⟨_, hm, hn⟩ := AH.add_spec ha
  simp only at hm hn
  have hid := (hR.obj id o0 h0).1
  refine ⟨upd_ext _ _ _, by omega, hR.swap h0 ha hr hw hbel.size ho, hbel, fun k hk hu => hw k hk (hu id o0 h0).symm, fun i o' hg => ?_⟩
  by_cases hi : i = h.next
  · subst hi
    rw [upd_same]
    rcases hr with e | e
    · exact .inl ⟨id, o0, h0, e.symm⟩
    · right; omega
  · rw [hm, T.get_set_other _ _ _ _ _ hi] at hg
    by_cases hi' : i = id
    · subst hi'
      exact .inl ⟨i, o0, h0, by rw [upd_ext θ h.next r i hid]⟩
    · rw [T.get_set_other _ _ _ _ _ hi'] at hg
      exact .inl ⟨i, o', hg, by rw [upd_ext θ h.next r i (hR.obj i o' hg).1]⟩
end

end PartOfZxc

section PartOfZxd
open Go Go.RowKit
def descAgg : TypeDesc → Bool
  | .struct _ | .array _ _ => true
  | _ => false
structure TyOK (P : Program) (t : TypeId) (i : TyI) : Prop where
  und : P.underlying t = some i.desc
  info : ∃ inf z, P.info? t = some inf ∧ inf.size = i.size ∧ inf.bytes = i.bytes ∧ inf.zero = some z ∧ z.cells.toList = i.zero
  agg : i.agg = descAgg i.desc
  len : i.zero.length = i.size
  zv : ∀ inf, P.info? t = some inf → inf.zero = some (if i.agg then .agg i.zero.toArray else i.zero.headD undef)
def PairOK (P : Program) (t : TypeId) (n : Nat) : Prop := n = 2 → P.eqGuardType P.depth t = false ∧
  ∀ (a b c d : Int) (w : World), (Op.equal t (.agg #[.int .i64 a, .int .i64 b]) (.agg #[.int .i64 c, .int .i64 d])).run P w = .ok (decide ([a, b] = [c, d])) w
def EvOK (θ : Th) (n : Nat) (ev : Operand → Option AV) (ρ : Operand → Value) : Prop := ∀ x v, ev x = some v → bd θ n v ∧ ρ x = conc θ v
section
variable {P : Program} {tb : Tab} {θ : Th} {n : Nat} {ev : Operand → Option AV} {ρ : Operand → Value} {w : World}
theorem run_val {s : Sem Value} {x : Value} {w' : World} (h : s.run P w = .ok x w') : (do pure (Next.value (← s)) : Sem Next).run P w = .ok (.value x) w' := by
  simp [Sem.run_bind, h, Result.andThen]
theorem run_und {t : TypeId} {i : TyI} (h : TyOK P t i) (w : World) : (underlying t).run P w = .ok i.desc w := run_underlying h.und w
theorem run_isAgg' {t : TypeId} {i : TyI} (h : TyOK P t i) (w : World) : (isAgg t).run P w = .ok i.agg w := by
  unfold isAgg
  rw [Sem.run_bind, run_und h w, h.agg]
  cases i.desc <;> rfl
theorem run_size {t : TypeId} {i : TyI} (h : TyOK P t i) (w : World) : (sizeOf t).run P w = .ok i.size w := by
  obtain ⟨inf, z, h1, h2, _⟩ := h.info
  simp [sizeOf, typeInfo, Sem.run_bind, h1, h2, Result.andThen]
theorem run_zero {t : TypeId} {i : TyI} (h : TyOK P t i) : ∃ z, (∀ w, (zeroValue t).run P w = .ok z w) ∧ z.cells.toList = i.zero := by
  obtain ⟨inf, z, h1, h2, h3, h4, h5⟩ := h.info
  exact ⟨z, fun w => by simp [zeroValue, typeInfo, Sem.run_bind, h1, h4, Result.andThen], h5⟩
theorem apart_ok {t : TypeId} {i : TyI} (h : TyOK P t i) {cs : List AV} {off : Nat} {v : AV} (hv : apart i.agg cs off i.size = some v) (hb : bdl θ n cs) (w : World) :
    bd θ n v ∧ (part t (cs.map (conc θ)).toArray off).run P w = .ok (conc θ v) w := by
  unfold part
  rw [Sem.run_bind, run_isAgg' h w]
  unfold apart at hv
  cases ha : i.agg with
  | true =>
    rw [ha] at hv
    simp only [if_true] at hv
    split at hv
    · rename_i hle
      cases hv
      refine ⟨?_, ?_⟩
      · simp only [bd]; exact fun x hx => hb x (List.mem_of_mem_drop (List.mem_of_mem_take hx))
      · simp [Result.andThen, Sem.run_bind, run_size h w, conc, List.map_take, List.map_drop]
    · cases hv
  | false =>
    rw [ha] at hv
    simp only [Bool.false_eq_true, if_false] at hv
    exact ⟨hb v (List.mem_of_getElem? hv), by simp [Result.andThen, hv]⟩
theorem evs_ok (hE : EvOK θ n ev ρ) : ∀ {l : List Operand} {vs : List AV}, evs ev l = some vs → bdl θ n vs ∧ l.map ρ = vs.map (conc θ)
  | [], vs, h => by cases h; exact ⟨fun x hx => (by cases hx), rfl⟩
  | x :: xs, vs, h => by
    simp only [evs] at h
    cases h1 : ev x with
    | none => rw [h1] at h; cases h
    | some v =>
      rw [h1] at h
      cases h2 : evs ev xs with
      | none => rw [h2] at h; cases h
      | some us =>
        rw [h2] at h
        cases h
        obtain ⟨a, b⟩ := hE x v h1
        obtain ⟨c, d⟩ := evs_ok hE h2
        refine ⟨fun y hy => ?_, by simp [b, d]⟩
        rcases List.mem_cons.1 hy with rfl | hy
        · exact a
        · exact c y hy
theorem evps_ok (hE : EvOK θ n ev ρ) : ∀ {l : List (Nat × Operand)} {vs : List (Nat × AV)}, evps ev l = some vs → (∀ p ∈ vs, bd θ n p.2) ∧ (l.map fun (i, x) => (i, ρ x)) = vs.map fun p => (p.1, conc θ p.2)
  | [], vs, h => by cases h; exact ⟨fun x hx => (by cases hx), rfl⟩
  | (i, x) :: xs, vs, h => by
    simp only [evps] at h
    cases h1 : ev x with
    | none => rw [h1] at h; cases h
    | some v =>
      rw [h1] at h
      cases h2 : evps ev xs with
      | none => rw [h2] at h; cases h
      | some us =>
        rw [h2] at h
        cases h
        obtain ⟨a, b⟩ := hE x v h1
        obtain ⟨c, d⟩ := evps_ok hE h2
        refine ⟨fun y hy => ?_, by simp [b]; exact d⟩
        rcases List.mem_cons.1 hy with rfl | hy
        · exact a
        · exact c y hy
theorem foldl_set (off : Nat) : ∀ (vs : List Value) (cs : Array Value) (k : Nat), off + k + vs.length ≤ cs.size →
    (vs.zipIdx k).foldl (fun cs (c, j) => cs.setIfInBounds (off + j) c) cs = (cs.toList.take (off + k) ++ vs ++ cs.toList.drop (off + k + vs.length)).toArray
  | [], cs, k, h => by simp
  | v :: vs, cs, k, h => by
    simp only [List.length_cons] at h
    rw [List.zipIdx_cons, List.foldl_cons, foldl_set off vs _ (k + 1) (by simp; omega)]
    have hk : off + k < cs.toList.length := by simp; omega
    congr 1
    simp only [Array.toList_setIfInBounds, List.length_cons]
    rw [List.take_set, List.drop_set_of_lt (by omega)]
    have e1 : (List.take (off + (k + 1)) cs.toList).set (off + k) v = List.take (off + k) cs.toList ++ [v] := by
      have hm : min (off + k) cs.size = off + k := by simp at hk; omega
      rw [show off + (k + 1) = (off + k) + 1 by omega, List.take_succ_eq_append_getElem hk, List.set_append_right _ _ (by simp; omega)]
      simp [hm]
    rw [e1, show off + (k + 1) + vs.length = off + k + (vs.length + 1) by omega]
    simp
theorem afill_ok {place : Nat → Option (Nat × Nat)} : ∀ {ps : List (Nat × AV)} {cells out : List AV}, afill place cells ps = some out → bdl θ n cells → (∀ p ∈ ps, bd θ n p.2) →
    bdl θ n out ∧ out.length = cells.length ∧ Instr.fill place (cells.map (conc θ)).toArray (ps.map fun p => (p.1, conc θ p.2)) = some (out.map (conc θ)).toArray
  | [], cells, out, h, hb, hp => by cases h; exact ⟨hb, rfl, rfl⟩
  | (i, v) :: rest, cells, out, h, hb, hp => by
    simp only [afill] at h
    cases h1 : place i with
    | none => rw [h1] at h; cases h
    | some os =>
      obtain ⟨off, size⟩ := os
      rw [h1] at h
      simp only at h
      split at h
      · rename_i hc
        obtain ⟨hc1, hc2⟩ := hc
        have hbv : bd θ n v := hp (i, v) (by simp)
        have hb' : bdl θ n (cells.take off ++ acells v ++ cells.drop (off + size)) := fun x hx => by
          rcases List.mem_append.1 hx with hx | hx
          · rcases List.mem_append.1 hx with hx | hx
            · exact hb x (List.mem_of_mem_take hx)
            · exact bd_cells hbv x hx
          · exact hb x (List.mem_of_mem_drop hx)
        obtain ⟨a, b, c⟩ := afill_ok h hb' (fun p hp' => hp p (by simp [hp']))
        refine ⟨a, ?_, ?_⟩
        · rw [b]; simp; omega
        · have hcl := conc_cells θ v
          have hsz : (conc θ v).cells.size = size := by
            have := congrArg List.length hcl
            simp at this
            rw [this, hc1]
          simp only [List.map_cons, Instr.fill, h1]
          rw [if_neg (by simp [hsz]; omega), ← c]
          congr 1
          rw [← Array.foldl_toList, Array.toList_zipIdx, foldl_set off _ _ 0 (by simp [hsz]; omega)]
          simp only [Nat.add_zero, hcl, List.map_append, List.map_take, List.map_drop, List.length_map, hc1]
      · cases h
theorem rep_len {l : List AV} : ∀ k, (rep l k).length = k * l.length
  | 0 => by simp [rep]
  | k + 1 => by simp only [rep, List.length_append, rep_len k]; rw [Nat.succ_mul]; omega
theorem rep_bd {l : List AV} (h : bdl θ n l) : ∀ k, bdl θ n (rep l k)
  | 0 => fun x hx => by cases hx
  | k + 1 => fun x hx => by
    rcases List.mem_append.1 hx with hx | hx
    · exact h x hx
    · exact rep_bd h k x hx
theorem rep_get {l : List AV} (hl : 0 < l.length) : ∀ (k j : Nat), j < k * l.length → (rep l k)[j]? = l[j % l.length]?
  | 0, j, h => by simp at h
  | k + 1, j, h => by
    simp only [rep]
    by_cases hj : j < l.length
    · rw [List.getElem?_append_left hj, Nat.mod_eq_of_lt hj]
    · rw [List.getElem?_append_right (by omega), rep_get hl k (j - l.length) (by rw [Nat.succ_mul] at h; omega)]
      congr 1
      rw [show j = (j - l.length) + l.length by omega]
      simp
end

end PartOfZxd

section PartOfZxe
open Go Go.RowKit
theorem wrap_in {k : IntKind} {x : Int} (h : (arange k).1 ≤ x ∧ x ≤ (arange k).2) : k.wrap x = x := by
  cases k <;> simp only [arange] at h <;> simp only [IntKind.wrap, IntKind.bits, IntKind.signed, Bool.true_and, Bool.false_and, decide_eq_true_eq, ge_iff_le] <;> (first | (split <;> omega) | (simp; omega))
theorem aInt_ok {k : IntKind} {x : Int} {v : Value} (h : aInt k x = some v) : v = .int k x ∧ k.wrap x = x := by
  simp only [aInt, forceI_eq] at h
  split at h
  · rename_i hc; cases h; exact ⟨rfl, wrap_in hc⟩
  · cases h
section
variable {P : Program} {tb : Tab} {θ : Th} {n : Nat} {ev : Operand → Option AV} {ρ : Operand → Value}
theorem abin_ok {op : BinOp} {t : TypeId} {x y : Operand} {a b v : Value} (h : abin op a b = some v) (w : World) : (do eqGuard op t x y a b; binOp op t a b : Sem Value).run P w = .ok v w := by
  cases a <;> cases b <;> simp only [abin] at h <;> try cases h
  case int.int k a k' b =>
    split at h
    · rename_i hk
      subst hk
      have hg : (eqGuard op t x y (.int k a) (.int k b)).run P w = .ok () w := by
        unfold eqGuard
        cases op <;> simp [Sem.run_bind, Result.andThen]
      rw [Sem.run_bind, hg]
      simp only [Result.andThen]
      cases op <;> simp only [abinI] at h <;> try cases h
      case add => obtain ⟨rfl, hw⟩ := aInt_ok h; simp [binOp, Op.intArith, hw]
      case sub => obtain ⟨rfl, hw⟩ := aInt_ok h; simp [binOp, Op.intArith, hw]
      case mul => obtain ⟨rfl, hw⟩ := aInt_ok h; simp [binOp, Op.intArith, hw]
      case quo =>
        split at h
        · cases h
        · rename_i h0; obtain ⟨rfl, hw⟩ := aInt_ok h; simp [binOp, Op.intDiv, h0, hw]
      case rem =>
        split at h
        · cases h
        · rename_i h0; cases h; simp [binOp, Op.intDiv, h0]
      all_goals simp [binOp, Op.intCmp]
    · cases h
  case string.string a b =>
    have hg : (eqGuard op t x y (.string a) (.string b)).run P w = .ok () w := by
      unfold eqGuard
      cases op <;> simp [Sem.run_bind, Result.andThen]
    rw [Sem.run_bind, hg]
    simp only [Result.andThen]
    cases op <;> simp only [abinS] at h <;> try cases h
    case add =>
      split at h
      · rename_i hs
        cases h
        have hn : ¬ (((a.size + b.size : Nat) : Int) > IntKind.i64.max) := by
          have : IntKind.i64.max = 9223372036854775807 := rfl
          rw [this]; omega
        simp only [binOp, Op.stringOp, hn, if_false]
        rfl
      · cases h
    all_goals simp [binOp, Op.stringOp]
theorem conc_lit (θ : Th) (v : Value) : conc θ (.lit v) = v := by simp [conc]
theorem aint_ok {v : AV} {k : IntKind} {i : Int} (h : aint v = some (k, i)) : v = .lit (.int k i) := by
  unfold aint at h
  split at h
  · cases h; rfl
  · cases h
theorem isSliceT_ok (hT : ∀ t i, tb.ty.get t = some i → TyOK P t i) {t : TypeId} (hst : isSliceT tb t = true) : ∃ el, P.underlying t = some (.slice el) := by
  unfold isSliceT at hst
  split at hst
  · rename_i i hi
    split at hst
    · rename_i el hd; exact ⟨el, by rw [(hT t i hi).und, hd]⟩
    · cases hst
  · cases hst
theorem run_eq_nil (hT : ∀ t i, tb.ty.get t = some i → TyOK P t i) {op : BinOp} {t : TypeId} {x y : Operand} {A : Option Addr} {l c l' c' : Nat} {r : Bool} {v : AV} (hr : r = A.isSome) {y' : AV} (hy' : conc θ y' = .slice none l' c') (h : xBinN tb op t (some y') r = some v) (w : World) :
    bd θ n v ∧ (do eqGuard op t x y (.slice A l c) (conc θ y'); binOp op t (.slice A l c) (conc θ y') : Sem Value).run P w = .ok (conc θ v) w := by
  rw [hy']
  subst hr
  have hst : isSliceT tb t = true := by
    unfold xBinN at h
    split at h <;> try (cases h; done)
    split at h
    · assumption
    · cases h
  obtain ⟨el, hu⟩ := isSliceT_ok hT hst
  have heq : (Op.equal t (.slice A l c) (.slice none l' c')).run P w = .ok (!A.isSome) w := by
    unfold Op.equal Op.maxDepth
    unfold Op.equalIn
    simp only [Sem.run_bind, run_underlying hu w, Result.andThen]
    cases A <;> rfl
  have hg : (eqGuard op t x y (.slice A l c) (.slice none l' c')).run P w = .ok () w := by
    unfold eqGuard
    cases op <;> simp [Sem.run_bind, Result.andThen]
  rw [Sem.run_bind, hg]
  simp only [Result.andThen]
  unfold xBinN at h
  split at h <;> try (cases h; done)
  rw [if_pos hst] at h
  split at h
  · cases h
    refine ⟨by simp [bd], ?_⟩
    simp only [binOp, Sem.run_bind, heq, Result.andThen, Sem.run_pure, conc]
  · cases h
    refine ⟨by simp [bd], ?_⟩
    simp only [binOp, Sem.run_bind, heq, Result.andThen, Sem.run_pure, conc, Bool.not_not]
  · cases h
theorem xBinN_some {op : BinOp} {t : TypeId} {y : Option AV} {r : Bool} {v : AV} (h : xBinN tb op t y r = some v) : ∃ y' l' c', y = some y' ∧ y' = .lit (.slice none l' c') := by
  unfold xBinN at h
  split at h
  · exact ⟨_, _, _, rfl, rfl⟩
  · cases h
theorem xPair_ok (hQ : ∀ t n, tb.keyEq.get t = some n → PairOK P t n) {op : BinOp} {t : TypeId} {x y : Operand} {cs : List AV} {u v : AV} (ht : isTwo tb t = true) (h : xPair op cs (some u) = some v) (w : World) :
    bd θ n v ∧ (do eqGuard op t x y (conc θ (.agg cs)) (conc θ u); binOp op t (conc θ (.agg cs)) (conc θ u) : Sem Value).run P w = .ok (conc θ v) w := by
  obtain ⟨hg, he⟩ : P.eqGuardType P.depth t = false ∧ ∀ (a b c d : Int) (w : World), (Op.equal t (.agg #[.int .i64 a, .int .i64 b]) (.agg #[.int .i64 c, .int .i64 d])).run P w = .ok (decide ([a, b] = [c, d])) w := by
    unfold isTwo at ht
    split at ht
    · rename_i m hm; exact hQ t m hm (Nat.eq_of_beq_eq_true ht)
    · cases ht
  unfold xPair at h
  split at h
  · rename_i a b c d hu
    cases hu
    have e1 : conc θ (.agg [.lit (.int .i64 a), .lit (.int .i64 b)]) = .agg #[.int .i64 a, .int .i64 b] := by simp [conc]
    have e2 : conc θ (.agg [.lit (.int .i64 c), .lit (.int .i64 d)]) = .agg #[.int .i64 c, .int .i64 d] := by simp [conc]
    rw [e1, e2]
    have hgd : (eqGuard op t x y (.agg #[.int .i64 a, .int .i64 b]) (.agg #[.int .i64 c, .int .i64 d])).run P w = .ok () w := by
      unfold eqGuard
      cases op <;> simp [Sem.run_bind, Result.andThen, program, Sem.run, hg]
    rw [Sem.run_bind, hgd]
    simp only [Result.andThen]
    split at h
    · cases h
      refine ⟨by simp [bd], ?_⟩
      simp only [binOp, Sem.run_bind, he, Result.andThen, Sem.run_pure, conc]
    · cases h
      refine ⟨by simp [bd], ?_⟩
      simp only [binOp, Sem.run_bind, he, Result.andThen, Sem.run_pure, conc]
    · cases h
  · cases h
theorem xPair_some {op : BinOp} {cs : List AV} {y : Option AV} {v : AV} (h : xPair op cs y = some v) : ∃ u, y = some u := by
  unfold xPair at h
  split at h
  · exact ⟨_, rfl⟩
  · cases h
theorem xBin_ok (hT : ∀ t i, tb.ty.get t = some i → TyOK P t i) (hQ : ∀ t n, tb.keyEq.get t = some n → PairOK P t n) (hE : EvOK θ n ev ρ) {op : BinOp} {t : TypeId} {x y : Operand} {v : AV} (h : xBin tb ev op t x y = some v) (w : World) :
    bd θ n v ∧ (do eqGuard op t x y (ρ x) (ρ y); binOp op t (ρ x) (ρ y) : Sem Value).run P w = .ok (conc θ v) w := by
  unfold xBin at h
  split at h
  · rename_i u hu
    split at h
    · rename_i hrow
      obtain ⟨y', l', c', hy, hyl⟩ := xBinN_some h
      rw [hy] at h
      have e1 := (hE x _ hu).2
      have e2 := (hE y _ hy).2
      have hcu : ∃ A l c, conc θ u = .slice (some A) l c := by
        unfold hasRow at hrow
        split at hrow
        · rename_i id off len sub; exact ⟨⟨(θ id).b, off, none⟩, len, (θ id).c - sub, by simp only [conc]⟩
        · rename_i id off len cap; exact ⟨⟨(θ id).b, off, none⟩, len, cap, by simp only [conc]⟩
        · cases hrow
      obtain ⟨A, l, c, hcu⟩ := hcu
      rw [e1, e2, hcu]
      exact run_eq_nil hT (A := some A) rfl (l' := l') (c' := c') (by rw [hyl, conc_lit]) h w
    · split at h
      · rename_i hnil
        obtain ⟨y', l', c', hy, hyl⟩ := xBinN_some h
        rw [hy] at h
        have e1 := (hE x _ hu).2
        have e2 := (hE y _ hy).2
        have hcu : ∃ l c, conc θ u = .slice none l c := by
          unfold isNilS at hnil
          split at hnil
          · exact ⟨_, _, conc_lit θ _⟩
          · cases hnil
        obtain ⟨l, c, hcu⟩ := hcu
        rw [e1, e2, hcu]
        exact run_eq_nil hT (A := none) rfl (l' := l') (c' := c') (by rw [hyl, conc_lit]) h w
      · split at h
        · rename_i a _ _
          unfold xBin2 at h
          split at h
          · rename_i b hb
            cases hr : abin op a b with
            | none => rw [hr] at h; cases h
            | some u =>
              rw [hr] at h
              cases h
              rw [(hE x _ hu).2, (hE y _ hb).2]
              simp only [conc_lit]
              exact ⟨by simp [bd], abin_ok hr w⟩
          · cases h
        · rename_i cs _ _
          cases ht : isTwo tb t with
          | false => rw [ht] at h; cases h
          | true =>
            rw [ht] at h
            simp only [cond_true] at h
            obtain ⟨u, hy⟩ := xPair_some h
            rw [hy] at h
            rw [(hE x _ hu).2, (hE y _ hy).2]
            exact xPair_ok hQ ht h w
        · cases h
  · cases h
theorem xPick_ok (hE : EvOK θ n ev ρ) {c a b : Operand} {v : AV} (h : xPick ev c a b = some v) (w : World) :
    bd θ n v ∧ (do pure (Next.value (if ← asBool (ρ c) then ρ a else ρ b)) : Sem Next).run P w = .ok (.value (conc θ v)) w := by
  unfold xPick at h
  split at h
  · rename_i t hc
    rw [(hE c _ hc).2, conc_lit]
    cases t
    · simp only [Bool.false_eq_true, if_false] at h
      obtain ⟨p, q⟩ := hE b v h
      exact ⟨p, by simp [asBool, Sem.run_bind, Result.andThen, q]⟩
    · simp only [if_true] at h
      obtain ⟨p, q⟩ := hE a v h
      exact ⟨p, by simp [asBool, Sem.run_bind, Result.andThen, q]⟩
  · cases h
theorem xUn_ok (hE : EvOK θ n ev ρ) {op : UnOp} {x : Operand} {v : AV} (h : xUn ev op x = some v) (w : World) : bd θ n v ∧ (Op.unary op (ρ x)).run P w = .ok (conc θ v) w := by
  unfold xUn at h
  split at h
  · rename_i b hx
    cases h
    rw [(hE x _ hx).2]
    exact ⟨by simp [bd], by simp [conc, Op.unary]⟩
  · rename_i k i hx
    cases hr : aInt k (0 - i) with
    | none => rw [hr] at h; cases h
    | some u =>
      rw [hr] at h
      cases h
      obtain ⟨rfl, hw⟩ := aInt_ok hr
      rw [(hE x _ hx).2]
      exact ⟨by simp [bd], by simp only [conc, Op.unary, Op.intArith, hw]; simp⟩
  · cases h
theorem xConv_ok (hT : ∀ t i, tb.ty.get t = some i → TyOK P t i) (hE : EvOK θ n ev ρ) {s d : TypeId} {x : Operand} {v : AV} (h : xConv tb ev s d x = some v) (w : World) :
    bd θ n v ∧ (convert s d (ρ x)).run P w = .ok (conc θ v) w := by
  unfold xConv at h
  split at h
  · rename_i i j k m hs hd hx
    split at h
    · rename_i k' hj
      cases hr : aInt k' m with
      | none => rw [hr] at h; cases h
      | some u =>
        rw [hr] at h
        cases h
        obtain ⟨rfl, hw⟩ := aInt_ok hr
        rw [(hE x _ hx).2]
        refine ⟨by simp [bd], ?_⟩
        unfold convert
        simp only [Sem.run_bind, run_und (hT s i hs) w, run_und (hT d j hd) w, Result.andThen, hj, conc, Conv.intToInt, hw]
        simp
    · cases h
  · cases h
theorem afield_ok (hT : ∀ t i, tb.ty.get t = some i → TyOK P t i) {s : TypeId} {f o : Nat} {j : TyI} (h : afield tb s f = some (o, j)) :
    ∃ fs fd, P.underlying s = some (.struct fs) ∧ fs[f]? = some fd ∧ fd.offset = o ∧ TyOK P fd.type j := by
  unfold afield at h
  split at h
  · rename_i i hi
    split at h
    · rename_i fs hd
      split at h
      · rename_i fd hf
        split at h
        · rename_i j' hj
          cases h
          exact ⟨fs, fd, by rw [(hT s i hi).und, hd], hf, rfl, hT _ _ hj⟩
        · cases h
      · cases h
    · cases h
  · cases h
theorem xFieldAddr_ok (hT : ∀ t i, tb.ty.get t = some i → TyOK P t i) (hE : EvOK θ n ev ρ) {s : TypeId} {x : Operand} {f : Nat} {v : AV} (h : xFieldAddr tb ev s x f = some v) (w : World) :
    bd θ n v ∧ (Instr.fieldAt s (ρ x) f).run P w = .ok (conc θ v) w := by
  unfold xFieldAddr at h
  split at h
  · rename_i id off hx
    split at h
    · rename_i o j hf
      split at h
      · cases h
      · rename_i hj
        cases h
        obtain ⟨fs, fd, hu, hfd, rfl, hj'⟩ := afield_ok hT hf
        obtain ⟨hb, hx'⟩ := hE x _ hx
        rw [hx']
        refine ⟨by simpa [bd] using hb, ?_⟩
        unfold Instr.fieldAt fieldPlace
        simp [Sem.run_bind, run_underlying hu w, Result.andThen, hfd, conc, Instr.sureAddr, run_size hj' w, hj, Addr.add]
    · cases h
  · cases h
theorem xField_ok (hT : ∀ t i, tb.ty.get t = some i → TyOK P t i) (hE : EvOK θ n ev ρ) {s : TypeId} {x : Operand} {f : Nat} {v : AV} (h : xField tb ev s x f = some v) (w : World) :
    bd θ n v ∧ (Instr.field s (ρ x) f).run P w = .ok (conc θ v) w := by
  unfold xField at h
  split at h
  · rename_i cs hx
    split at h
    · rename_i o j hf
      obtain ⟨fs, fd, hu, hfd, rfl, hj'⟩ := afield_ok hT hf
      obtain ⟨hb, hx'⟩ := hE x _ hx
      rw [hx']
      simp only [bd] at hb
      obtain ⟨a, b⟩ := apart_ok (θ := θ) hj' h hb w
      refine ⟨a, ?_⟩
      unfold Instr.field
      simp [Sem.run_bind, run_underlying hu w, Result.andThen, hfd, conc, asAgg]
      simpa using b
    · cases h
  · cases h
theorem asliceOf_ok (hT : ∀ t i, tb.ty.get t = some i → TyOK P t i) {t el : TypeId} {j : TyI} (h : asliceOf tb t = some (el, j)) : P.underlying t = some (.slice el) ∧ TyOK P el j := by
  unfold asliceOf at h
  split at h
  · rename_i i hi
    split at h
    · rename_i el' hd
      split at h
      · rename_i j' hj
        cases h
        exact ⟨by rw [(hT t i hi).und, hd], hT _ _ hj⟩
      · cases h
    · cases h
  · cases h
theorem aarrayOf_ok (hT : ∀ t i, tb.ty.get t = some i → TyOK P t i) {t : TypeId} {len : Nat} {j : TyI} (h : aarrayOf tb t = some (len, j)) : ∃ el, P.underlying t = some (.array len el) ∧ TyOK P el j := by
  unfold aarrayOf at h
  split at h
  · rename_i i hi
    split at h
    · rename_i len' el' hd
      split at h
      · rename_i j' hj
        cases h
        exact ⟨el', by rw [(hT t i hi).und, hd], hT _ _ hj⟩
      · cases h
    · cases h
  · cases h
theorem bind_some {α β : Type} {x : Option α} {f : α → Option β} {y : β} (h : x.bind f = some y) : ∃ a, x = some a ∧ f a = some y := by
  cases x with
  | none => cases h
  | some a => exact ⟨a, rfl, h⟩
theorem bind_aint {x : Option AV} {k : IntKind} {m : Int} (h : x.bind aint = some (k, m)) : x = some (.lit (.int k m)) := by
  obtain ⟨a, ha, hm⟩ := bind_some h
  rw [ha, aint_ok hm]
theorem xIndexAddr_ok (hT : ∀ t i, tb.ty.get t = some i → TyOK P t i) (hE : EvOK θ n ev ρ) {t : TypeId} {x ix : Operand} {v : AV} (h : xIndexAddr tb ev t x ix = some v) (w : World) :
    bd θ n v ∧ (Instr.indexAt t (ρ x) (ρ ix)).run P w = .ok (conc θ v) w := by
  unfold xIndexAddr at h
  split at h
  · rename_i id off len sub hx
    obtain ⟨hb, hx'⟩ := hE x _ hx
    cases hi : (ev ix).bind aint with
    | none => rw [hi] at h; cases h
    | some p =>
      obtain ⟨k, m⟩ := p
      rw [hi] at h
      have hix := (hE ix _ (bind_aint hi)).2
      simp only [xIxSlc] at h
      split at h
      · rename_i el j hsl
        split at h
        · rename_i hc
          cases h
          obtain ⟨hu, hj⟩ := asliceOf_ok hT hsl
          rw [hx', hix]
          refine ⟨by simp only [bd] at hb ⊢; omega, ?_⟩
          unfold Instr.indexAt
          simp only [conc, Sem.run_bind, asIntOf, Sem.run_pure, Result.andThen, run_underlying hu w, run_size hj w]
          simp [hc, Addr.add, run_size hj w, Result.andThen]
        · cases h
      · cases h
  · rename_i id off len cap hx
    obtain ⟨hb, hx'⟩ := hE x _ hx
    cases hi : (ev ix).bind aint with
    | none => rw [hi] at h; cases h
    | some p =>
      obtain ⟨k, m⟩ := p
      rw [hi] at h
      have hix := (hE ix _ (bind_aint hi)).2
      simp only [xIxSlc] at h
      split at h
      · rename_i el j hsl
        split at h
        · rename_i hc
          cases h
          obtain ⟨hu, hj⟩ := asliceOf_ok hT hsl
          rw [hx', hix]
          refine ⟨by simp only [bd] at hb ⊢; omega, ?_⟩
          unfold Instr.indexAt
          simp only [conc, Sem.run_bind, asIntOf, Sem.run_pure, Result.andThen, run_underlying hu w, run_size hj w]
          simp [hc, Addr.add, run_size hj w, Result.andThen]
        · cases h
      · cases h
  · rename_i id off hx
    obtain ⟨hb, hx'⟩ := hE x _ hx
    cases hi : (ev ix).bind aint with
    | none => rw [hi] at h; cases h
    | some p =>
      obtain ⟨k, m⟩ := p
      rw [hi] at h
      have hix := (hE ix _ (bind_aint hi)).2
      simp only [xIxArr] at h
      split at h
      · rename_i len j hsl
        split at h
        · rename_i hc
          cases h
          obtain ⟨el, hu, hj⟩ := aarrayOf_ok hT hsl
          rw [hx', hix]
          refine ⟨by simp only [bd] at hb ⊢; omega, ?_⟩
          unfold Instr.indexAt
          simp only [conc, Sem.run_bind, asIntOf, Sem.run_pure, Result.andThen, run_underlying hu w, run_size hj w, Instr.sureAddr]
          simp [hc, Addr.add, run_size hj w, Result.andThen]
        · cases h
      · cases h
  · cases h
theorem xIndex_ok (hT : ∀ t i, tb.ty.get t = some i → TyOK P t i) (hE : EvOK θ n ev ρ) {t : TypeId} {x ix : Operand} {v : AV} (h : xIndex tb ev t x ix = some v) (w : World) :
    bd θ n v ∧ (Instr.index t (ρ x) (ρ ix)).run P w = .ok (conc θ v) w := by
  unfold xIndex at h
  split at h
  · rename_i cs hx
    obtain ⟨hb, hx'⟩ := hE x _ hx
    cases hi : (ev ix).bind aint with
    | none => rw [hi] at h; cases h
    | some p =>
      obtain ⟨k, m⟩ := p
      rw [hi] at h
      have hix := (hE ix _ (bind_aint hi)).2
      simp only [xIx] at h
      split at h
      · rename_i len j hsl
        split at h
        · rename_i hc
          obtain ⟨el, hu, hj⟩ := aarrayOf_ok hT hsl
          simp only [bd] at hb
          obtain ⟨a, b⟩ := apart_ok (θ := θ) hj h hb w
          rw [hx', hix]
          refine ⟨a, ?_⟩
          unfold Instr.index
          simp only [conc, Sem.run_bind, asIntOf, Sem.run_pure, Result.andThen, run_underlying hu w, run_size hj w]
          simp only [hc, and_self, if_true, Sem.run_bind, run_size hj w, Result.andThen]
          exact b
        · cases h
      · cases h
  · rename_i str hx
    obtain ⟨hb, hx'⟩ := hE x _ hx
    rw [conc_lit] at hx'
    cases hi : (ev ix).bind aint with
    | none => rw [hi] at h; cases h
    | some p =>
      obtain ⟨k, m⟩ := p
      rw [hi] at h
      have hix := (hE ix _ (bind_aint hi)).2
      rw [conc_lit] at hix
      simp only [xIxS] at h
      split at h
      · rename_i hc
        split at h
        · rename_i b hb'
          cases h
          have hu : P.underlying t = some .string := by
            have hst := hc.1
            unfold isStr at hst
            split at hst
            · rename_i i hi
              split at hst
              · rename_i hd; rw [(hT t i hi).und, hd]
              · cases hst
            · cases hst
          refine ⟨by simp [bd], ?_⟩
          rw [hx', hix]
          unfold Instr.index
          simp only [Sem.run_bind, asIntOf, Sem.run_pure, Result.andThen, run_underlying hu w, hc.2, if_true, hb', conc]
        · cases h
      · cases h
  · cases h
theorem isStr_ok (hT : ∀ t i, tb.ty.get t = some i → TyOK P t i) {t : TypeId} (hst : isStr tb t = true) : P.underlying t = some .string := by
  unfold isStr at hst
  split at hst
  · rename_i i hi
    split at hst
    · rename_i hd; rw [(hT t i hi).und, hd]
    · cases hst
  · cases hst
theorem map_some {α β : Type} {x : Option α} {f : α → β} {y : β} (h : x.map f = some y) : ∃ a, x = some a ∧ f a = y := by
  cases x with
  | none => cases h
  | some a => exact ⟨a, rfl, by simpa using h⟩
theorem offs_ok (hT : ∀ t i, tb.ty.get t = some i → TyOK P t i) : ∀ {fs : List Field} {os : List (Nat × Nat)}, offs tb fs = some os → fs.mapM (fun f => (P.info? f.type).map fun i => (f.offset, i.size)) = some os
  | [], os, h => by cases h; rfl
  | f :: fs, os, h => by
    simp only [offs] at h
    cases h1 : tb.ty.get f.type with
    | none => rw [h1] at h; cases h
    | some i =>
      rw [h1] at h
      cases h2 : offs tb fs with
      | none => rw [h2] at h; cases h
      | some r =>
        rw [h2] at h
        cases h
        obtain ⟨inf, z, hi, hs, _⟩ := (hT _ _ h1).info
        simp [List.mapM_cons, hi, hs, offs_ok hT h2]
theorem xBuild_ok (hT : ∀ t i, tb.ty.get t = some i → TyOK P t i) (hE : EvOK θ n ev ρ) {t : TypeId} {parts : Array (Nat × Operand)} {v : AV} (h : xBuild tb ev t parts = some v) (w : World) :
    bd θ n v ∧ (Instr.build t (parts.map fun (i, x) => (i, ρ x))).run P w = .ok (conc θ v) w := by
  unfold xBuild at h
  split at h
  · rename_i i ps hi hp
    obtain ⟨hb, he⟩ := evps_ok hE hp
    have he' : (parts.map fun (i, x) => (i, ρ x)).toList = ps.map fun p => (p.1, conc θ p.2) := by rw [Array.toList_map]; exact he
    obtain ⟨inf, z, hinf, _, _, hz, hzc⟩ := (hT t i hi).info
    have hzc' : z.cells = ((i.zero.map AV.lit).map (conc θ)).toArray := by rw [conc_lits, ← hzc]
    unfold xBuild2 at h
    split at h
    · rename_i fs hd
      split at h
      · rename_i os ho
        obtain ⟨out, hf, rfl⟩ := map_some h
        obtain ⟨a, b, c⟩ := afill_ok (θ := θ) hf (bd_lits i.zero) hb
        refine ⟨by simp only [bd]; exact a, ?_⟩
        rw [run_build (P := P) w t _ (out.map (conc θ)).toArray ?_]
        · simp only [conc]
        · unfold Program.built
          rw [hinf, (hT t i hi).und, hd]
          simp only [hz, offs_ok hT ho, he']
          rw [hzc', ← c]
          simp
      · cases h
    · rename_i len el hd
      split at h
      · rename_i j hj
        obtain ⟨out, hf, rfl⟩ := map_some h
        obtain ⟨a, b, c⟩ := afill_ok (θ := θ) hf (bd_lits i.zero) hb
        refine ⟨by simp only [bd]; exact a, ?_⟩
        obtain ⟨infe, ze, hie, hse, _⟩ := (hT el j hj).info
        rw [run_build (P := P) w t _ (out.map (conc θ)).toArray ?_]
        · simp only [conc]
        · unfold Program.built
          rw [hinf, (hT t i hi).und, hd]
          simp only [hz, hie, he', hse]
          rw [hzc', ← c]
      · cases h
    · cases h
  · cases h
theorem xMakeFunc_ok (hE : EvOK θ n ev ρ) {g : Fn} {first cap : Array Operand} {v : AV} (h : xMakeFunc ev g first cap = some v) (w : World) : bd θ n v ∧ (Instr.makeFunc g (first.map ρ) (cap.map ρ)).run P w = .ok (conc θ v) w := by
  unfold xMakeFunc at h
  split at h
  · rename_i f
    split at h
    · rename_i a b ha hb
      cases h
      obtain ⟨p, q⟩ := evs_ok hE ha
      obtain ⟨r, u⟩ := evs_ok hE hb
      refine ⟨by simp only [bd]; exact ⟨p, r⟩, ?_⟩
      have e1 : first.map ρ = (a.map (conc θ)).toArray := by rw [← q]; apply Array.toList_inj.1; simp
      have e2 : cap.map ρ = (b.map (conc θ)).toArray := by rw [← u]; apply Array.toList_inj.1; simp
      simp [Instr.makeFunc, conc, e1, e2]
    · cases h
  · cases h
theorem xExtract_ok (hE : EvOK θ n ev ρ) {x : Operand} {ix : Nat} {v : AV} (h : xExtract ev x ix = some v) (w : World) : bd θ n v ∧ (Instr.extract (ρ x) ix).run P w = .ok (conc θ v) w := by
  unfold xExtract at h
  split at h
  · rename_i vs hx
    obtain ⟨hb, hx'⟩ := hE x _ hx
    simp only [bd] at hb
    refine ⟨hb v (List.mem_of_getElem? h), ?_⟩
    rw [hx']
    simp [Instr.extract, conc, h]
  · cases h
theorem abound_ok {l : Option Operand} {a : Option AV} (hE : EvOK θ n ev ρ) (ha : evo ev l = some a) {d y r : Nat} (h : abound a d y = some r) {y' : Nat} (hy : y ≤ y') (code : BoundsCode) (w : World) :
    (match l.map ρ with | some v => Instr.sliceBound v y' code | none => pure d : Sem Nat).run P w = .ok r w ∧ (l = none → r = d) ∧ (l ≠ none → r ≤ y) := by
  cases l with
  | none => cases ha; cases h; exact ⟨by simp, fun _ => rfl, fun h => absurd rfl h⟩
  | some x =>
    obtain ⟨v, hv, rfl⟩ := map_some ha
    simp only [abound] at h
    cases hi : aint v with
    | none => rw [hi] at h; cases h
    | some p =>
      obtain ⟨k, i⟩ := p
      rw [hi] at h
      simp only at h
      split at h
      · rename_i hc
        cases h
        have hx := (hE x _ hv).2
        rw [aint_ok hi] at hx
        refine ⟨?_, fun h => by simp at h, fun _ => by omega⟩
        have hc' : 0 ≤ i ∧ i ≤ (y' : Int) := by omega
        simp only [Option.map_some, hx, conc_lit, Instr.sliceBound, asIntOf, Sem.run_bind, Sem.run_pure, Result.andThen, hc', and_self, if_true]
      · cases h
theorem xSlice_ok (hT : ∀ t i, tb.ty.get t = some i → TyOK P t i) (hE : EvOK θ n ev ρ) {t : TypeId} {x : Operand} {lo hi mx : Option Operand} {v : AV} (h : xSlice tb ev t x lo hi mx = some v) (w : World) :
    bd θ n v ∧ (Instr.sliceAt t (ρ x) (lo.map ρ) (hi.map ρ) (mx.map ρ)).run P w = .ok (conc θ v) w := by
  unfold xSlice at h
  split at h
  · rename_i id off len sub hx
    obtain ⟨hb, hx'⟩ := hE x _ hx
    simp only [bd] at hb
    obtain ⟨hid, hc⟩ := hb
    split at h
    · rename_i el j l hh hsl hl hhi hmx
      have hmx : mx = none := by
        cases mx with
        | none => rfl
        | some y => simp only [evo] at hmx; obtain ⟨_, _, hy⟩ := map_some hmx; cases hy
      subst hmx
      unfold xSlice2 at h
      split at h
      · rename_i H hH
        split at h
        · rename_i L hL
          split at h
          · rename_i hlt
            cases h
            obtain ⟨hu, hj⟩ := asliceOf_ok hT hsl
            obtain ⟨r1, q1, q2⟩ := abound_ok (P := P) hE hhi hH (show len ≤ (θ id).c - sub by omega) .sliceAcap w
            obtain ⟨r2, q3, q4⟩ := abound_ok (P := P) hE hl hL (Nat.le_refl H) .sliceB w
            have hHlen : H ≤ len := by
              by_cases hn : hi = none
              · rw [q1 hn]; exact Nat.le_refl _
              · exact q2 hn
            have hLH : L ≤ H := by
              by_cases hn : lo = none
              · rw [q3 hn]; exact Nat.zero_le _
              · exact q4 hn
            refine ⟨by simp only [bd]; exact ⟨hid, by omega⟩, ?_⟩
            rw [hx']
            have hbounds : (Instr.sliceBounds true len ((θ id).c - sub) (lo.map ρ) (hi.map ρ) none).run P w = .ok (L, H, (θ id).c - sub) w := by
              unfold Instr.sliceBounds
              cases hi <;> cases lo <;> simp only [Option.map_none, Option.map_some] at r1 r2 ⊢ <;>
                simp [Sem.run_bind, Result.andThen] at r1 r2 ⊢ <;> simp [r1, r2, Result.andThen]
            have hne : ¬ ((θ id).c - sub = L) := by omega
            unfold Instr.sliceAt
            simp only [Sem.run_bind, run_underlying hu w, Result.andThen, conc, Instr.slice, Option.map_none, hbounds, run_size hj w]
            simp [hne, Addr.add, Nat.sub_sub]
          · cases h
        · cases h
      · cases h
    · rename_i el j l hh m hne hsl hl hhi hmx
      unfold xSliceX at h
      split at h
      · rename_i um uh
        split at h
        · rename_i M hM
          split at h
          · rename_i H hH
            split at h
            · rename_i L hL
              cases h
              obtain ⟨hu, hj⟩ := asliceOf_ok hT hsl
              obtain ⟨r0, p1, p2⟩ := abound_ok (P := P) hE hmx hM (show len ≤ (θ id).c - sub by omega) .slice3Acap w
              obtain ⟨r1, q1, q2⟩ := abound_ok (P := P) hE hhi hH (Nat.le_refl M) .slice3B w
              obtain ⟨r2, q3, q4⟩ := abound_ok (P := P) hE hl hL (Nat.le_refl H) .slice3C w
              cases mx with
              | none => cases hmx
              | some my =>
                cases hi with
                | none => cases hhi
                | some hy =>
                  have hMl : M ≤ len := p2 (by simp)
                  have hHM : H ≤ M := q2 (by simp)
                  have hLH : L ≤ H := by
                    by_cases hn : lo = none
                    · rw [q3 hn]; exact Nat.zero_le _
                    · exact q4 hn
                  refine ⟨by simp only [bd]; exact hid, ?_⟩
                  rw [hx']
                  simp only [Option.map_some] at r0 r1
                  have hbounds : (Instr.sliceBounds true len ((θ id).c - sub) (lo.map ρ) (some (ρ hy)) (some (ρ my))).run P w = .ok (L, H, M) w := by
                    unfold Instr.sliceBounds
                    cases lo <;> simp only [Option.map_none, Option.map_some] at r2 ⊢ <;>
                      simp [Sem.run_bind, Result.andThen] at r0 r1 r2 ⊢ <;> simp [r0, r1, r2, Result.andThen]
                  unfold Instr.sliceAt
                  simp only [Sem.run_bind, run_underlying hu w, Result.andThen, conc, Instr.slice, Option.map_some, hbounds, run_size hj w]
                  by_cases hML : M = L
                  · simp [hML]
                  · simp [hML, Addr.add]
            · cases h
          · cases h
        · cases h
      · cases h
    · cases h
  · rename_i str hx
    have hx' := (hE x _ hx).2
    rw [conc_lit] at hx'
    split at h
    · rename_i l hh hl hhi
      split at h
      · rename_i hst
        unfold xSliceS at h
        split at h
        · rename_i H hH
          split at h
          · rename_i L hL
            cases h
            obtain ⟨r1, _, _⟩ := abound_ok (P := P) hE hhi hH (Nat.le_refl _) .sliceAlen w
            obtain ⟨r2, _, _⟩ := abound_ok (P := P) hE hl hL (Nat.le_refl H) .sliceB w
            have hu := isStr_ok hT hst
            refine ⟨by simp [bd], ?_⟩
            have hbounds : (Instr.sliceBounds false str.size str.size (lo.map ρ) (hi.map ρ) none).run P w = .ok (L, H, str.size) w := by
              unfold Instr.sliceBounds
              cases hi <;> cases lo <;> simp only [Option.map_none, Option.map_some] at r1 r2 ⊢ <;>
                simp [Sem.run_bind, Result.andThen] at r1 r2 ⊢ <;> simp [r1, r2, Result.andThen]
            rw [hx']
            unfold Instr.sliceAt
            simp only [Sem.run_bind, run_underlying hu w, Result.andThen, Instr.slice, Option.map_none, hbounds, conc]
            simp [Sem.run_bind, hbounds, Result.andThen]
          · cases h
        · cases h
      · cases h
    · cases h
  · cases h
theorem xMin_ok (hE : EvOK θ n ev ρ) {args : Array Operand} {ts : Array TypeId} {ty : TypeId} {v : AV} (h : xMin ev args = some v) (w : World) : bd θ n v ∧ (Builtin.min_ ts ty (args.map ρ)).run P w = .ok (conc θ v) w := by
  unfold xMin at h
  split at h
  · rename_i x y hx
    unfold xMin2 at h
    split at h
    · rename_i k a k' b ha hb
      cases h
      have e1 := (hE x _ ha).2
      have e2 := (hE y _ hb).2
      rw [conc_lit] at e1 e2
      refine ⟨by simp [bd], ?_⟩
      unfold Builtin.min_
      rw [Array.toList_map, hx]
      simp [e1, e2, Builtin.min2, conc]
    · cases h
  · cases h
theorem xMax_ok (hE : EvOK θ n ev ρ) {args : Array Operand} {ts : Array TypeId} {ty : TypeId} {v : AV} (h : xMax ev args = some v) (w : World) : bd θ n v ∧ (Builtin.max_ ts ty (args.map ρ)).run P w = .ok (conc θ v) w := by
  unfold xMax at h
  split at h
  · rename_i x y hx
    unfold xMax2 at h
    split at h
    · rename_i k a k' b ha hb
      cases h
      have e1 := (hE x _ ha).2
      have e2 := (hE y _ hb).2
      rw [conc_lit] at e1 e2
      refine ⟨by simp [bd], ?_⟩
      unfold Builtin.max_
      rw [Array.toList_map, hx]
      simp [e1, e2, Builtin.max2, conc]
    · cases h
  · cases h
theorem xLen_ok (hT : ∀ t i, tb.ty.get t = some i → TyOK P t i) (hE : EvOK θ n ev ρ) {args : Array Operand} {ts : Array TypeId} {ty : TypeId} {v : AV} (h : xLen tb ev args ts = some v) (w : World) :
    bd θ n v ∧ (Builtin.len_ ts ty (args.map ρ)).run P w = .ok (conc θ v) w := by
  unfold xLen at h
  split at h
  · rename_i t x ht hx
    split at h
    · rename_i i u hi hu
      obtain ⟨hb, hx'⟩ := hE x _ hu
      have e0 : ts[0]? = some t := by rw [← Array.getElem?_toList, ht]; rfl
      have e1 : (args.map ρ)[0]? = some (conc θ u) := by rw [← Array.getElem?_toList, Array.toList_map, hx]; simp [hx']
      have hund := run_und (hT t i hi) w
      unfold xLen2 at h
      split at h <;> first
        | (cases h; done)
        | (rename_i hd; cases h
           refine ⟨by simp [bd], ?_⟩
           unfold Builtin.len_
           simp [e0, e1, Sem.run_bind, Result.andThen, hund, hd, conc, goInt])
        | (cases h
           rename_i hd
           refine ⟨by simp [bd], ?_⟩
           unfold Builtin.len_
           simp [e0, e1, Sem.run_bind, Result.andThen, hund, hd, conc, goInt])
    · cases h
  · cases h
theorem xpure_ok (hT : ∀ t i, tb.ty.get t = some i → TyOK P t i) (hQ : ∀ t n, tb.keyEq.get t = some n → PairOK P t n) (hE : EvOK θ n ev ρ) {o : Oper} {v : AV} (h : xpure tb ev o = some v) (w : World) :
    bd θ n v ∧ (execOp ρ o).run P w = .ok (.value (conc θ v)) w := by
  unfold xpure at h
  unfold execOp
  split at h <;> rename_i ho <;> simp only [ho] <;> try (cases h; done)
  · obtain ⟨a, b⟩ := hE _ _ h; exact ⟨a, by rw [b]; rfl⟩
  · obtain ⟨a, b⟩ := hE _ _ h; exact ⟨a, by rw [b]; rfl⟩
  · exact xPick_ok hE h w
  · obtain ⟨a, b⟩ := xBin_ok hT hQ hE h w; exact ⟨a, run_val b⟩
  · obtain ⟨a, b⟩ := xUn_ok hE h w; exact ⟨a, run_val b⟩
  · obtain ⟨a, b⟩ := xConv_ok hT hE h w; exact ⟨a, run_val b⟩
  · obtain ⟨a, b⟩ := xFieldAddr_ok hT hE h w; exact ⟨a, run_val b⟩
  · obtain ⟨a, b⟩ := xIndexAddr_ok hT hE h w; exact ⟨a, run_val b⟩
  · obtain ⟨a, b⟩ := xField_ok hT hE h w; exact ⟨a, run_val b⟩
  · obtain ⟨a, b⟩ := xIndex_ok hT hE h w; exact ⟨a, run_val b⟩
  · obtain ⟨a, b⟩ := xBuild_ok hT hE h w; exact ⟨a, run_val b⟩
  · obtain ⟨a, b⟩ := xMakeFunc_ok hE h w; exact ⟨a, run_val b⟩
  · obtain ⟨a, b⟩ := xExtract_ok hE h w; exact ⟨a, run_val b⟩
  · obtain ⟨a, b⟩ := xSlice_ok hT hE h w; exact ⟨a, run_val b⟩
  · rename_i c
    unfold xpureCall at h
    split at h
    · rename_i hc
      obtain ⟨a, b⟩ := xLen_ok (ty := o.type) hT hE h w
      refine ⟨a, ?_⟩
      simp only [resolve, hc, invoke, builtin, Sem.run_bind, Sem.run_pure, Result.andThen]
      rw [b]
    · rename_i hc
      obtain ⟨a, b⟩ := xMin_ok (P := P) (ts := c.argTypes) (ty := o.type) hE h w
      refine ⟨a, ?_⟩
      simp only [resolve, hc, invoke, builtin, Sem.run_bind, Sem.run_pure, Result.andThen]
      rw [b]
    · rename_i hc
      obtain ⟨a, b⟩ := xMax_ok (P := P) (ts := c.argTypes) (ty := o.type) hE h w
      refine ⟨a, ?_⟩
      simp only [resolve, hc, invoke, builtin, Sem.run_bind, Sem.run_pure, Result.andThen]
      rw [b]
    · cases h
  · rename_i x
    unfold xNil at h
    split at h
    · rename_i id off hx
      cases h
      obtain ⟨a, b⟩ := hE _ _ hx
      refine ⟨a, ?_⟩
      rw [b]
      simp [conc]
    · cases h
end

end PartOfZxe

section PartOfZxf
open Go Go.RowKit
theorem one_conc {θ : Th} {v : AV} (h : isOne v = true) : (conc θ v).oneCell' = true := by
  cases v <;> simp_all [isOne, conc, Value.oneCell']
theorem ones_conc {θ : Th} : ∀ {l : List AV}, ones l = true → ∀ u ∈ l.map (conc θ), u.oneCell' = true
  | [], _, u, hu => by cases hu
  | v :: vs, h, u, hu => by
    simp only [ones, Bool.and_eq_true] at h
    rcases List.mem_cons.1 hu with rfl | hu
    · exact one_conc h.1
    · exact ones_conc h.2 u hu
def XOK (P : Program) (base : Bs) (θ : Th) (h : AH) (w : World) (s : Sem Next) : XR → Prop
  | .val v h' => ∃ θ' w', s.run P w = .ok (.value (conc θ' v)) w' ∧ bd θ' h'.next v ∧ Post base θ h w θ' h' w'
  | .skip h' => ∃ θ' w', s.run P w = .ok .skip w' ∧ Post base θ h w θ' h' w'
  | .enter f args => bdl θ h.next args ∧ s.run P w = (callFunc f (args.map (conc θ)).toArray).run P w
  | .round id args => bdl θ h.next args ∧ id < h.next ∧ s.run P w = (Instr.yield (θ id).b (args.map (conc θ)).toArray).run P w
  | .no => True
section
variable {P : Program} {tb : Tab} {θ : Th} {base : Bs} {h : AH} {ev : Operand → Option AV} {ρ : Operand → Value} {w : World}
theorem OOK.cell {n id : Nat} {cs : List AV} {el : TypeId} {row : Option Nat} (ho : OOK θ n id (.cells cs el row) w) {j : Nat} {v : AV} (hv : cs[j]? = some v) : w.cell? ⟨(θ id).b, j, none⟩ = some (conc θ v) := by
  obtain ⟨hb, cur, hc, ht, _⟩ := ho
  rw [cell_of_row w _ j cur el (0, 0) hc, ← Array.getElem?_toList]
  have hj : j < cs.length := (List.getElem?_eq_some_iff.1 hv).1
  have := congrArg (·[j]?) ht
  simp only [List.getElem?_take, hj, if_true, List.getElem?_map, hv, Option.map_some] at this
  exact this
theorem add_plain' (b o i : Nat) : (⟨b, o, none⟩ : Addr).add i = ⟨b, o + i, none⟩ := by
  unfold Addr.add; split <;> simp_all
theorem xload_ok (hT : ∀ t i, tb.ty.get t = some i → TyOK P t i) (hR : R base θ h w) (hE : EvOK θ h.next ev ρ) {o : Oper} {v : AV} (hx : xload tb h ev o = some v) :
    bd θ h.next v ∧ (execOp ρ o).run P w = .ok (.value (conc θ v)) w := by
  unfold xload at hx
  unfold execOp
  split at hx <;> rename_i ho <;> simp only [ho] <;> try (cases hx; done)
  rename_i t a
  unfold xLoad2 at hx
  split at hx <;> try (cases hx; done)
  rename_i id off hid
  split at hx <;> try (cases hx; done)
  rename_i cs el row hm
  split at hx <;> try (cases hx; done)
  rename_i i hi
  obtain ⟨_, _, hok⟩ := hR.obj id _ hm
  have hb : bdl θ h.next cs := hok.1
  have hTi := hT t i hi
  have hal := (hE a _ hid).2
  suffices hs : bd θ h.next v ∧ (loadVar t ⟨(θ id).b, off, none⟩).run P w = .ok (conc θ v) w by
    refine ⟨hs.1, run_val ?_⟩
    simp only [Instr.loadAt, hal, conc, Instr.sureAddr, Sem.run_bind, Sem.run_pure, Result.andThen, hs.2]
  unfold apart at hx
  unfold loadVar
  rw [Sem.run_bind, run_isAgg' hTi w]
  cases ha : i.agg with
  | true =>
    rw [ha] at hx
    simp only [if_true] at hx
    split at hx
    · rename_i hle
      cases hx
      refine ⟨?_, ?_⟩
      · simp only [bd]; exact fun x hx => hb x (List.mem_of_mem_drop (List.mem_of_mem_take hx))
      · have hl : (loadCells ⟨(θ id).b, off, none⟩ (((cs.drop off).take i.size).map (conc θ)).length).run P w = .ok (((cs.drop off).take i.size).map (conc θ)).toArray w :=
          run_loadCells_list (P := P) w _ _ fun j u hu => by
            rw [List.getElem?_map] at hu
            obtain ⟨x, hx, rfl⟩ := map_some hu
            rw [List.getElem?_take] at hx
            split at hx
            · rw [List.getElem?_drop] at hx
              rw [add_plain']
              exact hok.cell hx
            · cases hx
        have hlen : (((cs.drop off).take i.size).map (conc θ)).length = i.size := by simp; omega
        rw [hlen] at hl
        simp [Result.andThen, Sem.run_bind, run_size hTi w, hl, conc]
    · cases hx
  | false =>
    rw [ha] at hx
    simp only [Bool.false_eq_true, if_false] at hx
    refine ⟨hb v (List.mem_of_getElem? hx), ?_⟩
    have := hok.cell hx
    simp [Result.andThen, load, Sem.run, this]
def Fresh (P : Program) (base : Bs) (θ : Th) (h : AH) (s : Sem Next) (v : AV) (h' : AH) : Prop :=
  h'.next = h.next + 1 ∧ (∀ id, id ≠ h.next → h'.m.get id = h.m.get id) ∧ ∃ (obj : Obj) (c : Nat) (f : Nat → Value), (∀ w, s.run P w = .ok (.value (f w.heap.size)) (w.alloc obj)) ∧
    ∀ w b, R base θ h w → w.heap[b]? = some obj → base.n ≤ b → (∀ id o, h.m.get id = some o → (θ id).b ≠ b) →
      R base (upd θ h.next ⟨b, c, none⟩) h' w ∧ bd (upd θ h.next ⟨b, c, none⟩) h'.next v ∧ conc (upd θ h.next ⟨b, c, none⟩) v = f b
def FOK (P : Program) (base : Bs) (θ : Th) (h : AH) (s : Sem Next) : XR → Prop
  | .val v h' => Fresh P base θ h s v h'
  | .no => True
  | _ => False
theorem Fresh.post {s : Sem Next} {v : AV} {h' : AH} (hF : Fresh P base θ h s v h') (hR : R base θ h w) : ∃ θ' w', s.run P w = .ok (.value (conc θ' v)) w' ∧ bd θ' h'.next v ∧ Post base θ h w θ' h' w' := by
  obtain ⟨hn, hm, obj, c, f, hrun, hall⟩ := hF
  have hbel : Below w.heap.size w (w.alloc obj) := (Below.refl _ w).alloc (Nat.le_refl _) obj
  have hun : ∀ id o, h.m.get id = some o → (θ id).b ≠ w.heap.size := fun id o hg => Nat.ne_of_lt (hR.obj id o hg).2.2.lt
  obtain ⟨r1, r2, r3⟩ := hall (w.alloc obj) w.heap.size (hR.more hbel) (heap_alloc_new w obj) hR.size hun
  refine ⟨_, _, by rw [r3]; exact hrun w, r2, upd_ext _ _ _, by omega, r1, hbel.mono hR.size, fun k hk _ => hbel.block k hk, fun id o hg => ?_⟩
  by_cases hid : id = h.next
  · subst hid; right; rw [upd_same]; exact Nat.le_refl _
  · rw [hm id hid] at hg; exact .inl ⟨id, o, hg, by rw [upd_ext θ h.next _ id (hR.obj id o hg).1]⟩
theorem FOK.xok {s : Sem Next} {X : XR} (hF : FOK P base θ h s X) (hR : R base θ h w) : XOK P base θ h w s X := by
  cases X with
  | val v h' => exact Fresh.post hF hR
  | no => trivial
  | skip h' => exact hF.elim
  | enter f args => exact hF.elim
  | round id args => exact hF.elim
theorem added_ok {cs : List AV} {el : TypeId} {row : Option Nat} {c : Nat} {cur : Array Value} (hb : bdl θ h.next cs) (hc : cur.toList = cs.map (conc θ))
    (hrow : match row with | none => True | some sz => ∃ k, cs.length = k * sz ∧ k = c ∧ c ≤ maxLen)
    {s : Sem Next} {f : Nat → Value} {mk : Nat → AV} (hs : ∀ w, s.run P w = .ok (.value (f w.heap.size)) (w.alloc (.cells cur el)))
    (hf : ∀ (θ' : Th) (b : Nat), θ' h.next = ⟨b, c, none⟩ → bd θ' (h.next + 1) (mk h.next) ∧ conc θ' (mk h.next) = f b) : FOK P base θ h s (added h (.cells cs el row) (mk h.next)) := by
  unfold added
  split
  · rename_i h' ha
    obtain ⟨_, hm, hn⟩ := AH.add_spec ha
    refine ⟨hn, fun id hid => by rw [hm, T.get_set_other _ _ _ _ _ hid], .cells cur el, c, f, hs, fun w b hR hw hbase hu => ?_⟩
    have hE := upd_ext θ h.next ⟨b, c, none⟩
    have hsame := upd_same θ h.next ⟨b, c, none⟩
    obtain ⟨hf1, hf2⟩ := hf _ b hsame
    have hc' : cur.toList = cs.map (conc (upd θ h.next ⟨b, c, none⟩)) := by rw [hc, concl_ext hE hb]
    refine ⟨hR.adopt ha hbase hu ⟨bdl_ext hE (Nat.le_succ _) hb, cur, by rw [hsame]; exact hw, by rw [hc', ← List.length_map (f := conc (upd θ h.next ⟨b, c, none⟩)), List.take_length], ?_⟩, by rw [hn]; exact hf1, hf2⟩
    have hlen : cur.size = cs.length := by rw [← Array.length_toList, hc, List.length_map]
    cases row with
    | none => exact hlen
    | some sz =>
      obtain ⟨k, h1, rfl, h3⟩ := hrow
      rw [hsame]
      exact ⟨k, h1, Nat.le_refl _, h3, by rw [hlen, h1]⟩
  · trivial
theorem xAlloc_ok (hT : ∀ t i, tb.ty.get t = some i → TyOK P t i) {t : TypeId} : FOK P base θ h (do pure (Next.value (← Instr.alloc t true (.tuple #[])))) (xAlloc tb h t) := by
  unfold xAlloc
  split
  · rename_i i hi
    obtain ⟨z, hz, hzc⟩ := run_zero (hT t i hi)
    refine added_ok (c := 0) (cur := z.cells) (f := fun k => .pointer (some ⟨k, 0, none⟩)) (mk := fun k => .ptr k 0) (bd_lits _) (by rw [conc_lits, hzc]) trivial (fun w => ?_) fun θ' b h' => ⟨by simp [bd], by simp [conc, h']⟩
    exact run_val (by simp [Instr.alloc, Sem.run_bind, hz, Result.andThen, newVar, newRow, run_newObj_alloc])
  · trivial
theorem xBox_ok (hE : EvOK θ h.next ev ρ) {t : TypeId} {x : Operand} : FOK P base θ h (do pure (Next.value (← Instr.box t (ρ x)))) (xBox h t (ev x)) := by
  unfold xBox
  split
  · rename_i v hv
    obtain ⟨hb, hx⟩ := hE x _ hv
    refine added_ok (c := 0) (cur := (conc θ v).cells) (f := fun k => .pointer (some ⟨k, 0, none⟩)) (mk := fun k => .ptr k 0) (bd_cells hb) (conc_cells θ v) trivial (fun w => ?_) fun θ' b h' => ⟨by simp [bd], by simp [conc, h']⟩
    exact run_val (by simp [Instr.box, hx, Sem.run_bind, Result.andThen, newVar, newRow, run_newObj_alloc])
  · trivial
theorem splice {α : Type} (C r news : List α) (off : Nat) (h : off + news.length ≤ C.length) :
    ((C ++ r).take off ++ news ++ (C ++ r).drop (off + news.length)) = (C.take off ++ news ++ C.drop (off + news.length)) ++ r := by
  rw [List.take_append_of_le_length (by omega), List.drop_append_of_le_length h]
  simp
theorem OOK.split {n id : Nat} {cs : List AV} {cur : Array Value} (ht : cur.toList.take cs.length = cs.map (conc θ)) : cur.toList = cs.map (conc θ) ++ cur.toList.drop cs.length := by
  rw [← ht, List.take_append_drop]
theorem xStore_ok (hT : ∀ t i, tb.ty.get t = some i → TyOK P t i) (hR : R base θ h w) (hE : EvOK θ h.next ev ρ) {t : TypeId} {a x : Operand} : XOK P base θ h w (do Instr.storeAt t (ρ a) (ρ x); pure .skip) (xStore tb h ev t a x) := by
  unfold xStore
  split
  · rename_i id off ha
    unfold xStore2
    split
    · rename_i v hv
      split
      · rename_i i cs el row hi hm
        unfold xStore3
        split
        · rename_i hc
          obtain ⟨hc1, hc2, hc3⟩ := hc
          unfold stored
          split
          · rename_i h' hp
            obtain ⟨hidn, hbase, hok⟩ := hR.obj id _ hm
            obtain ⟨hb, cur, hcur, ht, hrow⟩ := hok
            obtain ⟨hbv, hx⟩ := hE x _ hv
            have ha' := (hE a _ ha).2
            have hnews : (conc θ v).cells.toList = (acells v).map (conc θ) := conc_cells θ v
            have hlen : (conc θ v).cells.toList.length = i.size := by rw [hnews, List.length_map, hc1]
            have hcl : cs.length ≤ cur.size := by
              have := congrArg List.length ht
              simp at this; omega
            have hst := run_storeCells_at P (θ id).b off el (conc θ v).cells.toList 0 cur w hcur (by rw [hlen]; omega) (by rw [hnews]; exact ones_conc hc3)
            simp only [Nat.add_zero] at hst
            refine ⟨θ, w.setRow (θ id).b (cur.toList.take off ++ (conc θ v).cells.toList ++ cur.toList.drop (off + (conc θ v).cells.toList.length)).toArray, ?_, Post.put hR hm hp (fun k hk => setRow_other w _ k _ hk) (by simp) ⟨rfl, rfl, rfl, by simp, fun k hk => setRow_other w _ k _ (by omega)⟩ ?_⟩
            · rw [ha', hx]
              simp only [Instr.storeAt, conc, Instr.sureAddr, storeVar, Sem.run_bind, Sem.run_pure, Result.andThen, run_size (hT t i hi) w]
              rw [if_neg (by rw [← Array.length_toList, hlen]; simp)]
              simp only [hst]
            · refine ⟨?_, _, setRow_heap w _ cur _ el _ hcur, ?_, ?_⟩
              · intro y hy
                rcases List.mem_append.1 hy with hy | hy
                · rcases List.mem_append.1 hy with hy | hy
                  · exact hb y (List.mem_of_mem_take hy)
                  · exact bd_cells hbv y hy
                · exact hb y (List.mem_of_mem_drop hy)
              · have hsp := splice (cs.map (conc θ)) (cur.toList.drop cs.length) ((acells v).map (conc θ)) off (by simp; omega)
                rw [← OOK.split (n := h.next) (id := id) ht] at hsp
                rw [hnews, hsp]
                simp only [List.length_map, hc1]
                have e2 : ((cs.take off ++ acells v ++ cs.drop (off + i.size)).map (conc θ)) = (cs.map (conc θ)).take off ++ (acells v).map (conc θ) ++ (cs.map (conc θ)).drop (off + i.size) := by simp [List.map_take, List.map_drop]
                rw [e2, List.take_append_of_le_length (by simp; try omega)]
                exact List.take_of_length_le (by simp; try omega)
              · have hs1 : (cur.toList.take off ++ (conc θ v).cells.toList ++ cur.toList.drop (off + (conc θ v).cells.toList.length)).toArray.size = cur.size := by simp [hlen] at *; omega
                have hs2 : (cs.take off ++ acells v ++ cs.drop (off + i.size)).length = cs.length := by simp; omega
                rw [hs1, hs2]
                exact hrow
          · trivial
        · trivial
      · trivial
    · trivial
  · trivial
end

end PartOfZxf

section PartOfZxg
open Go Go.RowKit
def KeyOK (P : Program) (kt : TypeId) (n : Nat) : Prop :=
  ∀ (θ : Th) (k : AV) (es : List (AV × AV × Nat)) (r : Option (Nat × AV)), afindIn n k es = some r → ∀ (w : World) (b : Bool),
    (Instr.checkKey b 10000 kt (conc θ k)).run P w = .ok () w ∧ (Instr.findKey kt (conc θ k) (es.map (entryC θ))).run P w = .ok (r.map fun p => (p.1, conc θ p.2)) w ∧
      ∀ p v, r = some (p, v) → ∃ e, es[p]? = some e ∧ e.2.1 = v ∧ (Instr.keyThatStays (conc θ e.1) (conc θ k)).run P w = .ok (conc θ k) w
section
variable {P : Program} {tb : Tab} {θ : Th} {base : Bs} {h : AH} {ev : Operand → Option AV} {ρ : Operand → Value} {w : World}
theorem zeros_eq (z : Value) {l : List Value} (hz : z.cells.toList = l) (hl : 0 < l.length) (k : Nat) : (Array.range (k * l.length)).map (z.cells[· % z.cells.size]!) = ((rep (l.map AV.lit) k).map (conc θ)).toArray := by
  have hs : z.cells.size = l.length := by rw [← hz]; simp
  apply Array.toList_inj.1
  apply List.ext_getElem?
  intro j
  simp only [Array.toList_map, Array.toList_range, List.getElem?_map, List.toList_toArray]
  by_cases hj : j < k * l.length
  · have hlt : j % l.length < l.length := Nat.mod_lt _ hl
    rw [rep_get (by simpa using hl) k j (by simpa using hj), List.getElem?_range hj]
    simp only [Option.map_some, List.length_map, List.getElem?_map]
    have e : l[j % l.length]? = some l[j % l.length] := List.getElem?_eq_getElem hlt
    rw [e]
    simp only [Option.map_some, conc_lit, hs, Option.some.injEq]
    have hlt' : j % l.length < z.cells.size := by omega
    rw [getElem!_pos z.cells _ hlt', ← Array.getElem_toList (by simpa using hlt')]
    have : z.cells.toList[j % l.length]? = l[j % l.length]? := by rw [hz]
    rw [List.getElem?_eq_getElem (by rw [hz]; exact hlt), List.getElem?_eq_getElem hlt] at this
    exact Option.some.inj this
  · rw [List.getElem?_eq_none (by simp; omega), List.getElem?_eq_none (by rw [rep_len]; simp; omega)]
    rfl
theorem xBuildSlice_ok (hT : ∀ t i, tb.ty.get t = some i → TyOK P t i) (hE : EvOK θ h.next ev ρ) {t : TypeId} {len : Nat} {parts : Array (Nat × Operand)} :
    FOK P base θ h (do pure (Next.value (← Instr.buildSlice t len (parts.map fun (i, x) => (i, ρ x))))) (xBuildSlice tb h ev t len parts) := by
  unfold xBuildSlice
  split
  · rename_i el j ps hsl hps
    split
    · rename_i hc
      obtain ⟨hj0, hl0, hsm⟩ := hc
      split
      · rename_i cs hf
        obtain ⟨hu, hj⟩ := asliceOf_ok hT hsl
        obtain ⟨hb, he⟩ := evps_ok hE hps
        obtain ⟨inf, z, hinf, hsz, _, hz, hzc⟩ := hj.info
        have hlen := hj.len
        obtain ⟨a, b, c⟩ := afill_ok (θ := θ) hf (rep_bd (bd_lits _) _) hb
        have hcl : cs.length = len * j.size := by rw [b, rep_len]; simp [hlen]
        refine added_ok (row := some j.size) (c := len) (cur := (cs.map (conc θ)).toArray) (f := fun k => .slice (some ⟨k, 0, none⟩) len len) (mk := fun k => .slc k 0 len 0) a (by simp) ⟨len, hcl, rfl, by unfold maxLen; have : len ≤ len * j.size := Nat.le_mul_of_pos_right _ hj0; omega⟩ (fun w => run_val ?_) fun θ' b h' => ⟨by simp [bd, h'], by simp [conc, h']⟩
        refine run_buildSlice (P := P) w t el len _ _ inf z hu hinf hz (by rw [hsz]; omega) (by rw [hsz]; have := Nat.mul_pos hl0 hj0; omega) ?_
        have he' : (parts.map fun (i, x) => (i, ρ x)).toList = ps.map fun p => (p.1, conc θ p.2) := by rw [Array.toList_map]; exact he
        rw [he', hsz, ← c, ← hlen, zeros_eq (θ := θ) z hzc (by omega)]
      · trivial
    · split
      · rename_i hc
        obtain ⟨rfl, hp0⟩ := hc
        obtain ⟨hu, hj⟩ := asliceOf_ok hT hsl
        obtain ⟨hb, he⟩ := evps_ok hE hps
        obtain ⟨inf, z, hinf, hsz, _, hz, hzc⟩ := hj.info
        have hpe : parts.toList = [] := by
          have := congrArg List.length he
          simp only [List.length_map, hp0] at this
          exact List.eq_nil_of_length_eq_zero this
        refine added_ok (row := none) (c := 0) (cur := #[]) (f := fun k => .slice (some ⟨k, 0, none⟩) 0 0) (mk := fun k => .slx k 0 0 0) (fun x hx => by cases hx) rfl trivial (fun w => run_val ?_) fun θ' b h' => ⟨by simp [bd], by simp [conc, h']⟩
        have hpm : (parts.map fun (i, x) => (i, ρ x)).toList = [] := by rw [Array.toList_map, hpe]; rfl
        simp [Instr.buildSlice, Sem.run_bind, run_underlying hu, sizeOf, typeInfo, hinf, Result.andThen, hpm, Instr.fill, newRow, hpe, Array.range_zero']
      · trivial
  · trivial
theorem xMakeSlice_ok (hT : ∀ t i, tb.ty.get t = some i → TyOK P t i) (hE : EvOK θ h.next ev ρ) {t : TypeId} {l c : Operand} :
    FOK P base θ h (do pure (Next.value (← Instr.makeSlice t (ρ l) (ρ c)))) (xMakeSlice tb h t ((ev l).bind aint) ((ev c).bind aint)) := by
  unfold xMakeSlice
  split
  · rename_i el j k n k' m hsl hl hc
    split
    · rename_i hcc
      obtain ⟨h0, rfl, hn, hj0, hby⟩ := hcc
      obtain ⟨hu, hj⟩ := asliceOf_ok hT hsl
      obtain ⟨inf, z, hinf, hsz, hbz, hz, hzc⟩ := hj.info
      have hlen := hj.len
      have e1 := (hE l _ (bind_aint hl)).2
      have e2 := (hE c _ (bind_aint hc)).2
      rw [conc_lit] at e1 e2
      obtain ⟨N, rfl⟩ : ∃ N : Nat, n = (N : Int) := ⟨n.toNat, by omega⟩
      have hcl : (rep (j.zero.map AV.lit) (N : Int).toNat).length = N * j.size := by rw [rep_len]; simp [hlen]
      refine added_ok (row := some j.size) (c := N) (cur := ((rep (j.zero.map AV.lit) N).map (conc θ)).toArray) (f := fun k => .slice (some ⟨k, 0, none⟩) N N) (mk := fun k => .slc k 0 (N : Int).toNat 0) (rep_bd (bd_lits _) _) (by simp) ⟨N, by simpa using hcl, rfl, by unfold maxLen; omega⟩ (fun w => run_val ?_) fun θ' b h' => ⟨by simp [bd, h'], by simp [conc, h']⟩
      rw [e1, e2]
      have hb2 : (inf.bytes : Int) * (N : Int) ≤ 281474976710656 := by
        rw [hbz]
        have : j.bytes * N ≤ 65536 * 65536 := Nat.mul_le_mul hby (by omega)
        have h2 : ((j.bytes * N : Nat) : Int) ≤ 281474976710656 := by omega
        rwa [Int.natCast_mul] at h2
      have hr := run_make (P := P) w t el inf z hu hinf hz k k' (N : Int) (N : Int) (by omega) (Int.le_refl _) hb2 (by omega)
      rw [hr]
      simp only [Int.toNat_natCast, madeCells, hsz]
      rw [← hlen, zeros_eq (θ := θ) z hzc (by omega)]
    · trivial
  · trivial
theorem run_getObj_mp {r : Nat} {es : Array MapEntry} {clock : Nat} (hb : w.heap[r]? = some (.map es clock)) : (getObj r).run P w = .ok (.map es clock) w := by simp [getObj, Sem.run, hb]
theorem run_setObj_mp {r : Nat} {es : Array MapEntry} {clock : Nat} (o : Obj) (hb : w.heap[r]? = some (.map es clock)) : (setObj r o).run P w = .ok () (w.putObj r o) := by simp [setObj, Sem.run, hb, World.putObj]
theorem xMakeMap_ok {t : TypeId} : FOK P base θ h (do pure (Next.value (← Instr.makeMap t none))) (added h (.map [] 0) (.mp h.next)) := by
  unfold added
  split
  · rename_i h' ha
    obtain ⟨_, hm, hn⟩ := AH.add_spec ha
    refine ⟨hn, fun id hid => by rw [hm, T.get_set_other _ _ _ _ _ hid], .map #[] 0, 0, fun k => .map (some k), fun w => run_val (by rw [run_makeMap]), fun w b hR hw hbase hu => ?_⟩
    have hsame := upd_same θ h.next ⟨b, 0, none⟩
    exact ⟨hR.adopt ha hbase hu ⟨by simp, by rw [hsame]; exact hw⟩, by rw [hn]; simp [bd], by simp [conc, hsame]⟩
  · trivial
theorem amapOf_ok (hT : ∀ t i, tb.ty.get t = some i → TyOK P t i) (hK : ∀ t n, tb.keyEq.get t = some n → KeyOK P t n) {t : TypeId} {n : Nat} {j : TyI} (hx : amapOf tb t = some (n, j)) : ∃ kt el, P.underlying t = some (.map kt el) ∧ KeyOK P kt n ∧ TyOK P el j := by
  unfold amapOf at hx
  split at hx <;> try (cases hx; done)
  rename_i i hi
  split at hx <;> try (cases hx; done)
  rename_i kt el hd
  split at hx <;> try (cases hx; done)
  rename_i n' j' hn hj
  cases hx
  exact ⟨kt, el, by rw [(hT t i hi).und, hd], hK _ _ hn, hT _ _ hj⟩
theorem amapAt_ok {id : Nat} {es : List (AV × AV × Nat)} {clock : Nat} (hx : amapAt h id = some (es, clock)) : h.m.get id = some (.map es clock) := by
  unfold amapAt at hx
  split at hx
  · rename_i es' c' hm; cases hx; exact hm
  · cases hx
theorem zero_apart {j : TyI} {t : TypeId} (hj : TyOK P t j) {z : AV} (hz : apart j.agg (j.zero.map .lit) 0 j.size = some z) (n : Nat) : bd θ n z ∧ (zeroValue t).run P w = .ok (conc θ z) w := by
  obtain ⟨inf, z', hinf, _, _, h3, _⟩ := hj.info
  have hv := hj.zv inf hinf
  have hr : (zeroValue t).run P w = .ok (if j.agg then .agg j.zero.toArray else j.zero.headD undef) w := by simp [zeroValue, typeInfo, Sem.run_bind, hinf, hv, Result.andThen]
  rw [hr]
  unfold apart at hz
  cases ha : j.agg with
  | true =>
    rw [ha] at hz
    simp only [if_true, List.length_map, Nat.zero_add, List.drop_zero] at hz ⊢
    split at hz
    · cases hz
      rw [List.take_of_length_le (by simp [hj.len])]
      exact ⟨by simp only [bd]; exact bd_lits _, by simp only [conc, conc_lits]⟩
    · cases hz
  | false =>
    rw [ha] at hz
    simp only [Bool.false_eq_true, if_false] at hz ⊢
    cases hl : j.zero with
    | nil => rw [hl] at hz; cases hz
    | cons a l => rw [hl] at hz; cases hz; exact ⟨by simp [bd], by simp [conc]⟩
theorem xLookup_ok (hT : ∀ t i, tb.ty.get t = some i → TyOK P t i) (hK : ∀ t n, tb.keyEq.get t = some n → KeyOK P t n) (hR : R base θ h w) (hE : EvOK θ h.next ev ρ) {t : TypeId} {x ix : Operand} {ok : Bool} :
    XOK P base θ h w (do pure (Next.value (← Instr.lookup t (ρ x) (ρ ix) ok))) (xLookup tb h ev t x ix ok) := by
  unfold xLookup
  split
  · rename_i id hx
    unfold xLookup2
    split
    · rename_i k hk
      split
      · rename_i n j es clock hmo hma
        obtain ⟨kt, el, hu, hKO, hj⟩ := amapOf_ok hT hK hmo
        have hm := amapAt_ok hma
        obtain ⟨_, _, hbe, hheap⟩ := hR.obj id _ hm
        obtain ⟨hbk, hix⟩ := hE ix _ hk
        have hx' := (hE x _ hx).2
        split
        · rename_i p v hf
          obtain ⟨hck, hfk, hst⟩ := hKO θ k es _ hf w (es.map (entryC θ)).toArray.isEmpty
          obtain ⟨e, he1, rfl, _⟩ := hst p v rfl
          have hbv := (hbe e (List.mem_of_getElem? he1)).2
          refine ⟨θ, w, run_val ?_, ?_, Post.refl hR⟩
          · rw [hx', hix]
            simp only [Instr.lookup, Sem.run_bind, run_underlying hu w, Result.andThen, conc, run_getObj_mp hheap, Sem.run_pure, hck]
            simp only [List.toList_toArray, hfk, Result.andThen, Option.map_some, Sem.run_pure]
            cases ok <;> simp [conc]
          · cases ok
            · exact hbv
            · simp only [if_true, bd]
              intro y hy
              rcases List.mem_cons.1 hy with rfl | hy
              · exact hbv
              · obtain rfl := List.mem_singleton.1 hy; simp [bd]
        · rename_i hf
          split
          · rename_i z hz
            obtain ⟨hck, hfk, _⟩ := hKO θ k es _ hf w (es.map (entryC θ)).toArray.isEmpty
            obtain ⟨hbz, hrz⟩ := zero_apart (θ := θ) (w := w) hj hz h.next
            refine ⟨θ, w, run_val ?_, ?_, Post.refl hR⟩
            · rw [hx', hix]
              simp only [Instr.lookup, Sem.run_bind, run_underlying hu w, Result.andThen, conc, run_getObj_mp hheap, Sem.run_pure, hck]
              simp only [List.toList_toArray, hfk, Result.andThen, Option.map_none, Sem.run_pure, Sem.run_bind, hrz]
              cases ok <;> simp [conc]
            · cases ok
              · exact hbz
              · simp only [if_true, bd]
                intro y hy
                rcases List.mem_cons.1 hy with rfl | hy
                · exact hbz
                · obtain rfl := List.mem_singleton.1 hy; simp [bd]
          · trivial
        · trivial
      · trivial
    · trivial
  · trivial
end

end PartOfZxg

section PartOfZxh
open Go Go.RowKit
section
variable {P : Program} {tb : Tab} {θ : Th} {base : Bs} {h : AH} {ev : Operand → Option AV} {ρ : Operand → Value} {w : World}
theorem putObj_below {r : Nat} {o : Obj} (hr : base ≤ r) : Below base w (w.putObj r o) := ⟨rfl, rfl, rfl, by simp, fun k hk => World.putObj_heap_other (by omega)⟩
theorem modify_map {α β : Type} (f : α → β) (g : α → α) (g' : β → β) (hg : ∀ x, f (g x) = g' (f x)) (l : List α) (p : Nat) : (l.map f).toArray.modify p g' = ((l.modify p g).map f).toArray := by
  apply Array.ext_getElem?
  intro j
  simp only [Array.getElem?_modify, List.getElem?_toArray, List.getElem?_map, List.getElem?_modify]
  by_cases hj : p = j
  · simp only [hj, if_true]
    cases l[j]? <;> simp [hg]
  · simp only [hj, if_false]
    cases l[j]? <;> simp
theorem xMapUpd_ok (hT : ∀ t i, tb.ty.get t = some i → TyOK P t i) (hK : ∀ t n, tb.keyEq.get t = some n → KeyOK P t n) (hR : R base θ h w) (hE : EvOK θ h.next ev ρ) {t : TypeId} {m k x : Operand} :
    XOK P base θ h w (do Instr.mapUpdate t (ρ m) (ρ k) (ρ x); pure .skip) (xMapUpd tb h ev t m k x) := by
  unfold xMapUpd
  split
  · rename_i id hm0
    unfold xMapUpd2
    split
    · rename_i kv v hk hv
      split
      · rename_i n j es clock hmo hma
        obtain ⟨kt, el, hu, hKO, hj⟩ := amapOf_ok hT hK hmo
        have hm := amapAt_ok hma
        obtain ⟨hidn, hbase, hbe, hheap⟩ := hR.obj id _ hm
        obtain ⟨hbk, hk'⟩ := hE k _ hk
        obtain ⟨hbv, hx'⟩ := hE x _ hv
        have hm' := (hE m _ hm0).2
        split
        · rename_i p v0 hf
          obtain ⟨hck, hfk, hst⟩ := hKO θ kv es _ hf w false
          obtain ⟨e, he1, _, hkts⟩ := hst p v0 rfl
          unfold stored
          split
          · rename_i h' hp
            have hmod := modify_map (entryC θ) (fun e => (kv, v, e.2.2)) (fun e : MapEntry => { e with key := conc θ kv, val := conc θ v }) (fun e => rfl) es p
            refine ⟨θ, w.putObj (θ id).b (.map ((es.modify p fun e => (kv, v, e.2.2)).map (entryC θ)).toArray clock), ?_, Post.put hR hm hp (fun k hk => World.putObj_heap_other hk) (by simp) (putObj_below hbase) ⟨?_, World.putObj_heap_same (hR.obj id _ hm).2.2.lt⟩⟩
            · rw [hm', hk', hx']
              simp only [Instr.mapUpdate, Sem.run_bind, run_underlying hu w, Result.andThen, conc, run_getObj_mp hheap, hck]
              simp only [List.toList_toArray, hfk, Result.andThen, Option.map_some, Sem.run_bind]
              have hkey : ((((es.map (entryC θ)).toArray[p]?).map (·.key)).getD (conc θ kv)) = conc θ e.1 := by simp [he1, entryC]
              rw [hkey, hkts]
              simp only [Result.andThen, hmod, run_setObj_mp _ hheap, Sem.run_pure]
            · intro e' he'
              obtain ⟨q, hq⟩ := List.mem_iff_getElem?.1 he'
              rw [List.getElem?_modify] at hq
              obtain ⟨y, hy, hye⟩ : ∃ y, es[q]? = some y ∧ (e' = y ∨ e' = (kv, v, y.2.2)) := by
                cases hy : es[q]? with
                | none => rw [hy] at hq; simp at hq
                | some y =>
                  rw [hy] at hq
                  simp only [Option.map_eq_map, Option.map_some, Option.some.injEq] at hq
                  refine ⟨y, rfl, ?_⟩
                  split at hq
                  · exact .inr hq.symm
                  · exact .inl hq.symm
              rcases hye with rfl | rfl
              · exact hbe e' (List.mem_of_getElem? hy)
              · exact ⟨hbk, hbv⟩
          · trivial
        · rename_i hf
          obtain ⟨hck, hfk, hst⟩ := hKO θ kv es _ hf w false
          unfold stored
          split
          · rename_i h' hp
            refine ⟨θ, w.putObj (θ id).b (.map ((es ++ [(kv, v, clock)]).map (entryC θ)).toArray (clock + 1)), ?_, Post.put hR hm hp (fun k hk => World.putObj_heap_other hk) (by simp) (putObj_below hbase) ⟨?_, World.putObj_heap_same (hR.obj id _ hm).2.2.lt⟩⟩
            · rw [hm', hk', hx']
              simp only [Instr.mapUpdate, Sem.run_bind, run_underlying hu w, Result.andThen, conc, run_getObj_mp hheap, hck]
              simp only [List.toList_toArray, hfk, Result.andThen, Option.map_none, run_setObj_mp _ hheap]
              simp [entryC]
            · intro e' he'
              rcases List.mem_append.1 he' with he' | he'
              · exact hbe e' he'
              · obtain rfl := List.mem_singleton.1 he'; exact ⟨hbk, hbv⟩
          · trivial
        · trivial
      · trivial
    · trivial
  · trivial
theorem bds_modify {n p : Nat} {es : List (AV × AV × Nat)} (hbe : ∀ e ∈ es, bd θ n e.1 ∧ bd θ n e.2.1) {g : AV × AV × Nat → AV × AV × Nat} (hg : ∀ e ∈ es, bd θ n (g e).1 ∧ bd θ n (g e).2.1) : ∀ e ∈ es.modify p g, bd θ n e.1 ∧ bd θ n e.2.1 := by
  intro e' he'
  obtain ⟨q, hq⟩ := List.mem_iff_getElem?.1 he'
  rw [List.getElem?_modify] at hq
  cases hy : es[q]? with
  | none => rw [hy] at hq; simp at hq
  | some y =>
    rw [hy] at hq
    simp only [Option.map_eq_map, Option.map_some, Option.some.injEq] at hq
    split at hq
    · rw [← hq]; exact hg y (List.mem_of_getElem? hy)
    · rw [← hq]; exact hbe y (List.mem_of_getElem? hy)
theorem xMapEntry_ok (hT : ∀ t i, tb.ty.get t = some i → TyOK P t i) (hK : ∀ t n, tb.keyEq.get t = some n → KeyOK P t n) (hR : R base θ h w) (hE : EvOK θ h.next ev ρ) {t : TypeId} {m k : Operand} :
    XOK P base θ h w (do pure (Next.value (← Instr.mapEntry t (ρ m) (ρ k)))) (xMapEntry tb h ev t m k) := by
  unfold xMapEntry
  split
  · rename_i id hm0
    unfold xMapEntry2
    split
    · rename_i kv hk
      split
      · rename_i n j es clock hmo hma
        obtain ⟨kt, el, hu, hKO, hj⟩ := amapOf_ok hT hK hmo
        have hm := amapAt_ok hma
        obtain ⟨hidn, hbase, hbe, hheap⟩ := hR.obj id _ hm
        obtain ⟨hbk, hk'⟩ := hE k _ hk
        have hm' := (hE m _ hm0).2
        split
        · rename_i p v0 hf
          obtain ⟨hck, hfk, hst⟩ := hKO θ kv es _ hf w false
          obtain ⟨e, he1, hev, hkts⟩ := hst p v0 rfl
          split
          · rename_i e' he'
            rw [he1] at he'; cases he'
            split
            · rename_i h' hp
              have hmod := modify_map (entryC θ) (fun e => (kv, e.2.1, e.2.2)) (fun e : MapEntry => { e with key := conc θ kv }) (fun e => rfl) es p
              have hbem := hbe e (List.mem_of_getElem? he1)
              refine ⟨θ, w.putObj (θ id).b (.map ((es.modify p fun e => (kv, e.2.1, e.2.2)).map (entryC θ)).toArray clock), run_val ?_, ?_, Post.put hR hm hp (fun k hk => World.putObj_heap_other hk) (by simp) (putObj_below hbase) ⟨?_, World.putObj_heap_same (hR.obj id _ hm).2.2.lt⟩⟩
              · rw [hm', hk']
                simp only [Instr.mapEntry, Sem.run_bind, run_underlying hu w, Result.andThen, conc, run_getObj_mp hheap, hck]
                simp only [List.toList_toArray, hfk, Result.andThen, Option.map_some, Sem.run_bind]
                have hkey : ((((es.map (entryC θ)).toArray[p]?).map (·.key)).getD (conc θ kv)) = conc θ e.1 := by simp [he1, entryC]
                have hborn : ((((es.map (entryC θ)).toArray[p]?).map (·.born)).getD 0) = e.2.2 := by simp [he1, entryC]
                rw [hkey, hkts]
                simp only [Result.andThen, hmod, run_setObj_mp _ hheap, Sem.run_pure, hborn]
                simp [conc, goInt, he1, entryC]
              · rw [(AH.put_spec hp).2.2]
                simp only [bd]
                intro y hy
                rcases List.mem_cons.1 hy with rfl | hy
                · rw [← hev]; exact hbem.2
                · obtain rfl := List.mem_singleton.1 hy; simp [bd]
              · exact bds_modify hbe fun e he => ⟨hbk, (hbe e he).2⟩
            · trivial
          · trivial
        · rename_i hf
          split
          · rename_i z hz
            obtain ⟨hck, hfk, hst⟩ := hKO θ kv es _ hf w false
            obtain ⟨hbz, hrz⟩ := zero_apart (θ := θ) (w := w) hj hz h.next
            split
            · rename_i h' hp
              refine ⟨θ, w.putObj (θ id).b (.map ((es ++ [(kv, z, clock)]).map (entryC θ)).toArray (clock + 1)), run_val ?_, ?_, Post.put hR hm hp (fun k hk => World.putObj_heap_other hk) (by simp) (putObj_below hbase) ⟨?_, World.putObj_heap_same (hR.obj id _ hm).2.2.lt⟩⟩
              · rw [hm', hk']
                simp only [Instr.mapEntry, Sem.run_bind, run_underlying hu w, Result.andThen, conc, run_getObj_mp hheap, hck]
                simp only [List.toList_toArray, hfk, Result.andThen, Option.map_none, Sem.run_bind, hrz, run_setObj_mp _ hheap, Sem.run_pure]
                simp [conc, goInt, entryC]
              · rw [(AH.put_spec hp).2.2]
                simp only [bd]
                intro y hy
                rcases List.mem_cons.1 hy with rfl | hy
                · exact hbz
                · obtain rfl := List.mem_singleton.1 hy; simp [bd]
              · intro e' he'
                rcases List.mem_append.1 he' with he' | he'
                · exact hbe e' he'
                · obtain rfl := List.mem_singleton.1 he'; exact ⟨hbk, hbz⟩
            · trivial
          · trivial
        · trivial
      · trivial
    · trivial
  · trivial
theorem aborn_ok {n : Int} : ∀ {es : List (AV × AV × Nat)} {i p : Nat}, aborn n es i = some p → ∃ q, p = i + q ∧ (es.map (entryC θ)).findIdx? (fun e => (e.born : Int) == n) = some q
  | [], i, p, hx => by cases hx
  | e :: es, i, p, hx => by
    simp only [aborn] at hx
    split at hx
    · rename_i hc
      cases hx
      exact ⟨0, rfl, by simp [entryC, hc, List.findIdx?_cons]⟩
    · rename_i hc
      obtain ⟨q, rfl, hq⟩ := aborn_ok hx
      refine ⟨q + 1, by omega, ?_⟩
      have : ((entryC θ e).born : Int) ≠ n := hc
      simp [List.findIdx?_cons, this, hq]
theorem xEntryStore_ok (hR : R base θ h w) (hE : EvOK θ h.next ev ρ) {t : TypeId} {m s x : Operand} : XOK P base θ h w (do Instr.entryStore t (ρ m) (ρ s) (ρ x); pure .skip) (xEntryStore h ev m s x) := by
  unfold xEntryStore
  split
  · rename_i id hm0
    unfold xEntryStore2
    split
    · rename_i k0 n v hs hv
      split
      · rename_i es clock hma
        have hm := amapAt_ok hma
        obtain ⟨hidn, hbase, hbe, hheap⟩ := hR.obj id _ hm
        split
        · rename_i p hp0
          unfold stored
          split
          · rename_i h' hp
            obtain ⟨q, hq, hfi⟩ := aborn_ok (θ := θ) hp0
            obtain rfl : p = q := by omega
            obtain ⟨hbv, hx'⟩ := hE x _ hv
            have hs' := (hE s _ (bind_aint hs)).2
            rw [conc_lit] at hs'
            have hm' := (hE m _ hm0).2
            have hmod := modify_map (entryC θ) (fun e => (e.1, v, e.2.2)) (fun e : MapEntry => { e with val := conc θ v }) (fun e => rfl) es p
            refine ⟨θ, w.putObj (θ id).b (.map ((es.modify p fun e => (e.1, v, e.2.2)).map (entryC θ)).toArray clock), ?_, Post.put hR hm hp (fun k hk => World.putObj_heap_other hk) (by simp) (putObj_below hbase) ⟨?_, World.putObj_heap_same (hR.obj id _ hm).2.2.lt⟩⟩
            · rw [hm', hs', hx']
              simp only [Instr.entryStore, Sem.run_bind, Result.andThen, conc, run_getObj_mp hheap, asInt, asIntOf, Sem.run_pure]
              have hfa : (es.map (entryC θ)).toArray.findIdx? (fun e => (e.born : Int) == n) = some p := by simpa using hfi
              rw [hfa]
              simp only [hmod, run_setObj_mp _ hheap, Result.andThen, Sem.run_pure]
            · exact bds_modify hbe fun e he => ⟨(hbe e he).1, hbv⟩
          · trivial
        · trivial
      · trivial
    · trivial
  · trivial
theorem xSliceE_ok (hT : ∀ t i, tb.ty.get t = some i → TyOK P t i) (hR : R base θ h w) (hE : EvOK θ h.next ev ρ) {t : TypeId} {x : Operand} {lo hi mx : Option Operand} :
    XOK P base θ h w (do pure (Next.value (← Instr.sliceAt t (ρ x) (lo.map ρ) (hi.map ρ) (mx.map ρ)))) (xSliceE tb h ev t x lo hi mx) := by
  unfold xSliceE
  split
  · rename_i id off len sub hx
    obtain ⟨hb, hx'⟩ := hE x _ hx
    simp only [bd] at hb
    obtain ⟨hid, hc⟩ := hb
    split
    · rename_i pj l hh hsl hl hhi
      obtain ⟨el, j⟩ := pj
      unfold xSliceE2
      split
      · rename_i H hH
        split
        · rename_i L hL
          split
          · rename_i hlt
            subst hlt
            obtain ⟨hu, hj⟩ := asliceOf_ok hT hsl
            obtain ⟨r1, q1, q2⟩ := abound_ok (P := P) hE hhi hH (show L ≤ (θ id).c - sub by omega) .sliceAcap w
            obtain ⟨r2, q3, q4⟩ := abound_ok (P := P) hE hl hL (Nat.le_refl H) .sliceB w
            have hHlen : H ≤ L := by
              by_cases hn : hi = none
              · rw [q1 hn]; exact Nat.le_refl _
              · exact q2 hn
            have hLH : L ≤ H := by
              by_cases hn : lo = none
              · rw [q3 hn]; exact Nat.zero_le _
              · exact q4 hn
            obtain rfl : H = L := Nat.le_antisymm hHlen hLH
            obtain ⟨m, next⟩ := h
            have hsame := upd_same θ next ⟨0, (θ id).c - sub - H, if (θ id).c - sub = H then some ⟨(θ id).b, off, none⟩ else (some ⟨(θ id).b, off, none⟩ : Option Addr).map (·.add (H * j.size))⟩
            refine ⟨upd θ next ⟨0, (θ id).c - sub - H, if (θ id).c - sub = H then some ⟨(θ id).b, off, none⟩ else (some ⟨(θ id).b, off, none⟩ : Option Addr).map (·.add (H * j.size))⟩, w, run_val ?_, by simp [bd], Post.bump hR _⟩
            rw [hx']
            have hbounds : (Instr.sliceBounds true H ((θ id).c - sub) (lo.map ρ) (hi.map ρ) none).run P w = .ok (H, H, (θ id).c - sub) w := by
              unfold Instr.sliceBounds
              cases hi <;> cases lo <;> simp only [Option.map_none, Option.map_some] at r1 r2 ⊢ <;>
                simp [Sem.run_bind, Result.andThen] at r1 r2 ⊢ <;> simp [r1, r2, Result.andThen]
            unfold Instr.sliceAt
            simp only [Sem.run_bind, run_underlying hu w, Result.andThen, conc, Instr.slice, Option.map_none, hbounds, run_size hj w, hsame]
            simp
          · trivial
        · trivial
      · trivial
    · trivial
  · trivial
theorem OOK.owns {n id k sz : Nat} {cs : List AV} {el : TypeId} (ho : OOK θ n id (.cells cs el (some sz)) w) (hb : base ≤ (θ id).b) (hk : cs.length = k * sz) (hsz : 0 < sz) :
    w.ownsRow base el sz (.slice (some ⟨(θ id).b, 0, none⟩) k (θ id).c) k (cs.map (conc θ)) := by
  obtain ⟨_, cur, hc, ht, k', h1, h2, h3, h4⟩ := ho
  have hkk : k' = k := Nat.eq_of_mul_eq_mul_right hsz (by rw [← h1, hk])
  subst hkk
  exact ⟨by rw [List.length_map]; exact hk, .inr ⟨_, _, cur, rfl, hb, hc, h2, h3, h4, by rw [← hk]; exact ht⟩⟩
theorem OOK.of_owns {θ' : Th} {n id k sz g cap : Nat} {cs : List AV} {el : TypeId} {w' : World} (hb : bdl θ' n cs) (hθ : θ' id = ⟨g, cap, none⟩) (ho : w'.ownsRow base el sz (.slice (some ⟨g, 0, none⟩) k cap) k (cs.map (conc θ'))) (hk : 0 < k) : OOK θ' n id (.cells cs el (some sz)) w' := by
  rcases ho.2 with ⟨h0, _⟩ | ⟨g', cap', cur, hv, hb', hg, h1, h2, h3, h4⟩
  · cases h0
  · cases hv
    have hl : cs.length = k * sz := by have := ho.1; rwa [List.length_map] at this
    exact ⟨hb, cur, by rw [hθ]; exact hg, by rw [hl]; exact h4, k, hl, by rw [hθ]; exact h1, by rw [hθ]; exact h2, by rw [hθ]; exact h3⟩
theorem own_le {g cap k sz : Nat} {el : TypeId} {xs : List Value} (ho : w.ownsRow base el sz (.slice (some ⟨g, 0, none⟩) k cap) k xs) : k ≤ cap := by
  rcases ho.2 with ⟨h0, _⟩ | ⟨g', cap', cur, hv, _, _, hle, _⟩
  · cases h0
  · cases hv; exact hle
theorem run_append_zero {t ty e : TypeId} {i : TypeInfo} (hu : P.underlying t = some (.slice e)) (hi : P.info? e = some i) {a : Addr} {x : Option Addr} {m c : Nat} (hm : 0 < m) (hb : m * i.bytes ≤ 4294967296) :
    (Builtin.append_ #[t, t] ty #[.slice (some a) 0 0, .slice x m c]).run P w = (Builtin.append_ #[t, t] ty #[.slice none 0 0, .slice x m c]).run P w := by
  have h1 : ¬ (m = 0) := by omega
  have h3 : Builtin.nextslicecap m 0 = m := by unfold Builtin.nextslicecap; rw [if_pos (by omega)]
  have h4 : ¬ (281474976710656 < m * i.bytes) := by omega
  simp [Builtin.append_, run_underlying hu, sizeOf, typeInfo, hi, Builtin.lenOf, h1, h3, h4, Builtin.firstCells, loadCells, loadCellsFrom]
theorem asrc_ok {v : AV} {id off m : Nat} (hx : asrc v = some (id, off, m)) : ∃ c, conc θ v = .slice (some ⟨(θ id).b, off, none⟩) m c := by
  unfold asrc at hx
  split at hx
  · rename_i sub; cases hx; exact ⟨(θ id).c - sub, by simp only [conc]⟩
  · rename_i cap; cases hx; exact ⟨cap, by simp only [conc]⟩
  · cases hx
theorem xAppend_ok (hT : ∀ t i, tb.ty.get t = some i → TyOK P t i) (hR : R base θ h w) (hE : EvOK θ h.next ev ρ) {args : Array Operand} {ts : Array TypeId} {ty : TypeId} :
    XOK P base θ h w (do pure (Next.value (← Builtin.append_ ts ty (args.map ρ)))) (xAppend tb h ev args ts) := by
  unfold xAppend
  split
  · rename_i s x t t' hargs hts
    split
    · rename_i htt
      subst htt
      split
      · rename_i el j hsl
        obtain ⟨hu, hj⟩ := asliceOf_ok hT hsl
        obtain ⟨inf, z, hinf, hsz, hby, hz, hzc⟩ := hj.info
        unfold xAppend2
        split
        · rename_i xid xoff m hxs
          obtain ⟨xv, hx, hxa⟩ := bind_some hxs
          obtain ⟨xc, hxc⟩ := asrc_ok (θ := θ) hxa
          split
          · rename_i xs elx rowx hmx
            split
            · rename_i hc
              obtain ⟨hc1, hm0, hj0, hbytes⟩ := hc
              have hx' := (hE x _ hx).2
              rw [hxc] at hx'
              have eargs : args.map ρ = #[ρ s, ρ x] := by apply Array.toList_inj.1; rw [Array.toList_map, hargs]; rfl
              have ets : ts = #[t, t] := by apply Array.toList_inj.1; rw [hts]
              obtain ⟨hxid, hxb, hxo⟩ := hR.obj xid _ hmx
              have hbx : bdl θ h.next ((xs.drop xoff).take (m * j.size)) := fun y hy => hxo.1 y (List.mem_of_mem_drop (List.mem_of_mem_take hy))
              have hlen : ((xs.drop xoff).take (m * j.size)).length = m * j.size := by simp at hc1 ⊢; omega
              have hnews : ∀ q u, (((xs.drop xoff).take (m * j.size)).map (conc θ))[q]? = some u → w.cell? ((⟨(θ xid).b, xoff, none⟩ : Addr).add q) = some u := fun q u hq => by
                rw [List.getElem?_map] at hq
                obtain ⟨y, hy, rfl⟩ := map_some hq
                rw [List.getElem?_take] at hy
                split at hy
                · rw [List.getElem?_drop] at hy
                  rw [add_plain']
                  exact hxo.cell hy
                · cases hy
              have hzs : z.cells.size = j.size := by rw [← hj.len, ← hzc]; simp
              unfold xAppend3
              split
              · rename_i id n hs
                split
                · trivial
                · rename_i hne
                  split
                  · rename_i cs el' sz hms
                    split
                    · rename_i hel
                      obtain ⟨rfl, rfl⟩ := hel
                      unfold xAppend4
                      split
                      · rename_i hcc
                        obtain ⟨hcl, hnm, hone⟩ := hcc
                        split
                        · rename_i h' ha
                          obtain ⟨hidn, hib, hio⟩ := hR.obj id _ hms
                          have hs' := (hE s _ hs).2
                          simp only [conc, Nat.sub_zero] at hs'
                          have hown := hio.owns hib hcl hj0
                          obtain ⟨g, cap, w', hrun, hown', hgrow, hat, hlt⟩ := run_append_lies (P := P) w t ty base el' inf z j.size j.bytes hu hinf hz hsz hby hzs hj0 _ n _ hown ⟨(θ xid).b, xoff, none⟩ m xc _ (by rw [List.length_map]; exact hlen) hnews (ones_conc hone) hm0 (by unfold maxLen; omega) (by have : (n + m) * j.bytes ≤ 65536 * 65536 := Nat.mul_le_mul hnm hbytes; omega) hR.size _ rfl
                          have hE' := upd_ext θ h.next ⟨g, cap, none⟩
                          have hsame := upd_same θ h.next ⟨g, cap, none⟩
                          have hbn : bdl θ h.next (cs ++ (xs.drop xoff).take (m * j.size)) := fun y hy => by
                            rcases List.mem_append.1 hy with hy | hy
                            · exact hio.1 y hy
                            · exact hbx y hy
                          have hn' := (AH.add_spec ha).2.2
                          simp only at hn'
                          refine ⟨upd θ h.next ⟨g, cap, none⟩, w', run_val ?_, by rw [hn']; simp only [bd, hsame]; exact ⟨Nat.lt_succ_self _, by have := own_le hown'; omega⟩, ?_⟩
                          · rw [eargs, ets, hs', hx']
                            simp only [conc, hsame]
                            rw [hrun]
                            simp
                          · refine Post.swap hR hms ha (r := ⟨g, cap, none⟩) ?_ (fun k hk hkne => hgrow.block k hk (by simp [Value.ownBlock]; exact hkne)) ⟨hgrow.os, hgrow.tape, hgrow.output, hgrow.size, fun k hk => hgrow.block k (Nat.lt_of_lt_of_le hk hR.size) (by simp [Value.ownBlock]; omega)⟩ ?_
                            · rcases hat with e | e
                              · left; simpa [Value.ownBlock] using e.symm
                              · right; exact e
                            · refine OOK.of_owns (base := base) (bdl_ext hE' (Nat.le_succ _) hbn) hsame ?_ (show 0 < n + m by omega)
                              rw [concl_ext hE' hbn, List.map_append]
                              exact hown'
                        · trivial
                      · trivial
                    · trivial
                  · trivial
              · rename_i sid soff hs
                split
                · rename_i hcc
                  obtain ⟨hm64, hone⟩ := hcc
                  unfold added
                  split
                  · rename_i h' ha
                    have hs' := (hE s _ hs).2
                    simp only [conc] at hs'
                    obtain ⟨g, cap, w', hrun, hown', hgrow, hat, hlt⟩ := run_append_lies (P := P) w t ty base el inf z j.size j.bytes hu hinf hz hsz hby hzs hj0 (.slice none 0 0) 0 [] (World.ownsRow_nil ..) ⟨(θ xid).b, xoff, none⟩ m xc _ (by rw [List.length_map]; exact hlen) hnews (ones_conc hone) hm0 (by unfold maxLen; omega) (by have : (0 + m) * j.bytes ≤ 65536 * 65536 := Nat.mul_le_mul (by omega) hbytes; omega) hR.size _ rfl
                    have hg : g = w.heap.size := by
                      rcases hat with e | e
                      · simp [Value.ownBlock] at e
                      · exact e
                    have hE' := upd_ext θ h.next ⟨g, cap, none⟩
                    have hsame := upd_same θ h.next ⟨g, cap, none⟩
                    have hn' := (AH.add_spec ha).2.2
                    refine ⟨upd θ h.next ⟨g, cap, none⟩, w', run_val ?_, by rw [hn']; simp only [bd, hsame]; exact ⟨Nat.lt_succ_self _, by have := own_le hown'; omega⟩, ?_⟩
                    · rw [eargs, ets, hs', hx']
                      simp only [conc, hsame]
                      rw [run_append_zero hu hinf hm0 (by rw [hby]; have : m * j.bytes ≤ 65536 * 65536 := Nat.mul_le_mul hm64 hbytes; omega), hrun]
                      simp
                    · refine Post.add hR ha (r := ⟨g, cap, none⟩) (by simp [hg]) (fun k hk => hgrow.block k hk (by simp [Value.ownBlock])) ⟨hgrow.os, hgrow.tape, hgrow.output, hgrow.size, fun k hk => hgrow.block k (Nat.lt_of_lt_of_le hk hR.size) (by simp [Value.ownBlock])⟩ ?_
                      refine OOK.of_owns (base := base) (bdl_ext hE' (Nat.le_succ _) hbx) hsame ?_ hm0
                      rw [concl_ext hE' hbx]
                      simpa using hown'
                  · trivial
                · trivial
              · rename_i hs
                split
                · rename_i hcc
                  obtain ⟨hm64, hone⟩ := hcc
                  unfold added
                  split
                  · rename_i h' ha
                    have hs' := (hE s _ hs).2
                    rw [conc_lit] at hs'
                    obtain ⟨g, cap, w', hrun, hown', hgrow, hat, hlt⟩ := run_append_lies (P := P) w t ty base el inf z j.size j.bytes hu hinf hz hsz hby hzs hj0 (.slice none 0 0) 0 [] (World.ownsRow_nil ..) ⟨(θ xid).b, xoff, none⟩ m xc _ (by rw [List.length_map]; exact hlen) hnews (ones_conc hone) hm0 (by unfold maxLen; omega) (by have : (0 + m) * j.bytes ≤ 65536 * 65536 := Nat.mul_le_mul (by omega) hbytes; omega) hR.size _ rfl
                    have hg : g = w.heap.size := by
                      rcases hat with e | e
                      · simp [Value.ownBlock] at e
                      · exact e
                    have hE' := upd_ext θ h.next ⟨g, cap, none⟩
                    have hsame := upd_same θ h.next ⟨g, cap, none⟩
                    have hn' := (AH.add_spec ha).2.2
                    refine ⟨upd θ h.next ⟨g, cap, none⟩, w', run_val ?_, by rw [hn']; simp only [bd, hsame]; exact ⟨Nat.lt_succ_self _, by have := own_le hown'; omega⟩, ?_⟩
                    · rw [eargs, ets, hs', hx']
                      simp only [conc, hsame]
                      rw [hrun]
                      simp
                    · refine Post.add hR ha (r := ⟨g, cap, none⟩) (by simp [hg]) (fun k hk => hgrow.block k hk (by simp [Value.ownBlock])) ⟨hgrow.os, hgrow.tape, hgrow.output, hgrow.size, fun k hk => hgrow.block k (Nat.lt_of_lt_of_le hk hR.size) (by simp [Value.ownBlock])⟩ ?_
                      refine OOK.of_owns (base := base) (bdl_ext hE' (Nat.le_succ _) hbx) hsame ?_ hm0
                      rw [concl_ext hE' hbx]
                      simpa using hown'
                  · trivial
                · trivial
              · trivial
            · trivial
          · trivial
        · trivial
      · trivial
    · trivial
  · trivial
theorem xEnter_ok (hE : EvOK θ h.next ev ρ) {c : Call} {f : Operand} {ty : TypeId} (hc : c.callee = .value f) : XOK P base θ h w (do let d ← resolve ρ c ty; invoke d.target d.args) (xEnter (evs ev c.args.toList) (ev f)) := by
  unfold xEnter
  split
  · rename_i g first cap hf
    split
    · rename_i xs hxs
      obtain ⟨hb, he⟩ := evs_ok hE hxs
      obtain ⟨hbf, hf'⟩ := hE f _ hf
      simp only [bd] at hbf
      refine ⟨fun y hy => ?_, ?_⟩
      · rcases List.mem_append.1 hy with hy | hy
        · rcases List.mem_append.1 hy with hy | hy
          · exact hbf.1 y hy
          · exact hb y hy
        · exact hbf.2 y hy
      · have e1 : c.args.map ρ = (xs.map (conc θ)).toArray := by apply Array.toList_inj.1; rw [Array.toList_map, he]
        simp only [resolve, hc, hf', conc, Deferred.ofValue, Sem.run_bind, Sem.run_pure, Result.andThen, invoke, e1]
        congr 2
        simp
    · trivial
  · rename_i id hf
    split
    · rename_i xs hxs
      obtain ⟨hb, he⟩ := evs_ok hE hxs
      obtain ⟨hbf, hf'⟩ := hE f _ hf
      simp only [bd] at hbf
      refine ⟨hb, hbf, ?_⟩
      have e1 : c.args.map ρ = (xs.map (conc θ)).toArray := by apply Array.toList_inj.1; rw [Array.toList_map, he]
      simp only [resolve, hc, hf', conc, Deferred.ofValue, Sem.run_bind, Sem.run_pure, Result.andThen, invoke, e1]
      congr 2
      simp
    · trivial
  · trivial
theorem xmem_ok (hT : ∀ t i, tb.ty.get t = some i → TyOK P t i) (hK : ∀ t n, tb.keyEq.get t = some n → KeyOK P t n) (hR : R base θ h w) (hE : EvOK θ h.next ev ρ) (o : Oper) : XOK P base θ h w (execOp ρ o) (xmem tb h ev o) := by
  unfold xmem
  split <;> rename_i ho <;> first | trivial | (unfold execOp; simp only [ho])
  · exact (xAlloc_ok hT).xok hR
  · exact (xBox_ok hE).xok hR
  · exact xStore_ok hT hR hE
  · exact (xBuildSlice_ok hT hE).xok hR
  · exact (xMakeSlice_ok hT hE).xok hR
  · exact xMakeMap_ok.xok hR
  · exact xLookup_ok hT hK hR hE
  · exact xMapUpd_ok hT hK hR hE
  · exact xMapEntry_ok hT hK hR hE
  · exact xEntryStore_ok hR hE
  · exact xSliceE_ok hT hR hE
  · rename_i c
    unfold xCall
    split
    · rename_i hc
      have := xAppend_ok (P := P) (ty := o.type) hT hR hE (args := c.args) (ts := c.argTypes)
      have e : ∀ K : Next → Sem Next, ((do let d ← resolve ρ c o.type; invoke d.target d.args) : Sem Next).run P w = (do pure (Next.value (← Builtin.append_ c.argTypes o.type (c.args.map ρ))) : Sem Next).run P w := fun _ => by
        simp only [resolve, hc, invoke, builtin, Sem.run_bind, Sem.run_pure, Result.andThen]
      generalize hX : xAppend tb h ev c.args c.argTypes = X at this ⊢
      cases X with
      | val v h' => simp only [XOK] at this ⊢; rw [e pure]; exact this
      | skip h' => simp only [XOK] at this ⊢; rw [e pure]; exact this
      | enter f args => simp only [XOK] at this ⊢; rw [e pure]; exact this
      | round id args => simp only [XOK] at this ⊢; rw [e pure]; exact this
      | no => trivial
    · rename_i f hc
      exact xEnter_ok hE hc
    · trivial
end

end PartOfZxh

section PartOfZxi
open Go Go.RowKit
abbrev FW (rd : Option Nat) : Fence := { Fence.wide with round := rd }
theorem FW_calls {rd : Option Nat} {n : Nat} {P : Program} {f : FuncId} {args : Array Value} {w : World} {R : Ending → World → Prop} (h : CallsIn (FW none) n P f args w R) : CallsIn (FW rd) n P f args w R := h
noncomputable def concD (θ : Th) : AD → Deferred
  | .col id => { target := .collected (θ id).b, args := #[] }
  | .call f cap args => { target := .fn (.func f) (cap.map (conc θ)).toArray, args := (args.map (conc θ)).toArray }
def bdD (θ : Th) (n : Nat) : AD → Prop
  | .col id => id < n
  | .call _ cap args => bdl θ n cap ∧ bdl θ n args
theorem bdD_ext {θ θ' : Th} {n m : Nat} (he : Ext θ θ' n) (hn : n ≤ m) {d : AD} (h : bdD θ n d) : bdD θ' m d := by
  cases d with
  | col id => exact Nat.lt_of_lt_of_le h hn
  | call f cap args => exact ⟨bdl_ext he hn h.1, bdl_ext he hn h.2⟩
theorem concD_ext {θ θ' : Th} {n : Nat} (he : Ext θ θ' n) {d : AD} (h : bdD θ n d) : concD θ' d = concD θ d := by
  cases d with
  | col id => simp only [concD, he id h]
  | call f cap args => simp only [concD, concl_ext he h.1, concl_ext he h.2]
structure AOK (θ : Th) (n : Nat) (A : AA) (a : Act) : Prop where
  size : a.tmps.size = A.n
  kt : KT θ n A.t a.tmps
  ds : a.defers = A.ds.map (concD θ)
  bds : ∀ d ∈ A.ds, bdD θ n d
theorem AOK.ext {θ θ' : Th} {n m : Nat} {A : AA} {a : Act} (h : AOK θ n A a) (he : Ext θ θ' n) (hn : n ≤ m) : AOK θ' m A a :=
  ⟨h.size, h.kt.ext he hn, by rw [h.ds]; exact (List.map_congr_left fun d hd => concD_ext he (h.bds d hd)).symm, fun d hd => bdD_ext he hn (h.bds d hd)⟩
theorem AOK.ev {θ : Th} {n : Nat} {A : AA} {a : Act} (h : AOK θ n A a) : EvOK θ n A.ev a.eval := fun x v hv => by
  cases x with
  | tmp t =>
    obtain ⟨b, e⟩ := h.kt t v hv
    exact ⟨b, by simp [Act.eval, e]⟩
  | const v' => simp only [AA.ev, Option.some.injEq] at hv; subst hv; exact ⟨by simp [bd], by simp [Act.eval, conc]⟩
  | global g => simp [AA.ev] at hv
  | func f => simp only [AA.ev, Option.some.injEq] at hv; subst hv; exact ⟨by simp [bd], by simp [Act.eval, conc]⟩
theorem AOK.put {θ : Th} {n : Nat} {A A' : AA} {a : Act} (h : AOK θ n A a) {dst : Option Tmp} {v : AV} (hp : A.put dst v = some A') (hv : bd θ n v) : AOK θ n A' (a.put dst (conc θ v)) := by
  cases dst with
  | none => simp only [AA.put, Option.some.injEq] at hp; subst hp; exact h
  | some d =>
    obtain ⟨t, m, ds⟩ := A
    simp only [AA.put] at hp
    cases hb : (Nat.blt d 1024 && Nat.blt d m) with
    | false => rw [hb] at hp; cases hp
    | true =>
      rw [hb] at hp
      simp only [cond_true, Option.some.injEq] at hp
      subst hp
      simp only [Bool.and_eq_true] at hb
      have h1 : d < 1024 := Nat.le_of_ble_eq_true hb.1
      have h2 : d < m := Nat.le_of_ble_eq_true hb.2
      exact ⟨by simp [Act.put]; exact h.size, h.kt.set hv h1 (by rw [h.size]; exact h2), h.ds, h.bds⟩
noncomputable def concE : AExit → Exit
  | .norm => .normal
  | .exit id => .exit id
  | .goto l => .goto l
  | .ret => .ret
def rdB (θ : Th) (rd : Option Nat) : Option Nat := rd.map fun l => (θ l).b
def Behind (base : Bs) (θ : Th) (h : AH) (w : World) (e : AExit) (A' : AA) (h' : AH) : Exit → Act → World → Prop :=
  fun ex a' w' => ex = concE e ∧ ∃ θ', Post base θ h w θ' h' w' ∧ AOK θ' h'.next A' a'
def Sound (P : Program) (base : Bs) (rec : Rec) : Prop :=
  ∀ c rd A h e A' h', rec c rd A h = .ok e A' h' → ∀ θ a w, R base θ h w → AOK θ h.next A a → (∀ l, rd = some l → l < h.next) →
    c.wpIn (FW (rdB θ rd)) 0 P (Behind base θ h w e A' h') a w
def EnterOK (P : Program) (f : FuncId) : Prop := ∀ args w, (callFunc f args).run P w = .ok (.enter f args) w
structure TabOK (P : Program) (tb : Tab) (base : Bs) : Prop where
  mixed : P.follows .mixedOrders = true
  ty : ∀ t i, tb.ty.get t = some i → TyOK P t i
  key : ∀ t n, tb.keyEq.get t = some n → KeyOK P t n
  pair : ∀ t n, tb.keyEq.get t = some n → PairOK P t n
  fn : ∀ f fn, tb.fn.get f = some fn → P.funcs[f]? = some fn ∧ EnterOK P f
  nat : ∀ f g, tb.nat.get f = some g → EnterOK P f ∧ ∀ θ h w args v, R base θ h w → bdl θ h.next args → g h args = some v →
    bd θ h.next v ∧ Calls P f (args.map (conc θ)).toArray w fun e w' => e = .returned (conc θ v) ∧ Below w.heap.size w w'
  dnat : ∀ f g, tb.dnat.get f = some g → EnterOK P f ∧ ∀ θ h w args h', R base θ h w → bdl θ h.next args → g h args = some h' →
    CallsDIn (FW none) 0 P f (args.map (conc θ)).toArray .returning w fun e u' w' => (∃ v, e = .returned v) ∧ settle u' = .returning ∧ ∃ θ', Post base θ h w θ' h' w'
def CallOK (P : Program) (base : Bs) (θ : Th) (h : AH) (w : World) (v : AV) (h' : AH) : Ending → World → Prop :=
  fun e w' => ∃ θ', e = .returned (conc θ' v) ∧ bd θ' h'.next v ∧ Post base θ h w θ' h' w'
section
variable {P : Program} {tb : Tab} {rec : Rec} {θ : Th} {base : Bs} {h : AH} {w : World}
theorem args0_get : ∀ (l : List AV) (i : Nat) (t : T AV) (j : Nat), i + l.length ≤ 1024 → (args0 l i t).get j = if i ≤ j ∧ j < i + l.length then l[j - i]? else t.get j
  | [], i, t, j, h => by simp [args0]; omega
  | v :: vs, i, t, j, h => by
    simp only [args0, List.length_cons] at h ⊢
    rw [args0_get vs (i + 1) _ j (by omega)]
    by_cases hj : j = i
    · subst hj
      rw [if_neg (by omega), if_pos (by omega), T.get_set_same _ 11 t j (by omega)]
      simp
    · rw [T.get_set_other _ 11 t i j hj]
      by_cases hc : i + 1 ≤ j ∧ j < i + 1 + vs.length
      · rw [if_pos hc, if_pos (by omega), show j - i = (j - (i + 1)) + 1 by omega]
        simp
      · rw [if_neg hc, if_neg (by omega)]
theorem apart_load {t : TypeId} {i : TyI} (hTi : TyOK P t i) {n id off : Nat} {cs : List AV} {el : TypeId} {row : Option Nat} (hok : OOK θ n id (.cells cs el row) w) {v : AV} (hx : apart i.agg cs off i.size = some v) :
    bd θ n v ∧ (loadVar t ⟨(θ id).b, off, none⟩).run P w = .ok (conc θ v) w := by
  have hb : bdl θ n cs := hok.1
  unfold apart at hx
  unfold loadVar
  rw [Sem.run_bind, run_isAgg' hTi w]
  cases ha : i.agg with
  | true =>
    rw [ha] at hx
    simp only [if_true] at hx
    split at hx
    · rename_i hle
      cases hx
      refine ⟨?_, ?_⟩
      · simp only [bd]; exact fun x hx => hb x (List.mem_of_mem_drop (List.mem_of_mem_take hx))
      · have hl : (loadCells ⟨(θ id).b, off, none⟩ (((cs.drop off).take i.size).map (conc θ)).length).run P w = .ok (((cs.drop off).take i.size).map (conc θ)).toArray w :=
          run_loadCells_list (P := P) w _ _ fun j u hu => by
            rw [List.getElem?_map] at hu
            obtain ⟨x, hx, rfl⟩ := map_some hu
            rw [List.getElem?_take] at hx
            split at hx
            · rw [List.getElem?_drop] at hx
              rw [add_plain']
              exact hok.cell hx
            · cases hx
        have hlen : (((cs.drop off).take i.size).map (conc θ)).length = i.size := by simp; omega
        rw [hlen] at hl
        simp [Result.andThen, Sem.run_bind, run_size hTi w, hl, conc]
    · cases hx
  | false =>
    rw [ha] at hx
    simp only [Bool.false_eq_true, if_false] at hx
    refine ⟨hb v (List.mem_of_getElem? hx), ?_⟩
    have := hok.cell hx
    simp [Result.andThen, load, Sem.run, this]
def resv (tmps : Array Value) : ResultVar → Sem Value
  | .tmp t => pure (tmps.getD t undef)
  | .cell a t => do loadVar t (← asAddr (tmps.getD a undef))
theorem results_eq (fn : Func) (tmps : Array Value) : results fn tmps = (do let vs ← fn.results.mapM (resv tmps); pure (if h : vs.size = 1 then vs[0] else .tuple vs)) := by
  unfold results
  rfl
theorem aresults_ok (hT : ∀ t i, tb.ty.get t = some i → TyOK P t i) (hR : R base θ h w) {A : AA} {tmps : Array Value} (hk : KT θ h.next A.t tmps) : ∀ {rs : List ResultVar} {vs : List AV}, aresults h A tb rs = some vs →
    bdl θ h.next vs ∧ (rs.mapM (resv tmps)).run P w = .ok (vs.map (conc θ)) w
  | [], vs, hx => by cases hx; exact ⟨fun x hx => (by cases hx), rfl⟩
  | r :: rs, vs, hx => by
    simp only [aresults] at hx
    cases h1 : aresult h A tb r with
    | none => rw [h1] at hx; cases hx
    | some v =>
      cases h2 : aresults h A tb rs with
      | none => rw [h1, h2] at hx; cases hx
      | some us =>
        rw [h1, h2] at hx
        cases hx
        obtain ⟨c, d⟩ := aresults_ok hT hR hk h2
        have hv : bd θ h.next v ∧ (resv tmps r).run P w = .ok (conc θ v) w := by
          cases r with
          | tmp t =>
            obtain ⟨a, b⟩ := hk t v h1
            exact ⟨a, by simp [resv, b]⟩
          | cell a t =>
            simp only [aresult] at h1
            split at h1
            · rename_i i id off hi ha
              split at h1
              · rename_i cs el row hm
                obtain ⟨_, e⟩ := hk a _ ha
                obtain ⟨p, q⟩ := apart_load (hT t i hi) (hR.obj id _ hm).2.2 h1
                exact ⟨p, by simp [resv, e, conc, asAddr, Sem.run_bind, Result.andThen, q]⟩
              · cases h1
            · cases h1
        refine ⟨fun y hy => ?_, ?_⟩
        · rcases List.mem_cons.1 hy with rfl | hy
          · exact hv.1
          · exact c y hy
        · rw [List.mapM_cons, Sem.run_bind, hv.2]
          simp only [Result.andThen, Sem.run_bind, d, Sem.run_pure, List.map_cons]
theorem leaves_ok (hB : TabOK P tb base) {fn : Func} {tmps : Array Value} {R' : Ending → World → Prop} : ∀ {ds : List AD} {h h' : AH} {θ : Th} {w : World}, leaves tb ds h = some h' → R base θ h w → (∀ d ∈ ds, bdD θ h.next d) →
    (∀ θ' w', Post base θ h w θ' h' w' → ∃ v, (results fn tmps).run P w' = .ok v w' ∧ R' (.returned v) w') → LeavesInM (FW none) 0 P fn tmps R' (ds.map (concD θ)) .returning w
  | [], h, h', θ, w, hl, hR, hb, hk => by
    cases hl
    exact hk θ w (Post.refl hR)
  | .col id :: ds, h, h', θ, w, hl, hR, hb, hk => by
    simp only [leaves] at hl
    split at hl
    · rename_i hm
      split at hl
      · rename_i h1 hp
        obtain ⟨hidn, hbase, hok⟩ := hR.obj id _ hm
        have hheap : w.heap[(θ id).b]? = some (.deferred (some [])) := hok
        have hP : Post base θ h w θ h1 (w.putObj (θ id).b (.deferred none)) :=
          Post.put hR hm hp (fun k hk => World.putObj_heap_other hk) (by simp) (putObj_below hbase) (World.putObj_heap_same hok.lt)
        refine ⟨by simp, .inl ⟨(θ id).b, _, rfl, run_takeDeferred hheap, ?_⟩⟩
        exact leaves_ok hB hl hP.r (fun d hd => by have := hb d (by simp [hd]); rw [(AH.put_spec hp).2.2]; exact this) fun θ' w' hP' => hk θ' w' (hP.trans hP')
      · cases hl
    · cases hl
  | .call f cap args :: ds, h, h', θ, w, hl, hR, hb, hk => by
    simp only [leaves] at hl
    split at hl
    · rename_i g hg
      split at hl
      · rename_i h1 hgr
        obtain ⟨hent, hc⟩ := hB.dnat f g hg
        have hbd : bdD θ h.next (.call f cap args) := hb _ (by simp)
        have hba : bdl θ h.next (args ++ cap) := fun y hy => by
          rcases List.mem_append.1 hy with hy | hy
          · exact hbd.2 y hy
          · exact hbd.1 y hy
        have hcall := hc θ h w (args ++ cap) h1 hR hba hgr
        have eargs : (args.map (conc θ)).toArray ++ (cap.map (conc θ)).toArray = ((args ++ cap).map (conc θ)).toArray := by simp
        refine ⟨by simp, .inr ⟨by simp [FW, Fence.wide], .func f, (cap.map (conc θ)).toArray, f, ((args ++ cap).map (conc θ)).toArray, rfl, ?_, fun _ _ => trivial, ?_⟩⟩
        · simp only [concD, invoke, eargs]
          exact hent _ _
        · refine CallsDIn.mono hcall fun e u' w' he => ?_
          obtain ⟨⟨v, rfl⟩, hu, θ', hP⟩ := he
          simp only [hu]
          have hrest := leaves_ok hB (θ := θ') (R' := R') (fn := fn) (tmps := tmps) hl hP.r (fun d hd => bdD_ext hP.ext hP.next (hb d (by simp [hd]))) fun θ'' w'' hP' => hk θ'' w'' (hP.trans hP')
          rw [List.map_congr_left fun d hd => concD_ext hP.ext (hb d (by simp [hd]))] at hrest
          exact hrest
      · cases hl
    · cases hl
theorem xcall_ok (hB : TabOK P tb base) (hS : Sound P base rec) (hR : R base θ h w) {f : FuncId} {args : List AV} (hb : bdl θ h.next args) {v : AV} {h' : AH} (hx : xcall tb rec f args h = some (v, h')) :
    EnterOK P f ∧ CallsIn (FW none) 0 P f (args.map (conc θ)).toArray w (CallOK P base θ h w v h') := by
  unfold xcall at hx
  split at hx
  · rename_i g hg
    obtain ⟨v', hv', he⟩ := map_some hx
    cases he
    obtain ⟨hent, hc⟩ := hB.nat f g hg
    obtain ⟨hbv, hcalls⟩ := hc θ h w args v hR hb hv'
    refine ⟨hent, callsIn_wide.2 (hcalls.mono fun e w' he => ?_)⟩
    obtain ⟨rfl, hbel⟩ := he
    exact ⟨θ, rfl, hbv, Post.more hR hbel⟩
  · split at hx <;> try (cases hx; done)
    rename_i fn hfn
    split at hx <;> try (cases hx; done)
    rename_i c hc
    split at hx <;> try (cases hx; done)
    rename_i hlen
    obtain ⟨hl1, hl2⟩ := hlen
    split at hx <;> try (cases hx; done)
    rename_i e A h1 hrec
    split at hx <;> try (cases hx; done)
    rename_i he
    split at hx <;> try (cases hx; done)
    rename_i h2 hlv
    obtain ⟨hpf, hent⟩ := hB.fn f fn hfn
    refine ⟨hent, callsIn_of_wp_marks hpf hc trivial ?_⟩
    have hA0 : AOK θ h.next { t := args0 args 0 .e, n := fn.ntmps, ds := [] } { tmps := (args.map (conc θ)).toArray ++ Array.replicate (fn.ntmps - (args.map (conc θ)).toArray.size) undef, defers := [] } := by
      refine ⟨by simp; omega, fun i u hu => ?_, rfl, fun d hd => by cases hd⟩
      rw [args0_get args 0 .e i (by omega)] at hu
      split at hu
      · rename_i hi
        simp only [Nat.sub_zero] at hu
        refine ⟨hb u (List.mem_of_getElem? hu), ?_⟩
        simp only [Array.getElem?_append]
        rw [if_pos (by simp; omega)]
        simp [hu]
      · cases hu
    refine wpIn_mono (hS c none _ h e A h1 hrec θ _ w hR hA0 (by simp)) fun ex a' w' hbe => ?_
    obtain ⟨hex, θ1, hP, hA⟩ := hbe
    have key : LeavesInM (FW none) 0 P fn a'.tmps (CallOK P base θ h w v h') a'.defers .returning w' := by
      rw [hA.ds]
      refine leaves_ok hB hlv hP.r hA.bds fun θ' w'' hP' => ?_
      have hA' := hA.ext hP'.ext hP'.next
      cases hr : aresults h2 A tb fn.results.toList with
      | none => rw [hr] at hx; cases hx
      | some vs =>
        rw [hr] at hx
        obtain ⟨hbv, hrun⟩ := aresults_ok hB.ty hP'.r hA'.kt hr
        have hres : (results fn a'.tmps).run P w'' = .ok (if h : (vs.map (conc θ')).toArray.size = 1 then (vs.map (conc θ')).toArray[0] else .tuple (vs.map (conc θ')).toArray) w'' := by
          have em : (fn.results.mapM (resv a'.tmps)).run P w'' = .ok (vs.map (conc θ')).toArray w'' := by simp [Array.mapM_eq_mapM_toList, hrun]
          rw [results_eq, Sem.run_bind, em]
          rfl
        refine ⟨_, hres, θ', ?_⟩
        have hP2 := hP.trans hP'
        match vs, hx, hbv with
        | [], hx, hbv => cases hx; exact ⟨by simp [conc], by simp only [bd]; exact hbv, hP2⟩
        | [u], hx, hbv => cases hx; exact ⟨by simp, hbv _ (by simp), hP2⟩
        | u :: u' :: us, hx, hbv => cases hx; exact ⟨by simp [conc], by simp only [bd]; exact hbv, hP2⟩
    rcases he with rfl | rfl <;> (subst hex; exact key)
theorem params0_ok {n : Nat} : ∀ {l : List (Tmp × AV)} {t t' : T AV} {m : Nat} {tmps : Array Value}, params0 l t m = some t' → KT θ n t tmps → tmps.size = m → (∀ p ∈ l, bd θ n p.2) →
    KT θ n t' ((l.map fun p => (p.1, conc θ p.2)).foldl (fun tmps (t, a) => tmps.setIfInBounds t a) tmps) ∧ ((l.map fun p => (p.1, conc θ p.2)).foldl (fun tmps (t, a) => tmps.setIfInBounds t a) tmps).size = m
  | [], t, t', m, tmps, hp, hk, hm, hb => by cases hp; exact ⟨hk, hm⟩
  | (d, v) :: r, t, t', m, tmps, hp, hk, hm, hb => by
    simp only [params0] at hp
    split at hp
    · rename_i hc
      simp only [List.map_cons, List.foldl_cons]
      exact params0_ok hp (hk.set (hb (d, v) (by simp)) hc.1 (by rw [hm]; exact hc.2)) (by simp [hm]) fun p hp' => hb p (by simp [hp'])
    · cases hp
theorem xround_ok (hB : TabOK P tb base) (hS : Sound P base rec) (hR : R base θ h w) {id : Nat} {args : List AV} (hb : bdl θ h.next args) {v : AV} {h' : AH} (hx : xround rec id args h = some (v, h')) (rd : Option Nat) :
    ∃ f tmps assign body, (Instr.yield (θ id).b (args.map (conc θ)).toArray).run P w = .ok (.round (θ id).b f tmps assign body) w ∧ RoundIn (FW rd) 0 P (θ id).b f tmps assign body w (CallOK P base θ h w v h') := by
  unfold xround at hx
  split at hx <;> try (cases hx; done)
  rename_i r hm
  split at hx <;> try (cases hx; done)
  rename_i hc
  obtain ⟨hc1, hc2, hc3⟩ := hc
  split at hx <;> try (cases hx; done)
  rename_i t hpar
  split at hx <;> try (cases hx; done)
  rename_i A h1 hrec1
  split at hx <;> try (cases hx; done)
  rename_i r1 hm1
  split at hx <;> try (cases hx; done)
  rename_i hc1'
  split at hx <;> try (cases hx; done)
  rename_i h2 hset1
  split at hx <;> try (cases hx; done)
  rename_i e A' h3 hrec2
  split at hx <;> try (cases hx; done)
  rename_i r3 hm3
  split at hx <;> try (cases hx; done)
  rename_i h4 hset2
  cases hx
  obtain ⟨hidn, hbase, hok⟩ := hR.obj id _ hm
  obtain ⟨hdfr, L, hL, hst, hst', hpend, hps, has, hbo, hkt, hnt, hdef⟩ := hok
  have hyield := run_yield (P := P) (args := (args.map (conc θ)).toArray) hL (by simp [hps, hc3])
  refine ⟨L.fn, _, L.assign, L.body, hyield, ?_⟩
  have hzip : ((L.params.zip (args.map (conc θ)).toArray).toList) = (r.params.toList.zip args).map fun p => (p.1, conc θ p.2) := by
    rw [Array.toList_zip, hps, List.toList_toArray, List.zip_map_right]; rfl
  have hpk := params0_ok (θ := θ) (n := h.next) hpar hkt hnt (fun p hp => hb p.2 (List.of_mem_zip hp).2)
  rw [← hzip, Array.foldl_toList] at hpk
  have hA0 : AOK θ h.next { t := t, n := r.nt, ds := [] } { tmps := (L.params.zip (args.map (conc θ)).toArray).foldl (fun tmps (t, a) => tmps.setIfInBounds t a) L.tmps, defers := [] } :=
    ⟨hpk.2, hpk.1, rfl, fun d hd => by cases hd⟩
  refine roundIn_of_wpIn trivial ?_
  have h1' := hS _ _ _ _ _ _ _ hrec1 θ _ w hR hA0 (fun l hl => by cases hl; exact hidn)
  rw [has]
  refine wpIn_mono h1' fun ex a1 w1 hbe => ?_
  obtain ⟨hex, θ1, hP1, hA1⟩ := hbe
  subst hex
  show ∃ w₂, _
  obtain ⟨hidn1, hbase1, hok1⟩ := hP1.r.obj id _ hm1
  obtain ⟨hdfr1, L1, hL1, hst1, hst1', hpend1, hps1, has1, hbo1, hkt1, hnt1, hdef1⟩ := hok1
  have hbeq : (θ1 id).b = (θ id).b := by rw [hP1.ext id hidn]
  rw [hbeq] at hL1 hbase1
  have hready : L1.state = .ready := by rw [hst1 (.inl hc1'.2)]; simp [lstate, hc1'.1, hc1'.2]
  refine ⟨_, run_beginRound (P := P) hL1 hready, ?_⟩
  have hlt1 : (θ id).b < w1.heap.size := (Array.getElem?_eq_some_iff.1 hL1).1
  have hsp1 := AH.put_spec hset1
  have hP2 : Post base θ1 h1 w1 θ1 h2 (w1.putObj (θ id).b (.loop { L1 with state := .busy })) := by
    refine Post.put hP1.r hm1 hset1 (fun k hk => World.putObj_heap_other (by rw [← hbeq]; exact hk)) (by simp) (putObj_below hbase1) ?_
    refine ⟨hdfr1, { L1 with state := .busy }, by rw [hbeq]; exact World.putObj_heap_same hlt1, fun _ => by simp [lstate], fun h => by simp at h, hpend1, hps1, has1, hbo1, hkt1, hnt1, hdef1⟩
  have hbody : L1.body = L.body ∨ True := .inr trivial
  have hA1' : AOK θ1 h2.next A a1 := hA1.ext (Ext.refl _ _) (by rw [hsp1.2.2]; exact Nat.le_refl _)
  have h2' := hS _ _ _ _ _ _ _ hrec2 θ1 a1 _ hP2.r hA1' (fun l hl => by cases hl; rw [hsp1.2.2]; exact hidn1)
  simp only [rdB, Option.map_some, hbeq] at h2'
  rw [hbo]
  refine wpIn_mono h2' fun ex a2 w2 hbe => ?_
  obtain ⟨hex, θ2, hP3, hA2⟩ := hbe
  obtain ⟨hidn3, hbase3, hok3⟩ := hP3.r.obj id _ hm3
  obtain ⟨hdfr3, L3, hL3, hst3, hst3', hpend3, hps3, has3, hbo3, hkt3, hnt3, hdef3⟩ := hok3
  have hbeq3 : (θ2 id).b = (θ id).b := by rw [hP3.ext id (by rw [hsp1.2.2]; exact hidn1), hbeq]
  rw [hbeq3] at hL3 hbase3
  have hlt3 : (θ id).b < w2.heap.size := (Array.getElem?_eq_some_iff.1 hL3).1
  have hsp2 := AH.put_spec hset2
  have hfin : ∃ v' w', (Instr.endRound (θ id).b (codeOf e)).run P w2 = .ok v' w' ∧ CallOK P base θ h w (.lit (.bool (codeOf e).isNone)) h' (.returned v') w' := by
    refine ⟨_, _, run_endRound (P := P) (codeOf e) hL3, θ2, by simp [conc], by simp [bd], ?_⟩
    refine (hP1.trans (hP2.trans hP3)).trans (Post.put hP3.r hm3 hset2 (fun k hk => World.putObj_heap_other (by rw [← hbeq3]; exact hk)) (by simp) (putObj_below hbase3) ?_)
    refine ⟨hdfr3, { L3 with state := if (codeOf e).isNone then .ready else .done, pending := codeOf e }, by rw [hbeq3]; exact World.putObj_heap_same hlt3, ?_, ?_, rfl, hps3, has3, hbo3, hkt3, hnt3, hdef3⟩
    · intro _; cases e <;> rfl
    · intro _; cases e <;> simp [codeOf]
  subst hex
  cases e <;> exact hfin
end

end PartOfZxi

section PartOfZxj0
open Go Go.RowKit
section
variable {P : Program} {tb : Tab} {rec : Rec} {θ : Th} {base : Bs} {h : AH} {w : World}
theorem wanted_ok {ops : Array Oper} {A : AA} {a : Act} {n : Nat} {o : Oper} {b : Bool} (hA : AOK θ n A a) (hx : awanted ops.toList A o = some b) : Region.wanted o (yielded ops a.tmps) = b := by
  unfold awanted at hx
  unfold Region.wanted
  split at hx
  · rename_i hg; rw [hg]; exact (Option.some.inj hx)
  · rename_i j want hg
    rw [hg]
    split at hx <;> try (cases hx; done)
    rename_i oj hj
    split at hx <;> try (cases hx; done)
    rename_i t ht
    have hj' : ops[j]? = some oj := by rw [← Array.getElem?_toList]; exact hj
    split at hx <;> try (cases hx; done)
    · rename_i u hu
      have hk := (hA.kt t _ hu).2
      rw [conc_lit] at hk
      simp only [yielded, hj', ht, Option.bind_some, hk]
      cases hx
      cases u <;> cases want <;> rfl
    · rename_i vs hu
      have hk := (hA.kt t _ hu).2
      rw [conc_lit] at hk
      simp only [yielded, hj', ht, Option.bind_some, hk]
      cases hx
      rfl
theorem not_defer {o : Oper} {ev : Operand → Option AV} (hx : (∃ v, xpure tb ev o = some v) ∨ (∃ v, xload tb h ev o = some v) ∨ asDefer o.op = none) (c : Call) : o.op ≠ .defer c := by
  intro hc
  rcases hx with ⟨v, hv⟩ | ⟨v, hv⟩ | hv
  · simp only [xpure, hc] at hv; cases hv
  · simp only [xload, hc] at hv; cases hv
  · rw [hc] at hv; cases hv
theorem wpIn_val {o : Oper} {a : Act} {ro : Option Nat} {K : Act → World → Prop} {Q : Exit → Act → World → Prop} {v : Value} {w' : World} (hd : ∀ c, o.op ≠ .defer c) (hr : (execOp a.eval o).run P w = .ok (.value v) w') (hk : K (a.put o.dst v) w') : o.wpIn (FW ro) 0 P a w K Q := by
  refine ⟨fun _ _ => trivial, ?_⟩
  rw [Oper.semAt_eq _ _ _ hd, hr, Oper.uponIn_value]
  exact hk
theorem putH_ok {A A' : AA} {a : Act} {dst : Option Tmp} {h h' : AH} {v : AV} (hx : putH A dst h v = some (A', h')) : A.put dst v = some A' ∧ h' = h := by
  unfold putH at hx
  split at hx
  · rename_i A1 hp; cases hx; exact ⟨hp, rfl⟩
  · cases hx
theorem xop_ok (hB : TabOK P tb base) (hS : Sound P base rec) (hR : R base θ h w) {A A' : AA} {a : Act} (hA : AOK θ h.next A a) {rd : Option Nat} {ops : Array Oper} {o : Oper} {h' : AH}
    (hx : xop tb rec ops.toList o rd A h = some (A', h')) {K : Act → World → Prop} {Q : Exit → Act → World → Prop} (hK : ∀ θ' a' w', Post base θ h w θ' h' w' → AOK θ' h'.next A' a' → (∃ v, a'.tmps = (a.put o.dst v).tmps) → K a' w') :
    if Region.wanted o (yielded ops a.tmps) then o.wpIn (FW (rdB θ rd)) 0 P a w K Q else (∀ f, o.about P w a.eval = some f → (FW (rdB θ rd)).fn f) ∧ K (a.put o.dst undef) w := by
  unfold xop at hx
  split at hx
  · cases hx
  · rename_i hw
    rw [wanted_ok hA hw]
    obtain ⟨hp, rfl⟩ := putH_ok (a := a) hx
    simp only [Bool.false_eq_true, if_false]
    refine ⟨fun _ _ => trivial, hK θ _ w (Post.refl hR) ?_ ?_⟩
    · have := hA.put hp (by simp [bd])
      rwa [conc_lit] at this
    · exact ⟨_, rfl⟩
  · rename_i hw
    rw [wanted_ok hA hw]
    simp only [if_true]
    unfold xop1 at hx
    split at hx
    · rename_i v hv
      obtain ⟨hp, rfl⟩ := putH_ok (a := a) hx
      obtain ⟨hb, hr⟩ := xpure_ok hB.ty hB.pair hA.ev hv w
      exact wpIn_val (not_defer (tb := tb) (h := h') (.inl ⟨v, hv⟩)) hr (hK θ _ w (Post.refl hR) (hA.put hp hb) ⟨_, rfl⟩)
    · split at hx
      · rename_i v hv
        obtain ⟨hp, rfl⟩ := putH_ok (a := a) hx
        obtain ⟨hb, hr⟩ := xload_ok hB.ty hR hA.ev hv
        exact wpIn_val (not_defer (.inr (.inl ⟨v, hv⟩))) hr (hK θ _ w (Post.refl hR) (hA.put hp hb) ⟨_, rfl⟩)
      · split at hx
        · rename_i c hc
          split at hx <;> try (cases hx; done)
          rename_i A1 hd
          obtain ⟨hp, rfl⟩ := putH_ok (a := a) hx
          obtain ⟨t, n, ds⟩ := A
          unfold xdefer at hd
          split at hd <;> try (cases hd; done)
          rename_i f hcal
          split at hd <;> try (cases hd; done)
          rename_i g first cap xs hf hxs
          cases hd
          have hop : o.op = .defer c := by
            unfold asDefer at hc
            split at hc
            · rename_i c' ho; cases hc; exact ho
            · cases hc
          obtain ⟨hbf, hf'⟩ := hA.ev f _ hf
          obtain ⟨hbx, hex⟩ := evs_ok hA.ev hxs
          simp only [bd] at hbf
          have e1 : c.args.map a.eval = (xs.map (conc θ)).toArray := by apply Array.toList_inj.1; rw [Array.toList_map, hex]
          have hrun : (execOp a.eval o).run P w = .ok (.defer (concD θ (.call g cap (first ++ xs)))) w := by
            unfold execOp
            simp only [hop, resolve, hcal, hf', conc, Deferred.ofValue, Sem.run_bind, Sem.run_pure, Result.andThen, e1, concD]
            congr 3
            simp
          refine ⟨fun _ _ => trivial, ?_⟩
          show o.uponIn (FW none) 0 P a K Q ((o.semAt none a.eval).run P w)
          rw [Oper.semAt_none, hrun, Oper.uponIn_defer]
          refine hK θ _ w (Post.refl hR) ?_ ⟨undef, by cases o.dst <;> rfl⟩
          have hA1 : AOK θ h'.next ⟨t, n, .call g cap (first ++ xs) :: ds⟩ { a with defers := concD θ (.call g cap (first ++ xs)) :: a.defers } :=
            ⟨hA.size, hA.kt, by rw [hA.ds]; rfl, fun d hd => by
              rcases List.mem_cons.1 hd with rfl | hd
              · exact ⟨hbf.2, fun y hy => by
                  rcases List.mem_append.1 hy with hy | hy
                  · exact hbf.1 y hy
                  · exact hbx y hy⟩
              · exact hA.bds d hd⟩
          have := hA1.put hp (by simp [bd])
          rwa [conc_lit] at this
        · rename_i hnd
          have hd := not_defer (tb := tb) (h := h) (ev := A.ev) (o := o) (.inr (.inr hnd))
          have hm := xmem_ok hB.ty hB.key hR hA.ev o
          generalize xmem tb h A.ev o = X at hx hm
          cases X with
          | val v h1 =>
            obtain ⟨hp, rfl⟩ := putH_ok (a := a) hx
            obtain ⟨θ', w', hr, hb, hP⟩ := hm
            exact wpIn_val hd hr (hK θ' _ w' hP ((hA.ext hP.ext hP.next).put hp hb) ⟨_, rfl⟩)
          | skip h1 =>
            obtain ⟨hp, rfl⟩ := putH_ok (a := a) hx
            obtain ⟨θ', w', hr, hP⟩ := hm
            refine ⟨fun _ _ => trivial, ?_⟩
            rw [Oper.semAt_eq _ _ _ hd, hr, Oper.uponIn_skip]
            have := (hA.ext hP.ext hP.next).put hp (show bd θ' h'.next (.lit undef) by simp [bd])
            rw [conc_lit] at this
            exact hK θ' _ w' hP this ⟨_, rfl⟩
          | enter f args =>
            obtain ⟨hb, hr⟩ := hm
            simp only [xmemPut] at hx
            cases hc : xcall tb rec f args h with
            | none => rw [hc] at hx; cases hx
            | some p =>
              obtain ⟨v, h1⟩ := p
              rw [hc] at hx
              obtain ⟨hp, rfl⟩ := putH_ok (a := a) hx
              obtain ⟨hent, hcall⟩ := xcall_ok hB hS hR hb hc
              refine ⟨fun _ _ => trivial, ?_⟩
              rw [Oper.semAt_eq _ _ _ hd, hr, hent, Oper.uponIn_enter]
              refine ⟨by simp [FW, Fence.wide], (FW_calls hcall).mono fun e w' he => ?_⟩
              obtain ⟨θ', rfl, hbv, hP⟩ := he
              exact hK θ' _ w' hP ((hA.ext hP.ext hP.next).put hp hbv) ⟨_, rfl⟩
          | round id args =>
            obtain ⟨hb, hid, hr⟩ := hm
            simp only [xmemPut] at hx
            cases hc : xround rec id args h with
            | none => rw [hc] at hx; cases hx
            | some p =>
              obtain ⟨v, h1⟩ := p
              rw [hc] at hx
              obtain ⟨hp, rfl⟩ := putH_ok (a := a) hx
              obtain ⟨f, tmps, assign, body, hy, hround⟩ := xround_ok hB hS hR hb hc (rdB θ rd)
              refine ⟨fun _ _ => trivial, ?_⟩
              rw [Oper.semAt_eq _ _ _ hd, hr, hy, Oper.uponIn_round]
              refine ⟨by simp [FW, Fence.wide], hround.mono fun e w' he => ?_⟩
              obtain ⟨θ', rfl, hbv, hP⟩ := he
              exact hK θ' _ w' hP ((hA.ext hP.ext hP.next).put hp hbv) ⟨_, rfl⟩
          | no => cases hx
theorem rdB_ext {θ θ' : Th} {n : Nat} (he : Ext θ θ' n) {rd : Option Nat} (hr : ∀ l, rd = some l → l < n) : rdB θ' rd = rdB θ rd := by
  cases rd with
  | none => rfl
  | some l => simp only [rdB, Option.map_some, he l (hr l rfl)]
theorem xops_ok (hB : TabOK P tb base) (hS : Sound P base rec) {rd : Option Nat} {ops : Array Oper} : ∀ (l : List Oper) (k : Nat), ops.toList.drop k = l → ∀ {θ : Th} {h : AH} {w : World} {A A' : AA} {a : Act} {h' : AH} {e : AExit}, R base θ h w → AOK θ h.next A a → (∀ l, rd = some l → l < h.next) →
    xops tb rec rd ops.toList l A h = .ok e A' h' → ∀ {Q : Exit → Act → World → Prop}, (∀ θ' a' w', e = .norm → Post base θ h w θ' h' w' → AOK θ' h'.next A' a' → Q .normal a' w') → wpOpsIn (FW (rdB θ rd)) 0 P ops Q (List.range' k l.length) a w
  | [], k, hk, θ, h, w, A, A', a, h', e, hR, hA, hrd, hx, Q, hQ => by
    cases hx
    exact hQ θ a w rfl (Post.refl hR) hA
  | o :: l, k, hk, θ, h, w, A, A', a, h', e, hR, hA, hrd, hx, Q, hQ => by
    have hok : ops[k]? = some o := by
      rw [← Array.getElem?_toList]
      have := congrArg (·[0]?) hk
      simpa using this
    have hk' : ops.toList.drop (k + 1) = l := by
      rw [← List.drop_drop, hk]; rfl
    simp only [List.length_cons, List.range'_succ]
    change (match xop tb rec ops.toList o rd A h with | some (A', h') => xops tb rec rd ops.toList l A' h' | none => .no) = .ok e A' h' at hx
    split at hx
    · rename_i A1 h1 h1x
      rw [wpOpsIn]
      simp only [hok]
      exact xop_ok hB hS hR hA h1x fun θ' a' w' hP hA' _ => by
        have hrd' : ∀ l, rd = some l → l < h1.next := fun l hl => Nat.lt_of_lt_of_le (hrd l hl) hP.next
        have := xops_ok hB hS l (k + 1) hk' hP.r hA' hrd' hx (Q := Q) fun θ'' a'' w'' he hP' hA'' => hQ θ'' a'' w'' he (hP.trans hP') hA''
        rwa [rdB_ext hP.ext hrd] at this
    · cases hx
theorem norm_of_xops {rd : Option Nat} {ops : List Oper} : ∀ (l : List Oper) {A A' : AA} {h h' : AH} {e : AExit}, xops tb rec rd ops l A h = .ok e A' h' → e = .norm
  | [], A, A', h, h', e, hx => by cases hx; rfl
  | o :: l, A, A', h, h', e, hx => by
    change (match xop tb rec ops o rd A h with | some (A', h') => xops tb rec rd ops l A' h' | none => .no) = .ok e A' h' at hx
    split at hx
    · exact norm_of_xops l hx
    · cases hx
end

end PartOfZxj0

section PartOfZxk
open Go Go.RowKit
section
variable {P : Program} {ops : Array Oper} {Q : Exit → Act → World → Prop} {S : World → Prop} {ro : Option Nat}
def YieldsH (P : Program) (ops : Array Oper) (S : World → Prop) (o : Oper) (v : Value) (a : Act) : Prop :=
  (∀ c, o.op ≠ .defer c) ∧ ((Region.wanted o (yielded ops a.tmps) = true ∧ ∀ w, S w → (execOp a.eval o).run P w = .ok (.value v) w) ∨ (Region.wanted o (yielded ops a.tmps) = false ∧ v = undef))
theorem YieldsH.wpOp {i : Nat} {o : Oper} {v : Value} {a : Act} (hi : ops[i]? = some o) (hy : YieldsH P ops S o v a) {K : Act → World → Prop} {w : World} (hS : S w) (hk : K (a.put o.dst v) w) : wpOpIn (FW ro) 0 P ops Q i K a w := by
  unfold wpOpIn
  simp only [hi]
  rcases hy.2 with ⟨hw, hv⟩ | ⟨hw, rfl⟩
  · simp only [hw, if_true]; exact wpIn_val hy.1 (hv w hS) hk
  · simp only [hw, Bool.false_eq_true, if_false]; exact ⟨fun _ _ => trivial, hk⟩
theorem YieldsH.of_same {o : Oper} {v : Value} {a a' : Act} (hy : YieldsH P ops S o v a) (he : execOp a'.eval o = execOp a.eval o) (hw : Region.wanted o (yielded ops a'.tmps) = Region.wanted o (yielded ops a.tmps)) : YieldsH P ops S o v a' := by
  unfold YieldsH at *; rw [he, hw]; exact hy
theorem semAt_put {o : Oper} {a : Act} {dst : Option Tmp} {v : Value} (hs : ∀ cs b, o.op ≠ .select cs b) (hd : ∀ d, dst = some d → d ∉ o.looksAt ops) : o.semAt ro (a.put dst v).eval = o.semAt ro a.eval := by
  cases ro with
  | none => simp only [Oper.semAt_none]; exact execOp_put o hs a dst v hd
  | some l =>
    cases ho : o.op with
    | defer c =>
      have := execOp_put o hs a dst v hd
      unfold Oper.semAt
      simp only [ho]
      have e := resolve_congr (ρ := (a.put dst v).eval) (ρ' := a.eval) c o.type (fun x hx => Act.eval_put fun d hdd hxd => hd d hdd (by
        subst hxd
        exact List.mem_append_left _ (List.mem_filterMap.2 ⟨.tmp d, by rw [ho]; simpa [Op.operands] using hx, rfl⟩)))
      simp only [e]
    | _ => rw [Oper.semAt_eq _ _ _ (by rw [ho]; intro c hc; cases hc), Oper.semAt_eq _ _ _ (by rw [ho]; intro c hc; cases hc)]; exact execOp_put o hs a dst v hd
theorem wpOp_putH {j : Nat} {oi oj : Oper} {v : Value} (hj : ops[j]? = some oj) (hap : oi.apart ops oj = true) (hsi : ∀ cs b, oi.op ≠ .select cs b) (hsj : ∀ cs b, oj.op ≠ .select cs b)
    (hQ : ∀ c a w, Q (.panic c) (a.put oi.dst v) w → Q (.panic c) a w) {K : Act → World → Prop} {a : Act} {w : World} (hy : YieldsH P ops S oi v a) (h : wpOpIn (FW ro) 0 P ops Q j K (a.put oi.dst v) w) :
    wpOpIn (FW ro) 0 P ops Q j (fun a' w' => YieldsH P ops S oi v a' ∧ K (a'.put oi.dst v) w') a w := by
  obtain ⟨h1, h2, h3⟩ := Oper.apart_spec hap
  have keep : ∀ a : Act, YieldsH P ops S oi v a → ∀ u, YieldsH P ops S oi v (a.put oj.dst u) := fun a hy u => hy.of_same (execOp_put oi hsi a oj.dst u h3) (wanted_put oi a oj.dst u h3)
  have keepD : ∀ d, YieldsH P ops S oi v { a with defers := d :: a.defers } := fun d => hy.of_same rfl rfl
  unfold wpOpIn at *
  simp only [hj] at *
  rw [wanted_put oj a oi.dst v h1] at h
  split
  · rename_i hw
    simp only [hw, if_true] at h
    refine ⟨fun _ _ => trivial, ?_⟩
    have h := h.2
    rw [semAt_put hsj h1] at h
    generalize (oj.semAt ro a.eval).run P w = r at *
    cases r with
    | ok x w' =>
      cases x <;> simp only [Oper.uponIn] at h ⊢
      case value u => exact ⟨keep a hy u, by rw [← Act.put_comm a v u h2]; exact h⟩
      case skip => exact ⟨keep a hy _, by rw [← Act.put_comm a v undef h2]; exact h⟩
      case defer d =>
        refine ⟨keep _ (keepD d) _, ?_⟩
        rw [← Act.put_comm _ v undef h2, ← Act.put_defers]
        exact h
      case enter f args =>
        refine ⟨h.1, h.2.mono fun e w'' he => ?_⟩
        cases e with
        | returned u => exact ⟨keep a hy u, by rw [← Act.put_comm a v u h2]; exact he⟩
        | panicked c => exact hQ _ _ _ he
        | outgrown => exact he
      case row row args => exact ⟨h.1, h.2.mono fun u w'' he => ⟨keep a hy u, by rw [← Act.put_comm a v u h2]; exact he⟩⟩
      case round l f tmps assign body =>
        refine ⟨h.1, h.2.mono fun e w'' he => ?_⟩
        cases e with
        | returned u => exact ⟨keep a hy u, by rw [← Act.put_comm a v u h2]; exact he⟩
        | panicked c => exact hQ _ _ _ he
        | outgrown => exact he
    | halt x w' =>
      cases x <;> simp only [Oper.uponIn] at h ⊢
      case panic u => exact hQ _ _ _ h
  · rename_i hw
    simp only [hw] at h
    exact ⟨fun _ _ => trivial, keep a hy _, by rw [← Act.put_comm a v undef h2]; exact h.2⟩
def Closed (ops : Array Oper) (LC : Array Bool) : Prop := ∀ f o, ops[f]? = some o → LC.getD f false = true → ∀ e ∈ o.after, Region.binds .any e = true → LC.getD e.on false = true
def G (ops : Array Oper) (S : World → Prop) (LC : Array Bool) (w : World) : Prop := (∃ f, fullAt ops f = true ∧ LC.getD f false = true) ∨ S w
theorem Closed.set {LC : Array Bool} (hc : Closed ops LC) {i : Nat} (hi : i ∈ Region.ready .any ops LC) : Closed ops (LC.setIfInBounds i true) := by
  intro f o ho hf e he hb
  by_cases hfi : i = f
  · subst hfi
    obtain ⟨_, o', ho', hall⟩ := mem_ready.1 hi
    rw [ho] at ho'; cases ho'
    exact getD_set_true (hall e he hb)
  · rw [getD_set_ne false hfi] at hf
    exact getD_set_true (hc f o ho hf e he hb)
theorem fullAt_ok {f : Nat} (hf : fullAt ops f = true) : ∃ o, ops[f]? = some o ∧ firstKind o.op = false ∧ ∀ i oi, ops[i]? = some oi → isLoad oi.op = true → ∃ e ∈ o.after, Region.binds .any e = true ∧ e.on = i := by
  unfold fullAt at hf
  split at hf <;> try (cases hf; done)
  rename_i o ho
  simp only [Bool.and_eq_true, Bool.not_eq_true', List.all_eq_true, List.mem_range] at hf
  refine ⟨o, ho, hf.1, fun i oi hoi hl => ?_⟩
  have := hf.2 i (Array.getElem?_eq_some_iff.1 hoi).1
  simp only [hoi, hl, Bool.not_true, Bool.false_or] at this
  unfold depends at this
  rw [ho] at this
  obtain ⟨e, he, hb⟩ := Array.any_eq_true'.1 this
  simp only [Bool.and_eq_true, beq_iff_eq] at hb
  exact ⟨e, he, hb.1, hb.2⟩
def wpHeld (P : Program) (ops : Array Oper) (Q : Exit → Act → World → Prop) (S : World → Prop) (ro : Option Nat) : Nat → Array Bool → Act → World → Prop
  | 0, listed, a, w => Region.ready .any ops listed = [] ∧ Q .normal a w
  | k + 1, listed, a, w => (Region.ready .any ops listed = [] → Q .normal a w) ∧ ∀ i ∈ Region.ready .any ops listed, wpOpIn (FW ro) 0 P ops Q i (fun a' w' => G ops S (listed.setIfInBounds i true) w' ∧ wpHeld P ops Q S ro k (listed.setIfInBounds i true) a' w') a w
theorem wpAny_of_wpHeld : ∀ (k : Nat) (listed : Array Bool) (a : Act) (w : World), wpHeld P ops Q S ro k listed a w → wpAnyIn (FW ro) 0 P .any ops Q k listed a w
  | 0, _, _, _, h => h
  | k + 1, _, _, _, h => ⟨h.1, fun i hi => wpOpIn_mono (fun a' w' h' => wpAny_of_wpHeld k _ a' w' h'.2) (h.2 i hi)⟩
theorem wpHeld_first {i : Nat} {oi : Oper} {v : Value} (hi : ops[i]? = some oi) (hfk : firstKind oi.op = true) (hsel : Region.noSelect ops = true) (hQ : ∀ c a w, Q (.panic c) (a.put oi.dst v) w → Q (.panic c) a w) {Si : World → Prop} (hSi : isLoad oi.op = true ∧ (∀ w, S w → Si w) ∨ ∀ w, Si w) :
    ∀ (k : Nat) (listed : Array Bool) (a : Act) (w : World), Closed ops listed →
      (∀ j oj, ops[j]? = some oj → j ≠ i → listed.getD j true = false → (∀ e ∈ oj.after, Region.binds .any e = true → e.on ≠ i) → oi.apart ops oj = true) →
      i ∈ Region.ready .any ops listed → YieldsH P ops Si oi v a → G ops S listed w →
      wpHeld P ops Q S ro k (listed.setIfInBounds i true) (a.put oi.dst v) w → wpHeld P ops Q S ro (k + 1) listed a w := by
  have hnfull : fullAt ops i = false := by
    cases hf : fullAt ops i with
    | false => rfl
    | true => obtain ⟨o, ho, hn, _⟩ := fullAt_ok hf; rw [hi] at ho; cases ho; rw [hfk] at hn; cases hn
  have hno : ∀ {LC : Array Bool}, Closed ops LC → i ∈ Region.ready .any ops LC → isLoad oi.op = true → ∀ f, fullAt ops f = true → LC.getD f false = true → False := by
    intro LC hc hr hl f hf hfl
    obtain ⟨o, ho, _, hall⟩ := fullAt_ok hf
    obtain ⟨e, he, hb, hon⟩ := hall i oi hi hl
    have h1 := hc f o ho hfl e he hb
    rw [hon] at h1
    have h0 := (mem_ready.1 hr).1
    rcases Nat.lt_or_ge i LC.size with h' | h'
    · simp [h'] at h0 h1; rw [h0] at h1; cases h1
    · simp [Array.getElem?_eq_none h'] at h1
  have hSi' : ∀ {LC : Array Bool} {w : World}, Closed ops LC → i ∈ Region.ready .any ops LC → G ops S LC w → Si w := by
    intro LC w hc hr hg
    rcases hSi with ⟨hl, hs⟩ | hs
    · rcases hg with ⟨f, hf, hfl⟩ | hg
      · exact (hno hc hr hl f hf hfl).elim
      · exact hs w hg
    · exact hs w
  have hup : ∀ {LC : Array Bool} {w : World}, G ops S LC w → ∀ j, G ops S (LC.setIfInBounds j true) w := fun hg j => hg.imp (fun ⟨f, hf, hfl⟩ => ⟨f, hf, getD_set_true hfl⟩) id
  intro k
  induction k with
  | zero =>
    intro listed a w hc _ hr hy hG H
    refine ⟨fun h => absurd h (fun h => by rw [h] at hr; cases hr), fun j hj => ?_⟩
    by_cases hji : j = i
    · subst hji; exact hy.wpOp hi (hSi' hc hr hG) ⟨hup hG _, H⟩
    · have := ready_mono hj hji
      rw [H.1] at this
      cases this
  | succ k ih =>
    intro listed a w hc hfree hr hy hG H
    refine ⟨fun h => absurd h (fun h => by rw [h] at hr; cases hr), fun j hj => ?_⟩
    by_cases hji : j = i
    · subst hji; exact hy.wpOp hi (hSi' hc hr hG) ⟨hup hG _, H⟩
    · have h1 := H.2 j (ready_mono hj hji)
      obtain ⟨hjun, oj, hoj, hall⟩ := mem_ready.1 hj
      have hnot : ∀ e ∈ oj.after, Region.binds .any e = true → e.on ≠ i := fun e he hb heq => by
        have h1 := hall e he hb
        have h0 := (mem_ready.1 hr).1
        rw [heq] at h1
        rcases Nat.lt_or_ge i listed.size with h' | h'
        · simp [h'] at h0 h1; rw [h0] at h1; cases h1
        · simp [Array.getElem?_eq_none h'] at h1
      have h2 := wpOp_putH hoj (hfree j oj hoj hji hjun hnot) (fun cs b => Region.noSelect_spec hsel i oi cs b hi) (fun cs b => Region.noSelect_spec hsel j oj cs b hoj) hQ hy h1
      have hfree' : ∀ q oq, ops[q]? = some oq → q ≠ i → (listed.setIfInBounds j true).getD q true = false → (∀ e ∈ oq.after, Region.binds .any e = true → e.on ≠ i) → oi.apart ops oq = true := fun q oq hq hqi hun hno => by
        refine hfree q oq hq hqi ?_ hno
        by_cases hjq : j = q
        · subst hjq; exact hjun
        · rw [getD_set_ne true hjq] at hun; exact hun
      have hr' := ready_mono hr (Ne.symm hji)
      have hc' := hc.set hj
      refine wpOpIn_mono (fun a' w' h3 => ?_) h2
      have hG' : G ops S (listed.setIfInBounds j true) w' := by
        rcases h3.2.1 with ⟨f, hf, hfl⟩ | hs
        · left
          refine ⟨f, hf, ?_⟩
          have hfi : i ≠ f := fun e => by rw [← e, hnfull] at hf; cases hf
          rw [Array.setIfInBounds_comm _ _ (Ne.symm hji), getD_set_ne false hfi] at hfl
          exact hfl
        · exact .inr hs
      refine ⟨hG', ih (listed.setIfInBounds j true) a' w' hc' hfree' hr' h3.1 hG' ?_⟩
      rw [Array.setIfInBounds_comm _ _ hji]
      exact h3.2.2
end

end PartOfZxk
end Go.Proofs.YtldimlnllmojiaaGreat.GX
