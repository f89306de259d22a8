import Derived.Test.YtbjffjnmjkogkaaGreatRows
import Derived.WalkKit
import Derived.WalkSpells
import Derived.WalkLawsBesides
import Derived.Lib.Hide
import Derived.Orders
import Derived.Still
import Derived.Below
import Derived.Laws.Rows
import Derived.Laws.CopyRow
import Derived.Laws.AppendOwn
import Derived.Deep.AppendLies
import Derived.RangeFuncRecord
import Derived.RangeFuncCalls
import Derived.Great.BuildSlice
import Derived.Laws.MakeOwn
import Derived.MapKept
set_option linter.unusedVariables false
set_option linter.unusedSimpArgs false
namespace Go.Proofs.YtbjffjnmjkogkaaGreat.GY
section PartOfUa
open Go
structure Ref where
  b : Nat
  c : Nat
  a : Option Addr
abbrev Th := Nat → Ref
inductive AV where
  | lit (v : Value)
  | ptr (id off : Nat)
  | slc (id off len sub : Nat)
  | slx (id off len cap : Nat)
  | slo (id : Nat)
  | mp (id : Nat)
  | yld (id : Nat)
  | fn (f : FuncId) (first cap : List AV)
  | ifc (t : TypeId) (v : AV)
  | agg (cs : List AV)
  | tup (cs : List AV)
  | isl (id n : Nat)
  | rp (id sz k j : Nat)
  | sb (b : Bool)
inductive GV where
  | lit (v : Value)
  | sb (b : Bool)
  | agg (cs : List GV)
  | tup (cs : List GV)
  | rows (el : TypeId) (sz n : Nat) (f : Nat → Nat → Int)
structure InR (k : IntKind) (n : Int) : Prop where
  p : (match k with
    | .i64 => -9223372036854775808 ≤ n ∧ n ≤ 9223372036854775807
    | .u64 => 0 ≤ n ∧ n ≤ 18446744073709551615
    | .i32 => -2147483648 ≤ n ∧ n ≤ 2147483647
    | .u32 => 0 ≤ n ∧ n ≤ 4294967295
    | .u8 => 0 ≤ n ∧ n ≤ 255
    | .i8 => -128 ≤ n ∧ n ≤ 127
    | .i16 => -32768 ≤ n ∧ n ≤ 32767
    | .u16 => 0 ≤ n ∧ n ≤ 65535)
structure NeZ (n : Int) : Prop where
  p : n ≠ 0
structure IxIn (n : Int) (len : Nat) : Prop where
  p : 0 ≤ n ∧ n < len
structure LeN (a b : Nat) : Prop where
  p : a ≤ b
structure LtN (a b : Nat) : Prop where
  p : a < b
structure EqB (a b : Bool) : Prop where
  p : a = b
structure EqI (a b : Int) : Prop where
  p : a = b
structure EqC (a b : Option (List AV)) : Prop where
  p : a = b
structure EqRow (a b : Option (Nat × Nat × (Nat → Nat → Int))) : Prop where
  p : a = b
def All : List Prop → Prop
  | [] => True
  | p :: r => p ∧ All r
inductive T (α : Type) where
  | e
  | n (l : T α) (v : Option α) (r : T α)
noncomputable def T.get {α : Type} (t : T α) : Nat → Option α :=
  T.rec (motive := fun _ => Nat → Option α) (fun _ => none)
    (fun _ v _ gl gr i => Nat.casesOn (motive := fun _ => Option α) i v fun j => Bool.casesOn (motive := fun _ => Option α) (Nat.beq (j % 2) 0) (gr (j / 2)) (gl (j / 2))) t
noncomputable def T.put {α : Type} (v : Option α) (k : Nat) : T α → Nat → T α :=
  Nat.rec (motive := fun _ => T α → Nat → T α) (fun t _ => t)
    (fun _ put t i => T.casesOn (motive := fun _ => T α) t
      (Nat.casesOn (motive := fun _ => T α) i (.n .e v .e) fun j => Bool.casesOn (motive := fun _ => T α) (Nat.beq (j % 2) 0) (.n .e none (put .e (j / 2))) (.n (put .e (j / 2)) none .e))
      (fun l u r => Nat.casesOn (motive := fun _ => T α) i (.n l v r) fun j => Bool.casesOn (motive := fun _ => T α) (Nat.beq (j % 2) 0) (.n l u (put r (j / 2))) (.n (put l (j / 2)) u r))) k
noncomputable def T.set {α : Type} (v : Option α) (k : Nat) (t : T α) (i : Nat) : T α := T.put v k t i
structure ALoop where
  busy : Bool
  done : Bool
  pending : Option Code
  params : Array Tmp
  assign : Code
  body : Code
  t : T AV
  nt : Nat
  dfr : Nat
inductive AO where
  | cells (cs : List AV) (el : TypeId) (row : Option Nat)
  | map (es : List (AV × AV × Nat)) (clock : Nat)
  | loop (r : ALoop)
  | dfr (shut : Bool)
  | irow (el : TypeId) (sz n : Nat) (f : Nat → Nat → Int)
structure RO where
  fr : Bool
  el : TypeId
  sz : Nat
  n : Nat
  f : Nat → Nat → Int
structure AH where
  m : T AO
  next : Nat
  ro : T RO
  sc : List Prop
  orc : List Bool
noncomputable def AH.also (h : AH) (ps : List Prop) : AH := match h with
  | ⟨m, next, ro, sc, orc⟩ => ⟨m, next, ro, ps ++ sc, orc⟩
noncomputable def ask (h : AH) (b : Bool) : Option (Bool × AH) := match h with
  | ⟨m, next, ro, sc, orc⟩ => match orc with
    | [] => none
    | o :: r => some (o, ⟨m, next, ro, EqB b o :: sc, r⟩)
structure TyI where
  desc : TypeDesc
  size : Nat
  bytes : Nat
  agg : Bool
  zero : List Value
inductive AD where
  | col (id : Nat)
  | call (f : FuncId) (cap args : List AV)
structure AA where
  t : T AV
  n : Nat
  ds : List AD
inductive AExit where
  | norm | exit (id : Nat) | goto (l : Nat) | ret
  deriving DecidableEq
structure Tab where
  ty : T TyI
  fn : T Func
  sp : T (List GV → Option (GV × List Prop))
  dnat : T (AH → List AV → Option AH)
  eqs : T Nat
  keyEq : T Nat
noncomputable def forceN {α : Type} (n : Nat) (k : Nat → α) : α := Nat.casesOn (motive := fun _ => α) n (k 0) fun m => k (Nat.succ m)
noncomputable def forceI {α : Type} (n : Int) (k : Int → α) : α := Int.casesOn (motive := fun _ => α) n (fun m => forceN m fun m => k (.ofNat m)) (fun m => forceN m fun m => k (.negSucc m))
noncomputable def AH.put (h : AH) (id : Nat) (o : AO) : Option AH := match h with
  | ⟨m, next, ro, sc, orc⟩ => bif Nat.blt id 1099511627776 then some ⟨T.set (some o) 41 m id, next, ro, sc, orc⟩ else none
noncomputable def AH.add (h : AH) (o : AO) : Option AH := match h with
  | ⟨m, next, ro, sc, orc⟩ => forceN next fun next => bif Nat.blt next 1099511627776 then some ⟨T.set (some o) 41 m next, Nat.succ next, ro, sc, orc⟩ else none
noncomputable def AH.addRO (h : AH) (r : RO) : Option AH := match h with
  | ⟨m, next, ro, sc, orc⟩ => forceN next fun next => bif Nat.blt next 1099511627776 then some ⟨m, Nat.succ next, T.set (some r) 41 ro next, sc, orc⟩ else none
noncomputable def AA.put (A : AA) (dst : Option Tmp) (v : AV) : Option AA := match dst with
  | none => some A
  | some d => match A with
    | ⟨t, n, ds⟩ => bif Nat.blt d 1024 && Nat.blt d n then some ⟨T.set (some v) 11 t d, n, ds⟩ else none
noncomputable def AA.ev (A : AA) : Operand → Option AV
  | .tmp t => A.t.get t
  | .const v => some (.lit v)
  | .global _ => none
  | .func f => some (.fn f [] [])
noncomputable def isOne : AV → Bool
  | .agg _ => false
  | .tup _ => false
  | .lit v => v.oneCell'
  | _ => true
noncomputable def ones : List AV → Bool
  | [] => true
  | v :: vs => isOne v && ones vs
noncomputable def acells : AV → List AV
  | .agg cs => cs
  | .lit v => v.cells.toList.map .lit
  | v => [v]
noncomputable def apart (agg : Bool) (cs : List AV) (off size : Nat) : Option AV :=
  if agg then (if off + size ≤ cs.length then some (.agg ((cs.drop off).take size)) else none) else cs[off]?
noncomputable def aint : AV → Option (IntKind × Int)
  | .lit (.int k n) => some (k, n)
  | _ => none
noncomputable def abool : AV → Option Bool
  | .lit (.bool b) => some b
  | .sb b => some b
  | _ => none
noncomputable def lv : AV → Option Value
  | .lit v => some v
  | .sb b => some (.bool b)
  | _ => none
noncomputable def ofV : Value → AV
  | .bool b => .sb b
  | v => .lit v
noncomputable def evs (ev : Operand → Option AV) : List Operand → Option (List AV)
  | [] => some []
  | x :: xs => match ev x with
    | none => none
    | some v => match evs ev xs with
      | none => none
      | some vs => some (v :: vs)
noncomputable def evps (ev : Operand → Option AV) : List (Nat × Operand) → Option (List (Nat × AV))
  | [] => some []
  | (i, x) :: xs => match ev x with
    | none => none
    | some v => match evps ev xs with
      | none => none
      | some vs => some ((i, v) :: vs)
noncomputable def abinI (op : BinOp) (k : IntKind) (a b : Int) : Option Value := match op with
  | .add => some (.int k (a + b))
  | .sub => some (.int k (a - b))
  | .mul => some (.int k (a * b))
  | .quo => some (.int k (a.tdiv b))
  | .rem => some (.int k (a.tmod b))
  | .eql => some (.bool (decide (a = b)))
  | .neq => some (.bool (!decide (a = b)))
  | .lss => some (.bool (decide (a < b)))
  | .leq => some (.bool (decide (a ≤ b)))
  | .gtr => some (.bool (decide (a > b)))
  | .geq => some (.bool (decide (a ≥ b)))
  | _ => none
noncomputable def sbinI (op : BinOp) (k : IntKind) (a b : Int) : List Prop := match op with
  | .add => [InR k (a + b)]
  | .sub => [InR k (a - b)]
  | .mul => [InR k (a * b)]
  | .quo => [NeZ b, InR k (a.tdiv b)]
  | .rem => [NeZ b]
  | _ => []
noncomputable def abinB (op : BinOp) (a b : Bool) : Option Value := match op with
  | .eql => some (.bool (a == b))
  | .neq => some (.bool !(a == b))
  | _ => none
noncomputable def abinS (op : BinOp) (a b : ByteArray) : Option Value := match op with
  | .add => if a.size + b.size ≤ 4294967296 then some (.string (a ++ b)) else none
  | .eql => some (.bool (a.toList == b.toList))
  | .neq => some (.bool !(a.toList == b.toList))
  | _ => none
noncomputable def abin (op : BinOp) (x y : Value) : Option Value :=
  match x, y with
  | .int k a, .int k' b => if k = k' then abinI op k a b else none
  | .string a, .string b => abinS op a b
  | _, _ => none
noncomputable def sbin (op : BinOp) (x y : Value) : List Prop :=
  match x, y with
  | .int k a, .int _ b => sbinI op k a b
  | _, _ => []
noncomputable def afill (place : Nat → Option (Nat × Nat)) (cells : List AV) : List (Nat × AV) → Option (List AV)
  | [] => some cells
  | (i, v) :: rest =>
    match place i with
    | none => none
    | some (off, size) =>
      let cs := acells v
      if cs.length = size ∧ off + size ≤ cells.length then afill place (cells.take off ++ cs ++ cells.drop (off + size)) rest else none
noncomputable def offs (tb : Tab) : List Field → Option (List (Nat × Nat))
  | [] => some []
  | f :: fs => match tb.ty.get f.type with
    | none => none
    | some i => match offs tb fs with
      | none => none
      | some r => some ((f.offset, i.size) :: r)
noncomputable def rep (l : List AV) : Nat → List AV
  | 0 => []
  | n + 1 => l ++ rep l n
noncomputable def abound (x : Option AV) (deflt y : Nat) : Option Nat := match x with
  | none => some deflt
  | some v => match aint v with
    | some (_, i) => if 0 ≤ i ∧ i ≤ y then some i.toNat else none
    | none => none
noncomputable def merge (c : Bool) : Option AV → Option AV → Option AV
  | some (.lit (.int k x)), some (.lit (.int k' y)) => if k = k' then some (.lit (.int k (bif c then x else y))) else none
  | some x, some y => match abool x, abool y with
    | some x, some y => some (.sb (bif c then x else y))
    | _, _ => none
  | _, _ => none
noncomputable def xPick (ev : Operand → Option AV) (c a b : Operand) : Option AV := match ev c with
  | some (.lit (.bool t)) => if t then ev a else ev b
  | some (.sb t) => merge t (ev a) (ev b)
  | _ => none
noncomputable def xBin2 (op : BinOp) (a : Value) : Option AV → Option AV
  | some w => match lv w with
    | some b => (abin op a b).map ofV
    | none => none
  | _ => none
noncomputable def sBin2 (op : BinOp) (a : Value) : Option AV → List Prop
  | some w => match lv w with
    | some b => sbin op a b
    | none => []
  | _ => []
noncomputable def isSliceT (tb : Tab) (t : TypeId) : Bool := match tb.ty.get t with
  | some i => match i.desc with
    | .slice _ => true
    | _ => false
  | none => false
noncomputable def hasRow : AV → Bool
  | .slc _ _ _ _ => true
  | .slx _ _ _ _ => true
  | _ => false
noncomputable def xBinN (tb : Tab) (op : BinOp) (t : TypeId) : Option AV → Bool → Option AV
  | some (.lit (.slice none _ _)), r => if isSliceT tb t then match op with
      | .eql => some (.lit (.bool !r))
      | .neq => some (.lit (.bool r))
      | _ => none
    else none
  | _, _ => none
noncomputable def isNilS : AV → Bool
  | .lit (.slice none _ _) => true
  | _ => false
noncomputable def ai64' : AV → Option Int
  | .lit (.int .i64 n) => some n
  | _ => none
noncomputable def ai64s' : List AV → Option (List Int)
  | [] => some []
  | v :: vs => match ai64' v, ai64s' vs with
    | some n, some ns => some (n :: ns)
    | _, _ => none
noncomputable def isEq : List Int → List Int → Bool
  | a :: al, b :: bl => match al, bl with
    | [], [] => decide (a = b)
    | _, _ => decide (a = b) && isEq al bl
  | _, _ => true
noncomputable def isInts (tb : Tab) (t : TypeId) (m : Nat) : Bool := match tb.eqs.get t with
  | some n => Nat.beq n m
  | none => false
noncomputable def xPair (tb : Tab) (op : BinOp) (t : TypeId) (al : List AV) : Option AV → Option AV
  | some (.agg bl) => match ai64s' al, ai64s' bl with
    | some xs, some ys => if isInts tb t xs.length && isInts tb t ys.length then match op with
        | .eql => some (.sb (isEq xs ys))
        | .neq => some (.sb (!isEq xs ys))
        | _ => none
      else none
    | _, _ => none
  | _ => none
noncomputable def isBoolT (tb : Tab) (t : TypeId) : Bool := match tb.ty.get t with
  | some i => match i.desc with
    | .bool => true
    | _ => false
  | none => false
noncomputable def xBinB (tb : Tab) (op : BinOp) (t : TypeId) (a : Bool) : Option AV → Option AV
  | some w => match abool w with
    | some b => if isBoolT tb t then (abinB op a b).map ofV else none
    | none => none
  | none => none
noncomputable def xBin (tb : Tab) (ev : Operand → Option AV) (op : BinOp) (t : TypeId) (x y : Operand) : Option AV := match ev x with
  | some v => if hasRow v then xBinN tb op t (ev y) true else if isNilS v then xBinN tb op t (ev y) false else match v with
    | .lit (.bool a) => xBinB tb op t a (ev y)
    | .lit a => xBin2 op a (ev y)
    | .sb a => xBinB tb op t a (ev y)
    | .agg cs => xPair tb op t cs (ev y)
    | _ => none
  | none => none
noncomputable def sBin (ev : Operand → Option AV) (op : BinOp) (x y : Operand) : List Prop := match ev x with
  | some v => match v with
    | .lit (.bool _) => []
    | .lit a => sBin2 op a (ev y)
    | _ => []
  | none => []
noncomputable def xUn (ev : Operand → Option AV) (op : UnOp) (x : Operand) : Option AV := match op, ev x with
  | .not, some (.lit (.bool b)) => some (.lit (.bool !b))
  | .not, some (.sb b) => some (.sb !b)
  | .neg, some (.lit (.int k n)) => some (.lit (.int k (0 - n)))
  | _, _ => none
noncomputable def sUn (ev : Operand → Option AV) (op : UnOp) (x : Operand) : List Prop := match op, ev x with
  | .neg, some (.lit (.int k n)) => [InR k (0 - n)]
  | _, _ => []
noncomputable def xConv (tb : Tab) (ev : Operand → Option AV) (src dst : TypeId) (x : Operand) : Option AV := match tb.ty.get src, tb.ty.get dst, ev x with
  | some _, some d, some (.lit (.int k n)) => match d.desc with
    | .int k' => some (.lit (.int k' n))
    | _ => none
  | _, _, _ => none
noncomputable def sConv (tb : Tab) (ev : Operand → Option AV) (dst : TypeId) (x : Operand) : List Prop := match tb.ty.get dst, ev x with
  | some d, some (.lit (.int _ n)) => match d.desc with
    | .int k' => [InR k' n]
    | _ => []
  | _, _ => []
noncomputable def afield (tb : Tab) (s : TypeId) (f : Nat) : Option (Nat × TyI) := match tb.ty.get s with
  | some i => match i.desc with
    | .struct fs => match fs[f]? with
      | some fd => match tb.ty.get fd.type with
        | some j => some (fd.offset, j)
        | none => none
      | none => none
    | _ => none
  | none => none
noncomputable def xFieldAddr (tb : Tab) (ev : Operand → Option AV) (s : TypeId) (x : Operand) (f : Nat) : Option AV := match ev x with
  | some (.ptr id off) => match afield tb s f with
    | some (o, j) => if j.size = 0 then none else some (.ptr id (off + o))
    | none => none
  | some (.rp id sz k i) => match afield tb s f with
    | some (o, j) => if j.size = 0 then none else some (.rp id sz k (i + o))
    | none => none
  | _ => none
noncomputable def xField (tb : Tab) (ev : Operand → Option AV) (s : TypeId) (x : Operand) (f : Nat) : Option AV := match ev x with
  | some (.agg cs) => match afield tb s f with
    | some (o, j) => apart j.agg cs o j.size
    | none => none
  | _ => none
noncomputable def asliceOf (tb : Tab) (t : TypeId) : Option (TypeId × TyI) := match tb.ty.get t with
  | some i => match i.desc with
    | .slice el => match tb.ty.get el with
      | some j => some (el, j)
      | none => none
    | _ => none
  | none => none
noncomputable def aarrayOf (tb : Tab) (t : TypeId) : Option (Nat × TyI) := match tb.ty.get t with
  | some i => match i.desc with
    | .array len el => match tb.ty.get el with
      | some j => some (len, j)
      | none => none
    | _ => none
  | none => none
noncomputable def xIxSlc (tb : Tab) (t : TypeId) (id off len : Nat) : Option (IntKind × Int) → Option AV
  | some (_, n) => match asliceOf tb t with
    | some (_, j) => some (.ptr id (off + n.toNat * j.size))
    | none => none
  | none => none
noncomputable def xIxRow (tb : Tab) (t : TypeId) (id : Nat) : Option (IntKind × Int) → Option AV
  | some (_, n) => match asliceOf tb t with
    | some (_, j) => some (.rp id j.size n.toNat 0)
    | none => none
  | none => none
noncomputable def xIxArr (tb : Tab) (t : TypeId) (id off : Nat) : Option (IntKind × Int) → Option AV
  | some (_, n) => match aarrayOf tb t with
    | some (_, j) => some (.ptr id (off + n.toNat * j.size))
    | none => none
  | none => none
noncomputable def xIndexAddr (tb : Tab) (ev : Operand → Option AV) (t : TypeId) (x ix : Operand) : Option AV := match ev x with
  | some (.slc id off len _) => xIxSlc tb t id off len ((ev ix).bind aint)
  | some (.slx id off len _) => xIxSlc tb t id off len ((ev ix).bind aint)
  | some (.isl id _) => xIxRow tb t id ((ev ix).bind aint)
  | some (.ptr id off) => xIxArr tb t id off ((ev ix).bind aint)
  | _ => none
noncomputable def sIx (len : Nat) : Option (IntKind × Int) → List Prop
  | some (_, n) => [IxIn n len]
  | none => []
noncomputable def sIxArr (tb : Tab) (t : TypeId) (n : Option (IntKind × Int)) : List Prop := match aarrayOf tb t with
  | some (len, _) => sIx len n
  | none => []
noncomputable def sIndexAddr (tb : Tab) (ev : Operand → Option AV) (t : TypeId) (x ix : Operand) : List Prop := match ev x with
  | some (.slc _ _ len _) => sIx len ((ev ix).bind aint)
  | some (.slx _ _ len _) => sIx len ((ev ix).bind aint)
  | some (.isl _ n) => sIx n ((ev ix).bind aint)
  | some (.ptr _ _) => sIxArr tb t ((ev ix).bind aint)
  | _ => []
noncomputable def xIx (tb : Tab) (t : TypeId) (cs : List AV) : Option (IntKind × Int) → Option AV
  | some (_, n) => match aarrayOf tb t with
    | some (_, j) => apart j.agg cs (n.toNat * j.size) j.size
    | none => none
  | none => none
noncomputable def isStr (tb : Tab) (t : TypeId) : Bool := match tb.ty.get t with
  | some i => match i.desc with
    | .string => true
    | _ => false
  | none => false
noncomputable def xIxS (tb : Tab) (t : TypeId) (s : ByteArray) : Option (IntKind × Int) → Option AV
  | some (_, n) => if isStr tb t ∧ 0 ≤ n then match s[n.toNat]? with
      | some b => some (.lit (.int .u8 b.toNat))
      | none => none
    else none
  | none => none
noncomputable def xIndex (tb : Tab) (ev : Operand → Option AV) (t : TypeId) (x ix : Operand) : Option AV := match ev x with
  | some (.agg cs) => xIx tb t cs ((ev ix).bind aint)
  | some (.lit (.string s)) => xIxS tb t s ((ev ix).bind aint)
  | _ => none
noncomputable def sIndex (tb : Tab) (ev : Operand → Option AV) (t : TypeId) (x ix : Operand) : List Prop := match ev x with
  | some (.agg _) => sIxArr tb t ((ev ix).bind aint)
  | _ => []
noncomputable def xBuild2 (tb : Tab) (i : TyI) (ps : List (Nat × AV)) : Option AV := match i.desc with
  | .struct fs => match offs tb fs.toList with
    | some os => (afill (fun k => os[k]?) (i.zero.map .lit) ps).map .agg
    | none => none
  | .array _ el => match tb.ty.get el with
    | some j => (afill (fun k => some (k * j.size, j.size)) (i.zero.map .lit) ps).map .agg
    | none => none
  | _ => none
noncomputable def xBuild (tb : Tab) (ev : Operand → Option AV) (t : TypeId) (parts : Array (Nat × Operand)) : Option AV := match tb.ty.get t, evps ev parts.toList with
  | some i, some ps => xBuild2 tb i ps
  | _, _ => none
noncomputable def xMakeFunc (ev : Operand → Option AV) (g : Fn) (first cap : Array Operand) : Option AV := match g with
  | .func f => match evs ev first.toList, evs ev cap.toList with
    | some a, some b => some (.fn f a b)
    | _, _ => none
  | _ => none
noncomputable def xExtract (ev : Operand → Option AV) (x : Operand) (ix : Nat) : Option AV := match ev x with
  | some (.tup vs) => vs[ix]?
  | _ => none
noncomputable def evo (ev : Operand → Option AV) : Option Operand → Option (Option AV)
  | none => some none
  | some l => (ev l).map some
noncomputable def xSlice2 (id off len sub sz : Nat) (l h : Option AV) : Option AV := match abound h len len with
  | some H => match abound l 0 H with
    | some L => if L < len then some (.slc id (off + L * sz) (H - L) (sub + L)) else none
    | none => none
  | none => none
noncomputable def xSliceS (s : ByteArray) (l h : Option AV) : Option AV := match abound h s.size s.size with
  | some H => match abound l 0 H with
    | some L => some (.lit (.string (s.extract L H)))
    | none => none
  | none => none
noncomputable def xSliceX (id off len sub sz : Nat) (l h m : Option AV) : Option AV := match m, h with
  | some _, some _ => match abound m len len with
    | some M => match abound h M M with
      | some H => match abound l 0 H with
        | some L => some (.slx id (if M = L then off else off + L * sz) (H - L) (M - L))
        | none => none
      | none => none
    | none => none
  | _, _ => none
noncomputable def xSlice (tb : Tab) (ev : Operand → Option AV) (t : TypeId) (x : Operand) (lo hi mx : Option Operand) : Option AV := match ev x with
  | some (.slc id off len sub) => match asliceOf tb t, evo ev lo, evo ev hi, evo ev mx with
    | some (_, j), some l, some h, some none => xSlice2 id off len sub j.size l h
    | some (_, j), some l, some h, some m => xSliceX id off len sub j.size l h m
    | _, _, _, _ => none
  | some (.lit (.string s)) => match evo ev lo, evo ev hi, mx with
    | some l, some h, none => if isStr tb t then xSliceS s l h else none
    | _, _, _ => none
  | _ => none
noncomputable def xLen2 (d : TypeDesc) (v : AV) : Option AV := match v, d with
  | .slc _ _ len _, .slice _ => some (.lit (.int .i64 len))
  | .slx _ _ len _, .slice _ => some (.lit (.int .i64 len))
  | .isl _ n, .slice _ => some (.lit (.int .i64 n))
  | .slo _, .slice _ => some (.lit (.int .i64 0))
  | .lit (.slice _ n _), .slice _ => some (.lit (.int .i64 n))
  | .lit (.string s), .string => some (.lit (.int .i64 s.size))
  | _, _ => none
noncomputable def xLen (tb : Tab) (ev : Operand → Option AV) (args : Array Operand) (argTypes : Array TypeId) : Option AV := match argTypes.toList, args.toList with
  | [t], [x] => match tb.ty.get t, ev x with
    | some i, some v => xLen2 i.desc v
    | _, _ => none
  | _, _ => none
noncomputable def xMin2 : Option AV → Option AV → Option AV
  | some (.lit (.int k x)), some (.lit (.int _ y)) => some (.lit (.int k (if y < x then y else x)))
  | _, _ => none
noncomputable def xMin (ev : Operand → Option AV) (args : Array Operand) : Option AV := match args.toList with
  | [x, y] => xMin2 (ev x) (ev y)
  | _ => none
noncomputable def xMax2 : Option AV → Option AV → Option AV
  | some (.lit (.int k x)), some (.lit (.int _ y)) => some (.lit (.int k (if y > x then y else x)))
  | _, _ => none
noncomputable def xMax (ev : Operand → Option AV) (args : Array Operand) : Option AV := match args.toList with
  | [x, y] => xMax2 (ev x) (ev y)
  | _ => none
noncomputable def xpureCall (tb : Tab) (ev : Operand → Option AV) (c : Call) : Option AV := match c.callee with
  | .builtin .len => xLen tb ev c.args c.argTypes
  | .builtin .min => xMin ev c.args
  | .builtin .max => xMax ev c.args
  | _ => none
noncomputable def xNil : Option AV → Option AV
  | some (.ptr id off) => some (.ptr id off)
  | some (.rp id sz k j) => some (.rp id sz k j)
  | _ => none
noncomputable def xpure (tb : Tab) (ev : Operand → Option AV) (o : Oper) : Option AV :=
  match o.op with
  | .move x => ev x
  | .assign x => ev x
  | .pick c a b => xPick ev c a b
  | .binOp op t x y _ => xBin tb ev op t x y
  | .unOp op _ x => xUn ev op x
  | .convert src dst x => xConv tb ev src dst x
  | .fieldAddr s x f => xFieldAddr tb ev s x f
  | .indexAddr t x ix => xIndexAddr tb ev t x ix
  | .field s x f => xField tb ev s x f
  | .index t x ix => xIndex tb ev t x ix
  | .build t parts => xBuild tb ev t parts
  | .makeFunc g first cap => xMakeFunc ev g first cap
  | .extract x ix => xExtract ev x ix
  | .slice t x lo hi mx => xSlice tb ev t x lo hi mx
  | .call c => xpureCall tb ev c
  | .nilCheck x => xNil (ev x)
  | _ => none
noncomputable def pside (tb : Tab) (ev : Operand → Option AV) (o : Oper) : List Prop :=
  match o.op with
  | .binOp op _ x y _ => sBin ev op x y
  | .unOp op _ x => sUn ev op x
  | .convert _ dst x => sConv tb ev dst x
  | .indexAddr t x ix => sIndexAddr tb ev t x ix
  | .index t x ix => sIndex tb ev t x ix
  | _ => []
noncomputable def icells (f : Nat → Nat → Int) (k j : Nat) : Nat → List AV
  | 0 => []
  | s + 1 => .lit (.int .i64 (f k j)) :: icells f k (j + 1) s
noncomputable def rowAt (h : AH) (id : Nat) : Option (Nat × Nat × (Nat → Nat → Int)) := match h.m.get id with
  | some (.irow _ sz n f) => some (sz, n, f)
  | some _ => none
  | none => match h.ro.get id with
    | some r => some (r.sz, r.n, r.f)
    | none => none
noncomputable def xLoadR (tb : Tab) (t : TypeId) (sz k j : Nat) : Option (Nat × Nat × (Nat → Nat → Int)) → Option AV
  | some (sz', _, f) => if Nat.beq sz sz' then match tb.ty.get t with
      | some i => if Nat.ble (j + i.size) sz then apart i.agg (icells f k j i.size) 0 i.size else none
      | none => none
    else none
  | none => none
noncomputable def xLoad2 (tb : Tab) (h : AH) (t : TypeId) : Option AV → Option AV
  | some (.ptr id off) => match h.m.get id with
    | some (.cells cs _ _) => match tb.ty.get t with
      | some i => apart i.agg cs off i.size
      | none => none
    | _ => none
  | some (.rp id sz k j) => xLoadR tb t sz k j (rowAt h id)
  | _ => none
noncomputable def xload (tb : Tab) (h : AH) (ev : Operand → Option AV) (o : Oper) : Option AV :=
  match o.op with
  | .load t a => xLoad2 tb h t (ev a)
  | _ => none
noncomputable def lside2 (h : AH) : Option AV → List Prop
  | some (.rp id _ k _) => match rowAt h id with
    | some (_, n, _) => [LtN k n]
    | none => []
  | _ => []
noncomputable def lside (h : AH) (ev : Operand → Option AV) (o : Oper) : List Prop :=
  match o.op with
  | .load _ a => lside2 h (ev a)
  | _ => []
noncomputable def ai64 : AV → Option Int
  | .lit (.int .i64 n) => some n
  | _ => none
noncomputable def ai64s : List AV → Option (List Int)
  | [] => some []
  | v :: vs => match ai64 v, ai64s vs with
    | some n, some ns => some (n :: ns)
    | _, _ => none
noncomputable def akey : AV → Option (List Int)
  | .agg cs => ai64s cs
  | _ => none
noncomputable def afind (k : List Int) : List (AV × AV × Nat) → Nat → Option (Option (Nat × AV))
  | [], _ => some none
  | (k', v, _) :: es, i => match akey k' with
    | some k'' => if k''.length = k.length then (if k = k'' then some (some (i, v)) else afind k es (i + 1)) else none
    | none => none
inductive XR where
  | val (v : AV) (h : AH)
  | skip (h : AH)
  | enter (f : FuncId) (args : List AV)
  | round (id : Nat) (args : List AV)
  | no
noncomputable def added (h : AH) (o : AO) (v : AV) : XR := match h.add o with
  | some h' => .val v h'
  | none => .no
noncomputable def stored (h : AH) (id : Nat) (o : AO) : XR := match h.put id o with
  | some h' => .skip h'
  | none => .no
noncomputable def xAlloc (tb : Tab) (h : AH) (t : TypeId) : XR := match tb.ty.get t with
  | some i => added h (.cells (i.zero.map .lit) t none) (.ptr h.next 0)
  | none => .no
noncomputable def xBox (h : AH) (t : TypeId) : Option AV → XR
  | some v => added h (.cells (acells v) t none) (.ptr h.next 0)
  | none => .no
noncomputable def xStore3 (h : AH) (id off size : Nat) (news cs : List AV) (el : TypeId) (row : Option Nat) : XR :=
  if news.length = size ∧ off + size ≤ cs.length ∧ ones news = true then stored h id (.cells (cs.take off ++ news ++ cs.drop (off + size)) el row) else .no
noncomputable def xStore2 (tb : Tab) (h : AH) (t : TypeId) (id off : Nat) : Option AV → XR
  | some v => match tb.ty.get t, h.m.get id with
    | some i, some (.cells cs el row) => xStore3 h id off i.size (acells v) cs el row
    | _, _ => .no
  | none => .no
noncomputable def supd (f : Nat → Nat → Int) (k j : Nat) (ns : List Int) : Nat → Nat → Int := fun k' j' => if k' = k ∧ j ≤ j' then (match ns[j' - j]? with
  | some n => n
  | none => f k' j') else f k' j'
noncomputable def xStoreR (tb : Tab) (h : AH) (t : TypeId) (id sz k j : Nat) : Option AV → XR
  | some v => match tb.ty.get t, h.m.get id, ai64s (acells v) with
    | some i, some (.irow el sz' n f), some ns => if Nat.beq sz sz' && Nat.ble (j + i.size) sz && Nat.beq ns.length i.size then stored (h.also [LtN k n]) id (.irow el sz n (supd f k j ns)) else .no
    | _, _, _ => .no
  | none => .no
noncomputable def xStore (tb : Tab) (h : AH) (ev : Operand → Option AV) (t : TypeId) (a x : Operand) : XR := match ev a with
  | some (.ptr id off) => xStore2 tb h t id off (ev x)
  | some (.rp id sz k j) => xStoreR tb h t id sz k j (ev x)
  | _ => .no
noncomputable def rowOf (ns : List Int) (sz : Nat) : Nat → Nat → Int := fun k j => match ns[k * sz + j]? with
  | some n => n
  | none => 0
noncomputable def xBuildSlice2 (h : AH) (el : TypeId) (sz len : Nat) (cs : List AV) : XR := match ai64s cs with
  | some ns => added h (.irow el sz len (rowOf ns sz)) (.isl h.next len)
  | none => added h (.cells cs el (some sz)) (.slc h.next 0 len 0)
noncomputable def xBuildSlice (tb : Tab) (h : AH) (ev : Operand → Option AV) (t : TypeId) (len : Nat) (parts : Array (Nat × Operand)) : XR := match asliceOf tb t, evps ev parts.toList with
  | some (el, j), some ps => if 0 < j.size ∧ 0 < len ∧ len * j.size ≤ 65536 then match afill (fun k => some (k * j.size, j.size)) (rep (j.zero.map .lit) len) ps with
      | some cs => xBuildSlice2 h el j.size len cs
      | none => .no
    else if len = 0 ∧ ps.length = 0 then added h (.cells [] el none) (.slx h.next 0 0 0) else .no
  | _, _ => .no
noncomputable def xMakeSlice (tb : Tab) (h : AH) (t : TypeId) (l c : Option (IntKind × Int)) : XR := match asliceOf tb t, l, c with
  | some (el, j), some (_, n), some (_, m) => match ai64s (j.zero.map .lit) with
    | some ns => if 0 < j.size ∧ j.bytes ≤ 65536 then added (h.also [LtN 0 n.toNat, LeN n.toNat 65536, EqI n m]) (.irow el j.size n.toNat (fun _ j => rowOf ns 0 0 j)) (.isl h.next n.toNat) else .no
    | none => .no
  | _, _, _ => .no
noncomputable def amapOf (tb : Tab) (t : TypeId) : Option (Nat × TyI) := match tb.ty.get t with
  | some i => match i.desc with
    | .map kt el => match tb.keyEq.get kt, tb.ty.get el with
      | some n, some j => some (n, j)
      | _, _ => none
    | _ => none
  | none => none
noncomputable def amapAt (h : AH) (id : Nat) : Option (List (AV × AV × Nat) × Nat) := match h.m.get id with
  | some (.map es clock) => some (es, clock)
  | _ => none
noncomputable def afindIn (n : Nat) (k : AV) (es : List (AV × AV × Nat)) : Option (Option (Nat × AV)) := match akey k with
  | some kk => if kk.length = n then afind kk es 0 else none
  | none => none
noncomputable def xLookup2 (tb : Tab) (h : AH) (t : TypeId) (id : Nat) (ok : Bool) : Option AV → XR
  | some k => match amapOf tb t, amapAt h id with
    | some (n, j), some (es, _) => match afindIn n k es with
      | some (some (_, v)) => .val (if ok then .tup [v, .lit (.bool true)] else v) h
      | some none => match apart j.agg (j.zero.map .lit) 0 j.size with
        | some z => .val (if ok then .tup [z, .lit (.bool false)] else z) h
        | none => .no
      | none => .no
    | _, _ => .no
  | none => .no
noncomputable def xLookup (tb : Tab) (h : AH) (ev : Operand → Option AV) (t : TypeId) (x ix : Operand) (ok : Bool) : XR := match ev x with
  | some (.mp id) => xLookup2 tb h t id ok (ev ix)
  | _ => .no
noncomputable def xMapUpd2 (tb : Tab) (h : AH) (t : TypeId) (id : Nat) : Option AV → Option AV → XR
  | some k, some v => match amapOf tb t, amapAt h id with
    | some (n, _), some (es, clock) => match afindIn n k es with
      | some (some (p, _)) => stored h id (.map (es.modify p fun e => (k, v, e.2.2)) clock)
      | some none => stored h id (.map (es ++ [(k, v, clock)]) (clock + 1))
      | none => .no
    | _, _ => .no
  | _, _ => .no
noncomputable def xMapUpd (tb : Tab) (h : AH) (ev : Operand → Option AV) (t : TypeId) (m k x : Operand) : XR := match ev m with
  | some (.mp id) => xMapUpd2 tb h t id (ev k) (ev x)
  | _ => .no
noncomputable def xMapEntry2 (tb : Tab) (h : AH) (t : TypeId) (id : Nat) : Option AV → XR
  | some k => match amapOf tb t, amapAt h id with
    | some (n, j), some (es, clock) => match afindIn n k es with
      | some (some (p, v)) => match es[p]? with
        | some e => match h.put id (.map (es.modify p fun e => (k, e.2.1, e.2.2)) clock) with
          | some h' => .val (.tup [v, .lit (.int .i64 e.2.2)]) h'
          | none => .no
        | none => .no
      | some none => match apart j.agg (j.zero.map .lit) 0 j.size with
        | some z => match h.put id (.map (es ++ [(k, z, clock)]) (clock + 1)) with
          | some h' => .val (.tup [z, .lit (.int .i64 clock)]) h'
          | none => .no
        | none => .no
      | none => .no
    | _, _ => .no
  | none => .no
noncomputable def xMapEntry (tb : Tab) (h : AH) (ev : Operand → Option AV) (t : TypeId) (m k : Operand) : XR := match ev m with
  | some (.mp id) => xMapEntry2 tb h t id (ev k)
  | _ => .no
noncomputable def aborn (n : Int) : List (AV × AV × Nat) → Nat → Option Nat
  | [], _ => none
  | e :: es, i => if (e.2.2 : Int) = n then some i else aborn n es (i + 1)
noncomputable def xEntryStore2 (h : AH) (id : Nat) : Option (IntKind × Int) → Option AV → XR
  | some (_, n), some v => match amapAt h id with
    | some (es, clock) => match aborn n es 0 with
      | some p => stored h id (.map (es.modify p fun e => (e.1, v, e.2.2)) clock)
      | none => .no
    | none => .no
  | _, _ => .no
noncomputable def xEntryStore (h : AH) (ev : Operand → Option AV) (m s x : Operand) : XR := match ev m with
  | some (.mp id) => xEntryStore2 h id ((ev s).bind aint) (ev x)
  | _ => .no
noncomputable def xSliceE2 (h : AH) (len : Nat) (l hi : Option AV) : XR := match abound hi len len with
  | some H => match abound l 0 H with
    | some L => if L = len then (match h with | ⟨m, next, ro, sc, orc⟩ => .val (.slo next) ⟨m, Nat.succ next, ro, sc, orc⟩) else .no
    | none => .no
  | none => .no
noncomputable def xSliceE (tb : Tab) (h : AH) (ev : Operand → Option AV) (t : TypeId) (x : Operand) (lo hi mx : Option Operand) : XR := match ev x with
  | some (.slc _ _ len _) => match asliceOf tb t, evo ev lo, evo ev hi, mx with
    | some _, some l, some hh, none => xSliceE2 h len l hh
    | _, _, _, _ => .no
  | _ => .no
noncomputable def joinF (n : Nat) (f g : Nat → Nat → Int) : Nat → Nat → Int := fun k j => if k < n then f k j else g (k - n) j
noncomputable def xAppend4 (h : AH) (el : TypeId) (sz n m id : Nat) (f g : Nat → Nat → Int) : XR :=
  match h with
  | ⟨mm, next, ro, sc, orc⟩ => match AH.add ⟨T.set none 41 mm id, next, ro, LeN (n + m) 65536 :: sc, orc⟩ (.irow el sz (n + m) (joinF n f g)) with
    | some h' => .val (.isl next (n + m)) h'
    | none => .no
noncomputable def xAppend3 (h : AH) (el : TypeId) (j : TyI) (xid m : Nat) (g : Nat → Nat → Int) : Option AV → XR
  | some (.isl id n) => if Nat.beq id xid then .no else match h.m.get id with
    | some (.irow el' sz n' f) => if Nat.beq el' el && Nat.beq sz j.size then match ask h (decide (0 < m)) with
        | some (true, h) => xAppend4 (h.also [LeN n n', LeN n' n]) el sz n m id f g
        | some (false, h) => .val (.isl id n) (h.also [LeN n n', LeN n' n])
        | none => .no
      else .no
    | _ => .no
  | some (.lit (.slice none 0 0)) => match ask h (decide (0 < m)) with
    | some (true, h) => added (h.also [LeN m 65536]) (.irow el j.size m g) (.isl h.next m)
    | some (false, h) => .val (.lit (.slice none 0 0)) h
    | none => .no
  | _ => .no
noncomputable def xAppend2 (h : AH) (el : TypeId) (j : TyI) (s : Option AV) : Option AV → XR
  | some (.isl xid m) => match rowAt h xid with
    | some (sz, n', g) => if Nat.beq sz j.size && Nat.blt 0 j.size && Nat.ble j.bytes 65536 then xAppend3 (h.also [LeN m n']) el j xid m g s else .no
    | none => .no
  | _ => .no
noncomputable def xAppend (tb : Tab) (h : AH) (ev : Operand → Option AV) (args : Array Operand) (argTypes : Array TypeId) : XR := match args.toList, argTypes.toList with
  | [s, x], [t, t'] => if t = t' then match asliceOf tb t with
    | some (el, j) => xAppend2 h el j (ev s) (ev x)
    | none => .no
    else .no
  | _, _ => .no
noncomputable def xEnter (args : Option (List AV)) : Option AV → XR
  | some (.fn g first cap) => match args with
    | some xs => .enter g (first ++ xs ++ cap)
    | none => .no
  | some (.yld id) => match args with
    | some xs => .round id xs
    | none => .no
  | _ => .no
noncomputable def xCall (tb : Tab) (h : AH) (ev : Operand → Option AV) (c : Call) : XR := match c.callee with
  | .builtin .append => xAppend tb h ev c.args c.argTypes
  | .value f => xEnter (evs ev c.args.toList) (ev f)
  | _ => .no
noncomputable def xmem (tb : Tab) (h : AH) (ev : Operand → Option AV) (o : Oper) : XR :=
  match o.op with
  | .alloc t => xAlloc tb h t
  | .box t x => xBox h t (ev x)
  | .store t a x => xStore tb h ev t a x
  | .buildSlice t len parts => xBuildSlice tb h ev t len parts
  | .makeSlice t l c => xMakeSlice tb h t ((ev l).bind aint) ((ev c).bind aint)
  | .makeMap _ none => added h (.map [] 0) (.mp h.next)
  | .lookup t x ix ok => xLookup tb h ev t x ix ok
  | .mapUpdate t m k x => xMapUpd tb h ev t m k x
  | .mapEntry t m k => xMapEntry tb h ev t m k
  | .entryStore _ m s x => xEntryStore h ev m s x
  | .slice t x lo hi mx => xSliceE tb h ev t x lo hi mx
  | .call c => xCall tb h ev c
  | _ => .no
inductive Res where
  | ok (e : AExit) (A : AA) (h : AH)
  | no
noncomputable def aresult (h : AH) (A : AA) (tb : Tab) : ResultVar → Option AV
  | .tmp t => A.t.get t
  | .cell a t => match tb.ty.get t, A.t.get a with
    | some i, some (.ptr id off) => match h.m.get id with
      | some (.cells cs _ _) => apart i.agg cs off i.size
      | _ => none
    | _, _ => none
noncomputable def aresults (h : AH) (A : AA) (tb : Tab) : List ResultVar → Option (List AV)
  | [] => some []
  | r :: rs => match aresult h A tb r, aresults h A tb rs with
    | some v, some vs => some (v :: vs)
    | _, _ => none
noncomputable def args0 : List AV → Nat → T AV → T AV
  | [], _, t => t
  | v :: vs, i, t => args0 vs (i + 1) (T.set (some v) 11 t i)
noncomputable def leaves (tb : Tab) : List AD → AH → Option AH
  | [], h => some h
  | .col id :: ds, h => match h.m.get id with
    | some (.dfr false) => match h.put id (.dfr true) with
      | some h' => leaves tb ds h'
      | none => none
    | _ => none
  | .call f cap args :: ds, h => match tb.dnat.get f with
    | some g => match g h (args ++ cap) with
      | some h' => leaves tb ds h'
      | none => none
    | none => none
abbrev Rec := Code → Option Nat → AA → AH → Res
noncomputable def gv1 (h : AH) (v : AV) : Option (GV × List Prop) := match v with
  | .lit u => match u with
    | .slice none 0 0 => some (.rows 0 0 0 (fun _ _ => 0), [])
    | u => some (.lit u, [])
  | .sb b => some (.sb b, [])
  | .isl id n => match h.m.get id with
    | some (.irow el sz n' f) => some (.rows el sz n f, [LeN n n'])
    | some _ => none
    | none => match h.ro.get id with
      | some r => some (.rows r.el r.sz n r.f, [LeN n r.n])
      | none => none
  | _ => none
noncomputable def gvl (gv : AV → Option (GV × List Prop)) : List AV → Option (List GV × List Prop)
  | [] => some ([], [])
  | v :: vs => match gv v with
    | some (x, ps) => match gvl gv vs with
      | some (xs, qs) => some (x :: xs, ps ++ qs)
      | none => none
    | none => none
noncomputable def gvA (h : AH) (v : AV) : Option (GV × List Prop) := match v with
  | .agg cs => match gvl (gv1 h) cs with
    | some (xs, ps) => some (.agg xs, ps)
    | none => none
  | v => gv1 h v
noncomputable def gvs (h : AH) (l : List AV) : Option (List GV × List Prop) := gvl (gvA h) l
noncomputable def gv (h : AH) (v : AV) : Option (GV × List Prop) := match v with
  | .tup cs => match gvs h cs with
    | some (xs, ps) => some (.tup xs, ps)
    | none => none
  | v => gvA h v
noncomputable def ldRow (fr : Bool) (el : TypeId) (sz n : Nat) (f : Nat → Nat → Int) (h : AH) : Option (AV × AH) := match h.addRO ⟨fr, el, sz, n, f⟩ with
  | some h' => match h with
    | ⟨_, next, _, _, _⟩ => some (.isl next n, h')
  | none => none
noncomputable def ld1 (fr : Bool) (g : GV) (h : AH) : Option (AV × AH) := match g with
  | .lit v => some (.lit v, h)
  | .sb b => some (.sb b, h)
  | .rows el sz n f => ldRow fr el sz n f h
  | _ => none
noncomputable def ldl (ld : GV → AH → Option (AV × AH)) : List GV → AH → Option (List AV × AH)
  | [], h => some ([], h)
  | g :: gs, h => match ld g h with
    | some (x, h1) => match ldl ld gs h1 with
      | some (xs, h2) => some (x :: xs, h2)
      | none => none
    | none => none
noncomputable def ldA (fr : Bool) (g : GV) (h : AH) : Option (AV × AH) := match g with
  | .agg gs => match ldl (ld1 fr) gs h with
    | some (xs, h') => some (.agg xs, h')
    | none => none
  | g => ld1 fr g h
noncomputable def lds (fr : Bool) (gs : List GV) (h : AH) : Option (List AV × AH) := ldl (ldA fr) gs h
noncomputable def ld (fr : Bool) (g : GV) (h : AH) : Option (AV × AH) := match g with
  | .tup gs => match lds fr gs h with
    | some (xs, h') => some (.tup xs, h')
    | none => none
  | g => ldA fr g h
noncomputable def xcall (tb : Tab) (rec : Rec) (f : FuncId) (args : List AV) (h : AH) : Option (AV × AH) :=
  match tb.sp.get f with
  | some F => match gvs h args with
    | some (gs, ps) => match F gs with
      | some (g, qs) => ld true g (h.also (ps ++ qs))
      | none => none
    | none => none
  | none => match tb.fn.get f with
    | none => none
    | some fn => match fn.body with
      | none => none
      | some c => if args.length ≤ fn.ntmps ∧ args.length < 1024 then match rec c none { t := args0 args 0 .e, n := fn.ntmps, ds := [] } h with
        | .ok e A h1 => if e = .norm ∨ e = .ret then match leaves tb A.ds h1 with
            | some h2 => match aresults h2 A tb fn.results.toList with
              | some [v] => some (v, h2)
              | some vs => some (.tup vs, h2)
              | none => none
            | none => none
          else none
        | .no => none
        else none
noncomputable def aset (h : AH) (id : Nat) (r : ALoop) : Option AH := h.put id (.loop r)
noncomputable def params0 : List (Tmp × AV) → T AV → Nat → Option (T AV)
  | [], t, _ => some t
  | (d, v) :: r, t, n => if d < 1024 ∧ d < n then params0 r (T.set (some v) 11 t d) n else none
noncomputable def codeOf : AExit → Option Code
  | .norm => none
  | .ret => some .ret
  | .exit id => some (.exit id)
  | .goto l => some (.goto l)
noncomputable def xround (rec : Rec) (id : Nat) (args : List AV) (h : AH) : Option (AV × AH) :=
  match h.m.get id with
  | some (.loop r) => if r.busy = false ∧ r.done = false ∧ args.length = r.params.size then
      match params0 (r.params.toList.zip args) r.t r.nt with
      | some t => match rec r.assign (some id) { t := t, n := r.nt, ds := [] } h with
        | .ok .norm A h1 => match h1.m.get id with
          | some (.loop r1) => if r1.busy = false ∧ r1.done = false then match aset h1 id { r1 with busy := true } with
              | some h2 => match rec r.body (some id) A h2 with
                | .ok e A' h3 => match h3.m.get id with
                  | some (.loop r3) => match aset h3 id { r3 with busy := false, done := (codeOf e).isSome, pending := codeOf e } with
                    | some h4 => some (.lit (.bool (codeOf e).isNone), h4)
                    | none => none
                  | _ => none
                | .no => none
              | none => none
            else none
          | _ => none
        | _ => none
      | none => none
    else none
  | _ => none
noncomputable def asked (A : AA) (h : AH) (t : Tmp) (want b : Bool) : Option (Bool × AA × AH) := match ask h b with
  | some (o, h') => match A.put (some t) (.lit (.bool o)) with
    | some A' => some (o == want, A', h')
    | none => none
  | none => none
noncomputable def awanted (ops : List Oper) (A : AA) (h : AH) (o : Oper) : Option (Bool × AA × AH) :=
  match o.guard with
  | none => some (true, A, h)
  | some (j, want) => match ops[j]? with
    | some oj => match oj.dst with
      | some t => match A.t.get t with
        | some (.lit (.bool b)) => some (b == want, A, h)
        | some (.lit (.tuple _)) => some (false, A, h)
        | some (.sb b) => asked A h t want b
        | _ => none
      | none => none
    | none => none
noncomputable def xdefer (A : AA) (rd : Option Nat) (c : Call) : Option AA := match c.callee, rd with
  | .value f, none => match A.ev f, evs A.ev c.args.toList with
    | some (.fn g first cap), some xs => match A with
      | ⟨t, n, ds⟩ => some ⟨t, n, .call g cap (first ++ xs) :: ds⟩
    | _, _ => none
  | _, _ => none
noncomputable def asDefer : Op → Option Call
  | .defer c => some c
  | _ => none
noncomputable def putH (A : AA) (dst : Option Tmp) (h : AH) (v : AV) : Option (AA × AH) := match A.put dst v with
  | some A' => some (A', h)
  | none => none
noncomputable def putO (A : AA) (dst : Option Tmp) : Option (AV × AH) → Option (AA × AH)
  | some (v, h) => putH A dst h v
  | none => none
noncomputable def xmemPut (tb : Tab) (rec : Rec) (A : AA) (h : AH) (dst : Option Tmp) : XR → Option (AA × AH)
  | .val v h' => putH A dst h' v
  | .skip h' => putH A dst h' (.lit undef)
  | .enter f args => putO A dst (xcall tb rec f args h)
  | .round id args => putO A dst (xround rec id args h)
  | .no => none
noncomputable def xop1 (tb : Tab) (rec : Rec) (o : Oper) (rd : Option Nat) (A : AA) (h : AH) : Option (AA × AH) :=
  match xpure tb A.ev o with
  | some v => putH A o.dst (h.also (pside tb A.ev o)) v
  | none => match xload tb h A.ev o with
    | some v => putH A o.dst (h.also (lside h A.ev o)) v
    | none => match asDefer o.op with
      | some c => match xdefer A rd c with
        | some A' => putH A' o.dst h (.lit undef)
        | none => none
      | none => xmemPut tb rec A h o.dst (xmem tb h A.ev o)
noncomputable def xop (tb : Tab) (rec : Rec) (ops : List Oper) (o : Oper) (rd : Option Nat) (A : AA) (h : AH) : Option (AA × AH) :=
  match awanted ops A h o with
  | none => none
  | some (b, A, h) => match b with
    | false => putH A o.dst h (.lit undef)
    | true => xop1 tb rec o rd A h
noncomputable def xops (tb : Tab) (rec : Rec) (rd : Option Nat) (ops l : List Oper) : AA → AH → Res :=
  List.rec (motive := fun _ => AA → AH → Res) (fun A h => .ok .norm A h)
    (fun o _ k A h => match xop tb rec ops o rd A h with
      | some (A', h') => k A' h'
      | none => .no) l
noncomputable def firstKind : Op → Bool
  | .move _ => true
  | .assign _ => true
  | .pick .. => true
  | .binOp .. => true
  | .unOp .. => true
  | .convert .. => true
  | .fieldAddr .. => true
  | .indexAddr .. => true
  | .field .. => true
  | .index .. => true
  | .build .. => true
  | .makeFunc .. => true
  | .extract .. => true
  | .slice .. => true
  | .load .. => true
  | .nilCheck .. => true
  | .call c => match c.callee with
    | .builtin .len => true
    | .builtin .min => true
    | .builtin .max => true
    | _ => false
  | _ => false
noncomputable def pickFirst (ops : Array Oper) (listed : Array Bool) : List Nat → Option Nat
  | [] => none
  | i :: is => match ops[i]? with
    | some o => if firstKind o.op && Region.free .any ops listed i then some i else pickFirst ops listed is
    | none => pickFirst ops listed is
noncomputable def isAlloc : Op → Bool
  | .alloc _ => true
  | .box .. => true
  | .buildSlice .. => true
  | .makeMap _ none => true
  | _ => false
noncomputable def allocAt (ops : Array Oper) (i : Nat) : Bool := match ops[i]? with
  | some o => isAlloc o.op && o.guard.isNone && (match o.dst with
    | some d => !(o.looksAt ops).contains d
    | none => true)
  | none => false
noncomputable def apartAt (ops : Array Oper) (i j : Nat) : Bool := match ops[i]?, ops[j]? with
  | some a, some b => a.apart ops b
  | _, _ => false
noncomputable def depends (ops : Array Oper) (j i : Nat) : Bool := match ops[j]? with
  | some o => o.after.any fun e => Region.binds .any e && e.on == i
  | none => false
noncomputable def mark (listed : Array Bool) : List Nat → Array Bool
  | [] => listed
  | i :: is => mark (listed.setIfInBounds i true) is
noncomputable def pairs (ops : Array Oper) (fl : List Nat) : Bool := fl.all fun i => fl.all fun j => i == j || apartAt ops i j
inductive Step where
  | fst (i : Nat) (only : Bool)
  | only (i : Nat) (fl : List Nat)
  | bar (fl : List Nat)
noncomputable def onlyOK (ops : Array Oper) (listed : Array Bool) (e : Nat) (fl : List Nat) : Bool := decide (Region.ready .any ops (mark listed fl) = [e]) && (fl.all fun j => apartAt ops e j) && pairs ops fl
noncomputable def planOne (ops : Array Oper) (listed : Array Bool) (rec : Array Bool → Option (List Step)) (e : Nat) (fl : List Nat) : Option (List Step) := if onlyOK ops listed e fl then match rec (listed.setIfInBounds e true) with
    | some r => some (.only e fl :: r)
    | none => none
  else none
noncomputable def without (fl : List Nat) (e : Nat) : List Nat := fl.filter fun j => j != e
noncomputable def pickOne (ops : Array Oper) (listed : Array Bool) (fl : List Nat) : List Nat → Option Nat
  | [] => none
  | i :: is => if onlyOK ops listed i (without fl i) then some i else pickOne ops listed fl is
noncomputable def planEnd (ops : Array Oper) (listed : Array Bool) (rec : Array Bool → Option (List Step)) (fl : List Nat) : List Nat → Option (List Step)
  | [e] => planOne ops listed rec e fl
  | [] => match pickOne ops listed fl fl with
    | some e => planOne ops listed rec e (without fl e)
    | none => none
  | _ => none
noncomputable def plan (ops : Array Oper) : Nat → Array Bool → Option (List Step)
  | 0, listed => match Region.ready .any ops listed with
    | [] => some []
    | _ => none
  | k + 1, listed => match Region.ready .any ops listed with
    | [] => some []
    | i0 :: is => match pickFirst ops listed (i0 :: is) with
      | some i => match plan ops k (listed.setIfInBounds i true) with
        | some r => some (.fst i is.isEmpty :: r)
        | none => none
      | none => planEnd ops listed (plan ops k) ((i0 :: is).filter (allocAt ops)) ((i0 :: is).filter fun i => !allocAt ops i)
abbrev Held := List (Nat × Nat × List AV)
noncomputable def cellsAt (h : AH) (id off size : Nat) : Option (List AV) := match h.m.get id with
  | some (.cells cs _ _) => if off + size ≤ cs.length then some ((cs.drop off).take size) else none
  | _ => none
noncomputable def heldIn : Held → Nat → Nat → Nat → Option (List AV)
  | [], _, _, _ => none
  | (id', off', vs) :: L, id, off, size => if id' = id ∧ off' = off ∧ vs.length = size then some vs else heldIn L id off size
noncomputable def keeps (h hs : AH) : Held → List Prop
  | [] => []
  | (id, off, vs) :: L => (match vs with
    | [] => EqRow (rowAt h id) (rowAt hs id)
    | v :: vs => EqC (cellsAt h id off (v :: vs).length) (some (v :: vs))) :: keeps h hs L
noncomputable def rowHeld (id : Nat) : Held → Bool
  | [] => false
  | (id', _, vs) :: L => match vs with
    | [] => Nat.beq id id' || rowHeld id L
    | _ :: _ => rowHeld id L
noncomputable def isRO (h : AH) (id : Nat) : Bool := match h.m.get id with
  | some _ => false
  | none => true
noncomputable def xheld (tb : Tab) (hs : AH) (L : Held) (ev : Operand → Option AV) (o : Oper) : Option AV := match o.op with
  | .load t a => match ev a with
    | some (.ptr id off) => match tb.ty.get t with
      | some i => match heldIn L id off i.size with
        | some vs => apart i.agg vs 0 i.size
        | none => none
      | none => none
    | some (.rp id sz k j) => if isRO hs id || rowHeld id L then xLoadR tb t sz k j (rowAt hs id) else none
    | _ => none
  | _ => none
noncomputable def gather (tb : Tab) (h : AH) (ops : Array Oper) : List Step → AA → Held
  | [], _ => []
  | .fst i _ :: r, A => match ops[i]? with
    | none => gather tb h ops r A
    | some o => match xpure tb A.ev o with
      | some v => match A.put o.dst v with
        | some A' => gather tb h ops r A'
        | none => []
      | none => match o.op with
        | .load t a => match A.ev a, tb.ty.get t with
          | some (.rp id sz k j), some _ => match xLoadR tb t sz k j (rowAt h id) with
            | some v => match A.put o.dst v with
              | some A' => if isRO h id then gather tb h ops r A' else (id, 0, []) :: gather tb h ops r A'
              | none => []
            | none => gather tb h ops r A
          | some (.ptr id off), some i => match cellsAt h id off i.size with
            | some vs => match apart i.agg vs 0 i.size with
              | some v => match A.put o.dst v with
                | some A' => (id, off, vs) :: gather tb h ops r A'
                | none => []
              | none => []
            | none => gather tb h ops r A
          | _, _ => gather tb h ops r A
        | _ => gather tb h ops r A
  | _ :: r, A => gather tb h ops r A
noncomputable def xfirst (tb : Tab) (hs : AH) (L : Held) (ops : List Oper) (A : AA) (h : AH) (o : Oper) : Option (AV × AA × AH) := match awanted ops A h o with
  | none => none
  | some (b, A, h) => match b with
    | false => some (.lit undef, A, h)
    | true => match xpure tb A.ev o with
      | some v => some (v, A, h.also (pside tb A.ev o))
      | none => match xheld tb hs L A.ev o with
        | some v => some (v, A, h.also (lside hs A.ev o))
        | none => none
noncomputable def unset (A : AA) : Option Tmp → Bool
  | none => true
  | some d => (A.t.get d).isNone && Nat.blt d A.n
noncomputable def isVal : XR → Bool
  | .val _ _ => true
  | _ => false
noncomputable def floatsOK (tb : Tab) (h : AH) (A : AA) (ops : Array Oper) : List Nat → Bool
  | [] => true
  | j :: js => (match ops[j]? with
    | some o => unset A o.dst && isVal (xmem tb h A.ev o)
    | none => false) && floatsOK tb h A ops js
noncomputable def xfloats (tb : Tab) (ops : Array Oper) : List Nat → AA → AH → Option (AA × AH)
  | [], A, h => some (A, h)
  | j :: js, A, h => match ops[j]? with
    | some o => match xmem tb h A.ev o with
      | .val v h' => match A.put o.dst v with
        | some A' => xfloats tb ops js A' h'
        | none => none
      | _ => none
    | none => none
noncomputable def isLoad : Op → Bool
  | .load .. => true
  | _ => false
noncomputable def ancStep (ops : Array Oper) (M : Array Bool) (j : Nat) : Array Bool := match M.getD j false with
  | true => match ops[j]? with
    | some o => o.after.foldl (fun M e => bif Region.binds .any e then M.setIfInBounds e.on true else M) M
    | none => M
  | false => M
noncomputable def anc (ops : Array Oper) (f : Nat) : Array Bool := (List.range ops.size).reverse.foldl (ancStep ops) ((Array.replicate ops.size false).setIfInBounds f true)
noncomputable def fullAt (ops : Array Oper) (j : Nat) : Bool := match ops[j]? with
  | some o => !firstKind o.op && (List.range ops.size).all fun i => match ops[i]? with
    | some oi => !isLoad oi.op || (anc ops j).getD i false
    | none => true
  | none => false
noncomputable def xdraw (tb : Tab) (rec : Rec) (rd : Option Nat) (ops : Array Oper) (hs : AH) : List Step → Held → AA → AH → Res
  | [], _, A, h => .ok .norm A h
  | .fst i only :: r, L, A, h => match ops[i]? with
    | none => .no
    | some o => match xfirst tb hs L ops.toList A h o with
      | some (v, A, h) => match A.put o.dst v with
        | some A' => xdraw tb rec rd ops hs r L A' h
        | none => .no
      | none => if only then match xop tb rec ops.toList o rd A h with
          | some (A', h') => xdraw tb rec rd ops hs r L A' (h'.also (keeps h' hs L))
          | none => .no
        else .no
  | .only i fl :: r, L, A, h => match ops[i]? with
    | none => .no
    | some o => if floatsOK tb h A ops fl then match xop tb rec ops.toList o rd A h with
        | some (A', h') => if fullAt ops i then xdraw tb rec rd ops hs r [] A' h' else xdraw tb rec rd ops hs r L A' (h'.also (keeps h' hs L))
        | none => .no
      else .no
  | .bar fl :: r, L, A, h => .no
noncomputable def planOf (ops : Array Oper) : Option (List Step) := if Region.noSelect ops then plan ops ops.size (Array.replicate ops.size false) else none
noncomputable def erase : List Oper → AA → AA
  | [], A => A
  | o :: os, A => match isAlloc o.op, o.dst, A with
    | true, some d, ⟨t, n, ds⟩ => if d < 1024 then erase os ⟨T.set none 11 t d, n, ds⟩ else erase os ⟨t, n, ds⟩
    | _, _, A => erase os A
noncomputable def xdrawn (tb : Tab) (rec : Rec) (rd : Option Nat) (ops : Array Oper) (A : AA) (h : AH) : Res := match planOf ops with
  | some steps => let A0 := erase ops.toList A; xdraw tb rec rd ops h steps (gather tb h ops steps A0) A0 h
  | none => .no
noncomputable def xloop (rec : Rec) (c : Code) (rd : Option Nat) (k : Nat) : AA → AH → Res :=
  Nat.rec (motive := fun _ => AA → AH → Res) (fun _ _ => .no)
    (fun _ go A h => match rec c rd A h with
      | .ok .norm A' h' => go A' h'
      | .ok e A' h' => .ok e A' h'
      | .no => .no) k
noncomputable def xrange (tb : Tab) (rec : Rec) (g : Operand) (ps : Array Tmp) (assign body : Code) (rd : Option Nat) (A : AA) (h : AH) : Res :=
  match (match rd with
    | some l => match h.m.get l with
      | some (.loop r) => some (r.dfr, ([] : List AD), h)
      | _ => none
    | none => match h.add (.dfr false) with
      | some h' => some (h.next, [AD.col h.next], h')
      | none => none : Option (Nat × List AD × AH)) with
  | none => .no
  | some (dfr, mark, h0) => match h0.add (.loop { busy := false, done := false, pending := none, params := ps, assign, body, t := A.t, nt := A.n, dfr }) with
    | none => .no
    | some h1 => match A.ev g with
      | some (.fn f first cap) => match xcall tb rec f (first ++ [.yld h0.next] ++ cap) h1 with
        | none => .no
        | some (_, h2) => match h2.m.get h0.next with
          | some (.loop r) => if r.busy then .no else match aset h2 h0.next { r with done := true } with
            | none => .no
            | some h3 => match r.pending with
              | none => .ok .norm { A with ds := mark ++ A.ds } h3
              | some c => rec c rd { A with ds := mark ++ A.ds } h3
          | _ => .no
      | _ => .no
noncomputable def stepE (tb : Tab) (rec : Rec) : Rec := fun c rd A h =>
  match c with
  | .skip => .ok .norm A h
  | .label _ => .ok .norm A h
  | .region _ ops draw => if draw then xdrawn tb rec rd ops A h else xops tb rec rd ops.toList ops.toList A h
  | .seq x y => match rec x rd A h with
    | .ok .norm A' h' => rec y rd A' h'
    | .ok e A' h' => .ok e A' h'
    | .no => .no
  | .cond c x y => match A.ev c with
    | some (.lit (.bool t)) => rec (if t then x else y) rd A h
    | some (.sb b) => match ask h b with
      | some (t, h) => rec (if t then x else y) rd A h
      | none => .no
    | _ => .no
  | .block id c => match rec c rd A h with
    | .ok e A' h' => .ok (if e = .exit id then .norm else e) A' h'
    | .no => .no
  | .loop c => xloop rec c rd 100000 A h
  | .exit id => .ok (.exit id) A h
  | .goto l => .ok (.goto l) A h
  | .ret => .ok .ret A h
  | .rangeFunc g ps assign body => xrange tb rec g ps assign body rd A h
  | .scope c => match rec c rd A h with
    | .ok (.goto _) _ _ => .no
    | r => r
  | .refuse _ => .no
noncomputable def exec (tb : Tab) (n : Nat) : Rec :=
  Nat.rec (motive := fun _ => Rec) (fun _ _ _ _ => .no) (fun _ r => stepE tb r) n
end PartOfUa
section PartOfUb
open Go
section
variable {α : Type}
@[simp] theorem T.get_e (i : Nat) : (T.e : T α).get i = none := rfl
theorem T.get_n0 (l r : T α) (v : Option α) : (T.n l v r).get 0 = v := rfl
theorem T.get_nS (l r : T α) (v : Option α) (j : Nat) : (T.n l v r).get (j + 1) = if j % 2 = 0 then l.get (j / 2) else r.get (j / 2) := by
  show Bool.casesOn (motive := fun _ => Option α) (Nat.beq (j % 2) 0) (r.get (j / 2)) (l.get (j / 2)) = _
  by_cases h : j % 2 = 0
  · simp [h]
  · have : Nat.beq (j % 2) 0 = false := by
      cases hb : Nat.beq (j % 2) 0 with
      | false => rfl
      | true => exact absurd (Nat.eq_of_beq_eq_true hb) h
    simp [h, this]
theorem T.set_0 (v : Option α) (t : T α) (i : Nat) : T.set v 0 t i = t := rfl
theorem T.set_e0 (v : Option α) (k : Nat) : T.set v (k + 1) .e 0 = .n .e v .e := rfl
theorem beq0 (j : Nat) : (Nat.beq (j % 2) 0 = true ∧ j % 2 = 0) ∨ (Nat.beq (j % 2) 0 = false ∧ ¬ j % 2 = 0) := by
  cases hb : Nat.beq (j % 2) 0 with
  | false => exact .inr ⟨rfl, fun h => by rw [h] at hb; cases hb⟩
  | true => exact .inl ⟨rfl, Nat.eq_of_beq_eq_true hb⟩
theorem T.set_eS (v : Option α) (k j : Nat) : T.set v (k + 1) .e (j + 1) = if j % 2 = 0 then .n (T.set v k .e (j / 2)) none .e else .n .e none (T.set v k .e (j / 2)) := by
  show Bool.casesOn (motive := fun _ => T α) (Nat.beq (j % 2) 0) (.n .e none (T.set v k .e (j / 2))) (.n (T.set v k .e (j / 2)) none .e) = _
  rcases beq0 j with ⟨h, h'⟩ | ⟨h, h'⟩ <;> simp [h, h']
theorem T.set_n0 (v u : Option α) (k : Nat) (l r : T α) : T.set v (k + 1) (.n l u r) 0 = .n l v r := rfl
theorem T.set_nS (v u : Option α) (k j : Nat) (l r : T α) : T.set v (k + 1) (.n l u r) (j + 1) = if j % 2 = 0 then .n (T.set v k l (j / 2)) u r else .n l u (T.set v k r (j / 2)) := by
  show Bool.casesOn (motive := fun _ => T α) (Nat.beq (j % 2) 0) (.n l u (T.set v k r (j / 2))) (.n (T.set v k l (j / 2)) u r) = _
  rcases beq0 j with ⟨h, h'⟩ | ⟨h, h'⟩ <;> simp [h, h']
theorem T.get_set_same (v : Option α) : ∀ (k : Nat) (t : T α) (i : Nat), i + 1 < 2 ^ k → (T.set v k t i).get i = v
  | 0, t, i, h => by simp at h
  | k + 1, t, 0, h => by cases t <;> rfl
  | k + 1, t, j + 1, h => by
    have h' : j / 2 + 1 < 2 ^ k := by rw [Nat.pow_succ] at h; omega
    cases t with
    | e =>
      rw [T.set_eS]
      by_cases hj : j % 2 = 0
      · rw [if_pos hj, T.get_nS, if_pos hj]; exact T.get_set_same v k _ _ h'
      · rw [if_neg hj, T.get_nS, if_neg hj]; exact T.get_set_same v k _ _ h'
    | n l u r =>
      rw [T.set_nS]
      by_cases hj : j % 2 = 0
      · rw [if_pos hj, T.get_nS, if_pos hj]; exact T.get_set_same v k _ _ h'
      · rw [if_neg hj, T.get_nS, if_neg hj]; exact T.get_set_same v k _ _ h'
theorem T.get_set_other (v : Option α) : ∀ (k : Nat) (t : T α) (i j : Nat), j ≠ i → (T.set v k t i).get j = t.get j
  | 0, t, i, j, h => rfl
  | k + 1, t, 0, 0, h => absurd rfl h
  | k + 1, t, 0, j + 1, h => by
    cases t with
    | e => rw [T.set_e0, T.get_nS]; split <;> rfl
    | n l u r => rw [T.set_n0, T.get_nS, T.get_nS]
  | k + 1, t, i + 1, 0, h => by
    cases t with
    | e => rw [T.set_eS]; split <;> rfl
    | n l u r => rw [T.set_nS]; split <;> rfl
  | k + 1, t, i + 1, j + 1, h => by
    have hne : i % 2 = j % 2 → j / 2 ≠ i / 2 := fun e e' => h (by omega)
    cases t with
    | e =>
      rw [T.set_eS]
      by_cases hi : i % 2 = 0 <;> by_cases hj : j % 2 = 0
      · rw [if_pos hi, T.get_nS, if_pos hj, T.get_set_other v k _ _ _ (hne (by omega))]; rfl
      · rw [if_pos hi, T.get_nS, if_neg hj]; rfl
      · rw [if_neg hi, T.get_nS, if_pos hj]; rfl
      · rw [if_neg hi, T.get_nS, if_neg hj, T.get_set_other v k _ _ _ (hne (by omega))]; rfl
    | n l u r =>
      rw [T.set_nS, T.get_nS]
      by_cases hi : i % 2 = 0 <;> by_cases hj : j % 2 = 0
      · rw [if_pos hi, T.get_nS, if_pos hj, if_pos hj, T.get_set_other v k _ _ _ (hne (by omega))]
      · rw [if_pos hi, T.get_nS, if_neg hj, if_neg hj]
      · rw [if_neg hi, T.get_nS, if_pos hj, if_pos hj]
      · rw [if_neg hi, T.get_nS, if_neg hj, if_neg hj, T.get_set_other v k _ _ _ (hne (by omega))]
end
theorem forceN_eq {α : Type} (n : Nat) (k : Nat → α) : forceN n k = k n := by cases n <;> rfl
theorem forceI_eq {α : Type} (n : Int) (k : Int → α) : forceI n k = k n := by
  cases n with
  | ofNat m => exact forceN_eq m fun m => k (.ofNat m)
  | negSucc m => exact forceN_eq m fun m => k (.negSucc m)
def Ref.o (r : Ref) : Nat := match r.a with
  | some a => a.off
  | none => 0
noncomputable def conc (θ : Th) : AV → Value
  | .lit v => v
  | .ptr id off => .pointer (some ⟨(θ id).b, off, none⟩)
  | .slc id off len sub => .slice (some ⟨(θ id).b, off, none⟩) len ((θ id).c - sub)
  | .slx id off len cap => .slice (some ⟨(θ id).b, off, none⟩) len cap
  | .slo id => .slice (θ id).a 0 (θ id).c
  | .mp id => .map (some (θ id).b)
  | .yld id => .func (.yield (θ id).b) #[] #[]
  | .fn f a b => .func (.func f) (a.map (conc θ)).toArray (b.map (conc θ)).toArray
  | .ifc t v => .iface t (conc θ v)
  | .agg cs => .agg (cs.map (conc θ)).toArray
  | .tup cs => .tuple (cs.map (conc θ)).toArray
  | .isl id n => .slice (θ id).a n (θ id).c
  | .rp id sz k j => .pointer (some ⟨(θ id).b, (θ id).o + (k * sz + j), none⟩)
  | .sb b => .bool b
def bd (θ : Th) (n : Nat) : AV → Prop
  | .lit _ => True
  | .ptr id _ => id < n
  | .slc id _ len sub => id < n ∧ len + sub ≤ (θ id).c
  | .slx id _ _ _ => id < n
  | .slo id => id < n
  | .mp id => id < n
  | .yld id => id < n
  | .fn _ a b => (∀ x ∈ a, bd θ n x) ∧ ∀ x ∈ b, bd θ n x
  | .ifc _ v => bd θ n v
  | .agg cs => ∀ x ∈ cs, bd θ n x
  | .tup cs => ∀ x ∈ cs, bd θ n x
  | .isl id m => id < n ∧ (0 < m → (θ id).a = some ⟨(θ id).b, (θ id).o, none⟩)
  | .rp id _ _ _ => id < n
  | .sb _ => True
def Ext (θ θ' : Th) (n : Nat) : Prop := ∀ id, id < n → θ' id = θ id
theorem Ext.refl (θ : Th) (n : Nat) : Ext θ θ n := fun _ _ => rfl
theorem Ext.trans {θ θ' θ'' : Th} {n m : Nat} (h : Ext θ θ' n) (h' : Ext θ' θ'' m) (hnm : n ≤ m) : Ext θ θ'' n := fun id hid => (h' id (Nat.lt_of_lt_of_le hid hnm)).trans (h id hid)
theorem bd_ext {θ θ' : Th} {n m : Nat} (he : Ext θ θ' n) (hnm : n ≤ m) : ∀ v, bd θ n v → bd θ' m v
  | .lit _, _ => by simp [bd]
  | .ptr id _, h => by simp only [bd] at h ⊢; omega
  | .slc id _ _ _, h => by simp only [bd] at h ⊢; rw [he id h.1]; exact ⟨by omega, h.2⟩
  | .slx id _ _ _, h => by simp only [bd] at h ⊢; omega
  | .slo id, h => by simp only [bd] at h ⊢; omega
  | .mp id, h => by simp only [bd] at h ⊢; omega
  | .yld id, h => by simp only [bd] at h ⊢; omega
  | .fn _ a b, h => by
    simp only [bd] at h ⊢
    exact ⟨fun x hx => bd_ext he hnm x (h.1 x hx), fun x hx => bd_ext he hnm x (h.2 x hx)⟩
  | .ifc _ v, h => by simp only [bd] at h ⊢; exact bd_ext he hnm v h
  | .agg cs, h => by simp only [bd] at h ⊢; exact fun x hx => bd_ext he hnm x (h x hx)
  | .tup cs, h => by simp only [bd] at h ⊢; exact fun x hx => bd_ext he hnm x (h x hx)
  | .isl id _, h => by simp only [bd] at h ⊢; rw [he id h.1]; exact ⟨by omega, h.2⟩
  | .rp id _ _ _, h => by simp only [bd] at h ⊢; omega
  | .sb _, _ => by simp [bd]
theorem conc_ext {θ θ' : Th} {n : Nat} (he : Ext θ θ' n) : ∀ v, bd θ n v → conc θ' v = conc θ v
  | .isl id _, h => by simp only [bd] at h; simp only [conc, he id h.1]
  | .rp id _ _ _, h => by simp only [bd] at h; simp only [conc, he id h]
  | .sb _, _ => by simp [conc]
  | .lit _, _ => by simp [conc]
  | .ptr id _, h => by simp only [bd] at h; simp only [conc, he id h]
  | .slc id _ _ _, h => by simp only [bd] at h; simp only [conc, he id h.1]
  | .slx id _ _ _, h => by simp only [bd] at h; simp only [conc, he id h]
  | .slo id, h => by simp only [bd] at h; simp only [conc, he id h]
  | .mp id, h => by simp only [bd] at h; simp only [conc, he id h]
  | .yld id, h => by simp only [bd] at h; simp only [conc, he id h]
  | .fn _ a b, h => by
    simp only [bd] at h
    have e1 : a.map (conc θ') = a.map (conc θ) := List.map_congr_left fun x hx => conc_ext he x (h.1 x hx)
    have e2 : b.map (conc θ') = b.map (conc θ) := List.map_congr_left fun x hx => conc_ext he x (h.2 x hx)
    simp only [conc, e1, e2]
  | .ifc _ v, h => by simp only [bd] at h; simp only [conc, conc_ext he v h]
  | .agg cs, h => by
    simp only [bd] at h
    have e1 : cs.map (conc θ') = cs.map (conc θ) := List.map_congr_left fun x hx => conc_ext he x (h x hx)
    simp only [conc, e1]
  | .tup cs, h => by
    simp only [bd] at h
    have e1 : cs.map (conc θ') = cs.map (conc θ) := List.map_congr_left fun x hx => conc_ext he x (h x hx)
    simp only [conc, e1]
def bdl (θ : Th) (n : Nat) (l : List AV) : Prop := ∀ x ∈ l, bd θ n x
theorem bdl_ext {θ θ' : Th} {n m : Nat} (he : Ext θ θ' n) (hnm : n ≤ m) {l : List AV} (h : bdl θ n l) : bdl θ' m l := fun x hx => bd_ext he hnm x (h x hx)
theorem concl_ext {θ θ' : Th} {n : Nat} (he : Ext θ θ' n) {l : List AV} (h : bdl θ n l) : l.map (conc θ') = l.map (conc θ) := List.map_congr_left fun x hx => conc_ext he x (h x hx)
theorem conc_cells (θ : Th) (v : AV) : (conc θ v).cells.toList = (acells v).map (conc θ) := by
  cases v <;> simp [conc, acells, Value.cells, Function.comp_def]
theorem bd_cells {θ : Th} {n : Nat} {v : AV} (h : bd θ n v) : bdl θ n (acells v) := by
  cases v <;> simp only [acells, bd] at h ⊢
  case agg cs => exact h
  case lit v => intro x hx; obtain ⟨u, _, rfl⟩ := List.mem_map.1 hx; simp [bd]
  case sb b => intro x hx; obtain rfl := List.mem_singleton.1 hx; simp [bd]
  all_goals (intro x hx; obtain rfl := List.mem_singleton.1 hx; simpa [bd] using h)
theorem All.append {ps qs : List Prop} : All (ps ++ qs) ↔ All ps ∧ All qs := by
  induction ps with
  | nil => simp [All]
  | cons p ps ih => simp only [List.cons_append, All, ih]; exact and_assoc.symm
theorem also_all {h : AH} {ps : List Prop} : All (h.also ps).sc ↔ All ps ∧ All h.sc := All.append
theorem ask_ok {h h' : AH} {b o : Bool} (hx : ask h b = some (o, h')) : h'.m = h.m ∧ h'.next = h.next ∧ h'.ro = h.ro ∧ (All h'.sc ↔ b = o ∧ All h.sc) := by
  obtain ⟨m, next, ro, sc, orc⟩ := h
  unfold ask at hx
  cases orc with
  | nil => cases hx
  | cons p r => cases hx; exact ⟨rfl, rfl, rfl, ⟨fun ⟨a, b⟩ => ⟨a.p, b⟩, fun ⟨a, b⟩ => ⟨⟨a⟩, b⟩⟩⟩
theorem bd_lits {θ : Th} {n : Nat} (l : List Value) : bdl θ n (l.map .lit) := fun x hx => by obtain ⟨u, _, rfl⟩ := List.mem_map.1 hx; simp [bd]
theorem conc_lits (θ : Th) (l : List Value) : (l.map AV.lit).map (conc θ) = l := by simp [Function.comp_def, conc]
end PartOfUb
section PartOfUc
open Go Go.RowKit
def KT (θ : Th) (n : Nat) (t : T AV) (tmps : Array Value) : Prop := ∀ i v, t.get i = some v → bd θ n v ∧ tmps[i]? = some (conc θ v)
theorem KT.ext {θ θ' : Th} {n m : Nat} {t : T AV} {tmps : Array Value} (h : KT θ n t tmps) (he : Ext θ θ' n) (hn : n ≤ m) : KT θ' m t tmps := fun i v hv => by
  obtain ⟨a, b⟩ := h i v hv
  exact ⟨bd_ext he hn _ a, by rw [conc_ext he _ a]; exact b⟩
theorem KT.set {θ : Th} {n : Nat} {t : T AV} {tmps : Array Value} (h : KT θ n t tmps) {d : Nat} {v : AV} (hv : bd θ n v) (hd : d < 1024) (hs : d < tmps.size) : KT θ n (T.set (some v) 11 t d) (tmps.setIfInBounds d (conc θ v)) := fun i u hu => by
  by_cases hi : i = d
  · subst hi
    rw [T.get_set_same _ 11 t i (by omega)] at hu
    cases hu
    exact ⟨hv, by simp [hs]⟩
  · rw [T.get_set_other _ 11 t d i hi] at hu
    obtain ⟨a, b⟩ := h i u hu
    exact ⟨a, by rw [Array.getElem?_setIfInBounds_ne (Ne.symm hi)]; exact b⟩
noncomputable def entryC (θ : Th) (e : AV × AV × Nat) : MapEntry := { key := conc θ e.1, val := conc θ e.2.1, born := e.2.2 }
def lstate (r : ALoop) : LoopState := if r.busy then .busy else if r.done then .done else .ready
def OOK (θ : Th) (n : Nat) (id : Nat) (o : AO) (w : World) : Prop :=
  match o with
  | .cells cs el row => bdl θ n cs ∧ ∃ cur, w.heap[(θ id).b]? = some (.cells cur el (0, 0)) ∧ cur.toList.take cs.length = cs.map (conc θ) ∧
      (match row with
       | none => cur.size = cs.length
       | some sz => ∃ k, cs.length = k * sz ∧ k ≤ (θ id).c ∧ (θ id).c ≤ maxLen ∧ cur.size = (θ id).c * sz)
  | .map es clock => (∀ e ∈ es, bd θ n e.1 ∧ bd θ n e.2.1) ∧ w.heap[(θ id).b]? = some (.map (es.map (entryC θ)).toArray clock)
  | .loop r => r.dfr < n ∧ ∃ L : Loop, w.heap[(θ id).b]? = some (.loop L) ∧ (r.done = false ∨ r.busy = true → L.state = lstate r) ∧ (r.busy = false → L.state ≠ .busy) ∧ L.pending = r.pending ∧ L.params = r.params ∧ L.assign = r.assign ∧ L.body = r.body ∧
      KT θ n r.t L.tmps ∧ L.tmps.size = r.nt ∧ L.defers = (θ r.dfr).b
  | .dfr shut => w.heap[(θ id).b]? = some (.deferred (if shut then none else some []))
  | .irow el sz n' f => ∃ cur, w.heap[(θ id).b]? = some (.cells cur el (0, 0)) ∧ (θ id).a = some ⟨(θ id).b, 0, none⟩ ∧ n' ≤ (θ id).c ∧ (θ id).c ≤ maxLen ∧ cur.size = (θ id).c * sz ∧ ∀ k j, k < n' → j < sz → cur[k * sz + j]? = some (.int .i64 (f k j))
theorem OOK.ext {θ θ' : Th} {n m id : Nat} {o : AO} {w w' : World} (h : OOK θ n id o w) (he : Ext θ θ' n) (hn : n ≤ m) (hid : id < n) (hw : w'.heap[(θ id).b]? = w.heap[(θ id).b]?) : OOK θ' m id o w' := by
  have hi := he id hid
  cases o with
  | cells cs el row =>
    obtain ⟨hb, cur, hc, ht, hr⟩ := h
    refine ⟨bdl_ext he hn hb, cur, by rw [hi, hw]; exact hc, by rw [concl_ext he hb]; exact ht, ?_⟩
    cases row with
    | none => exact hr
    | some sz => rw [hi]; exact hr
  | map es clock =>
    obtain ⟨hb, hc⟩ := h
    refine ⟨fun e hx => ⟨bd_ext he hn _ (hb e hx).1, bd_ext he hn _ (hb e hx).2⟩, ?_⟩
    have e1 : es.map (entryC θ') = es.map (entryC θ) := List.map_congr_left fun x hx => by simp only [entryC, conc_ext he _ (hb x hx).1, conc_ext he _ (hb x hx).2]
    rw [hi, hw, e1]; exact hc
  | loop r =>
    obtain ⟨hd, L, hL, a, a', b, c, d, e, f, g, i⟩ := h
    exact ⟨Nat.lt_of_lt_of_le hd hn, L, by rw [hi, hw]; exact hL, a, a', b, c, d, e, f.ext he hn, g, by rw [he _ hd]; exact i⟩
  | dfr shut => show w'.heap[(θ' id).b]? = _; rw [hi, hw]; exact h
  | irow el sz n' f =>
    obtain ⟨cur, a⟩ := h
    exact ⟨cur, by rw [hi, hw]; exact a⟩
theorem OOK.lt {θ : Th} {n id : Nat} {o : AO} {w : World} (h : OOK θ n id o w) : (θ id).b < w.heap.size := by
  have : ∃ x, w.heap[(θ id).b]? = some x := by
    cases o with
    | cells cs el row => obtain ⟨_, cur, hc, _⟩ := h; exact ⟨_, hc⟩
    | map es clock => exact ⟨_, h.2⟩
    | loop r => obtain ⟨_, L, hL, _⟩ := h; exact ⟨_, hL⟩
    | dfr shut => exact ⟨_, h⟩
    | irow el sz n' f => obtain ⟨cur, hc, _⟩ := h; exact ⟨_, hc⟩
  obtain ⟨x, hx⟩ := this
  exact (Array.getElem?_eq_some_iff.1 hx).1
structure Bs where
  n : Nat
  w : World
instance : Coe Bs Nat := ⟨Bs.n⟩
structure ROK (base : Bs) (θ : Th) (id : Nat) (r : RO) (w : World) : Prop where
  le : r.n ≤ (θ id).c
  cap : (θ id).c ≤ maxLen
  a : 0 < r.n → ∃ o, (θ id).a = some ⟨(θ id).b, o, none⟩
  cell : ∀ k j, k < r.n → j < r.sz → w.cell? ⟨(θ id).b, (θ id).o + (k * r.sz + j), none⟩ = some (.int .i64 (r.f k j))
  fr : 0 < r.n → r.fr = true → base ≤ (θ id).b
  lt : 0 < r.n → (θ id).b < w.heap.size
def NU (θ : Th) (h : AH) (b : Nat) : Prop := (∀ id o, h.m.get id = some o → (θ id).b ≠ b) ∧ ∀ id r, h.ro.get id = some r → 0 < r.n → (θ id).b ≠ b
structure R (base : Bs) (θ : Th) (h : AH) (w : World) : Prop where
  obj : ∀ id o, h.m.get id = some o → id < h.next ∧ base ≤ (θ id).b ∧ OOK θ h.next id o w
  inj : ∀ id id' o o', h.m.get id = some o → h.m.get id' = some o' → id ≠ id' → (θ id).b ≠ (θ id').b
  size : base ≤ w.heap.size
  b0 : ∀ k, k < base.n → w.heap[k]? = base.w.heap[k]?
  rom : ∀ id r, h.ro.get id = some r → id < h.next ∧ ROK base θ id r w ∧ (0 < r.n → ∀ id' o, h.m.get id' = some o → (θ id').b ≠ (θ id).b)
theorem R.same {base : Bs} {θ : Th} {h h' : AH} {w : World} (hR : R base θ h w) (e1 : h'.m = h.m) (e2 : h'.next = h.next) (e3 : h'.ro = h.ro) : R base θ h' w := by
  obtain ⟨m, next, ro, sc, orc⟩ := h
  obtain ⟨m', next', ro', sc', orc'⟩ := h'
  cases e1; cases e2; cases e3
  exact ⟨hR.obj, hR.inj, hR.size, hR.b0, hR.rom⟩
theorem ROK.keep {base : Bs} {θ θ' : Th} {id : Nat} {r : RO} {w w' : World} (hk : ROK base θ id r w) (he : θ' id = θ id) (hb : 0 < r.n → w'.heap[(θ id).b]? = w.heap[(θ id).b]?) (hs : w.heap.size ≤ w'.heap.size) : ROK base θ' id r w' := by
  refine ⟨by rw [he]; exact hk.le, by rw [he]; exact hk.cap, by rw [he]; exact hk.a, fun k j hkn hj => ?_, by rw [he]; exact hk.fr, fun h0 => by rw [he]; exact Nat.lt_of_lt_of_le (hk.lt h0) hs⟩
  rw [he, World.cell?_of_block (w := w) (hb (by omega))]
  exact hk.cell k j hkn hj
structure Post (base : Bs) (θ : Th) (h : AH) (w : World) (θ' : Th) (h' : AH) (w' : World) : Prop where
  ext : Ext θ θ' h.next
  next : h.next ≤ h'.next
  r : R base θ' h' w'
  below : Below base w w'
  frame : ∀ k, k < w.heap.size → (∀ id o, h.m.get id = some o → (θ id).b ≠ k) → w'.heap[k]? = w.heap[k]?
  own : ∀ id o, h'.m.get id = some o → (∃ id0 o0, h.m.get id0 = some o0 ∧ (θ id0).b = (θ' id).b) ∨ w.heap.size ≤ (θ' id).b
  own2 : ∀ id r, h'.ro.get id = some r → 0 < r.n → (∃ id0 r0, h.ro.get id0 = some r0 ∧ 0 < r0.n ∧ (θ id0).b = (θ' id).b) ∨ w.heap.size ≤ (θ' id).b
theorem Post.trans {base : Bs} {θ θ' θ'' : Th} {h h' h'' : AH} {w w' w'' : World} (p : Post base θ h w θ' h' w') (q : Post base θ' h' w' θ'' h'' w'') : Post base θ h w θ'' h'' w'' := by
  refine ⟨p.ext.trans q.ext p.next, Nat.le_trans p.next q.next, q.r, p.below.trans q.below, fun k hk hu => ?_, fun id o hg => ?_, fun id o hg h0 => ?_⟩
  · rw [q.frame k (Nat.lt_of_lt_of_le hk p.below.size) (fun id o hg => ?_), p.frame k hk hu]
    rcases p.own id o hg with ⟨id0, o0, h0, e⟩ | e
    · rw [← e]; exact hu id0 o0 h0
    · omega
  · rcases q.own id o hg with ⟨id1, o1, h1, e⟩ | e
    · rcases p.own id1 o1 h1 with ⟨id0, o0, h0, e'⟩ | e'
      · exact .inl ⟨id0, o0, h0, e'.trans e⟩
      · right; rw [← e]; exact e'
    · right; have := p.below.size; omega
  · rcases q.own2 id o hg h0 with ⟨id1, o1, h1, h1n, e⟩ | e
    · rcases p.own2 id1 o1 h1 h1n with ⟨id0, o0, h0, h0n, e'⟩ | e'
      · exact .inl ⟨id0, o0, h0, h0n, e'.trans e⟩
      · right; rw [← e]; exact e'
    · right; have := p.below.size; omega
theorem NU.post {base : Bs} {θ θ' : Th} {h h' : AH} {w w' : World} {b : Nat} (hu : NU θ h b) (hP : Post base θ h w θ' h' w') (hb : b < w.heap.size) : NU θ' h' b := by
  refine ⟨fun id o hg => ?_, fun id r hg h0 => ?_⟩
  · rcases hP.own id o hg with ⟨id0, o0, h1, e⟩ | e
    · rw [← e]; exact hu.1 id0 o0 h1
    · omega
  · rcases hP.own2 id r hg h0 with ⟨id0, o0, h1, h2, e⟩ | e
    · rw [← e]; exact hu.2 id0 o0 h1 h2
    · omega
theorem Post.refl {base : Bs} {θ : Th} {h : AH} {w : World} (r : R base θ h w) : Post base θ h w θ h w := ⟨Ext.refl _ _, Nat.le_refl _, r, Below.refl _ _, fun _ _ _ => rfl, fun id o hg => .inl ⟨id, o, hg, rfl⟩, fun id r hg h0 => .inl ⟨id, r, hg, h0, rfl⟩⟩
theorem Post.same {base : Bs} {θ θ' : Th} {h h' h'' : AH} {w w' : World} (p : Post base θ h w θ' h' w') (e1 : h''.m = h'.m) (e2 : h''.next = h'.next) (e3 : h''.ro = h'.ro) : Post base θ h w θ' h'' w' := by
  refine ⟨p.ext, by rw [e2]; exact p.next, p.r.same e1 e2 e3, p.below, p.frame, by rw [e1]; exact p.own, by rw [e3]; exact p.own2⟩
theorem Post.of_also {base : Bs} {θ θ' : Th} {h h' : AH} {w w' : World} {ps : List Prop} (p : Post base θ (h.also ps) w θ' h' w') : Post base θ h w θ' h' w' := ⟨p.ext, p.next, p.r, p.below, p.frame, p.own, p.own2⟩
theorem also_m {h : AH} {ps : List Prop} : (h.also ps).m = h.m := rfl
theorem also_next {h : AH} {ps : List Prop} : (h.also ps).next = h.next := rfl
theorem also_ro {h : AH} {ps : List Prop} : (h.also ps).ro = h.ro := rfl
theorem Post.also {base : Bs} {θ θ' : Th} {h h' : AH} {w w' : World} (p : Post base θ h w θ' h' w') {ps : List Prop} : Post base θ h w θ' (h'.also ps) w' := p.same rfl rfl rfl
def upd (θ : Th) (n : Nat) (r : Ref) : Th := fun id => if id = n then r else θ id
theorem upd_same (θ : Th) (n : Nat) (r : Ref) : upd θ n r n = r := if_pos rfl
theorem upd_ext (θ : Th) (n : Nat) (r : Ref) : Ext θ (upd θ n r) n := fun id hid => if_neg (by omega)
theorem AH.add_spec {h h' : AH} {o : AO} (ha : h.add o = some h') : h.next < 1099511627776 ∧ h'.m = T.set (some o) 41 h.m h.next ∧ h'.next = h.next + 1 ∧ h'.ro = h.ro ∧ h'.sc = h.sc := by
  obtain ⟨m, next, ro, sc, orc⟩ := h
  simp only [AH.add, forceN_eq] at ha
  cases hb : Nat.blt next 1099511627776 with
  | false => rw [hb] at ha; cases ha
  | true =>
    rw [hb] at ha
    simp only [cond_true, Option.some.injEq] at ha
    subst ha
    exact ⟨Nat.le_of_ble_eq_true hb, rfl, rfl, rfl, rfl⟩
theorem AH.addRO_spec {h h' : AH} {r : RO} (ha : h.addRO r = some h') : h.next < 1099511627776 ∧ h'.m = h.m ∧ h'.next = h.next + 1 ∧ h'.ro = T.set (some r) 41 h.ro h.next ∧ h'.sc = h.sc := by
  obtain ⟨m, next, ro, sc, orc⟩ := h
  simp only [AH.addRO, forceN_eq] at ha
  cases hb : Nat.blt next 1099511627776 with
  | false => rw [hb] at ha; cases ha
  | true =>
    rw [hb] at ha
    simp only [cond_true, Option.some.injEq] at ha
    subst ha
    exact ⟨Nat.le_of_ble_eq_true hb, rfl, rfl, rfl, rfl⟩
theorem AH.put_spec {h h' : AH} {id : Nat} {o : AO} (ha : h.put id o = some h') : id < 1099511627776 ∧ h'.m = T.set (some o) 41 h.m id ∧ h'.next = h.next ∧ h'.ro = h.ro ∧ h'.sc = h.sc := by
  obtain ⟨m, next, ro, sc, orc⟩ := h
  simp only [AH.put] at ha
  cases hb : Nat.blt id 1099511627776 with
  | false => rw [hb] at ha; cases ha
  | true =>
    rw [hb] at ha
    simp only [cond_true, Option.some.injEq] at ha
    subst ha
    exact ⟨Nat.le_of_ble_eq_true hb, rfl, rfl, rfl, rfl⟩
section
variable {base : Bs} {θ θ' : Th} {h h' : AH} {w w' : World}
theorem R.add (hR : R base θ h w) {o : AO} (ha : h.add o = some h') {r : Ref} (hr : w.heap.size ≤ r.b) (hw : ∀ k, k < w.heap.size → w'.heap[k]? = w.heap[k]?) (hs : w.heap.size ≤ w'.heap.size)
    (ho : OOK (upd θ h.next r) (h.next + 1) h.next o w') : R base (upd θ h.next r) h' w' := by
  obtain ⟨h1, hm, hn, hro, hsc⟩ := AH.add_spec ha
  have hE := upd_ext θ h.next r
  have old : ∀ id o', id ≠ h.next → h'.m.get id = some o' → h.m.get id = some o' := fun id o' hne hg => by rw [hm, T.get_set_other _ _ _ _ _ hne] at hg; exact hg
  have new : h'.m.get h.next = some o := by rw [hm]; exact T.get_set_same _ 41 _ _ (by omega)
  have bne : ∀ id o', h.m.get id = some o' → (θ id).b ≠ r.b := fun id o' hg => by
    have := (hR.obj id o' hg).2.2.lt; omega
  have eqo : ∀ id o', h.m.get id = some o' → upd θ h.next r id = θ id := fun id o' hg => hE id (hR.obj id o' hg).1
  refine ⟨fun id o' hg => ?_, fun id id' o1 o2 hg1 hg2 hne => ?_, Nat.le_trans hR.size hs, fun k hk => (hw k (Nat.lt_of_lt_of_le hk hR.size)).trans (hR.b0 k hk), fun id q hg => ?_⟩
  · by_cases hid : id = h.next
    · subst hid
      rw [new] at hg; cases hg
      exact ⟨by omega, by rw [upd_same]; exact Nat.le_trans hR.size hr, by rw [hn]; exact ho⟩
    · have hg' := old id o' hid hg
      obtain ⟨a, b, c⟩ := hR.obj id o' hg'
      exact ⟨by omega, by rw [eqo id o' hg']; exact b, by rw [hn]; exact c.ext hE (by omega) a (hw _ c.lt)⟩
  · by_cases h1' : id = h.next
    · subst h1'
      have hg' := old id' o2 (Ne.symm hne) hg2
      rw [upd_same, eqo id' o2 hg']
      exact (bne id' o2 hg').symm
    · have hg1' := old id o1 h1' hg1
      by_cases h2' : id' = h.next
      · subst h2'
        rw [upd_same, eqo id o1 hg1']
        exact bne id o1 hg1'
      · have hg2' := old id' o2 h2' hg2
        rw [eqo id o1 hg1', eqo id' o2 hg2']
        exact hR.inj id id' o1 o2 hg1' hg2' hne
  · rw [hro] at hg
    obtain ⟨a, b, c⟩ := hR.rom id q hg
    refine ⟨by omega, b.keep (hE id a) (fun h0 => hw _ (b.lt h0)) hs, fun h0 id' o' hg' => ?_⟩
    rw [hE id a]
    by_cases hid : id' = h.next
    · subst hid; rw [upd_same]; have := b.lt h0; omega
    · have hg2 := old id' o' hid hg'
      rw [eqo id' o' hg2]; exact c h0 id' o' hg2
theorem Post.bump (hR : R base θ h w) (r : Ref) : Post base θ h w (upd θ h.next r) ⟨h.m, Nat.succ h.next, h.ro, h.sc, h.orc⟩ w := by
  have hE := upd_ext θ h.next r
  refine ⟨hE, Nat.le_succ _, ⟨fun id o hg => ?_, fun id id' o o' h1 h2 hne => ?_, hR.size, hR.b0, fun id q hg => ?_⟩, Below.refl _ _, fun _ _ _ => rfl, fun id o hg => .inl ⟨id, o, hg, by rw [hE id (hR.obj id o hg).1]⟩, fun id q hg h0 => .inl ⟨id, q, hg, h0, by rw [hE id (hR.rom id q hg).1]⟩⟩
  · obtain ⟨a, b, c⟩ := hR.obj id o hg
    exact ⟨Nat.lt_succ_of_lt a, by rw [hE id a]; exact b, c.ext hE (Nat.le_succ _) a rfl⟩
  · rw [hE id (hR.obj id o h1).1, hE id' (hR.obj id' o' h2).1]
    exact hR.inj id id' o o' h1 h2 hne
  · obtain ⟨a, b, c⟩ := hR.rom id q hg
    refine ⟨Nat.lt_succ_of_lt a, b.keep (hE id a) (fun _ => rfl) (Nat.le_refl _), fun h0 id' o' hg' => ?_⟩
    rw [hE id a, hE id' (hR.obj id' o' hg').1]; exact c h0 id' o' hg'
theorem R.adopt (hR : R base θ h w) {o : AO} (ha : h.add o = some h') {r : Ref} (hb : base ≤ r.b) (hu : NU θ h r.b) (ho : OOK (upd θ h.next r) (h.next + 1) h.next o w) : R base (upd θ h.next r) h' w := by
  obtain ⟨h1, hm, hn, hro, hsc⟩ := AH.add_spec ha
  have hE := upd_ext θ h.next r
  have old : ∀ id o', id ≠ h.next → h'.m.get id = some o' → h.m.get id = some o' := fun id o' hne hg => by rw [hm, T.get_set_other _ _ _ _ _ hne] at hg; exact hg
  have new : h'.m.get h.next = some o := by rw [hm]; exact T.get_set_same _ 41 _ _ (by omega)
  have eqo : ∀ id o', h.m.get id = some o' → upd θ h.next r id = θ id := fun id o' hg => hE id (hR.obj id o' hg).1
  refine ⟨fun id o' hg => ?_, fun id id' o1 o2 hg1 hg2 hne => ?_, hR.size, hR.b0, fun id q hg => ?_⟩
  · by_cases hid : id = h.next
    · subst hid
      rw [new] at hg; cases hg
      exact ⟨by omega, by rw [upd_same]; exact hb, by rw [hn]; exact ho⟩
    · have hg' := old id o' hid hg
      obtain ⟨a, b, c⟩ := hR.obj id o' hg'
      exact ⟨by omega, by rw [eqo id o' hg']; exact b, by rw [hn]; exact c.ext hE (by omega) a rfl⟩
  · by_cases h1' : id = h.next
    · subst h1'
      have hg' := old id' o2 (Ne.symm hne) hg2
      rw [upd_same, eqo id' o2 hg']
      exact (hu.1 id' o2 hg').symm
    · have hg1' := old id o1 h1' hg1
      by_cases h2' : id' = h.next
      · subst h2'
        rw [upd_same, eqo id o1 hg1']
        exact hu.1 id o1 hg1'
      · have hg2' := old id' o2 h2' hg2
        rw [eqo id o1 hg1', eqo id' o2 hg2']
        exact hR.inj id id' o1 o2 hg1' hg2' hne
  · rw [hro] at hg
    obtain ⟨a, b, c⟩ := hR.rom id q hg
    refine ⟨by omega, b.keep (hE id a) (fun _ => rfl) (Nat.le_refl _), fun h0 id' o' hg' => ?_⟩
    rw [hE id a]
    by_cases hid : id' = h.next
    · subst hid; rw [upd_same]; exact (hu.2 id q hg h0).symm
    · have hg2 := old id' o' hid hg'
      rw [eqo id' o' hg2]; exact c h0 id' o' hg2
theorem R.put (hR : R base θ h w) {id : Nat} {o0 o : AO} (h0 : h.m.get id = some o0) (ha : h.put id o = some h') (hw : ∀ k, k ≠ (θ id).b → w'.heap[k]? = w.heap[k]?) (hs : w'.heap.size = w.heap.size)
    (ho : OOK θ h.next id o w') : R base θ h' w' := by
  obtain ⟨h1, hm, hn, hro, hsc⟩ := AH.put_spec ha
  have old : ∀ i o', i ≠ id → h'.m.get i = some o' → h.m.get i = some o' := fun i o' hne hg => by rw [hm, T.get_set_other _ _ _ _ _ hne] at hg; exact hg
  have new : h'.m.get id = some o := by rw [hm]; exact T.get_set_same _ 41 _ _ (by omega)
  have ex : ∀ i o', h'.m.get i = some o' → ∃ o'', h.m.get i = some o'' := fun i o' hg => by
    by_cases hi : i = id
    · subst hi; exact ⟨_, h0⟩
    · exact ⟨_, old i o' hi hg⟩
  refine ⟨fun i o' hg => ?_, fun i i' o1 o2 hg1 hg2 hne => ?_, by rw [hs]; exact hR.size, fun k hk => (hw k (Nat.ne_of_lt (Nat.lt_of_lt_of_le hk (hR.obj _ _ h0).2.1))).trans (hR.b0 k hk), fun i q hg => ?_⟩
  · by_cases hi : i = id
    · subst hi
      rw [new] at hg; cases hg
      obtain ⟨a, b, _⟩ := hR.obj i o0 h0
      exact ⟨by omega, b, by rw [hn]; exact ho⟩
    · have hg' := old i o' hi hg
      obtain ⟨a, b, c⟩ := hR.obj i o' hg'
      exact ⟨by omega, b, by rw [hn]; exact c.ext (Ext.refl _ _) (Nat.le_refl _) a (hw _ (hR.inj i id o' o0 hg' h0 hi))⟩
  · obtain ⟨_, g1⟩ := ex i o1 hg1
    obtain ⟨_, g2⟩ := ex i' o2 hg2
    exact hR.inj i i' _ _ g1 g2 hne
  · rw [hro] at hg
    obtain ⟨a, b, c⟩ := hR.rom i q hg
    refine ⟨by omega, b.keep rfl (fun hq => hw _ (c hq id o0 h0).symm) (by omega), fun hq i' o' hg' => ?_⟩
    obtain ⟨_, g1⟩ := ex i' o' hg'
    exact c hq i' _ g1
theorem R.swap (hR : R base θ h w) {id : Nat} {o0 o : AO} (h0 : h.m.get id = some o0) {sc : List Prop} {orc : List Bool} (ha : AH.add ⟨T.set none 41 h.m id, h.next, h.ro, sc, orc⟩ o = some h') {r : Ref} (hr : r.b = (θ id).b ∨ r.b = w.heap.size)
    (hw : ∀ k, k < w.heap.size → k ≠ (θ id).b → w'.heap[k]? = w.heap[k]?) (hs : w.heap.size ≤ w'.heap.size) (ho : OOK (upd θ h.next r) (h.next + 1) h.next o w') : R base (upd θ h.next r) h' w' := by
  obtain ⟨h1, hm, hn, hro, hsc⟩ := AH.add_spec ha
  simp only at h1 hm hn hro
  obtain ⟨i0, b0, c0⟩ := hR.obj id o0 h0
  have hE := upd_ext θ h.next r
  have hidx : id ≠ h.next := by omega
  have old : ∀ i o', i ≠ h.next → h'.m.get i = some o' → i ≠ id ∧ h.m.get i = some o' := fun i o' hne hg => by
    rw [hm, T.get_set_other _ _ _ _ _ hne] at hg
    by_cases hi : i = id
    · subst hi; rw [T.get_set_same _ 41 _ _ (by omega)] at hg; cases hg
    · rw [T.get_set_other _ _ _ _ _ hi] at hg; exact ⟨hi, hg⟩
  have new : h'.m.get h.next = some o := by rw [hm]; exact T.get_set_same _ 41 _ _ (by omega)
  have bne : ∀ i o', i ≠ id → h.m.get i = some o' → (θ i).b ≠ r.b := fun i o' hi hg => by
    rcases hr with e | e
    · rw [e]; exact hR.inj i id o' o0 hg h0 hi
    · have := (hR.obj i o' hg).2.2.lt; omega
  have eqo : ∀ i o', h.m.get i = some o' → upd θ h.next r i = θ i := fun i o' hg => hE i (hR.obj i o' hg).1
  refine ⟨fun i o' hg => ?_, fun i i' o1 o2 hg1 hg2 hne => ?_, Nat.le_trans hR.size hs, fun k hk => (hw k (Nat.lt_of_lt_of_le hk hR.size) (Nat.ne_of_lt (Nat.lt_of_lt_of_le hk b0))).trans (hR.b0 k hk), fun i q hg => ?_⟩
  · by_cases hi : i = h.next
    · subst hi
      rw [new] at hg; cases hg
      refine ⟨by omega, ?_, by rw [hn]; exact ho⟩
      rw [upd_same]
      rcases hr with e | e <;> rw [e]
      · exact b0
      · exact hR.size
    · obtain ⟨hne, hg'⟩ := old i o' hi hg
      obtain ⟨a, b, c⟩ := hR.obj i o' hg'
      exact ⟨by omega, by rw [eqo i o' hg']; exact b, by rw [hn]; exact c.ext hE (by omega) a (hw _ c.lt (hR.inj i id o' o0 hg' h0 hne))⟩
  · by_cases h1' : i = h.next
    · subst h1'
      obtain ⟨hx, hg'⟩ := old i' o2 (Ne.symm hne) hg2
      rw [upd_same, eqo i' o2 hg']
      exact (bne i' o2 hx hg').symm
    · obtain ⟨hx1, hg1'⟩ := old i o1 h1' hg1
      by_cases h2' : i' = h.next
      · subst h2'
        rw [upd_same, eqo i o1 hg1']
        exact bne i o1 hx1 hg1'
      · obtain ⟨hx2, hg2'⟩ := old i' o2 h2' hg2
        rw [eqo i o1 hg1', eqo i' o2 hg2']
        exact hR.inj i i' o1 o2 hg1' hg2' hne
  · rw [hro] at hg
    obtain ⟨a, b, c⟩ := hR.rom i q hg
    refine ⟨by omega, b.keep (hE i a) (fun hq => hw _ (b.lt hq) (c hq id o0 h0).symm) hs, fun hq i' o' hg' => ?_⟩
    rw [hE i a]
    by_cases hi : i' = h.next
    · subst hi
      rw [upd_same]
      rcases hr with e | e
      · rw [e]; exact c hq id o0 h0
      · have := b.lt hq; omega
    · obtain ⟨_, hg2⟩ := old i' o' hi hg'
      rw [eqo i' o' hg2]; exact c hq i' o' hg2
theorem R.more (hR : R base θ h w) (hb : Below w.heap.size w w') : R base θ h w' :=
  ⟨fun id o hg => by
    obtain ⟨a, b, c⟩ := hR.obj id o hg
    exact ⟨a, b, c.ext (Ext.refl _ _) (Nat.le_refl _) a (hb.block _ c.lt)⟩, hR.inj, Nat.le_trans hR.size hb.size, fun k hk => (hb.block k (Nat.lt_of_lt_of_le hk hR.size)).trans (hR.b0 k hk), fun id q hg => by
    obtain ⟨a, b, c⟩ := hR.rom id q hg
    exact ⟨a, b.keep rfl (fun hq => hb.block _ (b.lt hq)) hb.size, c⟩⟩
theorem Post.more (hR : R base θ h w) (hb : Below w.heap.size w w') : Post base θ h w θ h w' := ⟨Ext.refl _ _, Nat.le_refl _, hR.more hb, hb.mono hR.size, fun k hk _ => hb.block k hk, fun id o hg => .inl ⟨id, o, hg, rfl⟩, fun id r hg h0 => .inl ⟨id, r, hg, h0, rfl⟩⟩
theorem Post.add (hR : R base θ h w) {o : AO} (ha : h.add o = some h') {r : Ref} (hr : w.heap.size ≤ r.b) (hw : ∀ k, k < w.heap.size → w'.heap[k]? = w.heap[k]?) (hbel : Below base w w')
    (ho : OOK (upd θ h.next r) (h.next + 1) h.next o w') : Post base θ h w (upd θ h.next r) h' w' := by
  obtain ⟨_, hm, hn, hro, hsc⟩ := AH.add_spec ha
  refine ⟨upd_ext _ _ _, by omega, hR.add ha hr hw hbel.size ho, hbel, fun k hk _ => hw k hk, fun id o' hg => ?_, fun id q hg h0 => .inl ⟨id, q, by rw [← hro]; exact hg, h0, by rw [upd_ext θ h.next r id (hR.rom id q (by rw [← hro]; exact hg)).1]⟩⟩
  by_cases hid : id = h.next
  · subst hid; right; rw [upd_same]; exact hr
  · rw [hm, T.get_set_other _ _ _ _ _ hid] at hg
    exact .inl ⟨id, o', hg, by rw [upd_ext θ h.next r id (hR.obj id o' hg).1]⟩
theorem Post.put (hR : R base θ h w) {id : Nat} {o0 o : AO} (h0 : h.m.get id = some o0) (ha : h.put id o = some h') (hw : ∀ k, k ≠ (θ id).b → w'.heap[k]? = w.heap[k]?) (hs : w'.heap.size = w.heap.size)
    (hbel : Below base w w') (ho : OOK θ h.next id o w') : Post base θ h w θ h' w' := by
  obtain ⟨_, hm, hn, hro, hsc⟩ := AH.put_spec ha
  refine ⟨Ext.refl _ _, by omega, hR.put h0 ha hw hs ho, hbel, fun k _ hu => hw k (hu id o0 h0).symm, fun i o' hg => ?_, fun i q hg hq => .inl ⟨i, q, by rw [← hro]; exact hg, hq, rfl⟩⟩
  by_cases hi : i = id
  · subst hi; exact .inl ⟨i, o0, h0, rfl⟩
  · rw [hm, T.get_set_other _ _ _ _ _ hi] at hg; exact .inl ⟨i, o', hg, rfl⟩
theorem Post.swap (hR : R base θ h w) {id : Nat} {o0 o : AO} (h0 : h.m.get id = some o0) {sc : List Prop} {orc : List Bool} (ha : AH.add ⟨T.set none 41 h.m id, h.next, h.ro, sc, orc⟩ o = some h') {r : Ref} (hr : r.b = (θ id).b ∨ r.b = w.heap.size)
    (hw : ∀ k, k < w.heap.size → k ≠ (θ id).b → w'.heap[k]? = w.heap[k]?) (hbel : Below base w w') (ho : OOK (upd θ h.next r) (h.next + 1) h.next o w') : Post base θ h w (upd θ h.next r) h' w' := by
  obtain ⟨_, hm, hn, hro, hsc⟩ := AH.add_spec ha
  simp only at hm hn hro
  have hid := (hR.obj id o0 h0).1
  refine ⟨upd_ext _ _ _, by omega, hR.swap h0 ha hr hw hbel.size ho, hbel, fun k hk hu => hw k hk (hu id o0 h0).symm, fun i o' hg => ?_, fun i q hg hq => .inl ⟨i, q, by rw [← hro]; exact hg, hq, by rw [upd_ext θ h.next r i (hR.rom i q (by rw [← hro]; exact hg)).1]⟩⟩
  by_cases hi : i = h.next
  · subst hi
    rw [upd_same]
    rcases hr with e | e
    · exact .inl ⟨id, o0, h0, e.symm⟩
    · right; omega
  · rw [hm, T.get_set_other _ _ _ _ _ hi] at hg
    by_cases hi' : i = id
    · subst hi'
      exact .inl ⟨i, o0, h0, by rw [upd_ext θ h.next r i hid]⟩
    · rw [T.get_set_other _ _ _ _ _ hi'] at hg
      exact .inl ⟨i, o', hg, by rw [upd_ext θ h.next r i (hR.obj i o' hg).1]⟩
end
end PartOfUc
section PartOfUd
open Go Go.RowKit
def descAgg : TypeDesc → Bool
  | .struct _ | .array _ _ => true
  | _ => false
structure TyOK (P : Program) (t : TypeId) (i : TyI) : Prop where
  und : P.underlying t = some i.desc
  info : ∃ inf z, P.info? t = some inf ∧ inf.size = i.size ∧ inf.bytes = i.bytes ∧ inf.zero = some z ∧ z.cells.toList = i.zero
  agg : i.agg = descAgg i.desc
  len : i.zero.length = i.size
  zv : ∀ inf, P.info? t = some inf → inf.zero = some (if i.agg then .agg i.zero.toArray else i.zero.headD undef)
def ints (l : List Int) : Value := .agg (l.map (Value.int .i64)).toArray
def PairOK (P : Program) (t : TypeId) (n : Nat) : Prop := P.eqGuardType P.depth t = false ∧
  ∀ (al bl : List Int), al.length = n → bl.length = n → ∀ w : World, (Op.equal t (ints al) (ints bl)).run P w = .ok (isEq al bl) w
def EvOK (θ : Th) (n : Nat) (ev : Operand → Option AV) (ρ : Operand → Value) : Prop := ∀ x v, ev x = some v → bd θ n v ∧ ρ x = conc θ v
section
variable {P : Program} {tb : Tab} {θ : Th} {n : Nat} {ev : Operand → Option AV} {ρ : Operand → Value} {w : World}
theorem run_val {s : Sem Value} {x : Value} {w' : World} (h : s.run P w = .ok x w') : (do pure (Next.value (← s)) : Sem Next).run P w = .ok (.value x) w' := by
  simp [Sem.run_bind, h, Result.andThen]
theorem run_und {t : TypeId} {i : TyI} (h : TyOK P t i) (w : World) : (underlying t).run P w = .ok i.desc w := run_underlying h.und w
theorem run_isAgg' {t : TypeId} {i : TyI} (h : TyOK P t i) (w : World) : (isAgg t).run P w = .ok i.agg w := by
  unfold isAgg
  rw [Sem.run_bind, run_und h w, h.agg]
  cases i.desc <;> rfl
theorem run_size {t : TypeId} {i : TyI} (h : TyOK P t i) (w : World) : (sizeOf t).run P w = .ok i.size w := by
  obtain ⟨inf, z, h1, h2, _⟩ := h.info
  simp [sizeOf, typeInfo, Sem.run_bind, h1, h2, Result.andThen]
theorem run_zero {t : TypeId} {i : TyI} (h : TyOK P t i) : ∃ z, (∀ w, (zeroValue t).run P w = .ok z w) ∧ z.cells.toList = i.zero := by
  obtain ⟨inf, z, h1, h2, h3, h4, h5⟩ := h.info
  exact ⟨z, fun w => by simp [zeroValue, typeInfo, Sem.run_bind, h1, h4, Result.andThen], h5⟩
theorem apart_ok {t : TypeId} {i : TyI} (h : TyOK P t i) {cs : List AV} {off : Nat} {v : AV} (hv : apart i.agg cs off i.size = some v) (hb : bdl θ n cs) (w : World) :
    bd θ n v ∧ (part t (cs.map (conc θ)).toArray off).run P w = .ok (conc θ v) w := by
  unfold part
  rw [Sem.run_bind, run_isAgg' h w]
  unfold apart at hv
  cases ha : i.agg with
  | true =>
    rw [ha] at hv
    simp only [if_true] at hv
    split at hv
    · rename_i hle
      cases hv
      refine ⟨?_, ?_⟩
      · simp only [bd]; exact fun x hx => hb x (List.mem_of_mem_drop (List.mem_of_mem_take hx))
      · simp [Result.andThen, Sem.run_bind, run_size h w, conc, List.map_take, List.map_drop]
    · cases hv
  | false =>
    rw [ha] at hv
    simp only [Bool.false_eq_true, if_false] at hv
    exact ⟨hb v (List.mem_of_getElem? hv), by simp [Result.andThen, hv]⟩
theorem evs_ok (hE : EvOK θ n ev ρ) : ∀ {l : List Operand} {vs : List AV}, evs ev l = some vs → bdl θ n vs ∧ l.map ρ = vs.map (conc θ)
  | [], vs, h => by cases h; exact ⟨fun x hx => (by cases hx), rfl⟩
  | x :: xs, vs, h => by
    simp only [evs] at h
    cases h1 : ev x with
    | none => rw [h1] at h; cases h
    | some v =>
      rw [h1] at h
      cases h2 : evs ev xs with
      | none => rw [h2] at h; cases h
      | some us =>
        rw [h2] at h
        cases h
        obtain ⟨a, b⟩ := hE x v h1
        obtain ⟨c, d⟩ := evs_ok hE h2
        refine ⟨fun y hy => ?_, by simp [b, d]⟩
        rcases List.mem_cons.1 hy with rfl | hy
        · exact a
        · exact c y hy
theorem evps_ok (hE : EvOK θ n ev ρ) : ∀ {l : List (Nat × Operand)} {vs : List (Nat × AV)}, evps ev l = some vs → (∀ p ∈ vs, bd θ n p.2) ∧ (l.map fun (i, x) => (i, ρ x)) = vs.map fun p => (p.1, conc θ p.2)
  | [], vs, h => by cases h; exact ⟨fun x hx => (by cases hx), rfl⟩
  | (i, x) :: xs, vs, h => by
    simp only [evps] at h
    cases h1 : ev x with
    | none => rw [h1] at h; cases h
    | some v =>
      rw [h1] at h
      cases h2 : evps ev xs with
      | none => rw [h2] at h; cases h
      | some us =>
        rw [h2] at h
        cases h
        obtain ⟨a, b⟩ := hE x v h1
        obtain ⟨c, d⟩ := evps_ok hE h2
        refine ⟨fun y hy => ?_, by simp [b]; exact d⟩
        rcases List.mem_cons.1 hy with rfl | hy
        · exact a
        · exact c y hy
theorem foldl_set (off : Nat) : ∀ (vs : List Value) (cs : Array Value) (k : Nat), off + k + vs.length ≤ cs.size →
    (vs.zipIdx k).foldl (fun cs (c, j) => cs.setIfInBounds (off + j) c) cs = (cs.toList.take (off + k) ++ vs ++ cs.toList.drop (off + k + vs.length)).toArray
  | [], cs, k, h => by simp
  | v :: vs, cs, k, h => by
    simp only [List.length_cons] at h
    rw [List.zipIdx_cons, List.foldl_cons, foldl_set off vs _ (k + 1) (by simp; omega)]
    have hk : off + k < cs.toList.length := by simp; omega
    congr 1
    simp only [Array.toList_setIfInBounds, List.length_cons]
    rw [List.take_set, List.drop_set_of_lt (by omega)]
    have e1 : (List.take (off + (k + 1)) cs.toList).set (off + k) v = List.take (off + k) cs.toList ++ [v] := by
      have hm : min (off + k) cs.size = off + k := by simp at hk; omega
      rw [show off + (k + 1) = (off + k) + 1 by omega, List.take_succ_eq_append_getElem hk, List.set_append_right _ _ (by simp; omega)]
      simp [hm]
    rw [e1, show off + (k + 1) + vs.length = off + k + (vs.length + 1) by omega]
    simp
theorem afill_ok {place : Nat → Option (Nat × Nat)} : ∀ {ps : List (Nat × AV)} {cells out : List AV}, afill place cells ps = some out → bdl θ n cells → (∀ p ∈ ps, bd θ n p.2) →
    bdl θ n out ∧ out.length = cells.length ∧ Instr.fill place (cells.map (conc θ)).toArray (ps.map fun p => (p.1, conc θ p.2)) = some (out.map (conc θ)).toArray
  | [], cells, out, h, hb, hp => by cases h; exact ⟨hb, rfl, rfl⟩
  | (i, v) :: rest, cells, out, h, hb, hp => by
    simp only [afill] at h
    cases h1 : place i with
    | none => rw [h1] at h; cases h
    | some os =>
      obtain ⟨off, size⟩ := os
      rw [h1] at h
      simp only at h
      split at h
      · rename_i hc
        obtain ⟨hc1, hc2⟩ := hc
        have hbv : bd θ n v := hp (i, v) (by simp)
        have hb' : bdl θ n (cells.take off ++ acells v ++ cells.drop (off + size)) := fun x hx => by
          rcases List.mem_append.1 hx with hx | hx
          · rcases List.mem_append.1 hx with hx | hx
            · exact hb x (List.mem_of_mem_take hx)
            · exact bd_cells hbv x hx
          · exact hb x (List.mem_of_mem_drop hx)
        obtain ⟨a, b, c⟩ := afill_ok h hb' (fun p hp' => hp p (by simp [hp']))
        refine ⟨a, ?_, ?_⟩
        · rw [b]; simp; omega
        · have hcl := conc_cells θ v
          have hsz : (conc θ v).cells.size = size := by
            have := congrArg List.length hcl
            simp at this
            rw [this, hc1]
          simp only [List.map_cons, Instr.fill, h1]
          rw [if_neg (by simp [hsz]; omega), ← c]
          congr 1
          rw [← Array.foldl_toList, Array.toList_zipIdx, foldl_set off _ _ 0 (by simp [hsz]; omega)]
          simp only [Nat.add_zero, hcl, List.map_append, List.map_take, List.map_drop, List.length_map, hc1]
      · cases h
theorem rep_len {l : List AV} : ∀ k, (rep l k).length = k * l.length
  | 0 => by simp [rep]
  | k + 1 => by simp only [rep, List.length_append, rep_len k]; rw [Nat.succ_mul]; omega
theorem rep_bd {l : List AV} (h : bdl θ n l) : ∀ k, bdl θ n (rep l k)
  | 0 => fun x hx => by cases hx
  | k + 1 => fun x hx => by
    rcases List.mem_append.1 hx with hx | hx
    · exact h x hx
    · exact rep_bd h k x hx
theorem rep_get {l : List AV} (hl : 0 < l.length) : ∀ (k j : Nat), j < k * l.length → (rep l k)[j]? = l[j % l.length]?
  | 0, j, h => by simp at h
  | k + 1, j, h => by
    simp only [rep]
    by_cases hj : j < l.length
    · rw [List.getElem?_append_left hj, Nat.mod_eq_of_lt hj]
    · rw [List.getElem?_append_right (by omega), rep_get hl k (j - l.length) (by rw [Nat.succ_mul] at h; omega)]
      congr 1
      rw [show j = (j - l.length) + l.length by omega]
      simp
end
end PartOfUd
section PartOfUe
open Go Go.RowKit
theorem wrap_in {k : IntKind} {x : Int} (h : InR k x) : k.wrap x = x := by
  have h := h.p
  cases k <;> simp only [IntKind.wrap, IntKind.bits, IntKind.signed, Bool.true_and, Bool.false_and, decide_eq_true_eq, ge_iff_le] <;> (first | (split <;> omega) | (simp; omega))
section
variable {P : Program} {tb : Tab} {θ : Th} {n : Nat} {ev : Operand → Option AV} {ρ : Operand → Value}
theorem abin_ok {op : BinOp} {t : TypeId} {x y : Operand} {a b v : Value} (h : abin op a b = some v) (hs : All (sbin op a b)) (w : World) : (do eqGuard op t x y a b; binOp op t a b : Sem Value).run P w = .ok v w := by
  cases a <;> cases b <;> simp only [abin] at h <;> try cases h
  case int.int k a k' b =>
    split at h
    · rename_i hk
      subst hk
      have hg : (eqGuard op t x y (.int k a) (.int k b)).run P w = .ok () w := by
        unfold eqGuard
        cases op <;> simp [Sem.run_bind, Result.andThen]
      rw [Sem.run_bind, hg]
      simp only [Result.andThen]
      cases op <;> simp only [abinI] at h <;> try cases h
      · have hw := wrap_in hs.1; simp [binOp, Op.intArith, hw]
      · have hw := wrap_in hs.1; simp [binOp, Op.intArith, hw]
      · have hw := wrap_in hs.1; simp [binOp, Op.intArith, hw]
      · have h0 := hs.1.p; have hw := wrap_in hs.2.1; simp [binOp, Op.intDiv, h0, hw]
      · have h0 := hs.1.p; simp [binOp, Op.intDiv, h0]
      · simp only [binOp, Op.intCmp]; by_cases hab : a = b <;> simp [hab]
      · simp only [binOp, Op.intCmp, bne]; by_cases hab : a = b <;> simp [hab]
      all_goals simp [binOp, Op.intCmp]
    · cases h
  case string.string a b =>
    have hg : (eqGuard op t x y (.string a) (.string b)).run P w = .ok () w := by
      unfold eqGuard
      cases op <;> simp [Sem.run_bind, Result.andThen]
    rw [Sem.run_bind, hg]
    simp only [Result.andThen]
    cases op <;> simp only [abinS] at h <;> try cases h
    case add =>
      split at h
      · rename_i hs
        cases h
        have hn : ¬ (((a.size + b.size : Nat) : Int) > IntKind.i64.max) := by
          have : IntKind.i64.max = 9223372036854775807 := rfl
          rw [this]; omega
        simp only [binOp, Op.stringOp, hn, if_false]
        rfl
      · cases h
    all_goals simp [binOp, Op.stringOp]
theorem conc_lit (θ : Th) (v : Value) : conc θ (.lit v) = v := by simp [conc]
theorem conc_ofV (θ : Th) (v : Value) : conc θ (ofV v) = v := by cases v <;> simp [ofV, conc]
theorem bd_ofV (v : Value) : bd θ n (ofV v) := by cases v <;> simp [ofV, bd]
theorem lv_ok {v : AV} {u : Value} (h : lv v = some u) : conc θ v = u := by
  unfold lv at h
  split at h <;> cases h <;> simp [conc]
theorem abool_ok {v : AV} {b : Bool} (h : abool v = some b) : conc θ v = .bool b := by
  unfold abool at h
  split at h <;> cases h <;> simp [conc]
theorem aint_ok {v : AV} {k : IntKind} {i : Int} (h : aint v = some (k, i)) : v = .lit (.int k i) := by
  unfold aint at h
  split at h
  · cases h; rfl
  · cases h
theorem isSliceT_ok (hT : ∀ t i, tb.ty.get t = some i → TyOK P t i) {t : TypeId} (hst : isSliceT tb t = true) : ∃ el, P.underlying t = some (.slice el) := by
  unfold isSliceT at hst
  split at hst
  · rename_i i hi
    split at hst
    · rename_i el hd; exact ⟨el, by rw [(hT t i hi).und, hd]⟩
    · cases hst
  · cases hst
theorem run_eq_nil (hT : ∀ t i, tb.ty.get t = some i → TyOK P t i) {op : BinOp} {t : TypeId} {x y : Operand} {A : Option Addr} {l c l' c' : Nat} {r : Bool} {v : AV} (hr : r = A.isSome) {y' : AV} (hy' : conc θ y' = .slice none l' c') (h : xBinN tb op t (some y') r = some v) (w : World) :
    bd θ n v ∧ (do eqGuard op t x y (.slice A l c) (conc θ y'); binOp op t (.slice A l c) (conc θ y') : Sem Value).run P w = .ok (conc θ v) w := by
  rw [hy']
  subst hr
  have hst : isSliceT tb t = true := by
    unfold xBinN at h
    split at h <;> try (cases h; done)
    split at h
    · assumption
    · cases h
  obtain ⟨el, hu⟩ := isSliceT_ok hT hst
  have heq : (Op.equal t (.slice A l c) (.slice none l' c')).run P w = .ok (!A.isSome) w := by
    unfold Op.equal Op.maxDepth
    unfold Op.equalIn
    simp only [Sem.run_bind, run_underlying hu w, Result.andThen]
    cases A <;> rfl
  have hg : (eqGuard op t x y (.slice A l c) (.slice none l' c')).run P w = .ok () w := by
    unfold eqGuard
    cases op <;> simp [Sem.run_bind, Result.andThen]
  rw [Sem.run_bind, hg]
  simp only [Result.andThen]
  unfold xBinN at h
  split at h <;> try (cases h; done)
  rw [if_pos hst] at h
  split at h
  · cases h
    refine ⟨by simp [bd], ?_⟩
    simp only [binOp, Sem.run_bind, heq, Result.andThen, Sem.run_pure, conc]
  · cases h
    refine ⟨by simp [bd], ?_⟩
    simp only [binOp, Sem.run_bind, heq, Result.andThen, Sem.run_pure, conc, Bool.not_not]
  · cases h
theorem xBinN_some {op : BinOp} {t : TypeId} {y : Option AV} {r : Bool} {v : AV} (h : xBinN tb op t y r = some v) : ∃ y' l' c', y = some y' ∧ y' = .lit (.slice none l' c') := by
  unfold xBinN at h
  split at h
  · exact ⟨_, _, _, rfl, rfl⟩
  · cases h
theorem ai64s_ok' : ∀ {l : List AV} {ns : List Int}, ai64s' l = some ns → l = ns.map fun n => .lit (.int .i64 n)
  | [], ns, h => by cases h; rfl
  | v :: vs, ns, h => by
    simp only [ai64s'] at h
    split at h
    · rename_i n ms h1 h2
      cases h
      have hv : v = .lit (.int .i64 n) := by
        unfold ai64' at h1
        split at h1
        · cases h1; rfl
        · cases h1
      rw [hv, ai64s_ok' h2]
      rfl
    · cases h
theorem conc_ints (ns : List Int) : conc θ (.agg (ns.map fun n => .lit (.int .i64 n))) = ints ns := by
  simp only [conc, ints, List.map_map]
  congr 2
  apply List.map_congr_left
  intro x _
  simp [conc]
theorem xPair_ok (hQ : ∀ t n, tb.eqs.get t = some n → PairOK P t n) {op : BinOp} {t : TypeId} {x y : Operand} {cs : List AV} {u v : AV} (h : xPair tb op t cs (some u) = some v) (w : World) :
    bd θ n v ∧ (do eqGuard op t x y (conc θ (.agg cs)) (conc θ u); binOp op t (conc θ (.agg cs)) (conc θ u) : Sem Value).run P w = .ok (conc θ v) w := by
  unfold xPair at h
  split at h <;> try (cases h; done)
  rename_i bl hu
  cases hu
  split at h <;> try (cases h; done)
  rename_i xs ys hx hy
  split at h <;> try (cases h; done)
  rename_i hc
  simp only [Bool.and_eq_true] at hc
  obtain ⟨m, hm, h1⟩ : ∃ m, tb.eqs.get t = some m ∧ m = xs.length := by
    have := hc.1; unfold isInts at this; split at this
    · rename_i m hm; exact ⟨m, hm, Nat.eq_of_beq_eq_true this⟩
    · cases this
  have h2 : m = ys.length := by
    have := hc.2; unfold isInts at this; rw [hm] at this; exact Nat.eq_of_beq_eq_true this
  obtain ⟨hg, he⟩ := hQ t m hm
  rw [ai64s_ok' hx, ai64s_ok' hy, conc_ints, conc_ints]
  have hgd : (eqGuard op t x y (ints xs) (ints ys)).run P w = .ok () w := by
    unfold eqGuard ints
    cases op <;> simp [Sem.run_bind, Result.andThen, program, Sem.run, hg]
  rw [Sem.run_bind, hgd]
  simp only [Result.andThen]
  have he' := he xs ys h1.symm h2.symm w
  unfold ints at he' ⊢
  split at h
  · cases h
    refine ⟨by simp [bd], ?_⟩
    simp only [binOp, Sem.run_bind, he', Result.andThen, Sem.run_pure, conc]
  · cases h
    refine ⟨by simp [bd], ?_⟩
    simp only [binOp, Sem.run_bind, he', Result.andThen, Sem.run_pure, conc]
  · cases h
theorem xPair_some {op : BinOp} {t : TypeId} {cs : List AV} {y : Option AV} {v : AV} (h : xPair tb op t cs y = some v) : ∃ u, y = some u := by
  unfold xPair at h
  split at h
  · exact ⟨_, rfl⟩
  · cases h
theorem isBoolT_ok (hT : ∀ t i, tb.ty.get t = some i → TyOK P t i) {t : TypeId} (hst : isBoolT tb t = true) : P.underlying t = some .bool := by
  unfold isBoolT at hst
  split at hst
  · rename_i i hi
    split at hst
    · rename_i hd; rw [(hT t i hi).und, hd]
    · cases hst
  · cases hst
theorem xBinB_ok (hT : ∀ t i, tb.ty.get t = some i → TyOK P t i) (hE : EvOK θ n ev ρ) {op : BinOp} {t : TypeId} {x y : Operand} {a : Bool} {u v : AV} (hu : ev x = some u) (ha : conc θ u = .bool a) (h : xBinB tb op t a (ev y) = some v) (w : World) :
    bd θ n v ∧ (do eqGuard op t x y (ρ x) (ρ y); binOp op t (ρ x) (ρ y) : Sem Value).run P w = .ok (conc θ v) w := by
  unfold xBinB at h
  split at h <;> try (cases h; done)
  rename_i z hz
  split at h <;> try (cases h; done)
  rename_i b hb
  split at h <;> try (cases h; done)
  rename_i ht
  have hty := isBoolT_ok hT ht
  rw [(hE x _ hu).2, (hE y _ hz).2, ha, abool_ok hb]
  have hg : (eqGuard op t x y (.bool a) (.bool b)).run P w = .ok () w := by
    unfold eqGuard
    cases op <;> simp [Sem.run_bind, Result.andThen]
  have heq : (Op.equal t (.bool a) (.bool b)).run P w = .ok (a == b) w := by
    unfold Op.equal Op.maxDepth
    unfold Op.equalIn
    simp only [Sem.run_bind, run_underlying hty w, Result.andThen]
    cases a <;> cases b <;> rfl
  rw [Sem.run_bind, hg]
  simp only [Result.andThen]
  cases op <;> simp only [abinB, Option.map_some, Option.map_none] at h <;> try cases h
  all_goals
    refine ⟨by simp [ofV, bd], ?_⟩
    simp only [binOp, Sem.run_bind, heq, Result.andThen, Sem.run_pure, ofV, conc]
theorem xBin2_ok (hE : EvOK θ n ev ρ) {op : BinOp} {t : TypeId} {x y : Operand} {a : Value} {u v : AV} (hu : ev x = some u) (ha : conc θ u = a) (h : xBin2 op a (ev y) = some v) (hs : All (sBin2 op a (ev y))) (w : World) :
    bd θ n v ∧ (do eqGuard op t x y (ρ x) (ρ y); binOp op t (ρ x) (ρ y) : Sem Value).run P w = .ok (conc θ v) w := by
  unfold xBin2 at h
  unfold sBin2 at hs
  split at h
  · rename_i z hz
    split at h
    · rename_i b hb
      cases hr : abin op a b with
      | none => rw [hr] at h; cases h
      | some q =>
        rw [hr] at h
        cases h
        rw [(hE x _ hu).2, (hE y _ hz).2, ha, lv_ok hb, conc_ofV]
        rw [hz] at hs
        simp only [hb] at hs
        exact ⟨bd_ofV q, abin_ok hr hs w⟩
    · cases h
  · cases h
theorem xBin_ok (hT : ∀ t i, tb.ty.get t = some i → TyOK P t i) (hQ : ∀ t n, tb.eqs.get t = some n → PairOK P t n) (hE : EvOK θ n ev ρ) {op : BinOp} {t : TypeId} {x y : Operand} {v : AV} (h : xBin tb ev op t x y = some v) (hs : All (sBin ev op x y)) (w : World) :
    bd θ n v ∧ (do eqGuard op t x y (ρ x) (ρ y); binOp op t (ρ x) (ρ y) : Sem Value).run P w = .ok (conc θ v) w := by
  unfold xBin at h
  split at h
  · rename_i u hu
    split at h
    · rename_i hrow
      obtain ⟨y', l', c', hy, hyl⟩ := xBinN_some h
      rw [hy] at h
      have e1 := (hE x _ hu).2
      have e2 := (hE y _ hy).2
      have hcu : ∃ A l c, conc θ u = .slice (some A) l c := by
        unfold hasRow at hrow
        split at hrow
        · rename_i id off len sub; exact ⟨⟨(θ id).b, off, none⟩, len, (θ id).c - sub, by simp only [conc]⟩
        · rename_i id off len cap; exact ⟨⟨(θ id).b, off, none⟩, len, cap, by simp only [conc]⟩
        · cases hrow
      obtain ⟨A, l, c, hcu⟩ := hcu
      rw [e1, e2, hcu]
      exact run_eq_nil hT (A := some A) rfl (l' := l') (c' := c') (by rw [hyl, conc_lit]) h w
    · split at h
      · rename_i hnil
        obtain ⟨y', l', c', hy, hyl⟩ := xBinN_some h
        rw [hy] at h
        have e1 := (hE x _ hu).2
        have e2 := (hE y _ hy).2
        have hcu : ∃ l c, conc θ u = .slice none l c := by
          unfold isNilS at hnil
          split at hnil
          · exact ⟨_, _, conc_lit θ _⟩
          · cases hnil
        obtain ⟨l, c, hcu⟩ := hcu
        rw [e1, e2, hcu]
        exact run_eq_nil hT (A := none) rfl (l' := l') (c' := c') (by rw [hyl, conc_lit]) h w
      · split at h
        · exact xBinB_ok hT hE hu (by simp [conc]) h w
        · rename_i a hna _ _
          unfold sBin at hs
          rw [hu] at hs
          have hs' : All (sBin2 op a (ev y)) := by
            cases a <;> first | exact hs | (exact absurd rfl (hna _))
          exact xBin2_ok hE hu (conc_lit θ a) h hs' w
        · exact xBinB_ok hT hE hu (by simp [conc]) h w
        · rename_i cs _ _
          obtain ⟨u, hy⟩ := xPair_some h
          rw [hy] at h
          rw [(hE x _ hu).2, (hE y _ hy).2]
          exact xPair_ok hQ h w
        · cases h
  · cases h
theorem merge_ok {c : Bool} {x y : Option AV} {v : AV} (h : merge c x y = some v) : ∃ a b, x = some a ∧ y = some b ∧ bd θ n v ∧ conc θ v = if c then conc θ a else conc θ b := by
  unfold merge at h
  split at h
  · rename_i k p k' q
    split at h
    · rename_i hk; subst hk; cases h
      refine ⟨_, _, rfl, rfl, by simp [bd], ?_⟩
      cases c <;> simp [conc]
    · cases h
  · rename_i a b _ _
    split at h
    · rename_i p q hp hq
      cases h
      refine ⟨_, _, rfl, rfl, by simp [bd], ?_⟩
      rw [abool_ok hp, abool_ok hq]
      cases c <;> simp [conc]
    · cases h
  · cases h
theorem xPick_ok (hE : EvOK θ n ev ρ) {c a b : Operand} {v : AV} (h : xPick ev c a b = some v) (w : World) :
    bd θ n v ∧ (do pure (Next.value (if ← asBool (ρ c) then ρ a else ρ b)) : Sem Next).run P w = .ok (.value (conc θ v)) w := by
  unfold xPick at h
  split at h
  · rename_i t hc
    rw [(hE c _ hc).2, conc_lit]
    cases t
    · simp only [Bool.false_eq_true, if_false] at h
      obtain ⟨p, q⟩ := hE b v h
      exact ⟨p, by simp [asBool, Sem.run_bind, Result.andThen, q]⟩
    · simp only [if_true] at h
      obtain ⟨p, q⟩ := hE a v h
      exact ⟨p, by simp [asBool, Sem.run_bind, Result.andThen, q]⟩
  · rename_i t hc
    rw [(hE c _ hc).2]
    obtain ⟨x, y, hx, hy, hb, hv⟩ := merge_ok (θ := θ) (n := n) h
    refine ⟨hb, ?_⟩
    rw [hv, (hE a _ hx).2, (hE b _ hy).2]
    cases t <;> simp [conc, asBool, Sem.run_bind, Result.andThen]
  · cases h
theorem xUn_ok (hE : EvOK θ n ev ρ) {op : UnOp} {x : Operand} {v : AV} (h : xUn ev op x = some v) (hs : All (sUn ev op x)) (w : World) : bd θ n v ∧ (Op.unary op (ρ x)).run P w = .ok (conc θ v) w := by
  unfold xUn at h
  split at h
  · rename_i b hx
    cases h
    rw [(hE x _ hx).2]
    exact ⟨by simp [bd], by simp [conc, Op.unary]⟩
  · rename_i b hx
    cases h
    rw [(hE x _ hx).2]
    exact ⟨by simp [bd], by simp [conc, Op.unary]⟩
  · rename_i k i hx
    cases h
    unfold sUn at hs
    rw [hx] at hs
    have hw := wrap_in hs.1
    rw [(hE x _ hx).2]
    exact ⟨by simp [bd], by simp only [conc, Op.unary, Op.intArith, hw]; simp⟩
  · cases h
theorem xConv_ok (hT : ∀ t i, tb.ty.get t = some i → TyOK P t i) (hE : EvOK θ n ev ρ) {s d : TypeId} {x : Operand} {v : AV} (h : xConv tb ev s d x = some v) (hsd : All (sConv tb ev d x)) (w : World) :
    bd θ n v ∧ (convert s d (ρ x)).run P w = .ok (conc θ v) w := by
  unfold xConv at h
  split at h
  · rename_i i j k m hs hd hx
    split at h
    · rename_i k' hj
      cases h
      unfold sConv at hsd
      rw [hd, hx] at hsd
      simp only [hj] at hsd
      have hw := wrap_in hsd.1
      rw [(hE x _ hx).2]
      refine ⟨by simp [bd], ?_⟩
      unfold convert
      simp only [Sem.run_bind, run_und (hT s i hs) w, run_und (hT d j hd) w, Result.andThen, hj, conc, Conv.intToInt, hw]
      simp
    · cases h
  · cases h
theorem afield_ok (hT : ∀ t i, tb.ty.get t = some i → TyOK P t i) {s : TypeId} {f o : Nat} {j : TyI} (h : afield tb s f = some (o, j)) :
    ∃ fs fd, P.underlying s = some (.struct fs) ∧ fs[f]? = some fd ∧ fd.offset = o ∧ TyOK P fd.type j := by
  unfold afield at h
  split at h
  · rename_i i hi
    split at h
    · rename_i fs hd
      split at h
      · rename_i fd hf
        split at h
        · rename_i j' hj
          cases h
          exact ⟨fs, fd, by rw [(hT s i hi).und, hd], hf, rfl, hT _ _ hj⟩
        · cases h
      · cases h
    · cases h
  · cases h
theorem xFieldAddr_ok (hT : ∀ t i, tb.ty.get t = some i → TyOK P t i) (hE : EvOK θ n ev ρ) {s : TypeId} {x : Operand} {f : Nat} {v : AV} (h : xFieldAddr tb ev s x f = some v) (w : World) :
    bd θ n v ∧ (Instr.fieldAt s (ρ x) f).run P w = .ok (conc θ v) w := by
  unfold xFieldAddr at h
  split at h
  · rename_i id off hx
    split at h
    · rename_i o j hf
      split at h
      · cases h
      · rename_i hj
        cases h
        obtain ⟨fs, fd, hu, hfd, rfl, hj'⟩ := afield_ok hT hf
        obtain ⟨hb, hx'⟩ := hE x _ hx
        rw [hx']
        refine ⟨by simpa [bd] using hb, ?_⟩
        unfold Instr.fieldAt fieldPlace
        simp [Sem.run_bind, run_underlying hu w, Result.andThen, hfd, conc, Instr.sureAddr, run_size hj' w, hj, Addr.add]
    · cases h
  · rename_i id sz k i hx
    split at h
    · rename_i o j hf
      split at h
      · cases h
      · rename_i hj
        cases h
        obtain ⟨fs, fd, hu, hfd, rfl, hj'⟩ := afield_ok hT hf
        obtain ⟨hb, hx'⟩ := hE x _ hx
        rw [hx']
        refine ⟨by simpa [bd] using hb, ?_⟩
        unfold Instr.fieldAt fieldPlace
        simp [Sem.run_bind, run_underlying hu w, Result.andThen, hfd, conc, Instr.sureAddr, run_size hj' w, hj, Addr.add, Nat.add_assoc]
    · cases h
  · cases h
theorem xField_ok (hT : ∀ t i, tb.ty.get t = some i → TyOK P t i) (hE : EvOK θ n ev ρ) {s : TypeId} {x : Operand} {f : Nat} {v : AV} (h : xField tb ev s x f = some v) (w : World) :
    bd θ n v ∧ (Instr.field s (ρ x) f).run P w = .ok (conc θ v) w := by
  unfold xField at h
  split at h
  · rename_i cs hx
    split at h
    · rename_i o j hf
      obtain ⟨fs, fd, hu, hfd, rfl, hj'⟩ := afield_ok hT hf
      obtain ⟨hb, hx'⟩ := hE x _ hx
      rw [hx']
      simp only [bd] at hb
      obtain ⟨a, b⟩ := apart_ok (θ := θ) hj' h hb w
      refine ⟨a, ?_⟩
      unfold Instr.field
      simp [Sem.run_bind, run_underlying hu w, Result.andThen, hfd, conc, asAgg]
      simpa using b
    · cases h
  · cases h
theorem asliceOf_ok (hT : ∀ t i, tb.ty.get t = some i → TyOK P t i) {t el : TypeId} {j : TyI} (h : asliceOf tb t = some (el, j)) : P.underlying t = some (.slice el) ∧ TyOK P el j := by
  unfold asliceOf at h
  split at h
  · rename_i i hi
    split at h
    · rename_i el' hd
      split at h
      · rename_i j' hj
        cases h
        exact ⟨by rw [(hT t i hi).und, hd], hT _ _ hj⟩
      · cases h
    · cases h
  · cases h
theorem aarrayOf_ok (hT : ∀ t i, tb.ty.get t = some i → TyOK P t i) {t : TypeId} {len : Nat} {j : TyI} (h : aarrayOf tb t = some (len, j)) : ∃ el, P.underlying t = some (.array len el) ∧ TyOK P el j := by
  unfold aarrayOf at h
  split at h
  · rename_i i hi
    split at h
    · rename_i len' el' hd
      split at h
      · rename_i j' hj
        cases h
        exact ⟨el', by rw [(hT t i hi).und, hd], hT _ _ hj⟩
      · cases h
    · cases h
  · cases h
theorem bind_some {α β : Type} {x : Option α} {f : α → Option β} {y : β} (h : x.bind f = some y) : ∃ a, x = some a ∧ f a = some y := by
  cases x with
  | none => cases h
  | some a => exact ⟨a, rfl, h⟩
theorem bind_aint {x : Option AV} {k : IntKind} {m : Int} (h : x.bind aint = some (k, m)) : x = some (.lit (.int k m)) := by
  obtain ⟨a, ha, hm⟩ := bind_some h
  rw [ha, aint_ok hm]
theorem xIndexAddr_ok (hT : ∀ t i, tb.ty.get t = some i → TyOK P t i) (hE : EvOK θ n ev ρ) {t : TypeId} {x ix : Operand} {v : AV} (h : xIndexAddr tb ev t x ix = some v) (hs : All (sIndexAddr tb ev t x ix)) (w : World) :
    bd θ n v ∧ (Instr.indexAt t (ρ x) (ρ ix)).run P w = .ok (conc θ v) w := by
  unfold xIndexAddr at h
  unfold sIndexAddr at hs
  split at h
  · rename_i id off len sub hx
    obtain ⟨hb, hx'⟩ := hE x _ hx
    rw [hx] at hs
    cases hi : (ev ix).bind aint with
    | none => rw [hi] at h; cases h
    | some p =>
      obtain ⟨k, m⟩ := p
      rw [hi] at h hs
      have hix := (hE ix _ (bind_aint hi)).2
      have hc := hs.1.p
      simp only [xIxSlc] at h
      split at h
      · rename_i el j hsl
        cases h
        obtain ⟨hu, hj⟩ := asliceOf_ok hT hsl
        rw [hx', hix]
        refine ⟨by simp only [bd] at hb ⊢; omega, ?_⟩
        unfold Instr.indexAt
        simp only [conc, Sem.run_bind, asIntOf, Sem.run_pure, Result.andThen, run_underlying hu w, run_size hj w]
        simp [hc, Addr.add, run_size hj w, Result.andThen]
      · cases h
  · rename_i id off len cap hx
    obtain ⟨hb, hx'⟩ := hE x _ hx
    rw [hx] at hs
    cases hi : (ev ix).bind aint with
    | none => rw [hi] at h; cases h
    | some p =>
      obtain ⟨k, m⟩ := p
      rw [hi] at h hs
      have hix := (hE ix _ (bind_aint hi)).2
      have hc := hs.1.p
      simp only [xIxSlc] at h
      split at h
      · rename_i el j hsl
        cases h
        obtain ⟨hu, hj⟩ := asliceOf_ok hT hsl
        rw [hx', hix]
        refine ⟨by simp only [bd] at hb ⊢; omega, ?_⟩
        unfold Instr.indexAt
        simp only [conc, Sem.run_bind, asIntOf, Sem.run_pure, Result.andThen, run_underlying hu w, run_size hj w]
        simp [hc, Addr.add, run_size hj w, Result.andThen]
      · cases h
  · rename_i id len hx
    obtain ⟨hb, hx'⟩ := hE x _ hx
    rw [hx] at hs
    cases hi : (ev ix).bind aint with
    | none => rw [hi] at h; cases h
    | some p =>
      obtain ⟨k, m⟩ := p
      rw [hi] at h hs
      have hix := (hE ix _ (bind_aint hi)).2
      have hc := hs.1.p
      simp only [xIxRow] at h
      split at h
      · rename_i el j hsl
        cases h
        obtain ⟨hu, hj⟩ := asliceOf_ok hT hsl
        rw [hx', hix]
        simp only [bd] at hb ⊢
        refine ⟨hb.1, ?_⟩
        unfold Instr.indexAt
        simp only [conc, Sem.run_bind, asIntOf, Sem.run_pure, Result.andThen, run_underlying hu w, run_size hj w]
        rw [hb.2 (by omega)]
        simp [hc, Addr.add, run_size hj w, Result.andThen]
      · cases h
  · rename_i id off hx
    obtain ⟨hb, hx'⟩ := hE x _ hx
    rw [hx] at hs
    cases hi : (ev ix).bind aint with
    | none => rw [hi] at h; cases h
    | some p =>
      obtain ⟨k, m⟩ := p
      rw [hi] at h hs
      have hix := (hE ix _ (bind_aint hi)).2
      simp only [xIxArr] at h
      split at h
      · rename_i len j hsl
        cases h
        simp only [sIxArr, hsl] at hs
        have hc := hs.1.p
        obtain ⟨el, hu, hj⟩ := aarrayOf_ok hT hsl
        rw [hx', hix]
        refine ⟨by simp only [bd] at hb ⊢; omega, ?_⟩
        unfold Instr.indexAt
        simp only [conc, Sem.run_bind, asIntOf, Sem.run_pure, Result.andThen, run_underlying hu w, run_size hj w, Instr.sureAddr]
        simp [hc, Addr.add, run_size hj w, Result.andThen]
      · cases h
  · cases h
theorem xIndex_ok (hT : ∀ t i, tb.ty.get t = some i → TyOK P t i) (hE : EvOK θ n ev ρ) {t : TypeId} {x ix : Operand} {v : AV} (h : xIndex tb ev t x ix = some v) (hs : All (sIndex tb ev t x ix)) (w : World) :
    bd θ n v ∧ (Instr.index t (ρ x) (ρ ix)).run P w = .ok (conc θ v) w := by
  unfold xIndex at h
  unfold sIndex at hs
  split at h
  · rename_i cs hx
    obtain ⟨hb, hx'⟩ := hE x _ hx
    rw [hx] at hs
    cases hi : (ev ix).bind aint with
    | none => rw [hi] at h; cases h
    | some p =>
      obtain ⟨k, m⟩ := p
      rw [hi] at h hs
      have hix := (hE ix _ (bind_aint hi)).2
      simp only [xIx] at h
      split at h
      · rename_i len j hsl
        simp only [sIxArr, hsl] at hs
        have hc := hs.1.p
        obtain ⟨el, hu, hj⟩ := aarrayOf_ok hT hsl
        simp only [bd] at hb
        obtain ⟨a, b⟩ := apart_ok (θ := θ) hj h hb w
        rw [hx', hix]
        refine ⟨a, ?_⟩
        unfold Instr.index
        simp only [conc, Sem.run_bind, asIntOf, Sem.run_pure, Result.andThen, run_underlying hu w, run_size hj w]
        simp only [hc, and_self, if_true, Sem.run_bind, run_size hj w, Result.andThen]
        exact b
      · cases h
  · rename_i str hx
    obtain ⟨hb, hx'⟩ := hE x _ hx
    rw [conc_lit] at hx'
    cases hi : (ev ix).bind aint with
    | none => rw [hi] at h; cases h
    | some p =>
      obtain ⟨k, m⟩ := p
      rw [hi] at h
      have hix := (hE ix _ (bind_aint hi)).2
      rw [conc_lit] at hix
      simp only [xIxS] at h
      split at h
      · rename_i hc
        split at h
        · rename_i b hb'
          cases h
          have hu : P.underlying t = some .string := by
            have hst := hc.1
            unfold isStr at hst
            split at hst
            · rename_i i hi
              split at hst
              · rename_i hd; rw [(hT t i hi).und, hd]
              · cases hst
            · cases hst
          refine ⟨by simp [bd], ?_⟩
          rw [hx', hix]
          unfold Instr.index
          simp only [Sem.run_bind, asIntOf, Sem.run_pure, Result.andThen, run_underlying hu w, hc.2, if_true, hb', conc]
        · cases h
      · cases h
  · cases h
theorem isStr_ok (hT : ∀ t i, tb.ty.get t = some i → TyOK P t i) {t : TypeId} (hst : isStr tb t = true) : P.underlying t = some .string := by
  unfold isStr at hst
  split at hst
  · rename_i i hi
    split at hst
    · rename_i hd; rw [(hT t i hi).und, hd]
    · cases hst
  · cases hst
theorem map_some {α β : Type} {x : Option α} {f : α → β} {y : β} (h : x.map f = some y) : ∃ a, x = some a ∧ f a = y := by
  cases x with
  | none => cases h
  | some a => exact ⟨a, rfl, by simpa using h⟩
theorem offs_ok (hT : ∀ t i, tb.ty.get t = some i → TyOK P t i) : ∀ {fs : List Field} {os : List (Nat × Nat)}, offs tb fs = some os → fs.mapM (fun f => (P.info? f.type).map fun i => (f.offset, i.size)) = some os
  | [], os, h => by cases h; rfl
  | f :: fs, os, h => by
    simp only [offs] at h
    cases h1 : tb.ty.get f.type with
    | none => rw [h1] at h; cases h
    | some i =>
      rw [h1] at h
      cases h2 : offs tb fs with
      | none => rw [h2] at h; cases h
      | some r =>
        rw [h2] at h
        cases h
        obtain ⟨inf, z, hi, hs, _⟩ := (hT _ _ h1).info
        simp [List.mapM_cons, hi, hs, offs_ok hT h2]
theorem xBuild_ok (hT : ∀ t i, tb.ty.get t = some i → TyOK P t i) (hE : EvOK θ n ev ρ) {t : TypeId} {parts : Array (Nat × Operand)} {v : AV} (h : xBuild tb ev t parts = some v) (w : World) :
    bd θ n v ∧ (Instr.build t (parts.map fun (i, x) => (i, ρ x))).run P w = .ok (conc θ v) w := by
  unfold xBuild at h
  split at h
  · rename_i i ps hi hp
    obtain ⟨hb, he⟩ := evps_ok hE hp
    have he' : (parts.map fun (i, x) => (i, ρ x)).toList = ps.map fun p => (p.1, conc θ p.2) := by rw [Array.toList_map]; exact he
    obtain ⟨inf, z, hinf, _, _, hz, hzc⟩ := (hT t i hi).info
    have hzc' : z.cells = ((i.zero.map AV.lit).map (conc θ)).toArray := by rw [conc_lits, ← hzc]
    unfold xBuild2 at h
    split at h
    · rename_i fs hd
      split at h
      · rename_i os ho
        obtain ⟨out, hf, rfl⟩ := map_some h
        obtain ⟨a, b, c⟩ := afill_ok (θ := θ) hf (bd_lits i.zero) hb
        refine ⟨by simp only [bd]; exact a, ?_⟩
        rw [run_build (P := P) w t _ (out.map (conc θ)).toArray ?_]
        · simp only [conc]
        · unfold Program.built
          rw [hinf, (hT t i hi).und, hd]
          simp only [hz, offs_ok hT ho, he']
          rw [hzc', ← c]
          simp
      · cases h
    · rename_i len el hd
      split at h
      · rename_i j hj
        obtain ⟨out, hf, rfl⟩ := map_some h
        obtain ⟨a, b, c⟩ := afill_ok (θ := θ) hf (bd_lits i.zero) hb
        refine ⟨by simp only [bd]; exact a, ?_⟩
        obtain ⟨infe, ze, hie, hse, _⟩ := (hT el j hj).info
        rw [run_build (P := P) w t _ (out.map (conc θ)).toArray ?_]
        · simp only [conc]
        · unfold Program.built
          rw [hinf, (hT t i hi).und, hd]
          simp only [hz, hie, he', hse]
          rw [hzc', ← c]
      · cases h
    · cases h
  · cases h
theorem xMakeFunc_ok (hE : EvOK θ n ev ρ) {g : Fn} {first cap : Array Operand} {v : AV} (h : xMakeFunc ev g first cap = some v) (w : World) : bd θ n v ∧ (Instr.makeFunc g (first.map ρ) (cap.map ρ)).run P w = .ok (conc θ v) w := by
  unfold xMakeFunc at h
  split at h
  · rename_i f
    split at h
    · rename_i a b ha hb
      cases h
      obtain ⟨p, q⟩ := evs_ok hE ha
      obtain ⟨r, u⟩ := evs_ok hE hb
      refine ⟨by simp only [bd]; exact ⟨p, r⟩, ?_⟩
      have e1 : first.map ρ = (a.map (conc θ)).toArray := by rw [← q]; apply Array.toList_inj.1; simp
      have e2 : cap.map ρ = (b.map (conc θ)).toArray := by rw [← u]; apply Array.toList_inj.1; simp
      simp [Instr.makeFunc, conc, e1, e2]
    · cases h
  · cases h
theorem xExtract_ok (hE : EvOK θ n ev ρ) {x : Operand} {ix : Nat} {v : AV} (h : xExtract ev x ix = some v) (w : World) : bd θ n v ∧ (Instr.extract (ρ x) ix).run P w = .ok (conc θ v) w := by
  unfold xExtract at h
  split at h
  · rename_i vs hx
    obtain ⟨hb, hx'⟩ := hE x _ hx
    simp only [bd] at hb
    refine ⟨hb v (List.mem_of_getElem? h), ?_⟩
    rw [hx']
    simp [Instr.extract, conc, h]
  · cases h
theorem abound_ok {l : Option Operand} {a : Option AV} (hE : EvOK θ n ev ρ) (ha : evo ev l = some a) {d y r : Nat} (h : abound a d y = some r) {y' : Nat} (hy : y ≤ y') (code : BoundsCode) (w : World) :
    (match l.map ρ with | some v => Instr.sliceBound v y' code | none => pure d : Sem Nat).run P w = .ok r w ∧ (l = none → r = d) ∧ (l ≠ none → r ≤ y) := by
  cases l with
  | none => cases ha; cases h; exact ⟨by simp, fun _ => rfl, fun h => absurd rfl h⟩
  | some x =>
    obtain ⟨v, hv, rfl⟩ := map_some ha
    simp only [abound] at h
    cases hi : aint v with
    | none => rw [hi] at h; cases h
    | some p =>
      obtain ⟨k, i⟩ := p
      rw [hi] at h
      simp only at h
      split at h
      · rename_i hc
        cases h
        have hx := (hE x _ hv).2
        rw [aint_ok hi] at hx
        refine ⟨?_, fun h => by simp at h, fun _ => by omega⟩
        have hc' : 0 ≤ i ∧ i ≤ (y' : Int) := by omega
        simp only [Option.map_some, hx, conc_lit, Instr.sliceBound, asIntOf, Sem.run_bind, Sem.run_pure, Result.andThen, hc', and_self, if_true]
      · cases h
theorem xSlice_ok (hT : ∀ t i, tb.ty.get t = some i → TyOK P t i) (hE : EvOK θ n ev ρ) {t : TypeId} {x : Operand} {lo hi mx : Option Operand} {v : AV} (h : xSlice tb ev t x lo hi mx = some v) (w : World) :
    bd θ n v ∧ (Instr.sliceAt t (ρ x) (lo.map ρ) (hi.map ρ) (mx.map ρ)).run P w = .ok (conc θ v) w := by
  unfold xSlice at h
  split at h
  · rename_i id off len sub hx
    obtain ⟨hb, hx'⟩ := hE x _ hx
    simp only [bd] at hb
    obtain ⟨hid, hc⟩ := hb
    split at h
    · rename_i el j l hh hsl hl hhi hmx
      have hmx : mx = none := by
        cases mx with
        | none => rfl
        | some y => simp only [evo] at hmx; obtain ⟨_, _, hy⟩ := map_some hmx; cases hy
      subst hmx
      unfold xSlice2 at h
      split at h
      · rename_i H hH
        split at h
        · rename_i L hL
          split at h
          · rename_i hlt
            cases h
            obtain ⟨hu, hj⟩ := asliceOf_ok hT hsl
            obtain ⟨r1, q1, q2⟩ := abound_ok (P := P) hE hhi hH (show len ≤ (θ id).c - sub by omega) .sliceAcap w
            obtain ⟨r2, q3, q4⟩ := abound_ok (P := P) hE hl hL (Nat.le_refl H) .sliceB w
            have hHlen : H ≤ len := by
              by_cases hn : hi = none
              · rw [q1 hn]; exact Nat.le_refl _
              · exact q2 hn
            have hLH : L ≤ H := by
              by_cases hn : lo = none
              · rw [q3 hn]; exact Nat.zero_le _
              · exact q4 hn
            refine ⟨by simp only [bd]; exact ⟨hid, by omega⟩, ?_⟩
            rw [hx']
            have hbounds : (Instr.sliceBounds true len ((θ id).c - sub) (lo.map ρ) (hi.map ρ) none).run P w = .ok (L, H, (θ id).c - sub) w := by
              unfold Instr.sliceBounds
              cases hi <;> cases lo <;> simp only [Option.map_none, Option.map_some] at r1 r2 ⊢ <;>
                simp [Sem.run_bind, Result.andThen] at r1 r2 ⊢ <;> simp [r1, r2, Result.andThen]
            have hne : ¬ ((θ id).c - sub = L) := by omega
            unfold Instr.sliceAt
            simp only [Sem.run_bind, run_underlying hu w, Result.andThen, conc, Instr.slice, Option.map_none, hbounds, run_size hj w]
            simp [hne, Addr.add, Nat.sub_sub]
          · cases h
        · cases h
      · cases h
    · rename_i el j l hh m hne hsl hl hhi hmx
      unfold xSliceX at h
      split at h
      · rename_i um uh
        split at h
        · rename_i M hM
          split at h
          · rename_i H hH
            split at h
            · rename_i L hL
              cases h
              obtain ⟨hu, hj⟩ := asliceOf_ok hT hsl
              obtain ⟨r0, p1, p2⟩ := abound_ok (P := P) hE hmx hM (show len ≤ (θ id).c - sub by omega) .slice3Acap w
              obtain ⟨r1, q1, q2⟩ := abound_ok (P := P) hE hhi hH (Nat.le_refl M) .slice3B w
              obtain ⟨r2, q3, q4⟩ := abound_ok (P := P) hE hl hL (Nat.le_refl H) .slice3C w
              cases mx with
              | none => cases hmx
              | some my =>
                cases hi with
                | none => cases hhi
                | some hy =>
                  have hMl : M ≤ len := p2 (by simp)
                  have hHM : H ≤ M := q2 (by simp)
                  have hLH : L ≤ H := by
                    by_cases hn : lo = none
                    · rw [q3 hn]; exact Nat.zero_le _
                    · exact q4 hn
                  refine ⟨by simp only [bd]; exact hid, ?_⟩
                  rw [hx']
                  simp only [Option.map_some] at r0 r1
                  have hbounds : (Instr.sliceBounds true len ((θ id).c - sub) (lo.map ρ) (some (ρ hy)) (some (ρ my))).run P w = .ok (L, H, M) w := by
                    unfold Instr.sliceBounds
                    cases lo <;> simp only [Option.map_none, Option.map_some] at r2 ⊢ <;>
                      simp [Sem.run_bind, Result.andThen] at r0 r1 r2 ⊢ <;> simp [r0, r1, r2, Result.andThen]
                  unfold Instr.sliceAt
                  simp only [Sem.run_bind, run_underlying hu w, Result.andThen, conc, Instr.slice, Option.map_some, hbounds, run_size hj w]
                  by_cases hML : M = L
                  · simp [hML]
                  · simp [hML, Addr.add]
            · cases h
          · cases h
        · cases h
      · cases h
    · cases h
  · rename_i str hx
    have hx' := (hE x _ hx).2
    rw [conc_lit] at hx'
    split at h
    · rename_i l hh hl hhi
      split at h
      · rename_i hst
        unfold xSliceS at h
        split at h
        · rename_i H hH
          split at h
          · rename_i L hL
            cases h
            obtain ⟨r1, _, _⟩ := abound_ok (P := P) hE hhi hH (Nat.le_refl _) .sliceAlen w
            obtain ⟨r2, _, _⟩ := abound_ok (P := P) hE hl hL (Nat.le_refl H) .sliceB w
            have hu := isStr_ok hT hst
            refine ⟨by simp [bd], ?_⟩
            have hbounds : (Instr.sliceBounds false str.size str.size (lo.map ρ) (hi.map ρ) none).run P w = .ok (L, H, str.size) w := by
              unfold Instr.sliceBounds
              cases hi <;> cases lo <;> simp only [Option.map_none, Option.map_some] at r1 r2 ⊢ <;>
                simp [Sem.run_bind, Result.andThen] at r1 r2 ⊢ <;> simp [r1, r2, Result.andThen]
            rw [hx']
            unfold Instr.sliceAt
            simp only [Sem.run_bind, run_underlying hu w, Result.andThen, Instr.slice, Option.map_none, hbounds, conc]
            simp [Sem.run_bind, hbounds, Result.andThen]
          · cases h
        · cases h
      · cases h
    · cases h
  · cases h
theorem xMin_ok (hE : EvOK θ n ev ρ) {args : Array Operand} {ts : Array TypeId} {ty : TypeId} {v : AV} (h : xMin ev args = some v) (w : World) : bd θ n v ∧ (Builtin.min_ ts ty (args.map ρ)).run P w = .ok (conc θ v) w := by
  unfold xMin at h
  split at h
  · rename_i x y hx
    unfold xMin2 at h
    split at h
    · rename_i k a k' b ha hb
      cases h
      have e1 := (hE x _ ha).2
      have e2 := (hE y _ hb).2
      rw [conc_lit] at e1 e2
      refine ⟨by simp [bd], ?_⟩
      unfold Builtin.min_
      rw [Array.toList_map, hx]
      simp [e1, e2, Builtin.min2, conc]
    · cases h
  · cases h
theorem xMax_ok (hE : EvOK θ n ev ρ) {args : Array Operand} {ts : Array TypeId} {ty : TypeId} {v : AV} (h : xMax ev args = some v) (w : World) : bd θ n v ∧ (Builtin.max_ ts ty (args.map ρ)).run P w = .ok (conc θ v) w := by
  unfold xMax at h
  split at h
  · rename_i x y hx
    unfold xMax2 at h
    split at h
    · rename_i k a k' b ha hb
      cases h
      have e1 := (hE x _ ha).2
      have e2 := (hE y _ hb).2
      rw [conc_lit] at e1 e2
      refine ⟨by simp [bd], ?_⟩
      unfold Builtin.max_
      rw [Array.toList_map, hx]
      simp [e1, e2, Builtin.max2, conc]
    · cases h
  · cases h
theorem xLen_ok (hT : ∀ t i, tb.ty.get t = some i → TyOK P t i) (hE : EvOK θ n ev ρ) {args : Array Operand} {ts : Array TypeId} {ty : TypeId} {v : AV} (h : xLen tb ev args ts = some v) (w : World) :
    bd θ n v ∧ (Builtin.len_ ts ty (args.map ρ)).run P w = .ok (conc θ v) w := by
  unfold xLen at h
  split at h
  · rename_i t x ht hx
    split at h
    · rename_i i u hi hu
      obtain ⟨hb, hx'⟩ := hE x _ hu
      have e0 : ts[0]? = some t := by rw [← Array.getElem?_toList, ht]; rfl
      have e1 : (args.map ρ)[0]? = some (conc θ u) := by rw [← Array.getElem?_toList, Array.toList_map, hx]; simp [hx']
      have hund := run_und (hT t i hi) w
      unfold xLen2 at h
      split at h <;> first
        | (cases h; done)
        | (rename_i hd; cases h
           refine ⟨by simp [bd], ?_⟩
           unfold Builtin.len_
           simp [e0, e1, Sem.run_bind, Result.andThen, hund, hd, conc, goInt])
        | (cases h
           rename_i hd
           refine ⟨by simp [bd], ?_⟩
           unfold Builtin.len_
           simp [e0, e1, Sem.run_bind, Result.andThen, hund, hd, conc, goInt])
    · cases h
  · cases h
theorem xpure_ok (hT : ∀ t i, tb.ty.get t = some i → TyOK P t i) (hQ : ∀ t n, tb.eqs.get t = some n → PairOK P t n) (hE : EvOK θ n ev ρ) {o : Oper} {v : AV} (h : xpure tb ev o = some v) (hs : All (pside tb ev o)) (w : World) :
    bd θ n v ∧ (execOp ρ o).run P w = .ok (.value (conc θ v)) w := by
  unfold xpure at h
  unfold pside at hs
  unfold execOp
  split at h <;> rename_i ho <;> simp only [ho] at hs ⊢ <;> try (cases h; done)
  · obtain ⟨a, b⟩ := hE _ _ h; exact ⟨a, by rw [b]; rfl⟩
  · obtain ⟨a, b⟩ := hE _ _ h; exact ⟨a, by rw [b]; rfl⟩
  · exact xPick_ok hE h w
  · obtain ⟨a, b⟩ := xBin_ok hT hQ hE h hs w; exact ⟨a, run_val b⟩
  · obtain ⟨a, b⟩ := xUn_ok hE h hs w; exact ⟨a, run_val b⟩
  · obtain ⟨a, b⟩ := xConv_ok hT hE h hs w; exact ⟨a, run_val b⟩
  · obtain ⟨a, b⟩ := xFieldAddr_ok hT hE h w; exact ⟨a, run_val b⟩
  · obtain ⟨a, b⟩ := xIndexAddr_ok hT hE h hs w; exact ⟨a, run_val b⟩
  · obtain ⟨a, b⟩ := xField_ok hT hE h w; exact ⟨a, run_val b⟩
  · obtain ⟨a, b⟩ := xIndex_ok hT hE h hs w; exact ⟨a, run_val b⟩
  · obtain ⟨a, b⟩ := xBuild_ok hT hE h w; exact ⟨a, run_val b⟩
  · obtain ⟨a, b⟩ := xMakeFunc_ok hE h w; exact ⟨a, run_val b⟩
  · obtain ⟨a, b⟩ := xExtract_ok hE h w; exact ⟨a, run_val b⟩
  · obtain ⟨a, b⟩ := xSlice_ok hT hE h w; exact ⟨a, run_val b⟩
  · rename_i c
    unfold xpureCall at h
    split at h
    · rename_i hc
      obtain ⟨a, b⟩ := xLen_ok (ty := o.type) hT hE h w
      refine ⟨a, ?_⟩
      simp only [resolve, hc, invoke, builtin, Sem.run_bind, Sem.run_pure, Result.andThen]
      rw [b]
    · rename_i hc
      obtain ⟨a, b⟩ := xMin_ok (P := P) (ts := c.argTypes) (ty := o.type) hE h w
      refine ⟨a, ?_⟩
      simp only [resolve, hc, invoke, builtin, Sem.run_bind, Sem.run_pure, Result.andThen]
      rw [b]
    · rename_i hc
      obtain ⟨a, b⟩ := xMax_ok (P := P) (ts := c.argTypes) (ty := o.type) hE h w
      refine ⟨a, ?_⟩
      simp only [resolve, hc, invoke, builtin, Sem.run_bind, Sem.run_pure, Result.andThen]
      rw [b]
    · cases h
  · rename_i x
    unfold xNil at h
    split at h
    · rename_i id off hx
      cases h
      obtain ⟨a, b⟩ := hE _ _ hx
      refine ⟨a, ?_⟩
      rw [b]
      simp [conc]
    · rename_i id sz k j hx
      cases h
      obtain ⟨a, b⟩ := hE _ _ hx
      refine ⟨a, ?_⟩
      rw [b]
      simp [conc]
    · cases h
end
end PartOfUe
section PartOfUf
open Go Go.RowKit
theorem one_conc {θ : Th} {v : AV} (h : isOne v = true) : (conc θ v).oneCell' = true := by
  cases v <;> simp_all [isOne, conc, Value.oneCell']
theorem ones_conc {θ : Th} : ∀ {l : List AV}, ones l = true → ∀ u ∈ l.map (conc θ), u.oneCell' = true
  | [], _, u, hu => by cases hu
  | v :: vs, h, u, hu => by
    simp only [ones, Bool.and_eq_true] at h
    rcases List.mem_cons.1 hu with rfl | hu
    · exact one_conc h.1
    · exact ones_conc h.2 u hu
theorem ai64_ok {v : AV} {n : Int} (h : ai64 v = some n) : v = .lit (.int .i64 n) := by
  unfold ai64 at h
  split at h
  · cases h; rfl
  · cases h
theorem ai64s_ok : ∀ {l : List AV} {ns : List Int}, ai64s l = some ns → l = ns.map fun n => .lit (.int .i64 n)
  | [], ns, h => by cases h; rfl
  | v :: vs, ns, h => by
    simp only [ai64s] at h
    split at h
    · rename_i n ms h1 h2
      cases h
      rw [ai64_ok h1, ai64s_ok h2]
      rfl
    · cases h
def XOK (P : Program) (base : Bs) (θ : Th) (h : AH) (w : World) (s : Sem Next) : XR → Prop
  | .val v h' => (All h'.sc → All h.sc) ∧ (All h'.sc → ∃ θ' w', s.run P w = .ok (.value (conc θ' v)) w' ∧ bd θ' h'.next v ∧ Post base θ h w θ' h' w')
  | .skip h' => (All h'.sc → All h.sc) ∧ (All h'.sc → ∃ θ' w', s.run P w = .ok .skip w' ∧ Post base θ h w θ' h' w')
  | .enter f args => bdl θ h.next args ∧ s.run P w = (callFunc f (args.map (conc θ)).toArray).run P w
  | .round id args => bdl θ h.next args ∧ id < h.next ∧ s.run P w = (Instr.yield (θ id).b (args.map (conc θ)).toArray).run P w
  | .no => True
section
variable {P : Program} {tb : Tab} {θ : Th} {base : Bs} {h : AH} {ev : Operand → Option AV} {ρ : Operand → Value} {w : World}
theorem OOK.cell {n id : Nat} {cs : List AV} {el : TypeId} {row : Option Nat} (ho : OOK θ n id (.cells cs el row) w) {j : Nat} {v : AV} (hv : cs[j]? = some v) : w.cell? ⟨(θ id).b, j, none⟩ = some (conc θ v) := by
  obtain ⟨hb, cur, hc, ht, _⟩ := ho
  rw [cell_of_row w _ j cur el (0, 0) hc, ← Array.getElem?_toList]
  have hj : j < cs.length := (List.getElem?_eq_some_iff.1 hv).1
  have := congrArg (·[j]?) ht
  simp only [List.getElem?_take, hj, if_true, List.getElem?_map, hv, Option.map_some] at this
  exact this
theorem add_plain' (b o i : Nat) : (⟨b, o, none⟩ : Addr).add i = ⟨b, o + i, none⟩ := by
  unfold Addr.add; split <;> simp_all
theorem rowAt_ok (hR : R base θ h w) {id sz n : Nat} {f : Nat → Nat → Int} (hx : rowAt h id = some (sz, n, f)) : id < h.next ∧ (∀ k j, k < n → j < sz → w.cell? ⟨(θ id).b, (θ id).o + (k * sz + j), none⟩ = some (.int .i64 (f k j))) ∧ n ≤ (θ id).c ∧ (θ id).c ≤ maxLen ∧ (0 < n → (θ id).a = some ⟨(θ id).b, (θ id).o, none⟩) := by
  unfold rowAt at hx
  split at hx <;> try (cases hx; done)
  · rename_i el sz' n' f' hm
    cases hx
    obtain ⟨a, b, cur, hc, ha, h1, h2, h3, hcell⟩ := hR.obj id _ hm
    refine ⟨a, fun k j hk hj => ?_, h1, h2, fun _ => by rw [ha]; simp [Ref.o, ha]⟩
    have ho : (θ id).o = 0 := by simp [Ref.o, ha]
    rw [ho, Nat.zero_add, cell_of_row w _ _ cur el (0, 0) hc]
    exact hcell k j hk hj
  · split at hx <;> try (cases hx; done)
    rename_i r hr
    cases hx
    obtain ⟨a, b, _⟩ := hR.rom id _ hr
    refine ⟨a, b.cell, b.le, b.cap, fun h0 => ?_⟩
    obtain ⟨o, ho⟩ := b.a h0
    rw [ho]; simp [Ref.o, ho]
theorem icells_get {f : Nat → Nat → Int} {k : Nat} : ∀ (s j i : Nat) (v : AV), (icells f k j s)[i]? = some v → i < s ∧ v = .lit (.int .i64 (f k (j + i)))
  | 0, j, i, v, h => by simp [icells] at h
  | s + 1, j, 0, v, h => by simp [icells] at h; exact ⟨by omega, h.symm⟩
  | s + 1, j, i + 1, v, h => by
    simp only [icells, List.getElem?_cons_succ] at h
    obtain ⟨a, b⟩ := icells_get s (j + 1) i v h
    exact ⟨by omega, by rw [b, show j + 1 + i = j + (i + 1) by omega]⟩
theorem icells_len {f : Nat → Nat → Int} {k : Nat} : ∀ (s j : Nat), (icells f k j s).length = s
  | 0, j => rfl
  | s + 1, j => by simp [icells, icells_len s]
theorem icells_bd {n k : Nat} {f : Nat → Nat → Int} (s j : Nat) : bdl θ n (icells f k j s) := fun x hx => by
  obtain ⟨i, hi⟩ := List.mem_iff_getElem?.1 hx
  obtain ⟨_, rfl⟩ := icells_get s j i x hi
  simp [bd]
theorem apart_cells {t : TypeId} {i : TyI} (hTi : TyOK P t i) {n b off : Nat} {vs : List AV} {v : AV} (hbv : bdl θ n vs) (hl : vs.length = i.size) (hcell : ∀ j u, vs[j]? = some u → w.cell? ⟨b, off + j, none⟩ = some (conc θ u)) (hx : apart i.agg vs 0 i.size = some v) :
    bd θ n v ∧ (loadVar t ⟨b, off, none⟩).run P w = .ok (conc θ v) w := by
  unfold apart at hx
  unfold loadVar
  rw [Sem.run_bind, run_isAgg' hTi w]
  cases ha : i.agg with
  | true =>
    rw [ha] at hx
    simp only [if_true, Nat.zero_add, List.drop_zero] at hx
    split at hx
    · cases hx
      refine ⟨?_, ?_⟩
      · simp only [bd]; exact fun x hx => hbv x (List.mem_of_mem_take hx)
      · rw [List.take_of_length_le (by omega)]
        have hlc : (loadCells ⟨b, off, none⟩ (vs.map (conc θ)).length).run P w = .ok (vs.map (conc θ)).toArray w :=
          run_loadCells_list (P := P) w _ _ fun j u hu => by
            rw [List.getElem?_map] at hu
            obtain ⟨x, hx, rfl⟩ := map_some hu
            have : (⟨b, off, none⟩ : Addr).add j = ⟨b, off + j, none⟩ := by unfold Addr.add; split <;> simp_all
            rw [this]
            exact hcell j x hx
        rw [List.length_map, hl] at hlc
        simp [Result.andThen, Sem.run_bind, run_size hTi w, hlc, conc]
    · cases hx
  | false =>
    rw [ha] at hx
    simp only [Bool.false_eq_true, if_false] at hx
    refine ⟨hbv v (List.mem_of_getElem? hx), ?_⟩
    have := hcell 0 v hx
    simp only [Nat.add_zero] at this
    simp [Result.andThen, load, Sem.run, this]
theorem xLoadR_ok (hT : ∀ t i, tb.ty.get t = some i → TyOK P t i) (hR : R base θ h w) {t : TypeId} {id sz k j sz' n : Nat} {f : Nat → Nat → Int} {v : AV} (hr : rowAt h id = some (sz', n, f)) (hk : k < n) (hx : xLoadR tb t sz k j (some (sz', n, f)) = some v) :
    bd θ h.next v ∧ (loadVar t ⟨(θ id).b, (θ id).o + (k * sz + j), none⟩).run P w = .ok (conc θ v) w := by
  unfold xLoadR at hx
  split at hx <;> try (cases hx; done)
  rename_i a b c heq
  cases heq
  split at hx <;> try (cases hx; done)
  rename_i hsz
  obtain rfl := Nat.eq_of_beq_eq_true hsz
  split at hx <;> try (cases hx; done)
  rename_i i hi
  split at hx <;> try (cases hx; done)
  rename_i hle
  have hle := Nat.le_of_ble_eq_true hle
  obtain ⟨hid, hcell, _⟩ := rowAt_ok hR hr
  refine apart_cells (hT t i hi) (icells_bd _ _) (icells_len _ _) (fun q u hu => ?_) hx
  obtain ⟨hq, rfl⟩ := icells_get _ _ _ _ hu
  have := hcell k (j + q) hk (by omega)
  rw [conc_lit, Nat.add_assoc, Nat.add_assoc]
  exact this
theorem xload_ok (hT : ∀ t i, tb.ty.get t = some i → TyOK P t i) (hR : R base θ h w) (hE : EvOK θ h.next ev ρ) {o : Oper} {v : AV} (hx : xload tb h ev o = some v) (hs : All (lside h ev o)) :
    bd θ h.next v ∧ (execOp ρ o).run P w = .ok (.value (conc θ v)) w := by
  unfold xload at hx
  unfold execOp
  split at hx <;> rename_i ho <;> simp only [ho] <;> try (cases hx; done)
  rename_i t a
  unfold xLoad2 at hx
  split at hx <;> try (cases hx; done)
  case h_2 =>
    rename_i id sz k j hid
    unfold lside at hs
    simp only [ho, lside2, hid] at hs
    cases hr : rowAt h id with
    | none => rw [hr] at hx; cases hx
    | some q =>
      obtain ⟨sz', n, f⟩ := q
      rw [hr] at hx hs
      have hs := xLoadR_ok hT hR hr hs.1.p hx
      have hal := (hE a _ hid).2
      refine ⟨hs.1, run_val ?_⟩
      simp only [Instr.loadAt, hal, conc, Instr.sureAddr, Sem.run_bind, Sem.run_pure, Result.andThen, hs.2]
  rename_i id off hid
  split at hx <;> try (cases hx; done)
  rename_i cs el row hm
  split at hx <;> try (cases hx; done)
  rename_i i hi
  obtain ⟨_, _, hok⟩ := hR.obj id _ hm
  have hb : bdl θ h.next cs := hok.1
  have hTi := hT t i hi
  have hal := (hE a _ hid).2
  suffices hs : bd θ h.next v ∧ (loadVar t ⟨(θ id).b, off, none⟩).run P w = .ok (conc θ v) w by
    refine ⟨hs.1, run_val ?_⟩
    simp only [Instr.loadAt, hal, conc, Instr.sureAddr, Sem.run_bind, Sem.run_pure, Result.andThen, hs.2]
  unfold apart at hx
  unfold loadVar
  rw [Sem.run_bind, run_isAgg' hTi w]
  cases ha : i.agg with
  | true =>
    rw [ha] at hx
    simp only [if_true] at hx
    split at hx
    · rename_i hle
      cases hx
      refine ⟨?_, ?_⟩
      · simp only [bd]; exact fun x hx => hb x (List.mem_of_mem_drop (List.mem_of_mem_take hx))
      · have hl : (loadCells ⟨(θ id).b, off, none⟩ (((cs.drop off).take i.size).map (conc θ)).length).run P w = .ok (((cs.drop off).take i.size).map (conc θ)).toArray w :=
          run_loadCells_list (P := P) w _ _ fun j u hu => by
            rw [List.getElem?_map] at hu
            obtain ⟨x, hx, rfl⟩ := map_some hu
            rw [List.getElem?_take] at hx
            split at hx
            · rw [List.getElem?_drop] at hx
              rw [add_plain']
              exact hok.cell hx
            · cases hx
        have hlen : (((cs.drop off).take i.size).map (conc θ)).length = i.size := by simp; omega
        rw [hlen] at hl
        simp [Result.andThen, Sem.run_bind, run_size hTi w, hl, conc]
    · cases hx
  | false =>
    rw [ha] at hx
    simp only [Bool.false_eq_true, if_false] at hx
    refine ⟨hb v (List.mem_of_getElem? hx), ?_⟩
    have := hok.cell hx
    simp [Result.andThen, load, Sem.run, this]
theorem OOK.fresh {o : Obj} {id n : Nat} {cs : List AV} {el : TypeId} {cur : Array Value} {θ' : Th} (hb : bdl θ' n cs) (hw : w.heap[(θ' id).b]? = some (.cells cur el (0, 0))) (hc : cur.toList = cs.map (conc θ')) : OOK θ' n id (.cells cs el none) w :=
  ⟨hb, cur, hw, by rw [hc, ← List.length_map (f := conc θ'), List.take_length], by rw [← Array.length_toList, hc, List.length_map]⟩
def Fresh (P : Program) (base : Bs) (θ : Th) (h : AH) (s : Sem Next) (v : AV) (h' : AH) : Prop :=
  (h'.next = h.next + 1 ∧ h'.ro = h.ro ∧ h'.sc = h.sc) ∧ (∀ id, id ≠ h.next → h'.m.get id = h.m.get id) ∧ ∃ (obj : Obj) (c : Nat) (f : Nat → Value), (∀ w, s.run P w = .ok (.value (f w.heap.size)) (w.alloc obj)) ∧
    ∀ w b, R base θ h w → w.heap[b]? = some obj → base.n ≤ b → NU θ h b →
      R base (upd θ h.next ⟨b, c, some ⟨b, 0, none⟩⟩) h' w ∧ bd (upd θ h.next ⟨b, c, some ⟨b, 0, none⟩⟩) h'.next v ∧ conc (upd θ h.next ⟨b, c, some ⟨b, 0, none⟩⟩) v = f b
def FOK (P : Program) (base : Bs) (θ : Th) (h : AH) (s : Sem Next) : XR → Prop
  | .val v h' => Fresh P base θ h s v h'
  | .no => True
  | _ => False
theorem Fresh.post {s : Sem Next} {v : AV} {h' : AH} (hF : Fresh P base θ h s v h') (hR : R base θ h w) : ∃ θ' w', s.run P w = .ok (.value (conc θ' v)) w' ∧ bd θ' h'.next v ∧ Post base θ h w θ' h' w' := by
  obtain ⟨⟨hn, hro, hsc⟩, hm, obj, c, f, hrun, hall⟩ := hF
  have hbel : Below w.heap.size w (w.alloc obj) := (Below.refl _ w).alloc (Nat.le_refl _) obj
  have hun : NU θ h w.heap.size := ⟨fun id o hg => Nat.ne_of_lt (hR.obj id o hg).2.2.lt, fun id r hg h0 => Nat.ne_of_lt ((hR.rom id r hg).2.1.lt h0)⟩
  obtain ⟨r1, r2, r3⟩ := hall (w.alloc obj) w.heap.size (hR.more hbel) (heap_alloc_new w obj) hR.size hun
  refine ⟨_, _, by rw [r3]; exact hrun w, r2, upd_ext _ _ _, by omega, r1, hbel.mono hR.size, fun k hk _ => hbel.block k hk, fun id o hg => ?_, fun id r hg h0 => .inl ⟨id, r, by rw [← hro]; exact hg, h0, by rw [upd_ext θ h.next _ id (hR.rom id r (by rw [← hro]; exact hg)).1]⟩⟩
  by_cases hid : id = h.next
  · subst hid; right; rw [upd_same]; exact Nat.le_refl _
  · rw [hm id hid] at hg; exact .inl ⟨id, o, hg, by rw [upd_ext θ h.next _ id (hR.obj id o hg).1]⟩
theorem FOK.xok {s : Sem Next} {X : XR} (hF : FOK P base θ h s X) (hR : R base θ h w) : XOK P base θ h w s X := by
  cases X with
  | val v h' => exact ⟨fun hs => by rw [← hF.1.2.2]; exact hs, fun _ => Fresh.post hF hR⟩
  | no => trivial
  | skip h' => exact hF.elim
  | enter f args => exact hF.elim
  | round id args => exact hF.elim
theorem added_ok {cs : List AV} {el : TypeId} {row : Option Nat} {c : Nat} {cur : Array Value} (hb : bdl θ h.next cs) (hc : cur.toList = cs.map (conc θ))
    (hrow : match row with | none => True | some sz => ∃ k, cs.length = k * sz ∧ k = c ∧ c ≤ maxLen)
    {s : Sem Next} {f : Nat → Value} {mk : Nat → AV} (hs : ∀ w, s.run P w = .ok (.value (f w.heap.size)) (w.alloc (.cells cur el)))
    (hf : ∀ (θ' : Th) (b : Nat), θ' h.next = ⟨b, c, some ⟨b, 0, none⟩⟩ → bd θ' (h.next + 1) (mk h.next) ∧ conc θ' (mk h.next) = f b) : FOK P base θ h s (added h (.cells cs el row) (mk h.next)) := by
  unfold added
  split
  · rename_i h' ha
    obtain ⟨_, hm, hn, hro, hsc⟩ := AH.add_spec ha
    refine ⟨⟨hn, hro, hsc⟩, fun id hid => by rw [hm, T.get_set_other _ _ _ _ _ hid], .cells cur el, c, f, hs, fun w b hR hw hbase hu => ?_⟩
    have hE := upd_ext θ h.next ⟨b, c, some ⟨b, 0, none⟩⟩
    have hsame := upd_same θ h.next ⟨b, c, some ⟨b, 0, none⟩⟩
    obtain ⟨hf1, hf2⟩ := hf _ b hsame
    have hc' : cur.toList = cs.map (conc (upd θ h.next ⟨b, c, some ⟨b, 0, none⟩⟩)) := by rw [hc, concl_ext hE hb]
    refine ⟨hR.adopt ha hbase hu ⟨bdl_ext hE (Nat.le_succ _) hb, cur, by rw [hsame]; exact hw, by rw [hc', ← List.length_map (f := conc (upd θ h.next ⟨b, c, some ⟨b, 0, none⟩⟩)), List.take_length], ?_⟩, by rw [hn]; exact hf1, hf2⟩
    have hlen : cur.size = cs.length := by rw [← Array.length_toList, hc, List.length_map]
    cases row with
    | none => exact hlen
    | some sz =>
      obtain ⟨k, h1, rfl, h3⟩ := hrow
      rw [hsame]
      exact ⟨k, h1, Nat.le_refl _, h3, by rw [hlen, h1]⟩
  · trivial
theorem addedR_ok {el : TypeId} {sz n : Nat} {f : Nat → Nat → Int} {cur : Array Value} (hn : n ≤ maxLen) (hc : cur.size = n * sz) (hcell : ∀ k j, k < n → j < sz → cur[k * sz + j]? = some (.int .i64 (f k j)))
    {s : Sem Next} (hs : ∀ w, s.run P w = .ok (.value (.slice (some ⟨w.heap.size, 0, none⟩) n n)) (w.alloc (.cells cur el))) : FOK P base θ h s (added h (.irow el sz n f) (.isl h.next n)) := by
  unfold added
  split
  · rename_i h' ha
    obtain ⟨_, hm, hn', hro, hsc⟩ := AH.add_spec ha
    refine ⟨⟨hn', hro, hsc⟩, fun id hid => by rw [hm, T.get_set_other _ _ _ _ _ hid], .cells cur el, n, fun k => .slice (some ⟨k, 0, none⟩) n n, hs, fun w b hR hw hbase hu => ?_⟩
    have hE := upd_ext θ h.next ⟨b, n, some ⟨b, 0, none⟩⟩
    have hsame := upd_same θ h.next ⟨b, n, some ⟨b, 0, none⟩⟩
    refine ⟨hR.adopt ha hbase hu ⟨cur, by rw [hsame]; exact hw, by rw [hsame], by rw [hsame]; exact Nat.le_refl _, by rw [hsame]; exact hn, by rw [hsame]; exact hc, hcell⟩, ?_, ?_⟩
    · simp only [bd, hn', hsame]; exact ⟨by omega, fun _ => by simp [Ref.o]⟩
    · simp only [conc, hsame]
  · trivial
theorem xAlloc_ok (hT : ∀ t i, tb.ty.get t = some i → TyOK P t i) {t : TypeId} : FOK P base θ h (do pure (Next.value (← Instr.alloc t true (.tuple #[])))) (xAlloc tb h t) := by
  unfold xAlloc
  split
  · rename_i i hi
    obtain ⟨z, hz, hzc⟩ := run_zero (hT t i hi)
    refine added_ok (c := 0) (cur := z.cells) (f := fun k => .pointer (some ⟨k, 0, none⟩)) (mk := fun k => .ptr k 0) (bd_lits _) (by rw [conc_lits, hzc]) trivial (fun w => ?_) fun θ' b h' => ⟨by simp [bd], by simp [conc, h']⟩
    exact run_val (by simp [Instr.alloc, Sem.run_bind, hz, Result.andThen, newVar, newRow, run_newObj_alloc])
  · trivial
theorem xBox_ok (hE : EvOK θ h.next ev ρ) {t : TypeId} {x : Operand} : FOK P base θ h (do pure (Next.value (← Instr.box t (ρ x)))) (xBox h t (ev x)) := by
  unfold xBox
  split
  · rename_i v hv
    obtain ⟨hb, hx⟩ := hE x _ hv
    refine added_ok (c := 0) (cur := (conc θ v).cells) (f := fun k => .pointer (some ⟨k, 0, none⟩)) (mk := fun k => .ptr k 0) (bd_cells hb) (conc_cells θ v) trivial (fun w => ?_) fun θ' b h' => ⟨by simp [bd], by simp [conc, h']⟩
    exact run_val (by simp [Instr.box, hx, Sem.run_bind, Result.andThen, newVar, newRow, run_newObj_alloc])
  · trivial
theorem splice {α : Type} (C r news : List α) (off : Nat) (h : off + news.length ≤ C.length) :
    ((C ++ r).take off ++ news ++ (C ++ r).drop (off + news.length)) = (C.take off ++ news ++ C.drop (off + news.length)) ++ r := by
  rw [List.take_append_of_le_length (by omega), List.drop_append_of_le_length h]
  simp
theorem OOK.split {n id : Nat} {cs : List AV} {cur : Array Value} (ht : cur.toList.take cs.length = cs.map (conc θ)) : cur.toList = cs.map (conc θ) ++ cur.toList.drop cs.length := by
  rw [← ht, List.take_append_drop]
theorem xStoreR_ok (hT : ∀ t i, tb.ty.get t = some i → TyOK P t i) (hR : R base θ h w) (hE : EvOK θ h.next ev ρ) {t : TypeId} {a x : Operand} {id sz k j : Nat} (ha : ev a = some (.rp id sz k j)) : XOK P base θ h w (do Instr.storeAt t (ρ a) (ρ x); pure .skip) (xStoreR tb h t id sz k j (ev x)) := by
  unfold xStoreR
  split
  · rename_i v hv
    split
    · rename_i i el sz' n f ns hi hm hns
      split
      · rename_i hc
        simp only [Bool.and_eq_true] at hc
        obtain ⟨⟨hc1, hc2⟩, hc3⟩ := hc
        obtain rfl := Nat.eq_of_beq_eq_true hc1
        have hc2 := Nat.le_of_ble_eq_true hc2
        have hc3 := Nat.eq_of_beq_eq_true hc3
        unfold stored
        split
        · rename_i h' hp
          have hps := AH.put_spec hp
          refine ⟨fun hs => (also_all.1 (by rw [← hps.2.2.2.2]; exact hs)).2, fun hs => ?_⟩
          have hk0 : All [LtN k n] ∧ All h.sc := also_all.1 (by rw [← hps.2.2.2.2]; exact hs)
          have hk : k < n := hk0.1.1.p
          obtain ⟨hidn, hbase, cur, hcur, hA, h1, h2, h3, hcell⟩ := hR.obj id _ hm
          obtain ⟨hbv, hx⟩ := hE x _ hv
          have ha' := (hE a _ ha).2
          have hac : acells v = ns.map fun n => .lit (.int .i64 n) := ai64s_ok hns
          have hnews : (conc θ v).cells.toList = ns.map (Value.int .i64) := by rw [conc_cells, hac, List.map_map]; apply List.map_congr_left; intro y _; simp [conc]
          have hlen : (conc θ v).cells.toList.length = i.size := by rw [hnews, List.length_map, hc3]
          have hle : k * sz + j + i.size ≤ cur.size := by
            rw [h3]
            have : (k + 1) * sz ≤ (θ id).c * sz := Nat.mul_le_mul_right _ (by omega)
            rw [Nat.succ_mul] at this
            omega
          have ho : (θ id).o = 0 := by simp [Ref.o, hA]
          have hst := run_storeCells_at P (θ id).b (k * sz + j) el (conc θ v).cells.toList 0 cur w hcur (by rw [hlen]; omega) (by rw [hnews]; intro u hu; obtain ⟨q, _, rfl⟩ := List.mem_map.1 hu; rfl)
          simp only [Nat.add_zero] at hst
          refine ⟨θ, w.setRow (θ id).b (cur.toList.take (k * sz + j) ++ (conc θ v).cells.toList ++ cur.toList.drop (k * sz + j + (conc θ v).cells.toList.length)).toArray, ?_, Post.of_also (ps := [LtN k n]) (Post.put (h := h.also [LtN k n]) (hR.same rfl rfl rfl) hm hp (fun k hk => setRow_other w _ k _ hk) (by simp) ⟨rfl, rfl, rfl, by simp, fun k hk => setRow_other w _ k _ (by omega)⟩ ⟨_, setRow_heap w _ cur _ el _ hcur, hA, h1, h2, ?_, fun k' j' hk' hj' => ?_⟩)⟩
          · rw [ha', hx]
            simp only [Instr.storeAt, conc, ho, Nat.zero_add, Instr.sureAddr, storeVar, Sem.run_bind, Sem.run_pure, Result.andThen, run_size (hT t i hi) w]
            rw [if_neg (by rw [← Array.length_toList, hlen]; simp)]
            simp only [hst]
          · simp [hlen] at *; omega
          · have hold := hcell k' j' hk' hj'
            have hlt : k' * sz + j' < cur.size := (Array.getElem?_eq_some_iff.1 hold).1
            rw [List.getElem?_toArray]
            by_cases hin : k' = k ∧ j ≤ j' ∧ j' < j + i.size
            · obtain ⟨rfl, h4, h5⟩ := hin
              have hq : j' - j < ns.length := by omega
              rw [List.append_assoc, List.getElem?_append_right (by simp; omega), hnews]
              have e1 : k' * sz + j' - (List.take (k' * sz + j) cur.toList).length = j' - j := by simp; omega
              rw [e1, List.getElem?_append_left (by simp; omega)]
              have hs3 : supd f k' j ns k' j' = ns[j' - j] := by unfold supd; simp only [h4, and_self, if_true, List.getElem?_eq_getElem hq]
              rw [hs3, List.getElem?_map, List.getElem?_eq_getElem hq]
              rfl
            · have hne : k' * sz + j' < k * sz + j ∨ k * sz + j + i.size ≤ k' * sz + j' := by
                by_cases hkk : k' = k
                · subst hkk
                  rcases Nat.lt_or_ge j' j with h | h
                  · left; omega
                  · right; have : ¬ j' < j + i.size := fun h' => hin ⟨rfl, h, h'⟩; omega
                · rcases Nat.lt_or_ge k' k with h | h
                  · left
                    have : (k' + 1) * sz ≤ k * sz := Nat.mul_le_mul_right _ h
                    rw [Nat.succ_mul] at this; omega
                  · right
                    have : (k + 1) * sz ≤ k' * sz := Nat.mul_le_mul_right _ (by omega)
                    rw [Nat.succ_mul] at this; omega
              have hs2 : supd f k j ns k' j' = f k' j' := by
                unfold supd
                split
                · rename_i hh
                  obtain ⟨rfl, hh⟩ := hh
                  have : ns.length ≤ j' - j := by omega
                  rw [List.getElem?_eq_none this]
                · rfl
              rw [hs2, ← hold, ← Array.getElem?_toList]
              rcases hne with h | h
              · rw [List.append_assoc, List.getElem?_append_left (by simp; omega), List.getElem?_take, if_pos h]
              · rw [List.getElem?_append_right (by simp [hlen] at *; omega), List.getElem?_drop]
                congr 1
                simp [hlen] at *; omega
        · trivial
      · trivial
    · trivial
  · trivial
theorem xStore_ok (hT : ∀ t i, tb.ty.get t = some i → TyOK P t i) (hR : R base θ h w) (hE : EvOK θ h.next ev ρ) {t : TypeId} {a x : Operand} : XOK P base θ h w (do Instr.storeAt t (ρ a) (ρ x); pure .skip) (xStore tb h ev t a x) := by
  unfold xStore
  split
  case h_2 => exact xStoreR_ok hT hR hE ‹_›
  · rename_i id off ha
    unfold xStore2
    split
    · rename_i v hv
      split
      · rename_i i cs el row hi hm
        unfold xStore3
        split
        · rename_i hc
          obtain ⟨hc1, hc2, hc3⟩ := hc
          unfold stored
          split
          · rename_i h' hp
            obtain ⟨hidn, hbase, hok⟩ := hR.obj id _ hm
            obtain ⟨hb, cur, hcur, ht, hrow⟩ := hok
            obtain ⟨hbv, hx⟩ := hE x _ hv
            have ha' := (hE a _ ha).2
            have hnews : (conc θ v).cells.toList = (acells v).map (conc θ) := conc_cells θ v
            have hlen : (conc θ v).cells.toList.length = i.size := by rw [hnews, List.length_map, hc1]
            have hcl : cs.length ≤ cur.size := by
              have := congrArg List.length ht
              simp at this; omega
            have hst := run_storeCells_at P (θ id).b off el (conc θ v).cells.toList 0 cur w hcur (by rw [hlen]; omega) (by rw [hnews]; exact ones_conc hc3)
            simp only [Nat.add_zero] at hst
            refine ⟨fun hs => by rw [← (AH.put_spec hp).2.2.2.2]; exact hs, fun _ => ⟨θ, w.setRow (θ id).b (cur.toList.take off ++ (conc θ v).cells.toList ++ cur.toList.drop (off + (conc θ v).cells.toList.length)).toArray, ?_, Post.put hR hm hp (fun k hk => setRow_other w _ k _ hk) (by simp) ⟨rfl, rfl, rfl, by simp, fun k hk => setRow_other w _ k _ (by omega)⟩ ?_⟩⟩
            · rw [ha', hx]
              simp only [Instr.storeAt, conc, Instr.sureAddr, storeVar, Sem.run_bind, Sem.run_pure, Result.andThen, run_size (hT t i hi) w]
              rw [if_neg (by rw [← Array.length_toList, hlen]; simp)]
              simp only [hst]
            · refine ⟨?_, _, setRow_heap w _ cur _ el _ hcur, ?_, ?_⟩
              · intro y hy
                rcases List.mem_append.1 hy with hy | hy
                · rcases List.mem_append.1 hy with hy | hy
                  · exact hb y (List.mem_of_mem_take hy)
                  · exact bd_cells hbv y hy
                · exact hb y (List.mem_of_mem_drop hy)
              · have hsp := splice (cs.map (conc θ)) (cur.toList.drop cs.length) ((acells v).map (conc θ)) off (by simp; omega)
                rw [← OOK.split (n := h.next) (id := id) ht] at hsp
                rw [hnews, hsp]
                simp only [List.length_map, hc1]
                have e2 : ((cs.take off ++ acells v ++ cs.drop (off + i.size)).map (conc θ)) = (cs.map (conc θ)).take off ++ (acells v).map (conc θ) ++ (cs.map (conc θ)).drop (off + i.size) := by simp [List.map_take, List.map_drop]
                rw [e2, List.take_append_of_le_length (by simp; try omega)]
                exact List.take_of_length_le (by simp; try omega)
              · have hs1 : (cur.toList.take off ++ (conc θ v).cells.toList ++ cur.toList.drop (off + (conc θ v).cells.toList.length)).toArray.size = cur.size := by simp [hlen] at *; omega
                have hs2 : (cs.take off ++ acells v ++ cs.drop (off + i.size)).length = cs.length := by simp; omega
                rw [hs1, hs2]
                exact hrow
          · trivial
        · trivial
      · trivial
    · trivial
  · trivial
end
end PartOfUf
section PartOfUg
open Go Go.RowKit
def KeyOK (P : Program) (kt : TypeId) (n : Nat) : Prop :=
  ∀ (θ : Th) (k : AV) (es : List (AV × AV × Nat)) (r : Option (Nat × AV)), afindIn n k es = some r → ∀ (w : World) (b : Bool),
    (Instr.checkKey b 10000 kt (conc θ k)).run P w = .ok () w ∧ (Instr.findKey kt (conc θ k) (es.map (entryC θ))).run P w = .ok (r.map fun p => (p.1, conc θ p.2)) w ∧
      ∀ p v, r = some (p, v) → ∃ e, es[p]? = some e ∧ e.2.1 = v ∧ (Instr.keyThatStays (conc θ e.1) (conc θ k)).run P w = .ok (conc θ k) w
section
variable {P : Program} {tb : Tab} {θ : Th} {base : Bs} {h : AH} {ev : Operand → Option AV} {ρ : Operand → Value} {w : World}
theorem zeros_eq (z : Value) {l : List Value} (hz : z.cells.toList = l) (hl : 0 < l.length) (k : Nat) : (Array.range (k * l.length)).map (z.cells[· % z.cells.size]!) = ((rep (l.map AV.lit) k).map (conc θ)).toArray := by
  have hs : z.cells.size = l.length := by rw [← hz]; simp
  apply Array.toList_inj.1
  apply List.ext_getElem?
  intro j
  simp only [Array.toList_map, Array.toList_range, List.getElem?_map, List.toList_toArray]
  by_cases hj : j < k * l.length
  · have hlt : j % l.length < l.length := Nat.mod_lt _ hl
    rw [rep_get (by simpa using hl) k j (by simpa using hj), List.getElem?_range hj]
    simp only [Option.map_some, List.length_map, List.getElem?_map]
    have e : l[j % l.length]? = some l[j % l.length] := List.getElem?_eq_getElem hlt
    rw [e]
    simp only [Option.map_some, conc_lit, hs, Option.some.injEq]
    have hlt' : j % l.length < z.cells.size := by omega
    rw [getElem!_pos z.cells _ hlt', ← Array.getElem_toList (by simpa using hlt')]
    have : z.cells.toList[j % l.length]? = l[j % l.length]? := by rw [hz]
    rw [List.getElem?_eq_getElem (by rw [hz]; exact hlt), List.getElem?_eq_getElem hlt] at this
    exact Option.some.inj this
  · rw [List.getElem?_eq_none (by simp; omega), List.getElem?_eq_none (by rw [rep_len]; simp; omega)]
    rfl
theorem FOK.also {ps : List Prop} {o : AO} {v : AV} {s : Sem Next} (hR : R base θ h w) (hF : All ps → FOK P base θ (h.also ps) s (added (h.also ps) o v)) : XOK P base θ h w s (added (h.also ps) o v) := by
  unfold added at hF ⊢
  split
  · rename_i h' ha
    rw [ha] at hF
    have hsp := AH.add_spec ha
    refine ⟨fun hs => (also_all.1 (by rw [← hsp.2.2.2.2]; exact hs)).2, fun hs => ?_⟩
    have hp := (also_all.1 (show All (h.also ps).sc by rw [← hsp.2.2.2.2]; exact hs)).1
    obtain ⟨θ', w', a, b, c⟩ := Fresh.post (hF hp) (w := w) (hR.same rfl rfl rfl)
    exact ⟨θ', w', a, b, c.of_also⟩
  · trivial
theorem rowOf_get {ns : List Int} {sz len : Nat} (hl : ns.length = len * sz) {k j : Nat} (hk : k < len) (hj : j < sz) : ((ns.map fun n => AV.lit (.int .i64 n)).map (conc θ)).toArray[k * sz + j]? = some (.int .i64 (rowOf ns sz k j)) := by
  have hlt : k * sz + j < ns.length := by
    rw [hl]
    have : (k + 1) * sz ≤ len * sz := Nat.mul_le_mul_right _ hk
    rw [Nat.succ_mul] at this; omega
  simp only [List.getElem?_toArray, List.getElem?_map, List.getElem?_eq_getElem hlt, Option.map_some, conc_lit, rowOf]
theorem xBuildSlice_ok (hT : ∀ t i, tb.ty.get t = some i → TyOK P t i) (hE : EvOK θ h.next ev ρ) {t : TypeId} {len : Nat} {parts : Array (Nat × Operand)} :
    FOK P base θ h (do pure (Next.value (← Instr.buildSlice t len (parts.map fun (i, x) => (i, ρ x))))) (xBuildSlice tb h ev t len parts) := by
  unfold xBuildSlice
  split
  · rename_i el j ps hsl hps
    split
    · rename_i hc
      obtain ⟨hj0, hl0, hsm⟩ := hc
      split
      · rename_i cs hf
        obtain ⟨hu, hj⟩ := asliceOf_ok hT hsl
        obtain ⟨hb, he⟩ := evps_ok hE hps
        obtain ⟨inf, z, hinf, hsz, _, hz, hzc⟩ := hj.info
        have hlen := hj.len
        obtain ⟨a, b, c⟩ := afill_ok (θ := θ) hf (rep_bd (bd_lits _) _) hb
        have hcl : cs.length = len * j.size := by rw [b, rep_len]; simp [hlen]
        have hrun : ∀ w : World, (do pure (Next.value (← Instr.buildSlice t len (parts.map fun (i, x) => (i, ρ x))) ) : Sem Next).run P w = .ok (.value (.slice (some ⟨w.heap.size, 0, none⟩) len len)) (w.alloc (.cells (cs.map (conc θ)).toArray el)) := fun w => by
          refine run_val ?_
          refine run_buildSlice (P := P) w t el len _ _ inf z hu hinf hz (by rw [hsz]; omega) (by rw [hsz]; have := Nat.mul_pos hl0 hj0; omega) ?_
          have he' : (parts.map fun (i, x) => (i, ρ x)).toList = ps.map fun p => (p.1, conc θ p.2) := by rw [Array.toList_map]; exact he
          rw [he', hsz, ← c, ← hlen, zeros_eq (θ := θ) z hzc (by omega)]
        have hmx : len ≤ maxLen := by unfold maxLen; have : len ≤ len * j.size := Nat.le_mul_of_pos_right _ hj0; omega
        unfold xBuildSlice2
        split
        · rename_i ns hns
          have hcs := ai64s_ok hns
          have hnl : ns.length = len * j.size := by rw [← hcl, hcs, List.length_map]
          refine addedR_ok hmx (by simp [hcl]) (fun k q hk hq => ?_) hrun
          rw [hcs]
          exact rowOf_get hnl hk hq
        · exact added_ok (row := some j.size) (c := len) (cur := (cs.map (conc θ)).toArray) (f := fun k => .slice (some ⟨k, 0, none⟩) len len) (mk := fun k => .slc k 0 len 0) a (by simp) ⟨len, hcl, rfl, hmx⟩ hrun fun θ' b h' => ⟨by simp [bd, h'], by simp [conc, h']⟩
      · trivial
    · split
      · rename_i hc
        obtain ⟨rfl, hp0⟩ := hc
        obtain ⟨hu, hj⟩ := asliceOf_ok hT hsl
        obtain ⟨hb, he⟩ := evps_ok hE hps
        obtain ⟨inf, z, hinf, hsz, _, hz, hzc⟩ := hj.info
        have hpe : parts.toList = [] := by
          have := congrArg List.length he
          simp only [List.length_map, hp0] at this
          exact List.eq_nil_of_length_eq_zero this
        refine added_ok (row := none) (c := 0) (cur := #[]) (f := fun k => .slice (some ⟨k, 0, none⟩) 0 0) (mk := fun k => .slx k 0 0 0) (fun x hx => by cases hx) rfl trivial (fun w => run_val ?_) fun θ' b h' => ⟨by simp [bd], by simp [conc, h']⟩
        have hpm : (parts.map fun (i, x) => (i, ρ x)).toList = [] := by rw [Array.toList_map, hpe]; rfl
        simp [Instr.buildSlice, Sem.run_bind, run_underlying hu, sizeOf, typeInfo, hinf, Result.andThen, hpm, Instr.fill, newRow, hpe, Array.range_zero']
      · trivial
  · trivial
theorem rep_int {ns : List Int} (hl : 0 < ns.length) (N k j : Nat) (hk : k < N) (hj : j < ns.length) : ((rep (ns.map fun n => AV.lit (.int .i64 n)) N).map (conc θ)).toArray[k * ns.length + j]? = some (.int .i64 (rowOf ns 0 0 j)) := by
  have hlt : k * ns.length + j < N * ns.length := by
    have : (k + 1) * ns.length ≤ N * ns.length := Nat.mul_le_mul_right _ hk
    rw [Nat.succ_mul] at this; omega
  have h1 := rep_get (l := ns.map fun n => AV.lit (.int .i64 n)) (by simpa using hl) N (k * ns.length + j) (by simpa using hlt)
  rw [List.getElem?_toArray, List.getElem?_map, h1]
  have hm : (k * ns.length + j) % ns.length = j := by rw [Nat.mul_comm, Nat.mul_add_mod]; exact Nat.mod_eq_of_lt hj
  simp only [List.length_map, hm, List.getElem?_map, List.getElem?_eq_getElem hj, Option.map_some, conc_lit, rowOf, Nat.zero_mul, Nat.zero_add]
theorem xMakeSlice_ok (hT : ∀ t i, tb.ty.get t = some i → TyOK P t i) (hR : R base θ h w) (hE : EvOK θ h.next ev ρ) {t : TypeId} {l c : Operand} :
    XOK P base θ h w (do pure (Next.value (← Instr.makeSlice t (ρ l) (ρ c)))) (xMakeSlice tb h t ((ev l).bind aint) ((ev c).bind aint)) := by
  unfold xMakeSlice
  split
  · rename_i el j k n k' m hsl hl hc
    split
    · rename_i ns hns
      split
      · rename_i hcc
        obtain ⟨hj0, hby⟩ := hcc
        refine FOK.also hR fun hsd => ?_
        obtain ⟨⟨h0⟩, ⟨hn⟩, ⟨rfl⟩, _⟩ := hsd
        obtain ⟨hu, hj⟩ := asliceOf_ok hT hsl
        obtain ⟨inf, z, hinf, hsz, hbz, hz, hzc⟩ := hj.info
        have hlen := hj.len
        have hcs := ai64s_ok hns
        have hnl : ns.length = j.size := by have := congrArg List.length hcs; simp at this; omega
        have e1 := (hE l _ (bind_aint hl)).2
        have e2 := (hE c _ (bind_aint hc)).2
        rw [conc_lit] at e1 e2
        obtain ⟨N, rfl⟩ : ∃ N : Nat, n = (N : Int) := ⟨n.toNat, by omega⟩
        have hcl : (rep (j.zero.map AV.lit) N).length = N * j.size := by rw [rep_len]; simp [hlen]
        refine addedR_ok (cur := ((rep (j.zero.map AV.lit) N).map (conc θ)).toArray) (by unfold maxLen; omega) (by simp [hcl]) (fun q i hq hi => ?_) (fun w => run_val ?_)
        · rw [hcs, ← hnl]
          exact rep_int (by omega) N q i (by simpa using hq) (by omega)
        · rw [e1, e2]
          have hb2 : (inf.bytes : Int) * (N : Int) ≤ 281474976710656 := by
            rw [hbz]
            have : j.bytes * N ≤ 65536 * 65536 := Nat.mul_le_mul hby (by omega)
            have h2 : ((j.bytes * N : Nat) : Int) ≤ 281474976710656 := by omega
            rwa [Int.natCast_mul] at h2
          have hr := run_make (P := P) w t el inf z hu hinf hz k k' (N : Int) (N : Int) (by omega) (Int.le_refl _) hb2 (by omega)
          rw [hr]
          simp only [Int.toNat_natCast, madeCells, hsz]
          rw [← hlen, zeros_eq (θ := θ) z hzc (by omega)]
      · trivial
    · trivial
  · trivial
theorem run_getObj_mp {r : Nat} {es : Array MapEntry} {clock : Nat} (hb : w.heap[r]? = some (.map es clock)) : (getObj r).run P w = .ok (.map es clock) w := by simp [getObj, Sem.run, hb]
theorem run_setObj_mp {r : Nat} {es : Array MapEntry} {clock : Nat} (o : Obj) (hb : w.heap[r]? = some (.map es clock)) : (setObj r o).run P w = .ok () (w.putObj r o) := by simp [setObj, Sem.run, hb, World.putObj]
theorem xMakeMap_ok {t : TypeId} : FOK P base θ h (do pure (Next.value (← Instr.makeMap t none))) (added h (.map [] 0) (.mp h.next)) := by
  unfold added
  split
  · rename_i h' ha
    obtain ⟨_, hm, hn, hro, hsc⟩ := AH.add_spec ha
    refine ⟨⟨hn, hro, hsc⟩, fun id hid => by rw [hm, T.get_set_other _ _ _ _ _ hid], .map #[] 0, 0, fun k => .map (some k), fun w => run_val (by rw [run_makeMap]), fun w b hR hw hbase hu => ?_⟩
    have hsame := upd_same θ h.next ⟨b, 0, some ⟨b, 0, none⟩⟩
    exact ⟨hR.adopt ha hbase hu ⟨by simp, by rw [hsame]; exact hw⟩, by rw [hn]; simp [bd], by simp [conc, hsame]⟩
  · trivial
theorem amapOf_ok (hT : ∀ t i, tb.ty.get t = some i → TyOK P t i) (hK : ∀ t n, tb.keyEq.get t = some n → KeyOK P t n) {t : TypeId} {n : Nat} {j : TyI} (hx : amapOf tb t = some (n, j)) : ∃ kt el, P.underlying t = some (.map kt el) ∧ KeyOK P kt n ∧ TyOK P el j := by
  unfold amapOf at hx
  split at hx <;> try (cases hx; done)
  rename_i i hi
  split at hx <;> try (cases hx; done)
  rename_i kt el hd
  split at hx <;> try (cases hx; done)
  rename_i n' j' hn hj
  cases hx
  exact ⟨kt, el, by rw [(hT t i hi).und, hd], hK _ _ hn, hT _ _ hj⟩
theorem amapAt_ok {id : Nat} {es : List (AV × AV × Nat)} {clock : Nat} (hx : amapAt h id = some (es, clock)) : h.m.get id = some (.map es clock) := by
  unfold amapAt at hx
  split at hx
  · rename_i es' c' hm; cases hx; exact hm
  · cases hx
theorem zero_apart {j : TyI} {t : TypeId} (hj : TyOK P t j) {z : AV} (hz : apart j.agg (j.zero.map .lit) 0 j.size = some z) (n : Nat) : bd θ n z ∧ (zeroValue t).run P w = .ok (conc θ z) w := by
  obtain ⟨inf, z', hinf, _, _, h3, _⟩ := hj.info
  have hv := hj.zv inf hinf
  have hr : (zeroValue t).run P w = .ok (if j.agg then .agg j.zero.toArray else j.zero.headD undef) w := by simp [zeroValue, typeInfo, Sem.run_bind, hinf, hv, Result.andThen]
  rw [hr]
  unfold apart at hz
  cases ha : j.agg with
  | true =>
    rw [ha] at hz
    simp only [if_true, List.length_map, Nat.zero_add, List.drop_zero] at hz ⊢
    split at hz
    · cases hz
      rw [List.take_of_length_le (by simp [hj.len])]
      exact ⟨by simp only [bd]; exact bd_lits _, by simp only [conc, conc_lits]⟩
    · cases hz
  | false =>
    rw [ha] at hz
    simp only [Bool.false_eq_true, if_false] at hz ⊢
    cases hl : j.zero with
    | nil => rw [hl] at hz; cases hz
    | cons a l => rw [hl] at hz; cases hz; exact ⟨by simp [bd], by simp [conc]⟩
theorem afindIn_mem {t : TypeId} {n : Nat} {k : AV} {es : List (AV × AV × Nat)} {p : Nat} {v : AV} (hx : afindIn n k es = some (some (p, v))) (hK : KeyOK P t n) : ∃ e, es[p]? = some e ∧ e.2.1 = v := by
  obtain ⟨_, _, hc⟩ := hK (fun _ => ⟨0, 0, none⟩) k es _ hx default true
  obtain ⟨e, a, b, _⟩ := hc p v rfl
  exact ⟨e, a, b⟩
theorem xLookup_ok (hT : ∀ t i, tb.ty.get t = some i → TyOK P t i) (hK : ∀ t n, tb.keyEq.get t = some n → KeyOK P t n) (hR : R base θ h w) (hE : EvOK θ h.next ev ρ) {t : TypeId} {x ix : Operand} {ok : Bool} :
    XOK P base θ h w (do pure (Next.value (← Instr.lookup t (ρ x) (ρ ix) ok))) (xLookup tb h ev t x ix ok) := by
  unfold xLookup
  split
  · rename_i id hx
    unfold xLookup2
    split
    · rename_i k hk
      split
      · rename_i n j es clock hmo hma
        obtain ⟨kt, el, hu, hKO, hj⟩ := amapOf_ok hT hK hmo
        have hm := amapAt_ok hma
        obtain ⟨_, _, hbe, hheap⟩ := hR.obj id _ hm
        obtain ⟨hbk, hix⟩ := hE ix _ hk
        have hx' := (hE x _ hx).2
        split
        · rename_i p v hf
          obtain ⟨hck, hfk, hst⟩ := hKO θ k es _ hf w (es.map (entryC θ)).toArray.isEmpty
          obtain ⟨e, he1, rfl, _⟩ := hst p v rfl
          have hbv := (hbe e (List.mem_of_getElem? he1)).2
          refine ⟨fun hs => hs, fun _ => ⟨θ, w, run_val ?_, ?_, Post.refl hR⟩⟩
          · rw [hx', hix]
            simp only [Instr.lookup, Sem.run_bind, run_underlying hu w, Result.andThen, conc, run_getObj_mp hheap, Sem.run_pure, hck]
            simp only [List.toList_toArray, hfk, Result.andThen, Option.map_some, Sem.run_pure]
            cases ok <;> simp [conc]
          · cases ok
            · exact hbv
            · simp only [if_true, bd]
              intro y hy
              rcases List.mem_cons.1 hy with rfl | hy
              · exact hbv
              · obtain rfl := List.mem_singleton.1 hy; simp [bd]
        · rename_i hf
          split
          · rename_i z hz
            obtain ⟨hck, hfk, _⟩ := hKO θ k es _ hf w (es.map (entryC θ)).toArray.isEmpty
            obtain ⟨hbz, hrz⟩ := zero_apart (θ := θ) (w := w) hj hz h.next
            refine ⟨fun hs => hs, fun _ => ⟨θ, w, run_val ?_, ?_, Post.refl hR⟩⟩
            · rw [hx', hix]
              simp only [Instr.lookup, Sem.run_bind, run_underlying hu w, Result.andThen, conc, run_getObj_mp hheap, Sem.run_pure, hck]
              simp only [List.toList_toArray, hfk, Result.andThen, Option.map_none, Sem.run_pure, Sem.run_bind, hrz]
              cases ok <;> simp [conc]
            · cases ok
              · exact hbz
              · simp only [if_true, bd]
                intro y hy
                rcases List.mem_cons.1 hy with rfl | hy
                · exact hbz
                · obtain rfl := List.mem_singleton.1 hy; simp [bd]
          · trivial
        · trivial
      · trivial
    · trivial
  · trivial
end
end PartOfUg
end Go.Proofs.YtbjffjnmjkogkaaGreat.GY
