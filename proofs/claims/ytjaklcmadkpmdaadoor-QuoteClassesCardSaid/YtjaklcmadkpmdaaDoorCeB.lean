/- A program's code, worked out over plain data: what the kernel runs. Blocks of memory are numbers of their own here. No program is named. -/
import Derived.Test.YtjaklcmadkpmdaaDoorCeA
import Derived.RangeFuncLeaves
import Derived.OrdersIn
noncomputable section
namespace Go.CE
open Go

/-! ### Values -/

inductive RV where
  | top
  | ptr (id off : Nat)
  | nilp
  | slc (id off len cap : Nat)
  | nils
  | emp
  | capv (id cap : Nat)
  | map (id : Nat)
  | nilm
  | fn (f : Nat) (first caps : List (Nat × Nat))
  | yld (id : Nat)
  | nilf
  | nili
  | flt (k : FloatKind) (bits : Nat)
  | cpx (k : FloatKind) (re im : Nat)
  | slx (id off len cap : Nat)
  | emx

inductive CV where
  | int (k : IntKind) (n : Int)
  | bool (b : Bool)
  | str (s : List Nat)
  | ref (r : RV)

inductive TV where
  | c (v : CV)
  | agg (l : List CV)

inductive AV where
  | c (v : CV)
  | agg (l : List CV)
  | tup (l : List TV)
  | top

structure MapE where
  key : TV
  val : TV
  born : Nat

inductive Jmp where
  | exit (id : Nat)
  | goto (l : Nat)
  | ret

inductive Ob where
  | dead
  | row (elem : TypeId) (n sz : Nat) (opn : Bool) (fz : Nat) (d : Nat) (t : NT d TV)
  | mp (es : List MapE) (clock : Nat)
  | lp (st : LoopState) (pd : Option Jmp) (N D : Nat) (e : NT D AV) (ps : List Nat) (as bd : Code) (dfr : Nat)
  | dfr

/-- How many levels memory has. -/
def hd : Nat := 6

structure M where
  H : NT hd Ob
  nx : Nat
  rm : Nat
  wm : Nat
  dfs : List Nat

inductive Ex where
  | norm
  | exit (id : Nat)
  | goto (l : Nat)
  | ret

inductive R (D : Nat) where
  | fail (why : List Nat)
  | ok (x : Ex) (e : NT D AV) (m : M)

inductive RO where
  | fail (why : List Nat)
  | ok (v : AV) (m : M)

/-- What calls lead to. -/
structure Low where
  call : Nat → List AV → M → RO
  round : Nat → List AV → M → RO

/-- How often a loop may go round; the round that is under way. -/
structure Ctx where
  low : Low
  lf : Nat
  rnd : Option Nat

structure OpF (D : Nat) where
  f : Ctx → NT D AV → M → RO

structure Dn (D : Nat) where
  f : Ctx → NT D AV → M → R D

abbrev undefA : AV := .tup []
abbrev noOp {D : Nat} (w : Nat) : OpF D := ⟨fun _ _ _ => .fail [w]⟩

/-! ### Between the model's values and these -/

def ofCV : Value → Option CV
  | .bool b => some (.bool b)
  | .int k n => some (.int k n)
  | .string s => some (.str (s.data.toList.map UInt8.toNat))
  | .pointer none => some (.ref .nilp)
  | .slice none 0 0 => some (.ref .nils)
  | .map none => some (.ref .nilm)
  | .nilFunc => some (.ref .nilf)
  | .nilIface => some (.ref .nili)
  | .float k b => some (.ref (.flt k b))
  | .complex k a b => some (.ref (.cpx k a b))
  | _ => none

def ofCVs : List Value → Option (List CV)
  | [] => some []
  | v :: r => match ofCV v, ofCVs r with
    | some c, some l => some (c :: l)
    | _, _ => none

def ofV : Value → AV
  | .agg cs => match ofCVs cs.toList with
    | some l => .agg l
    | none => .top
  | .tuple vs => match ofCVs vs.toList with
    | some l => .tup (l.map .c)
    | none => .top
  | v => match ofCV v with
    | some c => .c c
    | none => .top

def strV (s : List Nat) : Value := .string ⟨(s.map UInt8.ofNat).toArray⟩

def toCV : CV → Option Value
  | .int k n => some (.int k n)
  | .bool b => some (.bool b)
  | .str s => some (strV s)
  | .ref .nilp => some (.pointer none)
  | .ref .nils => some (.slice none 0 0)
  | .ref .nilm => some (.map none)
  | .ref .nilf => some .nilFunc
  | .ref .nili => some .nilIface
  | .ref (.flt k b) => some (.float k b)
  | .ref (.cpx k a b) => some (.complex k a b)
  | .ref _ => none

def toCVs : List CV → Option (List Value)
  | [] => some []
  | v :: r => match toCV v, toCVs r with
    | some c, some l => some (c :: l)
    | _, _ => none

def toAV : AV → Option Value
  | .c v => toCV v
  | .agg l => match toCVs l with
    | some vs => some (.agg vs.toArray)
    | none => none
  | _ => none

/-! ### Small things that are worked out at once -/

def forceA (v : AV) (m : M) : RO :=
  AV.rec (motive := fun _ => RO) (fun v => .ok (.c v) m) (fun l => .ok (.agg l) m) (fun l => .ok (.tup l) m) (.ok .top m) v

def iEq (x y : Int) : Bool :=
  Int.rec (motive := fun _ => Bool) (fun a => Int.rec (motive := fun _ => Bool) (fun b => Nat.beq a b) (fun _ => false) y)
    (fun a => Int.rec (motive := fun _ => Bool) (fun _ => false) (fun b => Nat.beq a b) y) x
def iLe (x y : Int) : Bool :=
  Int.rec (motive := fun _ => Bool) (fun a => Int.rec (motive := fun _ => Bool) (fun b => Nat.ble a b) (fun _ => false) y)
    (fun a => Int.rec (motive := fun _ => Bool) (fun _ => true) (fun b => Nat.ble b a) y) x
def iLt (x y : Int) : Bool := Bool.rec (motive := fun _ => Bool) true false (iLe y x)

def half (k : IntKind) : Nat := 2 ^ (k.bits - 1)
def full (k : IntKind) : Nat := 2 ^ k.bits

def wrapSlow (k : IntKind) (n : Int) (m : M) : RO := inum (k.wrap n) fun z => .ok (.c (.int k z)) m
def wrapNat (k : IntKind) (a : Nat) (m : M) : RO := iff (Nat.ble (half k) a) (wrapSlow k (.ofNat a) m) (.ok (.c (.int k (.ofNat a))) m)

/-- A whole number of a kind, wrapped round; most need no wrapping. -/
def wrapI (k : IntKind) (n : Int) (m : M) : RO :=
  Int.rec (motive := fun _ => RO) (fun a => num a fun a => wrapNat k a m) (fun a => wrapSlow k (.negSucc a) m) n

def okB (b : Bool) (m : M) : RO := iff b (.ok (.c (.bool true)) m) (.ok (.c (.bool false)) m)

def kEq (a b : IntKind) : Bool := decide (a = b)

/-- The model's own answer, where it asks nothing but the program. -/
def arun {α : Type} (P : Program) : Sem α → Option α
  | .pure a => some a
  | .program k => arun P (k P)
  | .mark _ k => arun P k
  | _ => none

def forceStr {β : Type} (s : List Nat) (k : List Nat → β) : β :=
  List.rec (motive := fun _ => (List Nat → β) → β) (fun k => k []) (fun x _ ih k => num x fun x => ih fun r => k (x :: r)) s k

def forceCell {β : Type} (v : CV) (k : CV → β) (bad : β) : β :=
  match v with
  | .int a n => inum n fun n => k (.int a n)
  | .bool b => iff b (k (.bool true)) (k (.bool false))
  | .str s => forceStr s fun s => k (.str s)
  | .ref .nilp => k (.ref .nilp)
  | .ref .nils => k (.ref .nils)
  | .ref .nilm => k (.ref .nilm)
  | .ref .nilf => k (.ref .nilf)
  | .ref .nili => k (.ref .nili)
  | .ref (.flt a b) => num b fun b => k (.ref (.flt a b))
  | .ref (.cpx a x y) => num x fun x => num y fun y => k (.ref (.cpx a x y))
  | .ref _ => bad

def forceCells {β : Type} (l : List CV) (bad : β) (k : List CV → β) : β :=
  List.rec (motive := fun _ => (List CV → β) → β) (fun k => k []) (fun x _ ih k => forceCell x (fun x => ih fun r => k (x :: r)) bad) l k

def forceTV {β : Type} (v : TV) (bad : β) (k : TV → β) : β :=
  match v with
  | .c v => forceCell v (fun v => k (.c v)) bad
  | .agg l => forceCells l bad fun l => k (.agg l)

def forceTVs {β : Type} (l : List TV) (bad : β) (k : List TV → β) : β :=
  List.rec (motive := fun _ => (List TV → β) → β) (fun k => k []) (fun x _ ih k => forceTV x bad fun x => ih fun r => k (x :: r)) l k

/-- What the model made, in these values. -/
def backV (v : Value) (m : M) : RO :=
  match ofV v with
  | .c c => forceCell c (fun c => .ok (.c c) m) (.fail [1])
  | .agg l => forceCells l (.fail [2]) fun l => .ok (.agg l) m
  | .tup l => forceTVs l (.fail [3]) fun l => .ok (.tup l) m
  | .top => .fail [4]

def backN (o : Option Next) (m : M) : RO :=
  match o with
  | some (.value v) => backV v m
  | _ => .fail [5]

/-! ### Operands, temporaries -/

section
variable (P : Program) {D : Nat}

def evO (x : Operand) : Fn1 (NT D AV) AV :=
  match x with
  | .tmp t => iff (Nat.ble (Nat.succ t) (capN D)) (getN D t) ⟨fun _ => undefA⟩
  | .const v => ⟨fun _ => ofV v⟩
  | .global g => iff (Nat.ble (Nat.succ g) P.globals.size) ⟨fun _ => .c (.ref (.ptr g 0))⟩ ⟨fun _ => .top⟩
  | .func f => ⟨fun _ => .c (.ref (.fn f [] []))⟩

/-- A temporary is set (N: how many there are). -/
def putD {β : Type} (N : Nat) (dst : Option Tmp) : SetF (NT D AV) AV β :=
  match dst with
  | none => ⟨fun e _ k => k e⟩
  | some d => iff (Nat.ble (Nat.succ d) N) (setN D d) ⟨fun e _ k => k e⟩

def genV (v : AV) : Value :=
  match toAV v with
  | some v => v
  | none => .tuple #[.tuple #[]]

/-- The model's own answer at operands that hold no address. -/
def gen (o : Oper) : OpF D :=
  ⟨fun _ e m => backN (arun P (execOp (fun x => genV ((evO P x).f e)) o)) m⟩

/-- Is it without an address? -/
def plainA (v : AV) : Bool :=
  match toAV v with
  | some _ => true
  | none => false

def allPlain (l : List Operand) : Fn1 (NT D AV) Bool :=
  match l with
  | [] => ⟨fun _ => true⟩
  | x :: r => ⟨fun e => iff (plainA ((evO P x).f e)) ((allPlain r).f e) false⟩

/-- Which kind of operation it is. -/
def opTag (o : Op) : List Nat :=
  match o with
  | .convert s t _ => [6, 1, s, t]
  | .binOp _ t _ _ _ => [6, 2, t]
  | .unOp _ t _ => [6, 3, t]
  | .call _ => [6, 4]
  | _ => [6]

def genOp (o : Oper) : OpF D :=
  ⟨fun c e m => iff ((allPlain P o.op.operands.toList).f e) ((gen P o).f c e m) (.fail (opTag o.op))⟩

/-! ### Whole numbers -/

structure IntF where
  f : IntKind → Int → Int → M → RO

/-- The model's own answer at two whole numbers. -/
def genInt (op : BinOp) (k : IntKind) (x y : Int) (m : M) : RO :=
  backN (arun P (do let v ← binOp op 0 (.int k x) (.int k y); pure (.value v))) m

def nat2b (a : Nat) (y : Int) (k : Nat → Nat → RO) (no : RO) : RO :=
  Int.rec (motive := fun _ => RO) (fun b => k a b) (fun _ => no) y

def nat2 (x y : Int) (k : Nat → Nat → RO) (no : RO) : RO :=
  Int.rec (motive := fun _ => RO) (fun a => nat2b a y k no) (fun _ => no) x

def bitK (op : BinOp) (f : Nat → Nat → Nat) (k : IntKind) (m : M) (a b : Nat) : RO :=
  iff (Nat.ble (Nat.succ a) (full k) && Nat.ble (Nat.succ b) (full k)) (num (f a b) fun r => wrapNat k r m) (genInt P op k (.ofNat a) (.ofNat b) m)

def bitF (op : BinOp) (f : Nat → Nat → Nat) : IntF :=
  ⟨fun k x y m => nat2 x y (bitK P op f k m) (genInt P op k x y m)⟩

def quoK (k : IntKind) (m : M) (a b : Nat) : RO := iff (Nat.ble 1 b) (num (Nat.div a b) fun r => wrapNat k r m) (.fail [220])
def remK (k : IntKind) (m : M) (a b : Nat) : RO := iff (Nat.ble 1 b) (num (Nat.mod a b) fun r => .ok (.c (.int k (.ofNat r))) m) (.fail [221])

def intF (op : BinOp) : IntF :=
  match op with
  | .add => ⟨fun k x y m => wrapI k (Int.add x y) m⟩
  | .sub => ⟨fun k x y m => wrapI k (Int.sub x y) m⟩
  | .mul => ⟨fun k x y m => wrapI k (Int.mul x y) m⟩
  | .eql => ⟨fun _ x y m => okB (iEq x y) m⟩
  | .neq => ⟨fun _ x y m => okB (Bool.not (iEq x y)) m⟩
  | .lss => ⟨fun _ x y m => okB (iLt x y) m⟩
  | .leq => ⟨fun _ x y m => okB (iLe x y) m⟩
  | .gtr => ⟨fun _ x y m => okB (iLt y x) m⟩
  | .geq => ⟨fun _ x y m => okB (iLe y x) m⟩
  | .and => bitF P .and Nat.land
  | .or => bitF P .or Nat.lor
  | .xor => bitF P .xor Nat.xor
  | .andNot => bitF P .andNot fun a b => Nat.xor a (Nat.land a b)
  | .quo => ⟨fun k x y m => nat2 x y (quoK k m) (genInt P .quo k x y m)⟩
  | .rem => ⟨fun k x y m => nat2 x y (remK k m) (genInt P .rem k x y m)⟩
  | op => ⟨fun k x y m => genInt P op k x y m⟩

/-- Shifts. -/
def shlK (k : IntKind) (m : M) (a b : Nat) : RO := num (Nat.mul a (Nat.pow 2 (min b k.bits))) fun r => wrapNat k r m
def shrK (k : IntKind) (m : M) (a b : Nat) : RO := num (Nat.div a (Nat.pow 2 (min b k.bits))) fun r => .ok (.c (.int k (.ofNat r))) m

/-! ### Texts -/

def strEq (s t : List Nat) : Bool :=
  List.rec (motive := fun _ => List Nat → Bool) (fun t => List.rec (motive := fun _ => Bool) true (fun _ _ _ => false) t)
    (fun x _ ih t => List.rec (motive := fun _ => Bool) false (fun y t _ => iff (Nat.beq x y) (ih t) false) t) s t

def strLt (s t : List Nat) : Bool :=
  List.rec (motive := fun _ => List Nat → Bool) (fun t => List.rec (motive := fun _ => Bool) false (fun _ _ _ => true) t)
    (fun x _ ih t => List.rec (motive := fun _ => Bool) false (fun y t _ => iff (Nat.beq x y) (ih t) (Nat.ble (Nat.succ x) y)) t) s t

def strApp {β : Type} (s t : List Nat) (k : List Nat → β) : β :=
  List.rec (motive := fun _ => (List Nat → β) → β) (fun k => k t) (fun x _ ih k => ih fun r => k (x :: r)) s k

structure StrF where
  f : List Nat → List Nat → M → RO

def strF (op : BinOp) : StrF :=
  match op with
  | .add => ⟨fun s t m => iff (Nat.ble (Nat.add s.length t.length) 1000000) (strApp s t fun r => .ok (.c (.str r)) m) (.fail [7])⟩
  | .eql => ⟨fun s t m => okB (strEq s t) m⟩
  | .neq => ⟨fun s t m => okB (Bool.not (strEq s t)) m⟩
  | .lss => ⟨fun s t m => okB (strLt s t) m⟩
  | .leq => ⟨fun s t m => okB (Bool.not (strLt t s)) m⟩
  | .gtr => ⟨fun s t m => okB (strLt t s) m⟩
  | .geq => ⟨fun s t m => okB (Bool.not (strLt s t)) m⟩
  | _ => ⟨fun _ _ _ => .fail [230]⟩

/-! ### == -/

/-- == of two references, one of which is nil. -/
def refEq (psz : Bool) (t : Option TypeDesc) (a b : RV) (neg : Bool) (m : M) : RO :=
  match t, a, b with
  | some (.pointer _), .nilp, .nilp => okB (Bool.not neg) m
  | some (.pointer _), .nilp, .ptr .. => okB neg m
  | some (.pointer _), .ptr .., .nilp => okB neg m
  | some (.pointer _), .ptr i x, .ptr j y => iff (psz && Nat.beq i j && Nat.beq x y) (okB (Bool.not neg) m) (.fail [8])
  | some (.slice _), .nils, .nils => okB (Bool.not neg) m
  | some (.slice _), .nils, .slc .. => okB neg m
  | some (.slice _), .slc .., .nils => okB neg m
  | some (.slice _), .nils, .emp => okB neg m
  | some (.slice _), .emp, .nils => okB neg m
  | some (.slice _), .nils, .slx .. => okB neg m
  | some (.slice _), .slx .., .nils => okB neg m
  | some (.slice _), .nils, .emx => okB neg m
  | some (.slice _), .emx, .nils => okB neg m
  | some (.map _ _), .nilm, .nilm => okB (Bool.not neg) m
  | some (.map _ _), .nilm, .map _ => okB neg m
  | some (.map _ _), .map _, .nilm => okB neg m
  | some (.func _ _ _), .nilf, .nilf => okB (Bool.not neg) m
  | some (.func _ _ _), .nilf, .fn .. => okB neg m
  | some (.func _ _ _), .fn .., .nilf => okB neg m
  | _, _, _ => .fail [8]

/-- The kinds of the cells of structs and arrays of whole numbers (1), bools (2) and texts (3) alone, without a gap: == asks cell by cell. -/
def kindsFs (kinds : TypeId → Option (List Nat)) : List Field → Nat → Option (List Nat)
  | [], _ => some []
  | f :: r, n => if f.name != "_" && f.offset == n then
      (match kinds f.type with
      | some ks => (match kindsFs kinds r (n + ks.length) with
        | some l => some (ks ++ l)
        | none => none)
      | none => none) else none

def sized (ks : List Nat) (n : Nat) : Option (List Nat) := if ks.length = n then some ks else none

def repK (ks : List Nat) (n : Nat) : List Nat := Nat.rec (motive := fun _ => List Nat) [] (fun _ r => ks ++ r) n

def kindsT : Nat → TypeId → Option (List Nat)
  | 0, _ => none
  | d + 1, t =>
    match P.info? t, P.underlying t with
    | some i, some (.int _) => sized [1] i.size
    | some i, some .bool => sized [2] i.size
    | some i, some .string => sized [3] i.size
    | some i, some (.struct fs) => if P.stoodInHeld t then none else (match kindsFs (kindsT d) fs.toList 0 with
      | some ks => sized ks i.size
      | none => none)
    | some i, some (.array n el) => (match kindsT d el with
      | some ks => sized (repK ks n) i.size
      | none => none)
    | _, _ => none

/-- Two cells that are alike, or not; None: it can't be told. -/
def sameC (a b : CV) : Option Bool :=
  match a with
  | .int k x => (match b with
    | .int k' y => iff (kEq k k') (some (iEq x y)) none
    | _ => none)
  | .bool x => (match b with
    | .bool y => some (iff x y (Bool.not y))
    | _ => none)
  | .str s => (match b with
    | .str t => some (strEq s t)
    | _ => none)
  | .ref _ => none

def andO (a b : Option Bool) : Option Bool :=
  match a with
  | none => none
  | some a => (match b with
    | none => none
    | some b => some (iff a b false))

def kindC (k : Nat) (a : CV) : Bool :=
  match a with
  | .int _ _ => Nat.beq k 1
  | .bool _ => Nat.beq k 2
  | .str _ => Nat.beq k 3
  | .ref _ => false

def eqKs (ks : List Nat) (xs ys : List CV) : Option Bool :=
  List.rec (motive := fun _ => List CV → List CV → Option Bool)
    (fun xs ys => List.rec (motive := fun _ => Option Bool) (List.rec (motive := fun _ => Option Bool) (some true) (fun _ _ _ => none) ys) (fun _ _ _ => none) xs)
    (fun k _ ih xs ys => List.rec (motive := fun _ => Option Bool) none
      (fun x xs _ => List.rec (motive := fun _ => Option Bool) none (fun y ys _ => iff (kindC k x) (andO (sameC x y) (ih xs ys)) none) ys) xs) ks xs ys

def aggEq (ks : List Nat) (neg : Bool) (xs ys : List CV) (m : M) : RO :=
  match eqKs ks xs ys with
  | some b => okB (iff neg (Bool.not b) b) m
  | none => .fail [224]

def isAggT (t : TypeId) : Option Bool :=
  match P.underlying t with
  | some (.struct _) => some true
  | some (.array _ _) => some true
  | some _ => some false
  | none => none

/-- Is == of a type asked cell by cell? Of which kinds? -/
def flatK (t : TypeId) : Option (List Nat) :=
  match P.eqGuardType P.depth t, isAggT P t with
  | false, some true => kindsT P 100 t
  | _, _ => none

def isNeq (op : BinOp) : Option Bool :=
  match op with
  | .eql => some false
  | .neq => some true
  | _ => none

/-- What is known of a statement's operator, worked out once. -/
structure BinF where
  op : BinOp
  int : IntF
  str : StrF
  ty : Option TypeDesc
  neg : Option Bool
  flat : Option (List Nat)
  psz : Bool

def boolEq (neg : Bool) (a b : Bool) (m : M) : RO := okB (iff neg (iff a (Bool.not b) b) (iff a b (Bool.not b))) m

def binBool (B : BinF) (a : Bool) (w : CV) (m : M) : RO :=
  match w with
  | .bool b => (match B.ty with
    | some .bool => (match B.neg with
      | some neg => boolEq neg a b m
      | none => .fail [227])
    | _ => .fail [227])
  | _ => .fail [12]

def binInt (B : BinF) (k : IntKind) (a : Int) (w : CV) (m : M) : RO :=
  CV.rec (motive := fun _ => RO) (fun k' b => iff (kEq k k') (B.int.f k a b m) (.fail [9])) (fun _ => .fail [10]) (fun _ => .fail [10]) (fun _ => .fail [10]) w

def binStr (B : BinF) (a : List Nat) (w : CV) (m : M) : RO :=
  CV.rec (motive := fun _ => RO) (fun _ _ => .fail [11]) (fun _ => .fail [11]) (fun b => B.str.f a b m) (fun _ => .fail [11]) w

def binRef (g : RO) (B : BinF) (a : RV) (w : CV) (m : M) : RO :=
  match w with
  | .ref b => iff (plainA (.c (.ref a)) && plainA (.c (.ref b))) g (match B.neg with
    | some neg => refEq B.psz B.ty a b neg m
    | none => .fail [240])
  | _ => .fail [12]

def binC (g : RO) (B : BinF) (v w : CV) (m : M) : RO :=
  CV.rec (motive := fun _ => RO) (fun k a => binInt B k a w m) (fun a => binBool B a w m) (fun a => binStr B a w m) (fun a => binRef g B a w m) v

def binAgg (g : RO) (B : BinF) (a b : List CV) (m : M) : RO :=
  match B.flat with
  | some n => (match B.neg with
    | some neg => aggEq n neg a b m
    | none => g)
  | none => g

def binR (g : RO) (B : BinF) (v : CV) (w : AV) (m : M) : RO :=
  AV.rec (motive := fun _ => RO) (fun w => binC g B v w m) (fun _ => .fail [241]) (fun _ => .fail [241]) (.fail [241]) w

def binA (g : RO) (B : BinF) (a : List CV) (w : AV) (m : M) : RO :=
  match w with
  | .agg b => binAgg g B a b m
  | _ => .fail [242]

def bin0 (g : RO) (B : BinF) (v w : AV) (m : M) : RO :=
  AV.rec (motive := fun _ => RO) (fun v => binR g B v w m) (fun a => binA g B a w m) (fun _ => .fail [229]) (.fail [229]) v

/-- Is it a pointer to what has a size? -/
def pszT (t : TypeId) : Bool :=
  match P.underlying t with
  | some (.pointer el) => (P.info? el).isSome
  | _ => false

def binB (op : BinOp) (t : TypeId) : BinF := ⟨op, intF P op, strF op, P.underlying t, isNeq op, flatK P t, pszT P t⟩

def shK (left : Bool) (k : IntKind) (a : Int) (w : AV) (m : M) : RO :=
  match w with
  | .c (.int _ b) => nat2 a b (iff left (shlK k m) (shrK k m)) (.fail [222])
  | _ => .fail [13]

def sh0 (left : Bool) (v w : AV) (m : M) : RO :=
  match v with
  | .c (.int k a) => shK left k a w m
  | _ => .fail [226]

def binD (o : Oper) (op : BinOp) (t : TypeId) (x y : Operand) : OpF D :=
  match op with
  | .shl => ⟨fun _ e m => sh0 true ((evO P x).f e) ((evO P y).f e) m⟩
  | .shr => ⟨fun _ e m => sh0 false ((evO P x).f e) ((evO P y).f e) m⟩
  | op => ⟨fun c e m => bin0 ((genOp P o).f c e m) (binB P op t) ((evO P x).f e) ((evO P y).f e) m⟩

/-! ### Memory -/

/-- The smaller of two. -/
def minK {β : Type} (a b : Nat) (k : Nat → β) : β := iff (Nat.ble a b) (k a) (k b)

/-- How many variables at package level there are: they are only read. -/
def glb : Nat := P.globals.size

def lookB {β : Type} (id : Nat) (H : NT hd Ob) (nx rm wm : Nat) (dfs : List Nat) (k : Ob → M → β) : β :=
  iff (Nat.ble (Nat.succ id) (glb P)) (k ((getN hd id).f H) ⟨H, nx, rm, wm, dfs⟩) (k ((getN hd id).f H) ⟨H, nx, id, wm, dfs⟩)

def lookA {β : Type} (id : Nat) (H : NT hd Ob) (nx rm wm : Nat) (dfs : List Nat) (k : Ob → M → β) : β :=
  iff (Nat.ble rm id) (k ((getN hd id).f H) ⟨H, nx, rm, wm, dfs⟩) (lookB P id H nx rm wm dfs k)

/-- A row of memory is looked at. -/
def look {β : Type} (id : Nat) (m : M) (k : Ob → M → β) : β :=
  M.rec (motive := fun _ => β) (fun H nx rm wm dfs => lookA P id H nx rm wm dfs k) m

def turnA {β : Type} (id : Nat) (nx rm wm : Nat) (dfs : List Nat) (k : M → β) (H : NT hd Ob) : β :=
  minK rm id fun rm => minK wm id fun wm => k ⟨H, nx, rm, wm, dfs⟩

/-- An object is turned. -/
def turn {β : Type} (id : Nat) (ob : Ob) (m : M) (bad : β) (k : M → β) : β :=
  M.rec (motive := fun _ => β) (fun H nx rm wm dfs => iff (Nat.ble (Nat.succ id) (glb P)) bad (iff (Nat.ble (Nat.succ id) nx) ((setN hd id).f H ob (turnA id nx rm wm dfs k)) bad)) m

def freshA {β : Type} (nx rm wm : Nat) (dfs : List Nat) (k : Nat → M → β) (H : NT hd Ob) : β :=
  num (Nat.succ nx) fun nx' => k nx ⟨H, nx', rm, wm, dfs⟩

/-- A new object. -/
def fresh {β : Type} (ob : Ob) (m : M) (bad : β) (k : Nat → M → β) : β :=
  M.rec (motive := fun _ => β) (fun H nx rm wm dfs => iff (Nat.ble (Nat.succ nx) (capN hd)) ((setN hd nx).f H ob (freshA nx rm wm dfs k)) bad) m

/-! ### Lists of cells -/

/-- Cells laid over others, from one on. -/
def spl {β : Type} (bad : β) (off : Nat) (vs cs : List CV) (k : List CV → β) : β :=
  List.rec (motive := fun _ => Nat → List CV → (List CV → β) → β)
    (fun off vs k => Nat.rec (motive := fun _ => β) (List.rec (motive := fun _ => β) (k []) (fun _ _ _ => bad) vs) (fun _ _ => bad) off)
    (fun c rest ih off vs k => Nat.rec (motive := fun _ => β)
      (List.rec (motive := fun _ => β) (k (c :: rest)) (fun v vs _ => ih 0 vs fun r => k (v :: r)) vs)
      (fun off _ => ih off vs fun r => k (c :: r)) off) cs off vs k

/-- So many of a list, from one on. -/
def sub {β : Type} (bad : β) (l : List CV) (off s : Nat) (k : List CV → β) : β :=
  List.rec (motive := fun _ => Nat → Nat → (List CV → β) → β)
    (fun _ s k => Nat.rec (motive := fun _ => β) (k []) (fun _ _ => bad) s)
    (fun c _ ih off s k => Nat.rec (motive := fun _ => β)
      (Nat.rec (motive := fun _ => β) (k []) (fun s _ => ih 0 s fun r => k (c :: r)) s)
      (fun off _ => ih off s k) off) l off s k

def appC {β : Type} (l r : List CV) (k : List CV → β) : β :=
  List.rec (motive := fun _ => (List CV → β) → β) (fun k => k r) (fun x _ ih k => ih fun q => k (x :: q)) l k

/-- The first so many of a list, and the rest. -/
def splitK {β : Type} (n : Nat) (l : List CV) (bad : β) (k : List CV → List CV → β) : β :=
  List.rec (motive := fun _ => Nat → (List CV → List CV → β) → β)
    (fun n k => Nat.rec (motive := fun _ => β) (k [] []) (fun _ _ => bad) n)
    (fun x r ih n k => Nat.rec (motive := fun _ => β) (k [] (x :: r)) (fun n _ => ih n fun a b => k (x :: a) b) n) l n k

/-- The first so many of a list (or all). -/
def takeL {β : Type} (l : List CV) (n : Nat) (k : List CV → β) : β :=
  List.rec (motive := fun _ => Nat → (List CV → β) → β) (fun _ k => k [])
    (fun c _ ih n k => Nat.rec (motive := fun _ => β) (k []) (fun n _ => ih n fun r => k (c :: r)) n) l n k

def nthC (l : List CV) (i : Nat) (m : M) : RO :=
  List.rec (motive := fun _ => Nat → RO) (fun _ => .fail [234]) (fun x _ ih i => Nat.rec (motive := fun _ => RO) (.ok (.c x) m) (fun i _ => ih i) i) l i

/-! ### Rows: trees of pieces -/

/-- How many levels so many pieces take. -/
def lev (n : Nat) : Nat :=
  iff (Nat.ble n 1) 0 (iff (Nat.ble n 8) 1 (iff (Nat.ble n 64) 2 (iff (Nat.ble n 512) 3 (iff (Nat.ble n 4096) 4 5))))

/-- A tree of the first places of a list (z where it has ended); what is left. -/
def bld {α β : Type} (z : α) (d : Nat) : List α → (NT d α → List α → β) → β :=
  Nat.rec (motive := fun d => List α → (NT d α → List α → β) → β)
    (fun l k => List.rec (motive := fun _ => β) (k z []) (fun x r _ => k x r) l)
    (fun d ih l k => List.rec (motive := fun _ => β) (k (fullN z (d + 1)) []) (fun x r _ =>
      ih (x :: r) fun a l => ih l fun b l => ih l fun c l => ih l fun d l => ih l fun e l => ih l fun f l => ih l fun g l => ih l fun h l => k (N8.mk a b c d e f g h) l) l) d

def topT : TV := .c (.ref .top)

def bare {β : Type} (l : List CV) (k : List TV → β) : β :=
  List.rec (motive := fun _ => (List TV → β) → β) (fun k => k []) (fun x _ ih k => ih fun r => k (.c x :: r)) l k

def groups {β : Type} (s : Nat) (l : List CV) (bad : β) (k : List TV → β) : β :=
  Nat.rec (motive := fun _ => List CV → (List TV → β) → β) (fun _ k => k [])
    (fun _ ih l k => List.casesOn (motive := fun _ => β) l (k []) fun x r => splitK s r bad fun a b => ih b fun q => k (.agg (x :: a) :: q)) l.length l k

/-- A list of cells, in pieces of so many (one: bare). -/
def pieces {β : Type} (s : Nat) (l : List CV) (bad : β) (k : List TV → β) : β :=
  match s with
  | 0 => bad
  | 1 => bare l k
  | s + 2 => groups (s + 1) l bad k

def rowMany {β : Type} (elem : TypeId) (sz : Nat) (cells : List CV) (bad : β) (k : Ob → β) : β :=
  pieces sz cells bad fun ps => num ps.length fun c => iff (Nat.ble c (capN 5)) (num (lev c) fun d => num cells.length fun n => bld topT d ps fun t _ => k (.row elem n sz false 0 d t)) bad

def rowOne {β : Type} (elem : TypeId) (sz : Nat) (cells : List CV) (k : Ob → β) : β :=
  match cells with
  | [v] => k (.row elem 1 1 false 0 0 (TV.c v))
  | cells => k (.row elem sz sz false 0 0 (TV.agg cells))

def rowOf {β : Type} (elem : TypeId) (sz : Nat) (cells : List CV) (bad : β) (k : Ob → β) : β :=
  iff (Nat.beq cells.length sz) (rowOne elem sz cells k) (rowMany elem sz cells bad k)

/-- Cells out of a piece: so many, from one on. -/
def pieceCells {β : Type} (p : TV) (j s : Nat) (bad : β) (k : List CV → β) : β :=
  match p with
  | .c v => iff (Nat.beq j 0 && Nat.beq s 1) (k [v]) bad
  | .agg l => sub bad l j s k

/-- So many pieces' cells, from one on. -/
def takePs {β : Type} (d : Nat) (t : NT d TV) (s : Nat) : Nat → (List CV → β) → β :=
  Nat.rec (motive := fun _ => Nat → (List CV → β) → β) (fun _ k => k [])
    (fun _ ih q k => match (getN d q).f t with
      | .c v => num (Nat.succ q) fun q => ih q fun r => k (v :: r)
      | .agg l => num (Nat.succ q) fun q => ih q fun r => appC l r k) s

def takeAt {β : Type} (sz d : Nat) (t : NT d TV) (s q j : Nat) (bad : β) (k : List CV → β) : β :=
  iff (Nat.beq j 0 && Nat.beq (Nat.mod s sz) 0) (num (Nat.div s sz) fun c => takePs d t c q k)
    (iff (Nat.ble (Nat.add j s) sz) (pieceCells ((getN d q).f t) j s bad k) bad)

/-- So many cells of a row, from one on. -/
def takeCells {β : Type} (sz d : Nat) (t : NT d TV) (s off : Nat) (bad : β) (k : List CV → β) : β :=
  num (Nat.div off sz) fun q => num (Nat.mod off sz) fun j => takeAt sz d t s q j bad k

/-- Cells are laid into a piece. -/
def layPiece {β : Type} (p : TV) (j : Nat) (l : List CV) (bad : β) (k : TV → β) : β :=
  match p with
  | .c _ => (match l with
    | [v] => k (.c v)
    | _ => bad)
  | .agg cs => spl bad j l cs fun cs => k (.agg cs)

/-- Pieces are laid into a row, from one on. -/
def layPs {β : Type} (d : Nat) (l : List TV) : NT d TV → Nat → (NT d TV → β) → β :=
  List.rec (motive := fun _ => NT d TV → Nat → (NT d TV → β) → β) (fun t _ k => k t)
    (fun v _ ih t q k => (setN d q).f t v fun t => num (Nat.succ q) fun q => ih t q k) l

def layAt {β : Type} (sz d : Nat) (l : List CV) (s : Nat) (t : NT d TV) (q j : Nat) (bad : β) (k : NT d TV → β) : β :=
  iff (Nat.beq j 0 && Nat.beq (Nat.mod s sz) 0) (pieces sz l bad fun ps => layPs d ps t q k)
    (iff (Nat.ble (Nat.add j s) sz) (layPiece ((getN d q).f t) j l bad fun p => (setN d q).f t p k) bad)

/-- Cells (so many) are laid into a row, from one on. -/
def layCells {β : Type} (sz d : Nat) (l : List CV) (s : Nat) (t : NT d TV) (off : Nat) (bad : β) (k : NT d TV → β) : β :=
  num (Nat.div off sz) fun q => num (Nat.mod off sz) fun j => layAt sz d l s t q j bad k

/-- As many levels as so many pieces want. -/
def growT {β : Type} (c : Nat) (d : Nat) (t : NT d TV) (k : (d : Nat) → NT d TV → β) : β :=
  iff (Nat.ble c (capN d)) (k d t) (k (d + 1) ((⟨t, fullN topT d, fullN topT d, fullN topT d, fullN topT d, fullN topT d, fullN topT d, fullN topT d⟩ : N8 (NT d TV))))

/-! ### Types -/

def sizeT (t : TypeId) : Option Nat :=
  match P.info? t with
  | some i => some i.size
  | none => none

/-- The cells of a type's zero. -/
def zeroT (t : TypeId) : Option (List CV) :=
  match P.info? t with
  | some i => (match i.zero with
    | some z => ofCVs z.cells.toList
    | none => none)
  | none => none

/-! ### alloc, box, load, store -/

def cellsA {β : Type} (v : AV) (bad : β) (k : List CV → β) : β :=
  match v with
  | .c v => k [v]
  | .agg l => k l
  | _ => bad

/-- Cells, as a value of a type. -/
def ofCells (agg : Bool) (l : List CV) (m : M) : RO :=
  match agg with
  | true => .ok (.agg l) m
  | false => (match l with
    | [v] => .ok (.c v) m
    | _ => .fail [14])

def okPtr (id : Nat) (m : M) : RO := .ok (.c (.ref (.ptr id 0))) m

/-- An object that is worked out once. -/
structure ObF where
  ob : Ob

def zeroRow (elem : TypeId) (cells : List CV) : ObF := rowOf elem cells.length cells ⟨.dead⟩ fun ob => ⟨ob⟩

def allocD (elem : TypeId) : OpF D :=
  match zeroT P elem with
  | some z => ⟨fun _ _ m => fresh (zeroRow elem z).ob m (.fail [16]) okPtr⟩
  | none => noOp 17

def boxC (elem : TypeId) (m : M) (v : CV) : RO := fresh (.row elem 1 1 false 0 0 (TV.c v)) m (.fail [15]) okPtr
def boxL (elem : TypeId) (m : M) (l : List CV) : RO := num l.length fun n => rowOf elem n l (.fail [15]) fun ob => fresh ob m (.fail [15]) okPtr

def boxA (elem : TypeId) (v : AV) (m : M) : RO :=
  match v with
  | .c v => boxC elem m v
  | .agg l => boxL elem m l
  | _ => .fail [18]

def boxD (elem : TypeId) (x : Operand) : OpF D := ⟨fun _ e m => boxA elem ((evO P x).f e) m⟩

def okPiece (m : M) (p : TV) : RO :=
  match p with
  | .c v => .ok (.agg [v]) m
  | .agg l => .ok (.agg l) m

def loadAgg (s sz d : Nat) (t : NT d TV) (off : Nat) (m : M) : RO :=
  iff (Nat.beq s sz && Nat.beq (Nat.mod off sz) 0 && Nat.ble 1 s) (num (Nat.div off sz) fun q => okPiece m ((getN d q).f t))
    (takeCells sz d t s off (.fail [231]) fun l => .ok (.agg l) m)

def okBare (m : M) (p : TV) : RO :=
  match p with
  | .c v => .ok (.c v) m
  | .agg _ => .fail [232]

def okNth (m : M) (j : Nat) (p : TV) : RO :=
  match p with
  | .agg l => nthC l j m
  | .c _ => .fail [233]

def loadOne (sz d : Nat) (t : NT d TV) (off : Nat) (m : M) : RO :=
  match sz with
  | 1 => okBare m ((getN d off).f t)
  | sz => num (Nat.div off sz) fun q => num (Nat.mod off sz) fun j => okNth m j ((getN d q).f t)

def loadRow (agg : Bool) (s off : Nat) (ob : Ob) (m : M) : RO :=
  Ob.rec (motive := fun _ => RO) (.fail [20]) (fun _ n sz _ _ d t => iff (Nat.ble (Nat.add off s) n) (iff agg (loadAgg s sz d t off m) (loadOne sz d t off m)) (.fail [19])) (fun _ _ => .fail [20]) (fun _ _ _ _ _ _ _ _ _ => .fail [20]) (.fail [20]) ob

def loadR (agg : Bool) (s : Nat) (r : RV) (m : M) : RO :=
  match r with
  | .ptr id off => look P id m (loadRow agg s off)
  | _ => .fail [22]

def loadA (agg : Bool) (s : Nat) (v : AV) (m : M) : RO :=
  AV.rec (motive := fun _ => RO) (fun v => CV.rec (motive := fun _ => RO) (fun _ _ => .fail [22]) (fun _ => .fail [22]) (fun _ => .fail [22]) (fun r => loadR P agg s r m) v) (fun _ => .fail [22]) (fun _ => .fail [22]) (.fail [22]) v

def loadD (t : TypeId) (x : Operand) : OpF D :=
  match isAggT P t, sizeT P t with
  | some agg, some s => iff (agg || Nat.beq s 1) ⟨fun _ e m => loadA P agg s ((evO P x).f e) m⟩ (noOp 23)
  | _, _ => noOp 23

def okU (m : M) : RO := .ok undefA m

def storeRow (id off s : Nat) (l : List CV) (ob : Ob) (m : M) : RO :=
  match ob with
  | .row el n sz opn fz d t =>
    iff (Nat.ble (Nat.add off s) n && Nat.ble (Nat.div fz 2) off && Nat.beq l.length s)
      (layCells sz d l s t off (.fail [235]) fun t => turn P id (.row el n sz opn fz d t) m (.fail [24]) okU)
      (.fail [25])
  | _ => .fail [28]

def storeR (s : Nat) (r : RV) (m : M) (l : List CV) : RO :=
  match r with
  | .ptr id off => look P id m (storeRow P id off s l)
  | _ => .fail [31]

def storeA (s : Nat) (v w : AV) (m : M) : RO :=
  match v with
  | .c (.ref r) => cellsA w (.fail [29]) (storeR P s r m)
  | _ => .fail [31]

def storeD (t : TypeId) (x y : Operand) : OpF D :=
  match sizeT P t with
  | some s => ⟨fun _ e m => storeA P s ((evO P x).f e) ((evO P y).f e) m⟩
  | none => noOp 32

/-! ### Values made of parts -/

structure Part where
  off : Nat
  sz : Nat
  x : Operand

def layParts {β : Type} (bad : β) (ps : List Part) : Fn1 (NT D AV) (List CV → (List CV → β) → β) :=
  match ps with
  | [] => ⟨fun _ cs k => k cs⟩
  | p :: ps => ⟨fun e cs k => cellsA ((evO P p.x).f e) bad fun vs => iff (Nat.beq vs.length p.sz) (spl bad p.off vs cs fun cs => (layParts bad ps).f e cs k) bad⟩

def placeStruct (fields : Array Field) (p : Nat × Operand) : Option Part :=
  match fields[p.1]? with
  | some f => (match sizeT P f.type with
    | some s => some ⟨f.offset, s, p.2⟩
    | none => none)
  | none => none

def partsStruct (fields : Array Field) : List (Nat × Operand) → Option (List Part)
  | [] => some []
  | p :: r => match placeStruct P fields p, partsStruct fields r with
    | some q, some l => some (q :: l)
    | _, _ => none

def partsRow (s : Nat) (l : List (Nat × Operand)) : List Part := l.map fun p => ⟨p.1 * s, s, p.2⟩

def allSizes (fields : List Field) : Bool := fields.all fun f => (sizeT P f.type).isSome

def okAgg (m : M) (l : List CV) : RO := .ok (.agg l) m

def buildS (z : List CV) (fields : Array Field) (parts : Array (Nat × Operand)) : OpF D :=
  match partsStruct P fields parts.toList, allSizes P fields.toList with
  | some ps, true => ⟨fun _ e m => (layParts P (.fail [33]) ps).f e z (okAgg m)⟩
  | _, _ => noOp 34

def buildR (z : List CV) (elem : TypeId) (parts : Array (Nat × Operand)) : OpF D :=
  match sizeT P elem with
  | some s => ⟨fun _ e m => (layParts P (.fail [35]) (partsRow s parts.toList)).f e z (okAgg m)⟩
  | none => noOp 36

def buildD (t : TypeId) (parts : Array (Nat × Operand)) : OpF D :=
  match zeroT P t, P.underlying t with
  | some z, some (.struct fields) => buildS P z fields parts
  | some z, some (.array _ elem) => buildR P z elem parts
  | _, _ => noOp 37

def reps (z : List CV) (n : Nat) : List CV := Nat.rec (motive := fun _ => List CV) [] (fun _ r => z ++ r) n

/-- A list that is worked out once. -/
structure LsF where
  l : List CV

def repsF (z : List CV) (n : Nat) : LsF := forceCells (reps z n) ⟨[]⟩ fun l => ⟨l⟩

def okSlc (len cap id : Nat) (m : M) : RO := .ok (.c (.ref (.slc id 0 len cap))) m

def buildSliceL (elem s len : Nat) (z : List CV) (parts : List (Nat × Operand)) : OpF D :=
  iff (Nat.ble 1 s && Nat.beq z.length s && Nat.ble (len * s) 16777216)
    ⟨fun _ e m => (layParts P (.fail [38]) (partsRow s parts)).f e (repsF z len).l fun cs => rowOf elem s cs (.fail [236]) fun ob => fresh ob m (.fail [39]) (okSlc len len)⟩
    (noOp 40)

def buildSliceD (t : TypeId) (len : Nat) (parts : Array (Nat × Operand)) : OpF D :=
  match P.underlying t with
  | some (.slice elem) => (match sizeT P elem, zeroT P elem with
    | some s, some z => buildSliceL P elem s len z parts.toList
    | _, _ => noOp 41)
  | _ => noOp 42

/-! ### Fields, elements -/

def fieldA (agg : Bool) (off s : Nat) (v : AV) (m : M) : RO :=
  match v with
  | .agg l => sub (.fail [43]) l off s fun l => ofCells agg l m
  | _ => .fail [44]

def fieldF (fd : Field) (x : Operand) : OpF D :=
  match isAggT P fd.type, sizeT P fd.type with
  | some agg, some s => iff (agg || Nat.beq s 1) ⟨fun _ e m => fieldA agg fd.offset s ((evO P x).f e) m⟩ (noOp 45)
  | _, _ => noOp 45

def fieldD (t : TypeId) (x : Operand) (f : Nat) : OpF D :=
  match P.underlying t with
  | some (.struct fields) => (match fields[f]? with
    | some fd => fieldF P fd x
    | none => noOp 46)
  | _ => noOp 47

def okAt (id : Nat) (m : M) (off : Nat) : RO := .ok (.c (.ref (.ptr id off))) m

def fieldAt (fo : Nat) (v : AV) (m : M) : RO :=
  match v with
  | .c (.ref (.ptr id off)) => num (Nat.add off fo) (okAt id m)
  | _ => .fail [48]

def fieldAddrF (fd : Field) (x : Operand) : OpF D :=
  match sizeT P fd.type with
  | some (_ + 1) => ⟨fun _ e m => fieldAt fd.offset ((evO P x).f e) m⟩
  | _ => noOp 49

def fieldAddrD (t : TypeId) (x : Operand) (f : Nat) : OpF D :=
  match P.underlying t with
  | some (.struct fields) => (match fields[f]? with
    | some fd => fieldAddrF P fd x
    | none => noOp 50)
  | _ => noOp 51

def addrN (id off len es : Nat) (m : M) (i : Nat) : RO := iff (Nat.ble (Nat.succ i) len) (num (Nat.add off (Nat.mul i es)) (okAt id m)) (.fail [52])

/-- A whole number that is not below 0. -/
def natOf (w : AV) (bad : RO) (k : Nat → RO) : RO :=
  AV.rec (motive := fun _ => RO) (fun v => CV.rec (motive := fun _ => RO) (fun _ n => Int.rec (motive := fun _ => RO) k (fun _ => bad) n) (fun _ => bad) (fun _ => bad) (fun _ => bad) v) (fun _ => bad) (fun _ => bad) bad w

def idxSlc (es : Nat) (v w : AV) (m : M) : RO :=
  match v with
  | .c (.ref (.slc id off len _)) => natOf w (.fail [54]) (addrN id off len es m)
  | .c (.ref (.slx id off len _)) => natOf w (.fail [54]) (addrN id off len es m)
  | _ => .fail [55]

def idxArr (len es : Nat) (v w : AV) (m : M) : RO :=
  match v with
  | .c (.ref (.ptr id off)) => natOf w (.fail [57]) (addrN id off len es m)
  | _ => .fail [58]

def indexAddrD (t : TypeId) (x i : Operand) : OpF D :=
  match P.underlying t with
  | some (.slice elem) => (match sizeT P elem with
    | some es => ⟨fun _ e m => idxSlc es ((evO P x).f e) ((evO P i).f e) m⟩
    | none => noOp 56)
  | some (.array len elem) => (match sizeT P elem with
    | some es => ⟨fun _ e m => idxArr len es ((evO P x).f e) ((evO P i).f e) m⟩
    | none => noOp 59)
  | _ => noOp 60

/-- A text's byte. -/
def nth {β : Type} (bad : β) (l : List Nat) (i : Nat) (k : Nat → β) : β :=
  List.rec (motive := fun _ => Nat → β) (fun _ => bad) (fun x _ ih i => Nat.rec (motive := fun _ => β) (k x) (fun i _ => ih i) i) l i

def okU8 (m : M) (b : Nat) : RO := .ok (.c (.int .u8 (.ofNat b))) m

def idxStr (v w : AV) (m : M) : RO :=
  match v with
  | .c (.str s) => natOf w (.fail [62]) fun n => nth (.fail [61]) s n (okU8 m)
  | _ => .fail [63]

def idxAgg (agg : Bool) (len es : Nat) (v w : AV) (m : M) : RO :=
  match v with
  | .agg l => natOf w (.fail [66]) fun n => iff (Nat.ble (Nat.succ n) len) (sub (.fail [64]) l (Nat.mul n es) es fun l => ofCells agg l m) (.fail [65])
  | _ => .fail [67]

def indexD (t : TypeId) (x i : Operand) : OpF D :=
  match P.underlying t with
  | some .string => ⟨fun _ e m => idxStr ((evO P x).f e) ((evO P i).f e) m⟩
  | some (.array len elem) => (match isAggT P elem, sizeT P elem with
    | some agg, some es => iff (agg || Nat.beq es 1) ⟨fun _ e m => idxAgg agg len es ((evO P x).f e) ((evO P i).f e) m⟩ (noOp 68)
    | _, _ => noOp 68)
  | _ => noOp 69

def avOf (v : TV) : AV :=
  match v with
  | .c v => .c v
  | .agg l => .agg l

def okTV (m : M) (v : TV) : RO :=
  match v with
  | .c v => .ok (.c v) m
  | .agg l => .ok (.agg l) m

def nthT (l : List TV) (i : Nat) (m : M) : RO :=
  List.rec (motive := fun _ => Nat → RO) (fun _ => .fail [70]) (fun x _ ih i => Nat.rec (motive := fun _ => RO) (okTV m x) (fun i _ => ih i) i) l i

def extractA (i : Nat) (v : AV) (m : M) : RO :=
  match v with
  | .tup l => nthT l i m
  | _ => .fail [71]

def extractD (x : Operand) (i : Nat) : OpF D := ⟨fun _ e m => extractA i ((evO P x).f e) m⟩

def moveD (x : Operand) : OpF D := ⟨fun _ e m => forceA ((evO P x).f e) m⟩

def pickA (c x y : AV) (m : M) : RO :=
  match c with
  | .c (.bool b) => iff b (forceA x m) (forceA y m)
  | _ => .fail [72]

def pickD (c x y : Operand) : OpF D := ⟨fun _ e m => pickA ((evO P c).f e) ((evO P x).f e) ((evO P y).f e) m⟩

def nilCheckA (v : AV) (m : M) : RO :=
  match v with
  | .c (.ref (.ptr id off)) => .ok (.c (.ref (.ptr id off))) m
  | .c (.ref (.fn f a b)) => .ok (.c (.ref (.fn f a b))) m
  | .c (.ref (.yld id)) => .ok (.c (.ref (.yld id))) m
  | _ => .fail [73]

def nilCheckD (x : Operand) : OpF D := ⟨fun _ e m => nilCheckA ((evO P x).f e) m⟩

def notA (v : AV) (m : M) : RO :=
  match v with
  | .c (.bool b) => iff b (.ok (.c (.bool false)) m) (.ok (.c (.bool true)) m)
  | _ => .fail [74]

def unD (o : Oper) (op : UnOp) (x : Operand) : OpF D :=
  match op with
  | .not => ⟨fun _ e m => notA ((evO P x).f e) m⟩
  | _ => genOp P o

/-! ### Conversions -/

/-- Cells of bytes of a text. -/
def byteCells {β : Type} (s : List Nat) (k : List CV → β) : β :=
  List.rec (motive := fun _ => (List CV → β) → β) (fun k => k []) (fun x _ ih k => ih fun r => k (.int .u8 (.ofNat x) :: r)) s k

def byteOfC {β : Type} (c : CV) (bad : β) (k : Nat → β) : β :=
  match c with
  | .int .u8 (.ofNat x) => iff (Nat.ble x 255) (k x) bad
  | _ => bad

/-- The text of cells of bytes. -/
def cellBytes {β : Type} (bad : β) (l : List CV) (k : List Nat → β) : β :=
  List.rec (motive := fun _ => (List Nat → β) → β) (fun k => k []) (fun c _ ih k => byteOfC c bad fun x => ih fun r => k (x :: r)) l k

def rowCells {β : Type} (bad : β) (off s : Nat) (k : List CV → M → β) (ob : Ob) (m : M) : β :=
  match ob with
  | .row _ n sz _ _ d t => iff (Nat.ble (Nat.add off s) n) (takeCells sz d t s off bad fun l => k l m) bad
  | _ => bad

def convInt (k : IntKind) (v : AV) (m : M) : RO :=
  match v with
  | .c (.int _ n) => wrapI k n m
  | _ => .fail [75]

def convStr (v : AV) (m : M) : RO :=
  match v with
  | .c (.str s) => .ok (.c (.str s)) m
  | _ => .fail [76]

def convBytes (el : TypeId) (v : AV) (m : M) : RO :=
  match v with
  | .c (.str s) => byteCells s fun l => bare l fun ps => num l.length fun n => iff (Nat.ble n (capN 5)) (num (lev n) fun d => bld topT d ps fun t _ => fresh (.row el n 1 true 0 d t) m (.fail [77]) (okSlc n n)) (.fail [77])
  | _ => .fail [78]

def okStr (l : List CV) (m : M) : RO := cellBytes (.fail [82]) l fun s => .ok (.c (.str s)) m

def convText (v : AV) (m : M) : RO :=
  match v with
  | .c (.ref .nils) => .ok (.c (.str [])) m
  | .c (.ref .emp) => .ok (.c (.str [])) m
  | .c (.ref (.slc id off len _)) => look P id m (rowCells (.fail [81]) off len okStr)
  | _ => .fail [83]

def unsOb (id off : Nat) (ob : Ob) (m : M) : RO :=
  match ob with
  | .row _ n _ _ _ _ _ => iff (Nat.ble (Nat.succ off) n) (.ok (.c (.ref (.ptr id off))) m) (.fail [245])
  | _ => .fail [245]

/-- A pointer, as one of no type. -/
def toUns (v : AV) (m : M) : RO :=
  match v with
  | .c (.ref .nilp) => .ok (.c (.ref .nilp)) m
  | .c (.ref (.ptr id off)) => look P id m (unsOb id off)
  | _ => .fail [246]

def backOb (u : TypeId) (id off : Nat) (ob : Ob) (m : M) : RO :=
  match ob with
  | .row el n _ opn _ _ _ => iff (Bool.not opn && liesAt P P.depth el (n / P.cellsOf el) off u 1) (.ok (.c (.ref (.ptr id off))) m) (.fail [247])
  | _ => .fail [247]

/-- .. and back. -/
def fromUns (u : TypeId) (v : AV) (m : M) : RO :=
  match v with
  | .c (.ref .nilp) => .ok (.c (.ref .nilp)) m
  | .c (.ref (.ptr id off)) => look P id m (backOb P u id off)
  | _ => .fail [248]

def sameOb (id : Nat) (v : RV) (ob : Ob) (m : M) : RO :=
  match ob with
  | .row el n sz opn fz d t => iff (Nat.beq fz 0) (turn P id (.row el n sz opn fz d t) m (.fail [261]) fun m => .ok (.c (.ref v)) m) (.fail [261])
  | _ => .fail [261]

/-- Bytes as they are: the model marks their row. -/
def toSame (v : AV) (m : M) : RO :=
  match v with
  | .c (.ref (.slc id off len cap)) => look P id m (sameOb P id (.slc id off len cap))
  | _ => .fail [262]

def convertD (o : Oper) (src dst : TypeId) (x : Operand) : OpF D :=
  match P.underlying src, P.underlying dst with
  | some (.int _), some (.int k) => ⟨fun _ e m => convInt k ((evO P x).f e) m⟩
  | some .string, some .string => ⟨fun _ e m => convStr ((evO P x).f e) m⟩
  | some .string, some (.slice el) => (match P.underlying el, P.info? el with
    | some (.int .u8), some _ => ⟨fun _ e m => convBytes el ((evO P x).f e) m⟩
    | _, _ => noOp 79)
  | some (.slice el), some .string => (match P.underlying el with
    | some (.int .u8) => ⟨fun _ e m => convText P ((evO P x).f e) m⟩
    | _ => noOp 84)
  | some (.slice _), some (.slice e2) => (match P.underlying e2 with
    | some (.int .u8) => iff (Nat.beq src dst) ⟨fun _ e m => toSame P ((evO P x).f e) m⟩ (noOp 260)
    | _ => noOp 260)
  | some (.pointer t), some .unsafePointer => (match sizeT P t with
    | some (_ + 1) => ⟨fun _ e m => toUns P ((evO P x).f e) m⟩
    | _ => noOp 249)
  | some .unsafePointer, some (.pointer u) => (match P.info? u with
    | some _ => ⟨fun _ e m => fromUns P u ((evO P x).f e) m⟩
    | none => noOp 250)
  | _, _ => genOp P o

/-! ### Functions as values -/

def ptrs (l : List Operand) : Fn1 (NT D AV) ((List (Nat × Nat) → RO) → RO) :=
  match l with
  | [] => ⟨fun _ k => k []⟩
  | x :: r => ⟨fun e k => match (evO P x).f e with
    | .c (.ref (.ptr id off)) => (ptrs r).f e fun l => k ((id, off) :: l)
    | _ => .fail [85]⟩

def makeFuncD (fn : Fn) (first caps : Array Operand) : OpF D :=
  match fn with
  | .func f => ⟨fun _ e m => (ptrs P first.toList).f e fun a => (ptrs P caps.toList).f e fun b => .ok (.c (.ref (.fn f a b))) m⟩
  | _ => noOp 87

/-! ### Maps -/

def okMap (id : Nat) (m : M) : RO := .ok (.c (.ref (.map id))) m

def hintA (v : AV) (m : M) : RO :=
  match v with
  | .c (.int _ _) => fresh (.mp [] 0) m (.fail [89]) okMap
  | _ => .fail [90]

def makeMapD (t : TypeId) (r : Option Operand) : OpF D :=
  match r with
  | none => ⟨fun _ _ m => fresh (.mp [] 0) m (.fail [88]) okMap⟩
  | some x => (match P.underlying t with
    | some (.map _ _) => ⟨fun _ e m => hintA ((evO P x).f e) m⟩
    | _ => noOp 91)

/-- Can keys of a type be told apart by the model's quick way? -/
def keyKind (t : Option TypeDesc) (k : CV) : Bool :=
  match t with
  | some (.int _) => (match k with
    | .int _ _ => true
    | _ => false)
  | some .string => (match k with
    | .str _ => true
    | _ => false)
  | _ => false

/-- A type of one cell that is a number, a bool or a text. -/
def scalarT (t : TypeId) : Bool :=
  match P.underlying t with
  | some (.int _) => true
  | some .bool => true
  | some .string => true
  | _ => false

/-- The kinds of the cells of a key that is a struct of such. -/
def keyKs (t : TypeId) : Option (List Nat) :=
  match P.underlying t with
  | some (.struct fs) => if fs.toList.all (fun f => scalarT P f.type) then kindsT P 100 t else none
  | _ => none

def keyOk (kt : TypeId) (k : TV) : Bool :=
  match k with
  | .c c => keyKind (P.underlying kt) c
  | .agg l => (match keyKs P kt with
    | some ks => (match eqKs ks l l with
      | some _ => true
      | none => false)
    | none => false)

/-- Two keys that are alike, or not. -/
def sameK (ks : Option (List Nat)) (a b : TV) : Option Bool :=
  match a with
  | .c a => (match b with
    | .c b => sameC a b
    | .agg _ => none)
  | .agg a => (match b with
    | .agg b => (match ks with
      | some ks => eqKs ks a b
      | none => none)
    | .c _ => none)

def stepM {β : Type} (bad : β) (s : Option Bool) (yes no : β) : β :=
  match s with
  | none => bad
  | some b => iff b yes no

def findM {β : Type} (bad : β) (ks : Option (List Nat)) (key : TV) (es : List MapE) (none : β) (some : Nat → TV → β) : β :=
  List.rec (motive := fun _ => Nat → β) (fun _ => none)
    (fun x _ ih i => stepM bad (sameK ks key x.key) (some i x.val) (num (Nat.succ i) ih)) es 0

/-- A place of a map has another value. -/
def setM {β : Type} (i : Nat) (key : TV) (val : TV) (es : List MapE) (k : List MapE → β) : β :=
  List.rec (motive := fun _ => Nat → (List MapE → β) → β) (fun _ k => k [])
    (fun x r ih i k => Nat.casesOn (motive := fun _ => β) i (k (⟨key, val, x.born⟩ :: r)) fun i => ih i fun r => k (x :: r)) es i k

def pushM {β : Type} (x : MapE) (es : List MapE) (k : List MapE → β) : β :=
  List.rec (motive := fun _ => (List MapE → β) → β) (fun k => k [x]) (fun y _ ih k => ih fun r => k (y :: r)) es k

def tvOf {β : Type} (v : AV) (bad : β) (k : TV → β) : β :=
  match v with
  | .c v => k (.c v)
  | .agg l => k (.agg l)
  | _ => bad

def keyOf (v : AV) (bad : RO) (k : TV → RO) : RO :=
  match v with
  | .c v => k (.c v)
  | .agg l => k (.agg l)
  | _ => bad

def okFound (ok found : Bool) (m : M) (v : TV) : RO :=
  match ok with
  | true => .ok (.tup [v, .c (.bool found)]) m
  | false => okTV m v

def lookupM (ks : Option (List Nat)) (zero : TV) (ok : Bool) (key : TV) (es : List MapE) (m : M) : RO :=
  findM (.fail [92]) ks key es (okFound ok false m zero) fun _ v => okFound ok true m v

def lookupOb (ks : Option (List Nat)) (zero : TV) (ok : Bool) (key : TV) (ob : Ob) (m : M) : RO :=
  match ob with
  | .mp es _ => lookupM ks zero ok key es m
  | _ => .fail [95]

def lookupR (ks : Option (List Nat)) (zero : TV) (ok : Bool) (v : AV) (key : TV) (m : M) : RO :=
  match v with
  | .c (.ref .nilm) => lookupM ks zero ok key [] m
  | .c (.ref (.map id)) => look P id m (lookupOb ks zero ok key)
  | _ => .fail [96]

def zeroTV (t : TypeId) : Option TV :=
  match P.info? t with
  | some i => (match i.zero with
    | some z => (match ofV z with
      | .c v => some (.c v)
      | .agg l => some (.agg l)
      | _ => none)
    | none => none)
  | none => none

def lookupD (t : TypeId) (x i : Operand) (ok : Bool) : OpF D :=
  match P.underlying t with
  | some (.map kt et) => (match zeroTV P et with
    | some z => ⟨fun _ e m => keyOf ((evO P i).f e) (.fail [93]) fun key => iff (keyOk P kt key) (lookupR P (keyKs P kt) z ok ((evO P x).f e) key m) (.fail [97])⟩
    | none => noOp 98)
  | _ => noOp 99

def updOb (ks : Option (List Nat)) (id : Nat) (key : TV) (val : TV) (ob : Ob) (m : M) : RO :=
  match ob with
  | .mp es clock => findM (.fail [103]) ks key es
      (pushM ⟨key, val, clock⟩ es fun es => num (Nat.succ clock) fun clock => turn P id (.mp es clock) m (.fail [104]) okU)
      (fun j _ => setM j key val es fun es => turn P id (.mp es clock) m (.fail [105]) okU)
  | _ => .fail [106]

def updR (ks : Option (List Nat)) (v w : AV) (key : TV) (m : M) : RO :=
  match v with
  | .c (.ref (.map id)) => tvOf w (.fail [101]) fun val => look P id m (updOb P ks id key val)
  | _ => .fail [107]

def mapUpdateD (t : TypeId) (x i y : Operand) : OpF D :=
  match P.underlying t with
  | some (.map kt _) => ⟨fun _ e m => keyOf ((evO P i).f e) (.fail [100]) fun key => iff (keyOk P kt key) (updR P (keyKs P kt) ((evO P x).f e) ((evO P y).f e) key m) (.fail [108])⟩
  | _ => noOp 109

/-! ### Slices -/

def makeSl (elem sz : Nat) (z : List CV) (m : M) (l c : Nat) : RO :=
  iff (Nat.ble l c && Nat.ble c 1000000) (rowOf elem sz (repsF z c).l (.fail [237]) fun ob => fresh ob m (.fail [110]) (okSlc l c)) (.fail [111])

def makeSliceL (elem : TypeId) (i : TypeInfo) (z : List CV) (l c : Operand) : OpF D :=
  iff (Nat.ble 1 i.size && Nat.beq z.length i.size && Nat.ble i.bytes 1000000)
    ⟨fun _ e m => natOf ((evO P l).f e) (.fail [113]) fun l => natOf ((evO P c).f e) (.fail [112]) fun c => makeSl elem i.size z m l c⟩
    (noOp 114)

def makeSliceD (t : TypeId) (l c : Operand) : OpF D :=
  match P.underlying t with
  | some (.slice elem) => (match P.info? elem, zeroT P elem with
    | some i, some z => makeSliceL P elem i z l c
    | _, _ => noOp 115)
  | _ => noOp 116

/-- A bound of a slice expression. -/
def bound (x : Option Operand) (dflt : Nat) (e : NT D AV) (k : Nat → RO) : RO :=
  match x with
  | none => k dflt
  | some x => natOf ((evO P x).f e) (.fail [117]) k

def cut (s : List Nat) (l h : Nat) (m : M) : RO :=
  forceStr ((s.drop l).take (h - l)) fun s => .ok (.c (.str s)) m

def slStr (lo hi : Option Operand) (e : NT D AV) (v : AV) (m : M) : RO :=
  match v with
  | .c (.str s) => num s.length fun n => bound P hi n e fun h => bound P lo 0 e fun l => iff (Nat.ble h n && Nat.ble l h) (cut s l h m) (.fail [118])
  | _ => .fail [119]

/-- A piece of a row of known room. -/
def okShut (id off len cap : Nat) (ob : Ob) (m : M) : RO :=
  match ob with
  | .row _ _ _ opn _ _ _ => iff opn (.ok (.c (.ref (.slx id off len cap))) m) (.ok (.c (.ref (.slc id off len cap))) m)
  | _ => .fail [122]

def slCut (mx : Option Operand) (id off s cap c h l : Nat) (m : M) : RO :=
  iff (Nat.ble c cap && Nat.ble h c && Nat.ble l h && Nat.ble (Nat.succ l) c)
    (num (Nat.add off (Nat.mul l s)) fun off => num (Nat.sub h l) fun len => num (Nat.sub c l) fun c => match mx with
      | none => .ok (.c (.ref (.slc id off len c))) m
      | some _ => look P id m (okShut id off len c))
    (iff (Nat.ble h c && Nat.ble c cap && Nat.beq l h && Nat.beq l c) (match mx with
      | none => .ok (.c (.ref .emp)) m
      | some _ => .ok (.c (.ref .emx)) m) (.fail [123]))

/-- A piece of a piece of known room. -/
def slxCut (id off s cap c h l : Nat) (m : M) : RO :=
  iff (Nat.ble c cap && Nat.ble h c && Nat.ble l h && Nat.ble (Nat.succ l) c)
    (num (Nat.add off (Nat.mul l s)) fun off => num (Nat.sub h l) fun len => num (Nat.sub c l) fun c => .ok (.c (.ref (.slx id off len c))) m)
    (iff (Nat.ble h c && Nat.ble c cap && Nat.beq l h && Nat.beq l c) (.ok (.c (.ref .emx)) m) (.fail [125]))

/-- Is the room that is asked the slice's own? -/
def isCapOf (mx : Option Operand) (e : NT D AV) (id cap : Nat) : Bool :=
  match mx with
  | none => false
  | some x => (match (evO P x).f e with
    | .c (.ref (.capv i c)) => Nat.beq i id && Nat.beq c cap
    | _ => false)

def slSlc (s : Nat) (lo hi mx : Option Operand) (e : NT D AV) (v : AV) (m : M) : RO :=
  match v with
  | .c (.ref (.slc id off len cap)) => iff (isCapOf P mx e id cap) (bound P hi len e fun h => bound P lo 0 e fun l => slCut P none id off s cap cap h l m)
      (bound P mx cap e fun c => bound P hi len e fun h => bound P lo 0 e fun l => slCut P mx id off s cap c h l m)
  | .c (.ref .nils) => bound P mx 0 e fun c => bound P hi 0 e fun h => bound P lo 0 e fun l => iff (Nat.beq c 0 && Nat.beq h 0 && Nat.beq l 0) (.ok (.c (.ref .nils)) m) (.fail [124])
  | .c (.ref .emp) => (match mx with
    | none => bound P hi 0 e fun h => bound P lo 0 e fun l => iff (Nat.beq h 0 && Nat.beq l 0) (.ok (.c (.ref .emp)) m) (.fail [124])
    | some _ => .fail [124])
  | .c (.ref (.slx id off len cap)) => bound P mx cap e fun c => bound P hi len e fun h => bound P lo 0 e fun l => slxCut id off s cap c h l m
  | .c (.ref .emx) => bound P mx 0 e fun c => bound P hi 0 e fun h => bound P lo 0 e fun l => iff (Nat.beq c 0 && Nat.beq h 0 && Nat.beq l 0) (.ok (.c (.ref .emx)) m) (.fail [124])
  | _ => .fail [127]

def slArr (n s : Nat) (lo hi mx : Option Operand) (e : NT D AV) (v : AV) (m : M) : RO :=
  match v with
  | .c (.ref (.ptr id off)) => bound P mx n e fun c => bound P hi n e fun h => bound P lo 0 e fun l =>
      iff (Nat.ble c n && Nat.ble h c && Nat.ble l h && Nat.ble (Nat.succ l) c)
        (num (Nat.add off (Nat.mul l s)) fun off => num (Nat.sub h l) fun len => num (Nat.sub c l) fun c => look P id m (okShut id off len c)) (.fail [129])
  | _ => .fail [130]

def sliceD (t : TypeId) (x : Operand) (lo hi mx : Option Operand) : OpF D :=
  iff (mx.isSome && hi.isNone) (noOp 243) (match P.underlying t with
  | some .string => (match mx with
    | none => ⟨fun _ e m => slStr P lo hi e ((evO P x).f e) m⟩
    | some _ => noOp 120)
  | some (.slice elem) => (match sizeT P elem with
    | some s => ⟨fun _ e m => slSlc P s lo hi mx e ((evO P x).f e) m⟩
    | none => noOp 126)
  | some (.array n elem) => (match sizeT P elem with
    | some s => ⟨fun _ e m => slArr P n s lo hi mx e ((evO P x).f e) m⟩
    | none => noOp 131)
  | _ => noOp 132)

/-! ### Builtins -/

def okN (n : Nat) (m : M) : RO := num n fun n => .ok (.c (.int .i64 (.ofNat n))) m

def lenStr (v : AV) (m : M) : RO :=
  match v with
  | .c (.str s) => okN s.length m
  | _ => .fail [133]

def lenSlc (v : AV) (m : M) : RO :=
  match v with
  | .c (.ref (.slc _ _ len _)) => okN len m
  | .c (.ref .nils) => okN 0 m
  | .c (.ref .emp) => okN 0 m
  | .c (.ref (.slx _ _ len _)) => okN len m
  | .c (.ref .emx) => okN 0 m
  | _ => .fail [134]

def lenOb (ob : Ob) (m : M) : RO :=
  match ob with
  | .mp es _ => okN es.length m
  | _ => .fail [136]

def lenMap (v : AV) (m : M) : RO :=
  match v with
  | .c (.ref .nilm) => okN 0 m
  | .c (.ref (.map id)) => look P id m lenOb
  | _ => .fail [137]

def lenD (t : TypeId) (x : Operand) : OpF D :=
  match P.underlying t with
  | some .string => ⟨fun _ e m => lenStr ((evO P x).f e) m⟩
  | some (.array n _) => ⟨fun _ _ m => okN n m⟩
  | some (.slice _) => ⟨fun _ e m => lenSlc ((evO P x).f e) m⟩
  | some (.map _ _) => ⟨fun _ e m => lenMap P ((evO P x).f e) m⟩
  | _ => noOp 138

/-- What is appended, or copied: so many elements; their cells. -/
def srcCells (bad : RO) (s : Nat) (v : AV) (m : M) (k : Nat → List CV → M → RO) : RO :=
  match v with
  | .c (.ref .nils) => k 0 [] m
  | .c (.ref .emp) => k 0 [] m
  | .c (.ref (.slc id off len _)) => num (Nat.mul len s) fun cs => look P id m (rowCells bad off cs (k len))
  | .c (.ref (.slx id off len _)) => num (Nat.mul len s) fun cs => look P id m (rowCells bad off cs (k len))
  | .c (.ref .emx) => k 0 [] m
  | .c (.str b) => iff (Nat.beq s 1) (byteCells b fun l => num l.length fun n => k n l m) bad
  | _ => bad

/-- Appended within what is there. -/
def appendIn (id off cap s need len : Nat) (l : List CV) (ob : Ob) (m : M) : RO :=
  match ob with
  | .row el n sz opn fz d t =>
    iff (Nat.ble (Nat.add off (Nat.mul need s)) n && Nat.ble (Nat.div fz 2) (Nat.add off (Nat.mul len s)))
      (num (Nat.add off (Nat.mul len s)) fun at_ => layCells sz d l l.length t at_ (.fail [238]) fun t => turn P id (.row el n sz opn fz d t) m (.fail [139]) fun m => .ok (.c (.ref (.slc id off need cap))) m)
      (.fail [140])
  | _ => .fail [141]

/-- A row that may have room behind it is looked at no more, once it was appended to. -/
def killK (opn : Bool) (id fz lim : Nat) (m : M) (k : M → RO) : RO :=
  match opn with
  | true => iff (Nat.ble (Nat.div fz 2) lim) (turn P id .dead m (.fail [142]) k) (.fail [143])
  | false => k m

/-- From which cell on none is frozen, twice; 1 more: the row begins its block, and what is frozen ends there. -/
def newFz (fz off have_ : Nat) : Nat :=
  iff (Nat.beq fz 0) 0 (iff (Nat.beq off 0) (iff (Nat.beq fz 1) 1 (iff (Nat.beq (Nat.mod fz 2) 1) (Nat.succ (Nat.mul 2 have_)) (Nat.mul 2 (Nat.succ have_)))) (Nat.mul 2 (Nat.succ have_)))

/-- Where the row begins with it, and has pieces of that size: the tree goes on. -/
def appendOn (elem s need len have_ want fz d : Nat) (t : NT d TV) (l : List CV) (m : M) : RO :=
  growT need d t fun d t => iff (Nat.ble need (capN d)) (pieces s l (.fail [144]) fun ps => layPs d ps t len fun t => num (newFz fz 0 have_) fun fz => fresh (.row elem want s true fz d t) m (.fail [144]) (okSlc need need)) (.fail [145])

def appendCopy (elem s need have_ want fz off sz d : Nat) (t : NT d TV) (l : List CV) (m : M) : RO :=
  takeCells sz d t have_ off (.fail [146]) fun old => appC old l fun cs => pieces s cs (.fail [147]) fun ps => num (lev need) fun d => bld topT d ps fun t _ => num (newFz fz off have_) fun fz => fresh (.row elem want s true fz d t) m (.fail [146]) (okSlc need need)

/-- A new row of so many elements; the one that was there is looked at no more, if it may have room. -/
def appendNew (elem id off cap s need len : Nat) (l : List CV) (ob : Ob) (m : M) : RO :=
  match ob with
  | .row el n sz opn fz d t =>
    iff (Nat.ble (Nat.add off (Nat.mul cap s)) n && Nat.ble len cap && Nat.beq el elem && Nat.ble need (capN 5) && iff opn (Nat.beq sz s) true)
      (num (Nat.mul len s) fun have_ => num (Nat.mul need s) fun want =>
        killK P opn id fz (Nat.add off have_) m fun m =>
          iff (Nat.beq off 0 && Nat.beq sz s) (appendOn elem s need len have_ want fz d t l m) (appendCopy elem s need have_ want fz off sz d t l m))
      (.fail [148])
  | _ => .fail [149]

def appendRow (elem id off len cap s need : Nat) (l : List CV) (ob : Ob) (m : M) : RO :=
  iff (Nat.ble need cap) (appendIn P id off cap s need len l ob m) (appendNew P elem id off cap s need len l ob m)

/-- Behind a piece without room: always a new row; the one that was there stays. -/
def appendShut (elem id off len cap s need : Nat) (l : List CV) (ob : Ob) (m : M) : RO :=
  match ob with
  | .row el n sz _ fz d t => iff (Nat.ble need cap) (.fail [263]) (appendNew P elem id off cap s need len l (.row el n sz false fz d t) m)
  | _ => .fail [149]

def appendNil (elem s : Nat) (n : Nat) (l : List CV) (m : M) : RO :=
  iff (Nat.ble n 1000000 && Nat.ble n (capN 5))
    (num l.length fun c => num (lev n) fun d => pieces s l (.fail [152]) fun ps => bld topT d ps fun t _ => fresh (.row elem c s true 1 d t) m (.fail [152]) (okSlc n n)) (.fail [153])

def appendTo (elem s : Nat) (v : AV) (n : Nat) (l : List CV) (m : M) : RO :=
  match v with
  | .c (.ref .nils) => iff (Nat.beq n 0) (.ok (.c (.ref .nils)) m) (appendNil elem s n l m)
  | .c (.ref (.slc id off len cap)) => iff (Nat.beq n 0) (iff (Nat.ble len cap) (.ok (.c (.ref (.slc id off len cap))) m) (.fail [155]))
      (num (Nat.add len n) fun need => iff (Nat.ble need 1000000) (look P id m (appendRow P elem id off len cap s need l)) (.fail [156]))
  | .c (.ref (.slx id off len cap)) => iff (Nat.beq n 0) (iff (Nat.ble len cap) (.ok (.c (.ref (.slx id off len cap))) m) (.fail [155]))
      (num (Nat.add len n) fun need => iff (Nat.ble need 1000000) (look P id m (appendShut P elem id off len cap s need l)) (.fail [156]))
  | .c (.ref .emx) => iff (Nat.beq n 0) (.ok (.c (.ref .emx)) m) (appendNil elem s n l m)
  | _ => .fail [157]

def zeroSz (i : TypeInfo) : Bool :=
  match i.zero with
  | some z => Nat.beq z.cells.size i.size
  | none => false

def appendL (elem : TypeId) (i : TypeInfo) (x y : Operand) : OpF D :=
  iff (Nat.ble 1 i.size && Nat.ble i.bytes 1000000 && zeroSz i)
    ⟨fun _ e m => srcCells P (.fail [151]) i.size ((evO P y).f e) m fun n l m => appendTo P elem i.size ((evO P x).f e) n l m⟩
    (noOp 158)

def appendE (elem : TypeId) (x y : Operand) : OpF D :=
  match P.info? elem with
  | some i => appendL P elem i x y
  | none => noOp 159

def appendD (argTypes : Array TypeId) (x y : Operand) : OpF D :=
  match argTypes[0]?, argTypes[1]? with
  | some t, some u =>
    (match P.underlying t, P.underlying u with
    | some (.slice elem), some (.slice _) => appendE P elem x y
    | some (.slice elem), some .string => appendE P elem x y
    | _, _ => noOp 160)
  | _, _ => noOp 161

def copyDone (n : Nat) (r : RO) : RO :=
  match r with
  | .ok _ m => okN n m
  | .fail w => .fail w

def copyTo (s : Nat) (v : AV) (n : Nat) (l : List CV) (m : M) : RO :=
  match v with
  | .c (.ref .nils) => okN 0 m
  | .c (.ref (.slc id off len _)) => minK n len fun n => num (Nat.mul n s) fun c => takeL l c fun l => look P id m fun ob m => copyDone n (storeRow P id off c l ob m)
  | _ => .fail [164]

def copyL (elem : TypeId) (x y : Operand) : OpF D :=
  match sizeT P elem with
  | some (s + 1) => ⟨fun _ e m => srcCells P (.fail [162]) (s + 1) ((evO P y).f e) m fun n l m => copyTo P (s + 1) ((evO P x).f e) n l m⟩
  | _ => noOp 165

def copyD (argTypes : Array TypeId) (x y : Operand) : OpF D :=
  match argTypes[0]? with
  | some t => (match P.underlying t with
    | some (.slice elem) => copyL P elem x y
    | _ => noOp 166)
  | none => noOp 167

/-- Where a row of bytes begins. -/
def dataPtr (v : AV) (m : M) : RO :=
  match v with
  | .c (.ref .nils) => .ok (.c (.ref .nilp)) m
  | .c (.ref (.slc id off _ cap)) => iff (Nat.ble 1 cap) (.ok (.c (.ref (.ptr id off))) m) (.fail [251])
  | _ => .fail [251]

def dataStr (el n : Nat) (id : Nat) (ob : Ob) (m : M) : RO :=
  match ob with
  | .row el' nn sz opn fz d t =>
    iff (Nat.beq el' el && Nat.beq sz 1 && Nat.beq (Nat.mod fz 2) 1 && Nat.ble n nn)
      (takeCells sz d t n 0 (.fail [252]) fun l => cellBytes (.fail [252]) l fun s => forceStr s fun s => num (Nat.succ (Nat.mul 2 (Nat.max (Nat.div fz 2) n))) fun fz =>
        turn P id (.row el' nn sz opn fz d t) m (.fail [252]) fun m => .ok (.c (.str s)) m)
      (.fail [253])
  | _ => .fail [254]

/-- So many bytes from there on, as a text: they are frozen. -/
def dataText (el : Nat) (v w : AV) (m : M) : RO :=
  match w with
  | .c (.int .i64 (.ofNat 0)) => (match v with
    | .c (.ref .nilp) => .ok (.c (.str [])) m
    | .c (.ref (.ptr _ _)) => .ok (.c (.str [])) m
    | _ => .fail [255])
  | .c (.int .i64 (.ofNat (n + 1))) => (match v with
    | .c (.ref (.ptr id 0)) => iff (Nat.ble n 1000000) (look P id m (dataStr P el (n + 1) id)) (.fail [256])
    | _ => .fail [255])
  | _ => .fail [255]

def dataTextD (argTypes : Array TypeId) (x y : Operand) : OpF D :=
  match argTypes.toList with
  | [pt, _] => (match P.underlying pt with
    | some (.pointer el) => iff (Nat.beq (P.cellsOf el) 1) ⟨fun _ e m => dataText P el ((evO P x).f e) ((evO P y).f e) m⟩ (noOp 257)
    | _ => noOp 257)
  | _ => noOp 257

/-- A slice's room: known but for what the model draws. -/
def capA (v : AV) (m : M) : RO :=
  match v with
  | .c (.ref .nils) => okN 0 m
  | .c (.ref (.slc id _ _ cap)) => .ok (.c (.ref (.capv id cap))) m
  | .c (.ref (.slx _ _ _ cap)) => okN cap m
  | _ => .fail [258]

def capD (o : Oper) (t : TypeId) (x : Operand) : OpF D :=
  match P.underlying t with
  | some (.slice _) => ⟨fun _ e m => capA ((evO P x).f e) m⟩
  | _ => genOp P o

def builtinD (o : Oper) (b : Builtin) (args : Array Operand) (argTypes : Array TypeId) : OpF D :=
  match b, args.toList with
  | .cap, [x] => (match argTypes[0]? with
    | some t => capD P o t x
    | none => noOp 259)
  | .unsafeSliceData, [x] => ⟨fun _ e m => dataPtr ((evO P x).f e) m⟩
  | .unsafeString, [x, y] => dataTextD P argTypes x y
  | .len, [x] => (match argTypes[0]? with
    | some t => lenD P t x
    | none => noOp 168)
  | .append, [x, y] => appendD P argTypes x y
  | .copy, [x, y] => copyD P argTypes x y
  | .append, _ | .copy, _ | .len, _ | .clear, _ | .close, _ | .delete, _ | .panic, _ | .print, _ | .println, _ | .recover, _ => noOp 169
  | _, _ => genOp P o

/-! ### Calls -/

def evArgs (l : List Operand) : Fn1 (NT D AV) ((List AV → RO) → RO) :=
  match l with
  | [] => ⟨fun _ k => k []⟩
  | x :: r => ⟨fun e k => match (evO P x).f e with
      | .c v => (evArgs r).f e fun l => k (.c v :: l)
      | .agg v => (evArgs r).f e fun l => k (.agg v :: l)
      | _ => .fail [170]⟩

def ptrArgs (l : List (Nat × Nat)) (k : List AV) : List AV :=
  match l with
  | [] => k
  | (id, off) :: r => .c (.ref (.ptr id off)) :: ptrArgs r k

def appA (l k : List AV) : List AV :=
  match l with
  | [] => k
  | x :: r => x :: appA r k

def lentM (dfs : List Nat) (v : AV) (m : M) : RO :=
  match m with
  | ⟨H, nx, rm, wm, _⟩ => .ok v ⟨H, nx, rm, wm, dfs⟩

/-- What is kept of deferred calls over a call. -/
def lent (dfs : List Nat) (r : RO) : RO :=
  match r with
  | .ok v m => lentM dfs v m
  | .fail w => .fail w

def callK (c : Low) (f : Nat) (args : List AV) (m : M) : RO :=
  match m with
  | ⟨H, nx, rm, wm, dfs⟩ => lent dfs (c.call f args ⟨H, nx, rm, wm, []⟩)

def roundK (c : Low) (id : Nat) (args : List AV) (m : M) : RO :=
  match m with
  | ⟨H, nx, rm, wm, dfs⟩ => lent dfs (c.round id args ⟨H, nx, rm, wm, []⟩)

def hasBody (f : Nat) : Bool :=
  match P.funcs[f]? with
  | some fn => fn.body.isSome && (fn.name != "runtime.NumGoroutine")
  | none => false

def plainArgs (l : List AV) : Option (List Value) :=
  match l with
  | [] => some []
  | x :: r => match toAV x, plainArgs r with
    | some v, some vs => some (v :: vs)
    | _, _ => none

/-- Is it the function that tells what it is handed? -/
def isNoEsc (f : Nat) : Bool :=
  match P.funcs[f]? with
  | some fn => fn.body.isNone && (fn.name == "internal/abi.NoEscape") && (Extern.findNext fn).isNone
  | none => false

def noEsc (f : Nat) (args : List AV) (m : M) : RO :=
  match args with
  | [.c (.ref (.ptr id off))] => iff (isNoEsc P f) (.ok (.c (.ref (.ptr id off))) m) (.fail [171])
  | _ => .fail [171]

def externK (f : Nat) (args : List AV) (m : M) : RO :=
  match plainArgs args with
  | some vs => backN (arun P (callFunc f vs.toArray)) m
  | none => noEsc P f args m

def callV (args : List Operand) (c : Low) (e : NT D AV) (m : M) (v : AV) : RO :=
  match v with
  | .c (.ref (.fn g a b)) => iff (hasBody P g) ((evArgs P args).f e fun l => callK c g (ptrArgs a (appA l (ptrArgs b []))) m) (.fail [172])
  | .c (.ref (.yld id)) => (evArgs P args).f e fun l => roundK c id l m
  | _ => .fail [173]

def callD (f : Operand) (args : List Operand) : OpF D :=
  match f with
  | .func f => iff (hasBody P f) ⟨fun c e m => (evArgs P args).f e fun l => callK c.low f l m⟩ ⟨fun _ e m => (evArgs P args).f e fun l => externK P f l m⟩
  | f => ⟨fun c e m => callV P args c.low e m ((evO P f).f e)⟩

/-! ### Operations -/

def opD (o : Oper) : OpF D :=
  match o.op with
  | .move x | .assign x => moveD P x
  | .pick c x y => pickD P c x y
  | .alloc t => allocD P t
  | .box t x => boxD P t x
  | .build t ps => buildD P t ps
  | .buildSlice t n ps => buildSliceD P t n ps
  | .load t x => loadD P t x
  | .store t x y => storeD P t x y
  | .nilCheck x => nilCheckD P x
  | .binOp op t x y _ => binD P o op t x y
  | .unOp op _ x => unD P o op x
  | .convert s t x => convertD P o s t x
  | .makeFunc fn a b => makeFuncD P fn a b
  | .makeMap t r => makeMapD P t r
  | .makeSlice t l c => makeSliceD P t l c
  | .slice t x lo hi mx => sliceD P t x lo hi mx
  | .fieldAddr t x f => fieldAddrD P t x f
  | .field t x f => fieldD P t x f
  | .indexAddr t x i => indexAddrD P t x i
  | .index t x i => indexD P t x i
  | .lookup t x i ok => lookupD P t x i ok
  | .mapUpdate t x i y | .insert t x i y => mapUpdateD P t x i y
  | .extract x i => extractD P x i
  | .call c => (match c.callee with
    | .value f => callD P f c.args.toList
    | .builtin b => builtinD P o b c.args c.argTypes
    | .invoke _ _ => noOp 174)
  | _ => noOp 175

inductive Gd where
  | run
  | skip
  | bad

structure GdF (D : Nat) where
  f : NT D AV → Gd

def gdOf (want : Bool) (v : AV) : Gd :=
  match v with
  | .c (.bool b) => iff b (iff want .run .skip) (iff want .skip .run)
  | .tup [] => .skip
  | _ => .bad

def guardD (N : Nat) (ops : Array Oper) (o : Oper) : GdF D :=
  match o.guard with
  | none => ⟨fun _ => .run⟩
  | some (j, want) => (match (ops[j]?).bind (·.dst) with
    | none => ⟨fun _ => .skip⟩
    | some t => iff (Nat.ble (Nat.succ t) N) ⟨fun e => gdOf want ((getN D t).f e)⟩ ⟨fun _ => .skip⟩)

def onOk {β : Type} (r : RO) (bad : List Nat → β) (k : AV → M → β) : β :=
  RO.rec (motive := fun _ => β) bad k r

def byGd {β : Type} (g : Gd) (run skip bad : β) : β :=
  Gd.rec (motive := fun _ => β) run skip bad g

def runOps (N : Nat) (ops : Array Oper) : List Oper → Dn D
  | [] => ⟨fun _ e m => .ok .norm e m⟩
  | o :: r => (match o.guard with
    | none => ⟨fun c e m => onOk ((opD P o).f c e m) .fail fun v m => (putD N o.dst).f e v fun e => (runOps N ops r).f c e m⟩
    | some _ => ⟨fun c e m => byGd ((guardD N ops o).f e)
        (onOk ((opD P o).f c e m) .fail fun v m => (putD N o.dst).f e v fun e => (runOps N ops r).f c e m)
        ((putD N o.dst).f e undefA fun e => (runOps N ops r).f c e m) (.fail [176])⟩)

/-! ### Data that are alike -/

def rvEq : RV → RV → Bool
  | .ptr a b, .ptr c d => Nat.beq a c && Nat.beq b d
  | .nilp, .nilp => true
  | .top, .top => true
  | .slc a b c d, .slc e f g h => Nat.beq a e && Nat.beq b f && Nat.beq c g && Nat.beq d h
  | .slx a b c d, .slx e f g h => Nat.beq a e && Nat.beq b f && Nat.beq c g && Nat.beq d h
  | .nils, .nils => true
  | .emp, .emp => true
  | .map a, .map b => Nat.beq a b
  | .nilm, .nilm => true
  | .nilf, .nilf => true
  | .nili, .nili => true
  | .emx, .emx => true
  | .flt k a, .flt j b => decide (k = j) && Nat.beq a b
  | .cpx k a c, .cpx j b d => decide (k = j) && Nat.beq a b && Nat.beq c d
  | .fn f [] [], .fn g [] [] => Nat.beq f g
  | _, _ => false

theorem beq_ok {a b : Nat} (h : Nat.beq a b = true) : a = b := Nat.eq_of_beq_eq_true h

theorem rvEq_ok {a b : RV} (h : rvEq a b = true) : a = b := by
  unfold rvEq at h
  split at h
  all_goals first
    | rfl
    | (cases h; done)
    | (simp only [Bool.and_eq_true] at h
       first
         | (rw [beq_ok h.1, beq_ok h.2]; done)
         | (rw [beq_ok h.1.1.1, beq_ok h.1.1.2, beq_ok h.1.2, beq_ok h.2]; done)
         | (rw [of_decide_eq_true h.1, beq_ok h.2]; done)
         | (rw [of_decide_eq_true h.1.1, beq_ok h.1.2, beq_ok h.2]; done))
    | (rw [beq_ok h]; done)

def cvEq : CV → CV → Bool
  | .int k n, .int k' n' => kEq k k' && iEq n n'
  | .bool a, .bool b => iff a b (Bool.not b)
  | .str s, .str t => strEq s t
  | .ref a, .ref b => rvEq a b
  | _, _ => false

theorem iEq_ok' {x y : Int} (h : iEq x y = true) : x = y := by
  cases x <;> cases y <;> first | (rw [beq_ok h]) | cases h

theorem strEq_ok' : ∀ {s t : List Nat}, strEq s t = true → s = t
  | [], [], _ => rfl
  | [], _ :: _, h => by cases h
  | _ :: _, [], h => by cases h
  | x :: s, y :: t, h => by
    have h : iff (Nat.beq x y) (strEq s t) false = true := h
    rw [iff_eq] at h
    split at h
    · rename_i hb; rw [beq_ok hb, strEq_ok' h]
    · cases h

theorem cvEq_ok {a b : CV} (h : cvEq a b = true) : a = b := by
  unfold cvEq at h
  split at h
  · simp only [Bool.and_eq_true] at h
    rw [of_decide_eq_true h.1, iEq_ok' h.2]
  · rename_i a b
    cases a <;> cases b <;> first | rfl | cases h
  · rw [strEq_ok' h]
  · rw [rvEq_ok h]
  · cases h

def allEq {α : Type} (f : α → α → Bool) : List α → List α → Bool
  | [], [] => true
  | a :: l, b :: m => f a b && allEq f l m
  | _, _ => false

theorem allEq_ok {α : Type} {f : α → α → Bool} (hf : ∀ {a b}, f a b = true → a = b) : ∀ {l m : List α}, allEq f l m = true → l = m
  | [], [], _ => rfl
  | [], _ :: _, h => by cases h
  | _ :: _, [], h => by cases h
  | a :: l, b :: m, h => by
    simp only [allEq, Bool.and_eq_true] at h
    rw [hf h.1, allEq_ok hf h.2]

def tvEq : TV → TV → Bool
  | .c a, .c b => cvEq a b
  | .agg a, .agg b => allEq cvEq a b
  | _, _ => false

theorem tvEq_ok {a b : TV} (h : tvEq a b = true) : a = b := by
  unfold tvEq at h
  split at h
  · rw [cvEq_ok h]
  · rw [allEq_ok cvEq_ok h]
  · cases h

def avEq : AV → AV → Bool
  | .c a, .c b => cvEq a b
  | .agg a, .agg b => allEq cvEq a b
  | .tup a, .tup b => allEq tvEq a b
  | _, _ => false

theorem avEq_ok {a b : AV} (h : avEq a b = true) : a = b := by
  unfold avEq at h
  split at h
  · rw [cvEq_ok h]
  · rw [allEq_ok cvEq_ok h]
  · rw [allEq_ok tvEq_ok h]
  · cases h

def mapEq (a b : MapE) : Bool := tvEq a.key b.key && tvEq a.val b.val && Nat.beq a.born b.born

theorem mapEq_ok {a b : MapE} (h : mapEq a b = true) : a = b := by
  obtain ⟨a1, a2, a3⟩ := a
  obtain ⟨b1, b2, b3⟩ := b
  simp only [mapEq, Bool.and_eq_true] at h
  rw [tvEq_ok h.1.1, tvEq_ok h.1.2, beq_ok h.2]

def treeEq (d : Nat) : NT d TV → NT d TV → Bool :=
  Nat.rec (motive := fun d => NT d TV → NT d TV → Bool) (fun a b => tvEq a b)
    (fun d ih (a b : N8 (NT d TV)) => ih a.a b.a && ih a.b b.b && ih a.c b.c && ih a.d b.d && ih a.e b.e && ih a.f b.f && ih a.g b.g && ih a.h b.h) d

theorem treeEq_ok : ∀ (d : Nat) {a b : NT d TV}, treeEq d a b = true → a = b
  | 0, _, _, h => tvEq_ok h
  | d + 1, a, b, h => by
    obtain ⟨a1, a2, a3, a4, a5, a6, a7, a8⟩ : N8 (NT d TV) := a
    obtain ⟨b1, b2, b3, b4, b5, b6, b7, b8⟩ : N8 (NT d TV) := b
    have h : (treeEq d a1 b1 && treeEq d a2 b2 && treeEq d a3 b3 && treeEq d a4 b4 && treeEq d a5 b5 && treeEq d a6 b6 && treeEq d a7 b7 && treeEq d a8 b8) = true := h
    simp only [Bool.and_eq_true] at h
    rw [treeEq_ok d h.1.1.1.1.1.1.1, treeEq_ok d h.1.1.1.1.1.1.2, treeEq_ok d h.1.1.1.1.1.2, treeEq_ok d h.1.1.1.1.2, treeEq_ok d h.1.1.1.2, treeEq_ok d h.1.1.2, treeEq_ok d h.1.2, treeEq_ok d h.2]

def obEq : Ob → Ob → Bool
  | .row el n sz opn fz d t, .row el' n' sz' opn' fz' d' t' =>
    if h : d' = d then Nat.beq el el' && Nat.beq n n' && Nat.beq sz sz' && iff opn opn' (Bool.not opn') && Nat.beq fz fz' && treeEq d t (h ▸ t') else false
  | .mp es k, .mp es' k' => allEq mapEq es es' && Nat.beq k k'
  | .dfr, .dfr => true
  | _, _ => false

theorem obEq_ok {a b : Ob} (h : obEq a b = true) : a = b := by
  unfold obEq at h
  split at h
  · rename_i opn fz d t el' n' sz' opn' fz' d' t'
    split at h
    · rename_i hd
      subst hd
      simp only [Bool.and_eq_true] at h
      have ho : opn = opn' := by
        have := h.1.1.2
        cases opn <;> cases opn' <;> first | rfl | cases this
      rw [beq_ok h.1.1.1.1.1, beq_ok h.1.1.1.1.2, beq_ok h.1.1.1.2, ho, beq_ok h.1.2, treeEq_ok _ h.2]
    · cases h
  · simp only [Bool.and_eq_true] at h
    rw [allEq_ok mapEq_ok h.1, beq_ok h.2]
  · rfl
  · cases h

/-! ### A region whose order is drawn: what it does must not hang on the order -/

def befMask (acc : List Nat) (o : Oper) : Nat :=
  o.after.toList.foldl (fun s e => if Region.binds .any e then s ||| 2 ^ e.on ||| acc.getD e.on 0 else s) 0

def befGo : List Oper → List Nat → List Nat
  | [], acc => acc
  | o :: r, acc => befGo r (acc ++ [befMask acc o])

def bef (ops : Array Oper) : List Nat := befGo ops.toList []

/-- Is one of both ahead of the other, whatever order is drawn? -/
def cmpB (b : List Nat) (i j : Nat) : Bool := (b.getD (max i j) 0).testBit (min i j)

def namesOf (ops : Array Oper) (o : Oper) : List Tmp := o.dst.toList ++ o.looksAt ops

def tmpsOk (ops : Array Oper) : Bool :=
  (List.range ops.size).all fun i => (List.range ops.size).all fun k => i == k || cmpB (bef ops) i k ||
    match ops[i]?, ops[k]? with
    | some oi, some ok => (match ok.dst with
      | some t => !(namesOf ops oi).contains t
      | none => true)
    | _, _ => true

/-- What is waited for stands ahead. -/
def edgesOk : List Oper → Nat → Bool
  | [], _ => true
  | o :: r, i => (o.after.toList.all fun e => Bool.not (Region.binds .any e) || Nat.ble (Nat.succ e.on) i) && edgesOk r (Nat.succ i)

def regOk (ops : Array Oper) : Bool := P.follows .mixedOrders && tmpsOk ops && Region.noSelect ops && edgesOk ops.toList 0

/-- An operation that looked at, or turned, what was there ahead of it: objects from lo to hi. -/
structure Ent where
  k : Nat
  wr : Bool
  lo : Nat
  wlo : Nat
  hi : Nat
  one : Bool
  h0 : NT hd Ob
  h1 : NT hd Ob

/-- Does the first one turn what the other one looks at? -/
def hit (x y : Ent) : Bool := x.wr && Nat.ble x.wlo y.hi && Nat.ble y.lo x.hi && Bool.not (y.one && obEq ((getN hd y.lo).f x.h0) ((getN hd y.lo).f x.h1))

def entOk (b : List Nat) (l : List Ent) : Bool :=
  match l with
  | [] => true
  | x :: r => (r.all fun y => cmpB b x.k y.k || (Bool.not (hit x y) && Bool.not (hit y x))) && entOk b r

def anyWr (l : List Ent) : Bool := l.any (·.wr)

def inf : Nat := 18446744073709551616

structure RL (D : Nat) where
  f : Ctx → NT D AV → M → List Ent → R D

/-- Does it look at one object alone? -/
def single (op : Op) : Bool :=
  match op with
  | .load .. | .store .. => true
  | _ => false

def apartC (one : Bool) (k : Nat) (H0 : NT hd Ob) (nx rm wm : Nat) (log : List Ent) (go : AV → M → List Ent → R D) (v : AV) (m : M) : R D :=
  match m with
  | ⟨H, nx', rm', wm', dfs⟩ => minK rm rm' fun rmT => minK wm wm' fun wmT =>
      iff (Nat.ble nx rm' && Nat.ble nx wm') (go v ⟨H, nx', rmT, wmT, dfs⟩ log)
        (go v ⟨H, nx', rmT, wmT, dfs⟩ (⟨k, Bool.not (Nat.ble nx wm'), rm', wm', iff one rm' inf, one, H0, H⟩ :: log))

/-- One operation, what it looked at and turned noted apart. -/
def apart (one : Bool) (r : M → RO) (k : Nat) (m : M) (log : List Ent) (go : AV → M → List Ent → R D) : R D :=
  match m with
  | ⟨H, nx, rm, wm, dfs⟩ => onOk (r ⟨H, nx, inf, inf, dfs⟩) .fail (apartC one k H nx rm wm log go)

def endDraw (ops : Array Oper) (e : NT D AV) (m : M) (log : List Ent) : R D :=
  iff (anyWr log) (iff (entOk (bef ops) log) (.ok .norm e m) (.fail (177 :: log.map fun x => iff x.wr (x.k + 1000) x.k))) (.ok .norm e m)

def runDraw (N : Nat) (ops : Array Oper) : List Oper → Nat → RL D
  | [], _ => ⟨fun _ e m log => endDraw ops e m log⟩
  | o :: r, k => ⟨fun c e m log => byGd ((guardD N ops o).f e)
      (apart (single o.op) (fun m => (opD P o).f c e m) k m log fun v m log => (putD N o.dst).f e v fun e => (runDraw N ops r (k + 1)).f c e m log)
      ((putD N o.dst).f e undefA fun e => (runDraw N ops r (k + 1)).f c e m log) (.fail [178])⟩

/-! ### Code -/

structure Den (D : Nat) where
  run : Dn D
  lab : Nat → Option (Dn D)

def noLab : Nat → Option (Dn D) := fun _ => none

def onEx {β : Type} (r : R D) (bad : List Nat → β) (k : Ex → NT D AV → M → β) : β :=
  R.rec (motive := fun _ => β) bad k r

/-- On behind what ended as it should; else out. -/
def thenX (k : NT D AV → M → R D) (x : Ex) (e : NT D AV) (m : M) : R D :=
  Ex.rec (motive := fun _ => R D) (k e m) (fun id => .ok (.exit id) e m) (fun l => .ok (.goto l) e m) (.ok .ret e m) x

def seqD (a b : Dn D) : Dn D := ⟨fun c e m => onEx (a.f c e m) .fail (thenX (b.f c))⟩

def condK (v : AV) (a b : R D) : R D :=
  match v with
  | .c (.bool t) => iff t a b
  | _ => .fail [179]

def condD (x : Operand) (a b : Dn D) : Dn D := ⟨fun c e m => condK ((evO P x).f e) (a.f c e m) (b.f c e m)⟩

def blockX (id : Nat) (x : Ex) (e : NT D AV) (m : M) : R D :=
  match x with
  | .norm => .ok .norm e m
  | .exit i => iff (Nat.beq i id) (.ok .norm e m) (.ok (.exit i) e m)
  | .goto l => .ok (.goto l) e m
  | .ret => .ok .ret e m

def blockD (id : Nat) (a : Dn D) : Dn D := ⟨fun c e m => onEx (a.f c e m) .fail (blockX id)⟩

def loopD (a : Dn D) : Dn D := ⟨fun c e m =>
  Nat.rec (motive := fun _ => NT D AV → M → R D) (fun _ _ => .fail [180])
    (fun _ ih e m => onEx (a.f c e m) .fail (thenX ih)) c.lf e m⟩

def scopeX (lab : Nat → Option (Dn D)) (ih : Dn D → NT D AV → M → R D) (x : Ex) (e : NT D AV) (m : M) : R D :=
  match x with
  | .goto l => (match lab l with
    | some d => ih d e m
    | none => .ok (.goto l) e m)
  | .norm => .ok .norm e m
  | .exit id => .ok (.exit id) e m
  | .ret => .ok .ret e m

def scopeD (a : Dn D) (lab : Nat → Option (Dn D)) : Dn D := ⟨fun c e m =>
  Nat.rec (motive := fun _ => Dn D → NT D AV → M → R D) (fun _ _ _ => .fail [181])
    (fun _ ih a e m => onEx (a.f c e m) .fail (scopeX lab ih)) c.lf a e m⟩

def jmpX (j : Option Jmp) : Ex :=
  match j with
  | none => .norm
  | some (.exit id) => .exit id
  | some (.goto l) => .goto l
  | some .ret => .ret

def notBusy (st : LoopState) : Bool :=
  match st with
  | .busy => false
  | _ => true

/-- Behind the function that was ranged over. -/
def endLoopOb (id : Nat) (e : NT D AV) (ob : Ob) (m : M) : R D :=
  match ob with
  | .lp st pd N D' e' ps as bd dfr => iff (notBusy st) (turn P id (.lp .exhausted pd N D' e' ps as bd dfr) m (.fail [184]) fun m => .ok (jmpX pd) e m) (.fail [183])
  | _ => .fail [185]

def rangeGo (c : Low) (id : Nat) (e : NT D AV) (m : M) (v : AV) : R D :=
  match v with
  | .c (.ref (.fn g a b)) => iff (hasBody P g)
      (onOk (callK c g (ptrArgs a (.c (.ref (.yld id)) :: ptrArgs b [])) m) .fail fun _ m => look P id m (endLoopOb P id e)) (.fail [186])
  | _ => .fail [187]

def pushDfs (id : Nat) (m : M) : M :=
  match m with
  | ⟨H, nx, rm, wm, dfs⟩ => ⟨H, nx, rm, wm, id :: dfs⟩

def rangeNew (N : Nat) (f : Operand) (ps : Array Tmp) (as bd : Code) (c : Low) (e : NT D AV) (dfr : Nat) (m : M) : R D :=
  fresh (.lp .ready none N D e ps.toList as bd dfr) m (.fail [189]) fun id m => rangeGo P c id e m ((evO P f).f e)

def rangeIn (N : Nat) (f : Operand) (ps : Array Tmp) (as bd : Code) (c : Low) (e : NT D AV) (ob : Ob) (m : M) : R D :=
  match ob with
  | .lp _ _ _ _ _ _ _ _ dfr => rangeNew P N f ps as bd c e dfr m
  | _ => .fail [192]

def rangeD (N : Nat) (f : Operand) (ps : Array Tmp) (as bd : Code) : Dn D := ⟨fun c e m => match c.rnd with
  | none => fresh .dfr m (.fail [188]) fun dfr m => rangeNew P N f ps as bd c.low e dfr (pushDfs dfr m)
  | some r => look P r m (rangeIn P N f ps as bd c.low e)⟩

def den (N : Nat) : Code → Den D
  | .skip => ⟨⟨fun _ e m => .ok .norm e m⟩, noLab⟩
  | .region _ ops false => ⟨runOps P N ops ops.toList, noLab⟩
  | .region _ ops true => ⟨iff (regOk P ops) ⟨fun c e m => (runDraw P N ops ops.toList 0).f c e m []⟩ ⟨fun _ _ _ => .fail [193]⟩, noLab⟩
  | .seq a b => ⟨seqD (den N a).run (den N b).run, fun l => match (den N a).lab l with
    | some d => some (seqD d (den N b).run)
    | none => (den N b).lab l⟩
  | .cond c a b => ⟨condD P c (den N a).run (den N b).run, noLab⟩
  | .block id b => ⟨blockD id (den N b).run, noLab⟩
  | .loop b => ⟨loopD (den N b).run, noLab⟩
  | .rangeFunc f ps as bd => ⟨rangeD P N f ps as bd, noLab⟩
  | .exit id => ⟨⟨fun _ e m => .ok (.exit id) e m⟩, noLab⟩
  | .scope b => ⟨scopeD (den N b).run (den N b).lab, noLab⟩
  | .label l => ⟨⟨fun _ e m => .ok .norm e m⟩, fun l' => if l == l' then some ⟨fun _ e m => .ok .norm e m⟩ else none⟩
  | .goto l => ⟨⟨fun _ e m => .ok (.goto l) e m⟩, noLab⟩
  | .ret => ⟨⟨fun _ e m => .ok .ret e m⟩, noLab⟩
  | .refuse _ => ⟨⟨fun _ _ _ => .fail [194]⟩, noLab⟩

/-! ### Functions -/

def shutOb (id : Nat) (k : M → RO) (ob : Ob) (m : M) : RO :=
  match ob with
  | .dfr => turn P id .dead m (.fail [196]) k
  | _ => .fail [197]

/-- The deferred calls' blocks are shut: none holds a call. -/
def shutDfs (l : List Nat) (k : M → RO) (m : M) : RO :=
  match l with
  | [] => k m
  | id :: r => look P id m (shutOb P id (shutDfs r k))

def resOne (r : ResultVar) : OpF D :=
  match r with
  | .tmp t => iff (Nat.ble (Nat.succ t) (capN D)) ⟨fun _ e m => forceA ((getN D t).f e) m⟩ (noOp 198)
  | .cell a t => loadD P t (.tmp a)

def resAll (l : List ResultVar) : Fn1 (NT D AV) (Ctx → M → (List TV → M → RO) → RO) :=
  match l with
  | [] => ⟨fun _ _ m k => k [] m⟩
  | r :: l => ⟨fun e c m k => onOk ((resOne P r).f c e m) .fail fun v m => tvOf v (.fail [199]) fun v => (resAll l).f e c m fun r m => k (v :: r) m⟩

def resD (l : List ResultVar) : OpF D :=
  match l with
  | [r] => resOne P r
  | l => ⟨fun c e m => (resAll P l).f e c m fun vs m => .ok (.tup vs) m⟩

structure FnF where
  f : Low → List AV → M → RO

def finishX (res : OpF D) (c : Ctx) (x : Ex) (e : NT D AV) (m : M) : RO :=
  match x with
  | .norm => shutDfs P m.dfs (fun m => res.f c e m) m
  | .ret => shutDfs P m.dfs (fun m => res.f c e m) m
  | _ => .fail [200]

/-- How many levels a function's temporaries take. -/
def levE (n : Nat) : Nat := iff (Nat.ble n 8) 1 (iff (Nat.ble n 64) 2 (iff (Nat.ble n 512) 3 (iff (Nat.ble n 4096) 4 5)))

def fnRun (b : Dn D) (res : OpF D) (c : Ctx) (m : M) (e : NT D AV) (_ : List AV) : RO := onEx (b.f c e m) .fail (finishX P res c)

def fnBody (lf : Nat) (fn : Func) (body : Code) (D : Nat) : FnF :=
  iff (Nat.ble fn.ntmps (capN D))
    ⟨fun low args m => iff (Nat.ble args.length fn.ntmps) (bld undefA D args (fnRun P (den P fn.ntmps body).run (resD P fn.results.toList) ⟨low, lf, none⟩ m)) (.fail [201])⟩
    ⟨fun _ _ _ => .fail [201]⟩

def tagF (f : Nat) (r : RO) : RO :=
  match r with
  | .fail w => .fail ((1000000 + f) :: w)
  | .ok v m => .ok v m

def fnD (lf f : Nat) : FnF :=
  match P.funcs[f]? with
  | some fn => (match fn.body with
    | some b => fnBody P lf fn b (levE fn.ntmps)
    | none => ⟨fun _ _ _ => .fail [202]⟩)
  | none => ⟨fun _ _ _ => .fail [203]⟩

def setPs (N : Nat) (D : Nat) {β : Type} (bad : β) (ps : List Nat) (args : List AV) (e : NT D AV) (k : NT D AV → β) : β :=
  match ps, args with
  | [], [] => k e
  | p :: ps, x :: args => (putD N (some p)).f e x fun e => setPs N D bad ps args e k
  | _, _ => bad

def okYes (m : M) : RO := .ok (.c (.bool true)) m
def okNo (m : M) : RO := .ok (.c (.bool false)) m

/-- A round has ended. -/
def endRoundOb (id : Nat) (x : Ex) (ob : Ob) (m : M) : RO :=
  match ob with
  | .lp _ _ N D e' ps as bd dfr => (match x with
    | .norm => turn P id (.lp .ready none N D e' ps as bd dfr) m (.fail [205]) okYes
    | .ret => turn P id (.lp .done (some .ret) N D e' ps as bd dfr) m (.fail [206]) okNo
    | .exit i => turn P id (.lp .done (some (.exit i)) N D e' ps as bd dfr) m (.fail [207]) okNo
    | .goto l => turn P id (.lp .done (some (.goto l)) N D e' ps as bd dfr) m (.fail [208]) okNo)
  | _ => .fail [209]

def isReady (st : LoopState) : Bool :=
  match st with
  | .ready => true
  | _ => false

def endRoundK (id : Nat) (x : Ex) (_ : NT D AV) (m : M) : RO := look P id m (endRoundOb P id x)

/-- The round begins. -/
def beginOb (lf id : Nat) (low : Low) (b : Dn D) (e : NT D AV) (ob : Ob) (m : M) : RO :=
  match ob with
  | .lp st pd N' D' e' ps as bd' dfr => iff (isReady st)
      (turn P id (.lp .busy pd N' D' e' ps as bd' dfr) m (.fail [211]) fun m => onEx (b.f ⟨low, lf, some id⟩ e m) .fail (endRoundK P id)) (.fail [212])
  | _ => .fail [213]

def beginX (lf id : Nat) (low : Low) (b : Dn D) (x : Ex) (e : NT D AV) (m : M) : RO :=
  match x with
  | .norm => look P id m (beginOb P lf id low b e)
  | _ => .fail [216]

def roundOb (lf : Nat) (low : Low) (id : Nat) (args : List AV) (ob : Ob) (m : M) : RO :=
  match ob with
  | .lp _ _ N D e ps as bd _ => iff (Nat.ble N (capN D)) (setPs N D (.fail [215]) ps args e fun e => onEx ((den P N as).run.f ⟨low, lf, some id⟩ e m) .fail (beginX P lf id low (den P N bd).run)) (.fail [217])
  | _ => .fail [217]

def lowN (lf : Nat) (n : Nat) : Low :=
  Nat.rec (motive := fun _ => Low) ⟨fun _ _ _ => .fail [218], fun _ _ _ => .fail [219]⟩
    (fun _ ih => ⟨fun f args m => tagF f ((fnD P lf f).f ih args m), fun id args m => look P id m (roundOb P lf ih id args)⟩) n

end

/-! ### Calls without arguments -/

def isTrue (r : RO) : Bool :=
  match r with
  | .ok (.c (.bool true)) _ => true
  | _ => false

def runAt (P : Program) (lf n f : Nat) (obs : List Ob) : RO := bld Ob.dead hd obs fun H _ => (lowN P lf n).call f [] ⟨H, glb P, inf, inf, []⟩

/-- A table that a variable holds. -/
def rowG (el sz : Nat) (l : List CV) : Ob := rowOf el sz l .dead id

end Go.CE
