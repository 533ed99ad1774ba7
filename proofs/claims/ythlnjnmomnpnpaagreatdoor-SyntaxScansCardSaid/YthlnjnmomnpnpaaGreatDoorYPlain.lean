/- Programs as trees, plain: what may be, how it is printed, when two are the same, how many parts there are. -/
import Derived.Test.YthlnjnmomnpnpaaGreatDoorTPlain
import Derived.Test.YthlnjnmomnpnpaaGreatDoorPlain
import Derived.Lib.Hide
import Derived.Lib.Strings
import Derived.Lib.ItoaNum
namespace Go.Proofs.YthlnjnmomnpnpaaGreatDoor
set_option linter.unusedVariables false
open Tk
def str (l : Bs) : ByteArray := ⟨l.toArray⟩
theorem str_list (l : Bs) : (str l).data.toList = l := by simp [str]
theorem str_size (l : Bs) : (str l).size = l.length := by simp [str, ByteArray.size]
theorem size_list (s : ByteArray) : s.data.toList.length = s.size := by simp
theorem str_of (s : ByteArray) : str s.data.toList = s := by
  obtain ⟨⟨l⟩⟩ := s
  simp [str]
theorem str_inj {a b : Bs} (h : str a = str b) : a = b := by
  have := congrArg (fun s : ByteArray => s.data.toList) h
  simpa [str_list] using this
namespace Sy
/-- an expression -/
inductive Ex where
  | mk (kind op n : Int) (name : ByteArray) (args : List Ex)
def Ex.kind : Ex → Int | .mk k _ _ _ _ => k
def Ex.op : Ex → Int | .mk _ o _ _ _ => o
def Ex.n : Ex → Int | .mk _ _ n _ _ => n
def Ex.name : Ex → ByteArray | .mk _ _ _ s _ => s
def Ex.args : Ex → List Ex | .mk _ _ _ _ l => l
/-- a statement -/
inductive St where
  | mk (kind : Int) (name src : ByteArray) (n : Int) (args : List Ex) (thn els : List St)
def St.kind : St → Int | .mk k _ _ _ _ _ _ => k
def St.name : St → ByteArray | .mk _ s _ _ _ _ _ => s
def St.src : St → ByteArray | .mk _ _ s _ _ _ _ => s
def St.n : St → Int | .mk _ _ _ n _ _ _ => n
def St.args : St → List Ex | .mk _ _ _ _ l _ _ => l
def St.thn : St → List St | .mk _ _ _ _ _ l _ => l
def St.els : St → List St | .mk _ _ _ _ _ _ l => l
structure Dev where
  name : ByteArray
  kind : Int
structure Rsc where
  name : ByteArray
  words : Int
structure Tsk where
  name : ByteArray
  handler : Bool
  hart : Int
  prio : Int
  line : Int
  body : List St
structure Prg where
  harts : Int
  devs : List Dev
  rscs : List Rsc
  tasks : List Tsk
/-- operators -/
abbrev isOne (op : Int) : Bool := Plain.isOne op
abbrev level (op : Int) : Int := Plain.level op
abbrev opT (op : Int) : Bs := Plain.text op
def numbersV (op : Int) : Int := if op = 0 then 0 else if isOne op = true then 1 else if 0 < level op then 2 else -1
/-- what a part of one kind has -/
structure Shp where
  known : Bool
  nm : Bool
  src : Bool
  most : Int
  op : Int
  args : Int
  thn : Bool
  els : Bool
def noShp : Shp := ⟨false, false, false, 0, 0, 0, false, false⟩
def eShp (k : Int) : Shp := if k = 1 then ⟨true, false, false, 4294967295, 0, 0, false, false⟩ else if k = 2 then ⟨true, true, false, 0, 0, 0, false, false⟩ else if k = 3 then ⟨true, false, false, 0, 1, 1, false, false⟩ else if k = 4 then ⟨true, false, false, 0, 2, 2, false, false⟩ else if k = 5 then ⟨true, true, false, 0, 0, 1, false, false⟩ else noShp
def sShp (k : Int) : Shp := if k = 1 then ⟨true, true, false, 0, 0, 1, false, false⟩ else if k = 2 then ⟨true, true, true, 3, 0, 0, false, false⟩ else if k = 3 then ⟨true, true, false, 3, 0, 1, false, false⟩ else if k = 4 then ⟨true, true, false, 0, 0, 2, false, false⟩ else if k = 5 then ⟨true, true, false, 0, 0, 0, true, false⟩ else if k = 6 then ⟨true, false, false, 0, 0, 1, true, true⟩ else if k = 7 then ⟨true, false, false, 20, 0, 0, true, false⟩ else if k = 8 then ⟨true, false, false, 0, 0, 0, false, false⟩ else noShp
def within (n a b : Int) : Bool := decide (a ≤ n) && decide (n ≤ b)
def nameIf (b : Bool) (s : ByteArray) : Bool := if b = true then isName s.data.toList else decide (s = ⟨#[]⟩)
def fitsE (w : Shp) (e : Ex) : Bool := w.known && (decide (numbersV e.op = w.op) && (within e.n 0 w.most && (nameIf w.nm e.name && decide ((e.args.length : Int) = w.args))))
def areE : Nat → List Ex → Bool
  | 0, l => l.isEmpty
  | d + 1, l => l.all fun e => fitsE (eShp e.kind) e && areE d e.args
def fitsS (w : Shp) (s : St) : Bool := w.known && (nameIf w.nm s.name && (nameIf w.src s.src && (within s.n 0 w.most && (decide ((s.args.length : Int) = w.args) && ((w.thn || decide (s.thn.length = 0)) && (w.els || decide (s.els.length = 0)))))))
def areS : Nat → List St → Bool
  | 0, l => l.isEmpty
  | d + 1, l => l.all fun s => fitsS (sShp s.kind) s && (areE 30 s.args && (areS d s.thn && areS d s.els))
def kindT (k : Int) : Bs := if k = 1 then [117, 97, 114, 116] else if k = 2 then [116, 105, 109, 101, 114] else if k = 3 then [103, 112, 105, 111] else []
def isDev (d : Dev) : Bool := isName d.name.data.toList && !(kindT d.kind).isEmpty
def isRsc (r : Rsc) : Bool := isName r.name.data.toList && within r.words 1 8
def isTsk (t : Tsk) : Bool := isName t.name.data.toList && (within t.hart 0 3 && (within t.prio 1 7 && (within t.line 0 (if t.handler = true then 7 else 0) && areS 30 t.body)))
def right (p : Prg) : Bool := within p.harts 1 4 && (decide (p.devs.length ≤ 8) && (p.devs.all isDev && (decide (p.rscs.length ≤ 8) && (p.rscs.all isRsc && (decide (p.tasks.length ≤ 16) && p.tasks.all isTsk)))))
end Sy
end Go.Proofs.YthlnjnmomnpnpaaGreatDoor
