/- Programs' texts, plain. -/
import Derived.Test.YthlnjnmomnpnpaaGreatDoorYPlain
namespace Go.Proofs.YthlnjnmomnpnpaaGreatDoor
open Tk
namespace Sy
set_option linter.unusedVariables false
def numT (n : Int) : Bs := Lib.itoa n
def nilE : Ex := .mk 0 0 0 ⟨#[]⟩ []
def argAt (l : List Ex) (i : Nat) : Ex := l.getD i nilE
def nm (s : ByteArray) : Bs := s.data.toList
def par (b : Bool) (s : Bs) : Bs := if b = true then [40] ++ s ++ [41] else s
/-- does a part stand in parentheses where this is the least level that may do without? -/
def low (e : Ex) (least : Int) : Bool := decide (e.kind = 4) && decide (level e.op < least)
def exT : Nat → Ex → Bs
  | 0, _ => []
  | d + 1, e =>
    if e.kind = 1 then numT e.n
    else if e.kind = 2 then nm e.name
    else if e.kind = 5 then nm e.name ++ [91] ++ exT d (argAt e.args 0) ++ [93]
    else if e.kind = 3 then opT e.op ++ par (low (argAt e.args 0) 9223372036854775807) (exT d (argAt e.args 0))
    else if e.kind = 4 then par (low (argAt e.args 0) (level e.op)) (exT d (argAt e.args 0)) ++ ([32] ++ opT e.op ++ [32]) ++ par (low (argAt e.args 1) (level e.op + 1)) (exT d (argAt e.args 1))
    else []
def lineT (k : Nat) (ps : List Bs) : Bs := List.replicate k 9 ++ ps.flatten ++ [10]
def stT : Nat → Nat → St → Bs
  | 0, _, _ => []
  | d + 1, k, s =>
    if s.kind = 1 then lineT k [nm s.name, [32, 61, 32], exT 30 (argAt s.args 0), [59]]
    else if s.kind = 2 then lineT k [nm s.name, [32, 61, 32], nm s.src, [46], numT s.n, [59]]
    else if s.kind = 3 then lineT k [nm s.name, [46], numT s.n, [32, 61, 32], exT 30 (argAt s.args 0), [59]]
    else if s.kind = 4 then lineT k [nm s.name, [91], exT 30 (argAt s.args 0), [93, 32, 61, 32], exT 30 (argAt s.args 1), [59]]
    else if s.kind = 5 then lineT k [[108, 111, 99, 107, 32], nm s.name, [32, 123]] ++ s.thn.flatMap (stT d (k + 1)) ++ lineT k [[125]]
    else if s.kind = 6 then lineT k [[105, 102, 32, 40], exT 30 (argAt s.args 0), [41, 32, 123]] ++ s.thn.flatMap (stT d (k + 1)) ++ (if 0 < s.els.length then lineT k [[125, 32, 101, 108, 115, 101, 32, 123]] ++ s.els.flatMap (stT d (k + 1)) else []) ++ lineT k [[125]]
    else if s.kind = 7 then lineT k [[114, 101, 112, 101, 97, 116, 32], numT s.n, [32, 123]] ++ s.thn.flatMap (stT d (k + 1)) ++ lineT k [[125]]
    else if s.kind = 8 then lineT k [[104, 97, 108, 116, 59]]
    else []
def devT (d : Dev) : Bs := lineT 0 [[100, 101, 118, 105, 99, 101, 32], nm d.name, [32], kindT d.kind]
def rscT (r : Rsc) : Bs := lineT 0 [[114, 101, 115, 111, 117, 114, 99, 101, 32], nm r.name, [32], numT r.words]
def tskT (t : Tsk) : Bs := (if t.handler = true then lineT 0 [[104, 97, 110, 100, 108, 101, 114, 32], nm t.name, [32], numT t.hart, [32], numT t.prio, [32], numT t.line, [32, 123]] else lineT 0 [[116, 97, 115, 107, 32], nm t.name, [32], numT t.hart, [32], numT t.prio, [32, 123]]) ++ t.body.flatMap (stT 30 1) ++ lineT 0 [[125]]
def prgT (p : Prg) : Bs := lineT 0 [[104, 97, 114, 116, 115, 32], numT p.harts] ++ p.devs.flatMap devT ++ p.rscs.flatMap rscT ++ p.tasks.flatMap tskT
end Sy
end Go.Proofs.YthlnjnmomnpnpaaGreatDoor
