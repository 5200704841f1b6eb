/-
  Disks as plain data, and what the document's words on them come to (no program in sight, no condition).
-/
import Derived.Test.YtnnfnhpehacelaaGreatAid
namespace Go.Proofs.YtnnfnhpehacelaaGreat
open Go.RowKit Go.PlainAid

structure Nod where
  id : Int
  data : ByteArray
  sure : Int
structure Lnk where
  name : ByteArray
  id : Int
structure Mov where
  kind : Int
  name : ByteArray
  to : ByteArray
  id : Int
structure Dsk where
  room : Int
  next : Int
  nods : List Nod
  dir : List Lnk
  movs : List Mov

instance : Inhabited Nod := ⟨⟨0, ByteArray.empty, 0⟩⟩
instance : Inhabited Lnk := ⟨⟨ByteArray.empty, 0⟩⟩
instance : Inhabited Mov := ⟨⟨0, ByteArray.empty, ByteArray.empty, 0⟩⟩

/-- A byte of a name. -/
def nameB (b : Nat) : Bool := (97 ≤ b && b ≤ 122) || (48 ≤ b && b ≤ 57) || b == 46
/-- A name. -/
def nameOk (s : ByteArray) : Bool := decide (1 ≤ s.size) && decide (s.size ≤ 12) && (List.range s.size).all fun j => nameB (bn s j)
/-- Is there a link of this name? -/
def linkAt (l : List Lnk) (name : ByteArray) : Option Nat := l.findIdx? fun x => decide (x.name = name)
def without (l : List Lnk) (name : ByteArray) : List Lnk := l.filter fun x => decide (x.name ≠ name)
/-- One text ahead of another. -/
def ahead (a b : ByteArray) : Bool := Op.bytesLess a.toList b.toList
/-- A link put in its place. -/
def ins (x : Lnk) : List Lnk → List Lnk
  | [] => [x]
  | y :: r => if ahead x.name y.name then x :: y :: r else y :: ins x r
def withL (l : List Lnk) (x : Lnk) : List Lnk := ins x (without l x.name)
/-- What a move makes of links, where it fits. -/
def apply (l : List Lnk) (m : Mov) : Option (List Lnk) :=
  if nameOk m.name = false then none
  else if m.kind = 1 ∧ m.to.size = 0 ∧ linkAt l m.name = none then some (withL l ⟨m.name, m.id⟩)
  else match linkAt l m.name with
    | some i =>
      if m.kind = 2 ∧ m.id = 0 ∧ nameOk m.to = true ∧ m.to ≠ m.name then some (withL (without l m.name) ⟨m.to, (l.getD i default).id⟩)
      else if m.kind = 3 ∧ m.id = 0 ∧ m.to.size = 0 then some (without l m.name)
      else none
    | none => none
/-- The links behind moves, those that do not fit left out. -/
def names (l : List Lnk) : List Mov → List Lnk
  | [] => l
  | m :: r => names ((apply l m).getD l) r
def nodAt (l : List Nod) (id : Int) : Option Nat := l.findIdx? fun x => decide (x.id = id)
def linked (l : List Lnk) (id : Int) : Bool := l.any fun x => decide (x.id = id)
def made (l : List Mov) (id : Int) : Bool := l.any fun m => decide (m.kind = 1) && decide (m.id = id)
def bytesOf : List Nod → Nat
  | [] => 0
  | x :: r => x.data.size + bytesOf r
end Go.Proofs.YtnnfnhpehacelaaGreat
