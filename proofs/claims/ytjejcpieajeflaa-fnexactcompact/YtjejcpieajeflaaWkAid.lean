/-
  Records and logs as plain data, and what the document's words on them come to (no program in sight, no condition).
-/
import Derived.Test.YtjejcpieajeflaaAid
namespace Go.Proofs.Ytjejcpieajeflaa
open Go.RowKit Go.PlainAid

structure Ent where
  term : Int
  data : ByteArray
structure Rcd where
  kind : Int
  term : Int
  index : Int
  vote : Int
  data : ByteArray
structure Wl where
  term : Int
  vote : Int
  base : Int
  bterm : Int
  ents : List Ent

instance : Inhabited Ent := ⟨⟨0, ByteArray.empty⟩⟩
instance : Inhabited Rcd := ⟨⟨0, 0, 0, 0, ByteArray.empty⟩⟩

/-- Is the number in these bounds? -/
def inIt (x lo hi : Int) : Bool := decide (lo ≤ x) && decide (x ≤ hi)
/-- Index and Term of a base. -/
def based (index term : Int) : Bool := if index = 0 then decide (term = 0) else inIt index 1 100000 && inIt term 1 100000
/-- A right record. -/
def recOk (r : Rcd) : Bool :=
  if r.kind = 1 then inIt r.term 0 100000 && inIt r.vote (-1) 4 && decide (r.index = 0) && decide (r.data = ByteArray.empty)
  else if r.kind = 2 then inIt r.term 1 100000 && inIt r.index 1 100000 && decide (r.vote = 0) && decide (r.data.size ≤ 900)
  else if r.kind = 3 then decide (r.term = 0) && inIt r.index 1 100000 && decide (r.vote = 0) && decide (r.data = ByteArray.empty)
  else if r.kind = 4 then based r.index r.term && decide (r.vote = 0) && decide (r.data = ByteArray.empty)
  else false
/-- Right entries: none less than last, none above top. -/
def entsOk (top : Int) : Int → List Ent → Bool
  | _, [] => true
  | last, e :: r => decide (1 ≤ e.term) && decide (last ≤ e.term) && decide (e.term ≤ top) && decide (e.data.size ≤ 900) && entsOk top e.term r
/-- A right log. -/
def walOk (w : Wl) : Bool :=
  inIt w.term 0 100000 && inIt w.vote (-1) 4 && based w.base w.bterm && decide (w.bterm ≤ w.term) && decide (w.ents.length ≤ 60) && decide (w.base + w.ents.length ≤ 100000) && entsOk w.term w.bterm w.ents
def lastTerm (w : Wl) : Int := match w.ents.getLast? with | some e => e.term | none => w.bterm
def recFits (w : Wl) (r : Rcd) : Bool :=
  if r.kind = 1 then decide (w.term < r.term) || (decide (r.term = w.term) && (decide (w.vote = -1) || decide (r.vote = w.vote)))
  else if r.kind = 2 then decide (r.index = w.base + w.ents.length + 1) && decide (w.ents.length < 60) && decide (lastTerm w ≤ r.term) && decide (r.term ≤ w.term)
  else if r.kind = 3 then decide (w.base < r.index) && decide (r.index ≤ w.base + w.ents.length)
  else false
def stepTo (w : Wl) (r : Rcd) : Wl :=
  if r.kind = 1 then { w with term := r.term, vote := r.vote }
  else if r.kind = 2 then { w with ents := w.ents ++ [⟨r.term, r.data⟩] }
  else { w with ents := w.ents.take (r.index - w.base - 1).toNat }
def wal0 : Wl := ⟨0, 0, 0, 0, []⟩
/-- What a record makes of a log. -/
def walStep (w : Wl) (r : Rcd) : Wl × Bool :=
  if walOk w = false then (wal0, false) else if recOk r && recFits w r then (stepTo w r, true) else (w, false)
end Go.Proofs.Ytjejcpieajeflaa
