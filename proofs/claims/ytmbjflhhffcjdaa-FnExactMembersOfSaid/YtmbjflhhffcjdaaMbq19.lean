/- Joined texts: CTb. -/
import Derived.Test.YtmbjflhhffcjdaaMbq10
import Derived.Test.YtmbjflhhffcjdaaMbq18
/- Names, private names, words and tables of groups in plain words. -/
namespace Go.Proofs.Ytmbjflhhffcjdaa
open Go.RowKit Pl
set_option linter.unusedVariables false
set_option linter.unusedSimpArgs false

/-- do they ascend? -/
def tascB : List ByteArray → Bool
  | [] => true
  | a :: l => (match l with | [] => true | b :: _ => tltB a b) && tascB l
/-- names that ascend. -/
def namesB (ts : List ByteArray) : Bool := ts.all nmB && tascB ts
/-- the daemon and the name of a private name. -/
def privP (s : ByteArray) : Option (Nat × ByteArray) := match s.data.toList with
  | a :: b :: c :: r => if a = 35 ∧ c = 35 ∧ 49 ≤ b.toNat ∧ b.toNat ≤ 57 ∧ nmB ⟨r.toArray⟩ = true then some (b.toNat - 48, ⟨r.toArray⟩) else none
  | _ => none
/-- is it a private name? -/
def prB (s : ByteArray) : Bool := (privP s).isSome
/-- a word that is right. -/
def wdB (k : Int) (who : ByteArray) (gs : List ByteArray) (t : ByteArray) : Bool :=
  decide (1 ≤ k ∧ k ≤ 4) && (prB who && (namesB gs && (if k = 4 then decide (1 ≤ (gs.length : Int) ∧ (gs.length : Int) ≤ 3) && decide (t.size ≤ 20) else if k = 3 then decide (gs.length = 0) && decide (t.size = 0) else decide (gs.length = 1) && decide (t.size = 0))))
abbrev Tb := List (ByteArray × List ByteArray)
/-- a group that is right but for its name. -/
def mbB (ms : List ByteArray) : Bool := ms.all prB && tascB ms
/-- a group that is right. -/
def grB (g : ByteArray × List ByteArray) : Bool := nmB g.1 && (decide (1 ≤ (g.2.length : Int) ∧ (g.2.length : Int) ≤ 8) && mbB g.2)
/-- a table that is right. -/
def tbB (t : Tb) : Bool := decide (t.length ≤ 6) && (t.all grB && tascB (t.map (·.1)))
/-- the members of a group. -/
def memP (t : Tb) (g : ByteArray) : List ByteArray := match t.find? (fun p => p.1.toList == g.toList) with | some p => p.2 | none => []
/-- a group is given these members (none: it is gone). -/
def setP (t : Tb) (g : ByteArray) (ms : List ByteArray) : Tb := t.filter (fun p => tltB p.1 g) ++ ((if 0 < ms.length then [(g, ms)] else []) ++ t.filter (fun p => tltB g p.1))
/-- without a text. -/
def outP (l : List ByteArray) (x : ByteArray) : List ByteArray := l.filter fun y => !(y.toList == x.toList)
/-- is it there? -/
def hasT (l : List ByteArray) (x : ByteArray) : Bool := l.any fun y => y.toList == x.toList
/-- sorted, each once. -/
def sortP (l : List ByteArray) : List ByteArray := l.foldl insT []
end Go.Proofs.Ytmbjflhhffcjdaa


