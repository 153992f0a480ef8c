/- Joined texts: CHr. -/
import Derived.Test.YtmbjflhhffcjdaaDoorWsq22
import Derived.BigQuiet
import Derived.Test.YtmbjflhhffcjdaaDoorWsq11
import Derived.Deep.DeepCutAuto
/- A member hears: mustWait, hear. -/
namespace Go.Proofs.YtmbjflhhffcjdaaDoor
open Go.RowKit Pl
set_option linter.unusedVariables false
set_option linter.unusedSimpArgs false

/-- whether an item must wait. -/
def waitB (li q l : Int) : Bool := decide (l = 2) && decide (li < q)
/-- what is heard in n rounds, from h on. -/
def hears (ts : List It) (li : Int) : Nat → Int → List It
  | 0, _ => []
  | n + 1, h => match atP ts (h + 1) with
    | none => []
    | some x => if waitB li x.1 x.2.2.1 = true then [] else x :: hears ts li n (h + 1)
def Mt.hear (m : Mt) : List It := hears m.its m.li ((aruP m.its : Int) - m.he).toNat m.he
def Mt.setH (m : Mt) (h : Int) : Mt := ⟨m.id, m.rid, m.ms, m.its, m.lv, m.tx, m.rd, m.se, m.li, h, m.la⟩
def lenV : Value → Nat
  | .slice _ n _ => n
  | _ => 0
end Go.Proofs.YtmbjflhhffcjdaaDoor


