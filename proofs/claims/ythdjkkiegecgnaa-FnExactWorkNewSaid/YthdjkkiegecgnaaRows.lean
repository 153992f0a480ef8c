/-
  No cell of these rows narrows 'for every input' (looked for: loops, veiled, ifaces, maps, wideKeys, modest, calm, conditions, laid).
  DERIVED. THE GIVEN ROWS OF THIS SEAT. 6 by the template 'for every input the law returns true; each argument reads behind the call as it read before'; 0 by the template 'total and deterministic' (their statements: YthdjkkiegecgnaaTotals.lean).
  GIVEN WITH THE SEED: the statements are not yours to turn. If you find one false, say at which input.
  Laid BY PROGRAM, IN A SANDBOX (cutbox-rows.mjs): the forced cells as the released guide's own fill.sh prints them over the translation 1f234a0b286f201f… (all of the seat's roots in one cut). By AI agents, Wed Nov 11 2026. No macro, syntax, notation, axiom, sorry.
-/
import Derived.Test.YthdjkkiegecgnaaChecked
import GoSem.Claim
import GoSem.ClaimJoined
import GoSem.ClaimMapViews
import Derived.JoinedTies
import Derived.KernelRfl
namespace Go.Proofs.Ythdjkkiegecgnaa
/- THE CELL 'sum', in the pinned program and in every row, IS THE sha256 OF THE DUMP (.gsa) THAT YthdjkkiegecgnaaProg.lean LOADS. Nothing in Lean hashes anything: it is a label: what it is worth is what the hold of that sum in a sandbox is worth. -/
noncomputable def Try.pinned : Pinned := { name := "ythdjkkiegecgnaa", sum := "1f234a0b286f201fe5f28240e345c1ffe12889e094f62899d1caca12419d889e", checked := Try.checked }
namespace Rows
def none {H : Type} : Left H := { results := [], args := [] }

/-- 'laws.FnHears': WHATEVER THE INPUT: true; the input reads as it did. -/
def fnHearsSpec : ChangeSpec := { name := "fnHears", fn := fun _ => fun
  | [d] => { results := [.lit (.bool true)], args := [d] }
  | _ => none }
def fnHearsRow : OpenClaim := { program := "ythdjkkiegecgnaa", sum := "1f234a0b286f201fe5f28240e345c1ffe12889e094f62899d1caca12419d889e", func := "loop.example/g00183/laws.FnHears", spec := "fnHears", unfollowed := true, recurses := true, apart := false }
def FnHearsSaid : Prop := fnHearsRow.holds Try.pinned (OpenSpec.ofChange fnHearsSpec)

/-- ITS FALSE NEIGHBOUR: 'it returns false'. Refute it at one input. -/
def fnHearsWrong : ChangeSpec := { name := "fnHears", fn := fun _ => fun
  | [d] => { results := [.lit (.bool false)], args := [d] }
  | _ => none }
def FnHearsWrongFalsely : Prop := fnHearsRow.holds Try.pinned (OpenSpec.ofChange fnHearsWrong)

/-- 'laws.FnSays': WHATEVER THE INPUT: true; the input reads as it did. -/
def fnSaysSpec : ChangeSpec := { name := "fnSays", fn := fun _ => fun
  | [d] => { results := [.lit (.bool true)], args := [d] }
  | _ => none }
def fnSaysRow : OpenClaim := { program := "ythdjkkiegecgnaa", sum := "1f234a0b286f201fe5f28240e345c1ffe12889e094f62899d1caca12419d889e", func := "loop.example/g00183/laws.FnSays", spec := "fnSays", inPlace := ["slices.overlaps[loop.example/g00183/impl.Item]"], unfollowed := true, recurses := true, apart := false }
def FnSaysSaid : Prop := fnSaysRow.holds Try.pinned (OpenSpec.ofChange fnSaysSpec)

/-- ITS FALSE NEIGHBOUR: 'it returns false'. Refute it at one input. -/
def fnSaysWrong : ChangeSpec := { name := "fnSays", fn := fun _ => fun
  | [d] => { results := [.lit (.bool false)], args := [d] }
  | _ => none }
def FnSaysWrongFalsely : Prop := fnSaysRow.holds Try.pinned (OpenSpec.ofChange fnSaysWrong)

/-- 'laws.FnExactTurnOk': WHATEVER THE INPUT: true; the input reads as it did. -/
def fnExactTurnOkSpec : ChangeSpec := { name := "fnExactTurnOk", fn := fun _ => fun
  | [d1, d2] => { results := [.lit (.bool true)], args := [d1, d2] }
  | _ => none }
def fnExactTurnOkRow : OpenClaim := { program := "ythdjkkiegecgnaa", sum := "1f234a0b286f201fe5f28240e345c1ffe12889e094f62899d1caca12419d889e", func := "loop.example/g00183/laws.FnExactTurnOk", spec := "fnExactTurnOk", apart := false }
def FnExactTurnOkSaid : Prop := fnExactTurnOkRow.holds Try.pinned (OpenSpec.ofChange fnExactTurnOkSpec)

/-- ITS FALSE NEIGHBOUR: 'it returns false'. Refute it at one input. -/
def fnExactTurnOkWrong : ChangeSpec := { name := "fnExactTurnOk", fn := fun _ => fun
  | [d1, d2] => { results := [.lit (.bool false)], args := [d1, d2] }
  | _ => none }
def FnExactTurnOkWrongFalsely : Prop := fnExactTurnOkRow.holds Try.pinned (OpenSpec.ofChange fnExactTurnOkWrong)

/-- 'laws.FnExactWorkNew': WHATEVER THE INPUT: true; the input reads as it did. -/
def fnExactWorkNewSpec : ChangeSpec := { name := "fnExactWorkNew", fn := fun _ => fun
  | [d] => { results := [.lit (.bool true)], args := [d] }
  | _ => none }
def fnExactWorkNewRow : OpenClaim := { program := "ythdjkkiegecgnaa", sum := "1f234a0b286f201fe5f28240e345c1ffe12889e094f62899d1caca12419d889e", func := "loop.example/g00183/laws.FnExactWorkNew", spec := "fnExactWorkNew", apart := false }
def FnExactWorkNewSaid : Prop := fnExactWorkNewRow.holds Try.pinned (OpenSpec.ofChange fnExactWorkNewSpec)

/-- ITS FALSE NEIGHBOUR: 'it returns false'. Refute it at one input. -/
def fnExactWorkNewWrong : ChangeSpec := { name := "fnExactWorkNew", fn := fun _ => fun
  | [d] => { results := [.lit (.bool false)], args := [d] }
  | _ => none }
def FnExactWorkNewWrongFalsely : Prop := fnExactWorkNewRow.holds Try.pinned (OpenSpec.ofChange fnExactWorkNewWrong)

/-- 'laws.FnExactOneOrder': WHATEVER THE INPUT: true; the input reads as it did. -/
def fnExactOneOrderSpec : ChangeSpec := { name := "fnExactOneOrder", fn := fun _ => fun
  | [d] => { results := [.lit (.bool true)], args := [d] }
  | _ => none }
def fnExactOneOrderRow : OpenClaim := { program := "ythdjkkiegecgnaa", sum := "1f234a0b286f201fe5f28240e345c1ffe12889e094f62899d1caca12419d889e", func := "loop.example/g00183/laws.FnExactOneOrder", spec := "fnExactOneOrder", apart := false }
def FnExactOneOrderSaid : Prop := fnExactOneOrderRow.holds Try.pinned (OpenSpec.ofChange fnExactOneOrderSpec)

/-- ITS FALSE NEIGHBOUR: 'it returns false'. Refute it at one input. -/
def fnExactOneOrderWrong : ChangeSpec := { name := "fnExactOneOrder", fn := fun _ => fun
  | [d] => { results := [.lit (.bool false)], args := [d] }
  | _ => none }
def FnExactOneOrderWrongFalsely : Prop := fnExactOneOrderRow.holds Try.pinned (OpenSpec.ofChange fnExactOneOrderWrong)

/-- 'laws.FnExactSafeHeard': WHATEVER THE INPUT: true; the input reads as it did. -/
def fnExactSafeHeardSpec : ChangeSpec := { name := "fnExactSafeHeard", fn := fun _ => fun
  | [d] => { results := [.lit (.bool true)], args := [d] }
  | _ => none }
def fnExactSafeHeardRow : OpenClaim := { program := "ythdjkkiegecgnaa", sum := "1f234a0b286f201fe5f28240e345c1ffe12889e094f62899d1caca12419d889e", func := "loop.example/g00183/laws.FnExactSafeHeard", spec := "fnExactSafeHeard", apart := false }
def FnExactSafeHeardSaid : Prop := fnExactSafeHeardRow.holds Try.pinned (OpenSpec.ofChange fnExactSafeHeardSpec)

/-- ITS FALSE NEIGHBOUR: 'it returns false'. Refute it at one input. -/
def fnExactSafeHeardWrong : ChangeSpec := { name := "fnExactSafeHeard", fn := fun _ => fun
  | [d] => { results := [.lit (.bool false)], args := [d] }
  | _ => none }
def FnExactSafeHeardWrongFalsely : Prop := fnExactSafeHeardRow.holds Try.pinned (OpenSpec.ofChange fnExactSafeHeardWrong)

/- THE SECOND FORM. 'bulk': how many values and letters a reading holds, each counted each time it is reached (what is shared counts as often as it is met; a slice's spare places count too). A statement '..UptoSaid' is the law's where the arguments, and the package variables that the reading takes, are together of bulk at most 1048576: NARROWER than '..Said'. Prove '..Said' where nothing that the law and all that it calls make is longer than what came in: it says more and counts as full. Else prove '..UptoSaid'. A law counts once. -/
mutual
def uptoBulk {H : Type} : DataW H → Nat
  | .lit (.string bytes) => bytes.length + 1
  | .lit _ => 1
  | .nil => 1
  | .ptr d => uptoBulk d + 1
  | .slice elems spare => uptoBulkAll elems + uptoBulkAll spare + 1
  | .agg parts => uptoBulkAll parts + 1
  | .iface _ d => uptoBulk d + 1
  | .map entries => uptoBulkEntries entries + 1
  | .held _ => 1
def uptoBulkAll {H : Type} : List (DataW H) → Nat
  | [] => 0
  | d :: r => uptoBulk d + uptoBulkAll r
def uptoBulkEntries {H : Type} : List (Lit × DataW H) → Nat
  | [] => 0
  | x :: r => uptoBulkEntry x + uptoBulkEntries r
def uptoBulkEntry {H : Type} : Lit × DataW H → Nat
  | (.string bytes, d) => bytes.length + uptoBulk d + 1
  | (_, d) => uptoBulk d + 1
 end
def uptoSmall : (H : Type) → List (DataW H) → Bool := fun _ ds => decide (uptoBulkAll ds ≤ 1048576)
def OpenSpec.upto (s : _root_.Go.ChangeSpec) : _root_.Go.OpenSpec := { _root_.Go.OpenSpec.ofChange s with cond := some uptoSmall }

/-- 'laws.FnHears', WHERE WHAT IT READS IS OF BULK AT MOST 1048576: true; the input reads as it did. -/
def fnHearsUptoRow : OpenClaim := { program := "ythdjkkiegecgnaa", sum := "1f234a0b286f201fe5f28240e345c1ffe12889e094f62899d1caca12419d889e", func := "loop.example/g00183/laws.FnHears", spec := "fnHears", unfollowed := true, recurses := true, apart := false, narrowed := true }
def FnHearsUptoSaid : Prop := fnHearsUptoRow.holds Try.pinned (OpenSpec.upto fnHearsSpec)

/-- 'laws.FnSays', WHERE WHAT IT READS IS OF BULK AT MOST 1048576: true; the input reads as it did. -/
def fnSaysUptoRow : OpenClaim := { program := "ythdjkkiegecgnaa", sum := "1f234a0b286f201fe5f28240e345c1ffe12889e094f62899d1caca12419d889e", func := "loop.example/g00183/laws.FnSays", spec := "fnSays", inPlace := ["slices.overlaps[loop.example/g00183/impl.Item]"], unfollowed := true, recurses := true, apart := false, narrowed := true }
def FnSaysUptoSaid : Prop := fnSaysUptoRow.holds Try.pinned (OpenSpec.upto fnSaysSpec)

/-- 'laws.FnExactTurnOk', WHERE WHAT IT READS IS OF BULK AT MOST 1048576: true; the input reads as it did. -/
def fnExactTurnOkUptoRow : OpenClaim := { program := "ythdjkkiegecgnaa", sum := "1f234a0b286f201fe5f28240e345c1ffe12889e094f62899d1caca12419d889e", func := "loop.example/g00183/laws.FnExactTurnOk", spec := "fnExactTurnOk", apart := false, narrowed := true }
def FnExactTurnOkUptoSaid : Prop := fnExactTurnOkUptoRow.holds Try.pinned (OpenSpec.upto fnExactTurnOkSpec)

/-- 'laws.FnExactWorkNew', WHERE WHAT IT READS IS OF BULK AT MOST 1048576: true; the input reads as it did. -/
def fnExactWorkNewUptoRow : OpenClaim := { program := "ythdjkkiegecgnaa", sum := "1f234a0b286f201fe5f28240e345c1ffe12889e094f62899d1caca12419d889e", func := "loop.example/g00183/laws.FnExactWorkNew", spec := "fnExactWorkNew", apart := false, narrowed := true }
def FnExactWorkNewUptoSaid : Prop := fnExactWorkNewUptoRow.holds Try.pinned (OpenSpec.upto fnExactWorkNewSpec)

/-- 'laws.FnExactOneOrder', WHERE WHAT IT READS IS OF BULK AT MOST 1048576: true; the input reads as it did. -/
def fnExactOneOrderUptoRow : OpenClaim := { program := "ythdjkkiegecgnaa", sum := "1f234a0b286f201fe5f28240e345c1ffe12889e094f62899d1caca12419d889e", func := "loop.example/g00183/laws.FnExactOneOrder", spec := "fnExactOneOrder", apart := false, narrowed := true }
def FnExactOneOrderUptoSaid : Prop := fnExactOneOrderUptoRow.holds Try.pinned (OpenSpec.upto fnExactOneOrderSpec)

/-- 'laws.FnExactSafeHeard', WHERE WHAT IT READS IS OF BULK AT MOST 1048576: true; the input reads as it did. -/
def fnExactSafeHeardUptoRow : OpenClaim := { program := "ythdjkkiegecgnaa", sum := "1f234a0b286f201fe5f28240e345c1ffe12889e094f62899d1caca12419d889e", func := "loop.example/g00183/laws.FnExactSafeHeard", spec := "fnExactSafeHeard", apart := false, narrowed := true }
def FnExactSafeHeardUptoSaid : Prop := fnExactSafeHeardUptoRow.holds Try.pinned (OpenSpec.upto fnExactSafeHeardSpec)

end Rows
end Go.Proofs.Ythdjkkiegecgnaa
