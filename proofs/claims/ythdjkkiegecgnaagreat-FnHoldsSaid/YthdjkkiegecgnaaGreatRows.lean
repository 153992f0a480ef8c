/-
  No cell of these rows narrows 'for every input' (looked for: loops, veiled, ifaces, maps, wideKeys, modest, calm, conditions, laid).
  DERIVED. THE GIVEN ROWS OF THIS SEAT. 6 by the template 'for every input the law returns true; each argument reads behind the call as it read before'; 0 by the template 'total and deterministic' (their statements: YthdjkkiegecgnaaGreatTotals.lean).
  GIVEN WITH THE SEED: the statements are not yours to turn. If you find one false, say at which input.
  Laid BY PROGRAM, IN A SANDBOX (cutbox-rows.mjs): the forced cells as the released guide's own fill.sh prints them over the translation 922a83b38aeced64… (all of the seat's roots in one cut). By AI agents, Wed Nov 11 2026. No macro, syntax, notation, axiom, sorry.
-/
import Derived.Test.YthdjkkiegecgnaaGreatChecked
import GoSem.Claim
import GoSem.ClaimJoined
import GoSem.ClaimMapViews
import Derived.JoinedTies
import Derived.KernelRfl
namespace Go.Proofs.YthdjkkiegecgnaaGreat
/- THE CELL 'sum', in the pinned program and in every row, IS THE sha256 OF THE DUMP (.gsa) THAT YthdjkkiegecgnaaGreatProg.lean LOADS. Nothing in Lean hashes anything: it is a label: what it is worth is what the hold of that sum in a sandbox is worth. -/
noncomputable def Tryz.pinned : Pinned := { name := "ythdjkkiegecgnaagreat", sum := "922a83b38aeced6488d63fa6ff283dabd58bde90bc9051a77c6cd3876fb9c602", checked := Tryz.checked }
namespace Rows
def none {H : Type} : Left H := { results := [], args := [] }

/-- 'laws.FnHolds': WHATEVER THE INPUT: true; the input reads as it did. -/
def fnHoldsSpec : ChangeSpec := { name := "fnHolds", fn := fun _ => fun
  | [d] => { results := [.lit (.bool true)], args := [d] }
  | _ => none }
def fnHoldsRow : OpenClaim := { program := "ythdjkkiegecgnaagreat", sum := "922a83b38aeced6488d63fa6ff283dabd58bde90bc9051a77c6cd3876fb9c602", func := "loop.example/g00183/laws.FnHolds", spec := "fnHolds", inPlace := ["slices.overlaps[loop.example/g00183/impl.Item]"], unfollowed := true, recurses := true, apart := false }
def FnHoldsSaid : Prop := fnHoldsRow.holds Tryz.pinned (OpenSpec.ofChange fnHoldsSpec)

/-- ITS FALSE NEIGHBOUR: 'it returns false'. Refute it at one input. -/
def fnHoldsWrong : ChangeSpec := { name := "fnHolds", fn := fun _ => fun
  | [d] => { results := [.lit (.bool false)], args := [d] }
  | _ => none }
def FnHoldsWrongFalsely : Prop := fnHoldsRow.holds Tryz.pinned (OpenSpec.ofChange fnHoldsWrong)

/-- 'laws.FnCatches': WHATEVER THE INPUT: true; the input reads as it did. -/
def fnCatchesSpec : ChangeSpec := { name := "fnCatches", fn := fun _ => fun
  | [d] => { results := [.lit (.bool true)], args := [d] }
  | _ => none }
def fnCatchesRow : OpenClaim := { program := "ythdjkkiegecgnaagreat", sum := "922a83b38aeced6488d63fa6ff283dabd58bde90bc9051a77c6cd3876fb9c602", func := "loop.example/g00183/laws.FnCatches", spec := "fnCatches", inPlace := ["slices.overlaps[loop.example/g00183/impl.Item]"], unfollowed := true, recurses := true, apart := false }
def FnCatchesSaid : Prop := fnCatchesRow.holds Tryz.pinned (OpenSpec.ofChange fnCatchesSpec)

/-- ITS FALSE NEIGHBOUR: 'it returns false'. Refute it at one input. -/
def fnCatchesWrong : ChangeSpec := { name := "fnCatches", fn := fun _ => fun
  | [d] => { results := [.lit (.bool false)], args := [d] }
  | _ => none }
def FnCatchesWrongFalsely : Prop := fnCatchesRow.holds Tryz.pinned (OpenSpec.ofChange fnCatchesWrong)

/-- 'laws.FnOneOrder': WHATEVER THE INPUT: true; the input reads as it did. -/
def fnOneOrderSpec : ChangeSpec := { name := "fnOneOrder", fn := fun _ => fun
  | [d] => { results := [.lit (.bool true)], args := [d] }
  | _ => none }
def fnOneOrderRow : OpenClaim := { program := "ythdjkkiegecgnaagreat", sum := "922a83b38aeced6488d63fa6ff283dabd58bde90bc9051a77c6cd3876fb9c602", func := "loop.example/g00183/laws.FnOneOrder", spec := "fnOneOrder", inPlace := ["slices.overlaps[loop.example/g00183/impl.Item]"], unfollowed := true, recurses := true, apart := false }
def FnOneOrderSaid : Prop := fnOneOrderRow.holds Tryz.pinned (OpenSpec.ofChange fnOneOrderSpec)

/-- ITS FALSE NEIGHBOUR: 'it returns false'. Refute it at one input. -/
def fnOneOrderWrong : ChangeSpec := { name := "fnOneOrder", fn := fun _ => fun
  | [d] => { results := [.lit (.bool false)], args := [d] }
  | _ => none }
def FnOneOrderWrongFalsely : Prop := fnOneOrderRow.holds Tryz.pinned (OpenSpec.ofChange fnOneOrderWrong)

/-- 'laws.FnQuiet': WHATEVER THE INPUT: true; the input reads as it did. -/
def fnQuietSpec : ChangeSpec := { name := "fnQuiet", fn := fun _ => fun
  | [d] => { results := [.lit (.bool true)], args := [d] }
  | _ => none }
def fnQuietRow : OpenClaim := { program := "ythdjkkiegecgnaagreat", sum := "922a83b38aeced6488d63fa6ff283dabd58bde90bc9051a77c6cd3876fb9c602", func := "loop.example/g00183/laws.FnQuiet", spec := "fnQuiet", inPlace := ["slices.overlaps[loop.example/g00183/impl.Item]"], unfollowed := true, recurses := true, apart := false }
def FnQuietSaid : Prop := fnQuietRow.holds Tryz.pinned (OpenSpec.ofChange fnQuietSpec)

/-- ITS FALSE NEIGHBOUR: 'it returns false'. Refute it at one input. -/
def fnQuietWrong : ChangeSpec := { name := "fnQuiet", fn := fun _ => fun
  | [d] => { results := [.lit (.bool false)], args := [d] }
  | _ => none }
def FnQuietWrongFalsely : Prop := fnQuietRow.holds Tryz.pinned (OpenSpec.ofChange fnQuietWrong)

/-- 'laws.FnRingSaid': WHATEVER THE INPUT: true; the input reads as it did. -/
def fnRingSaidSpec : ChangeSpec := { name := "fnRingSaid", fn := fun _ => fun
  | [d] => { results := [.lit (.bool true)], args := [d] }
  | _ => none }
def fnRingSaidRow : OpenClaim := { program := "ythdjkkiegecgnaagreat", sum := "922a83b38aeced6488d63fa6ff283dabd58bde90bc9051a77c6cd3876fb9c602", func := "loop.example/g00183/laws.FnRingSaid", spec := "fnRingSaid", inPlace := ["slices.overlaps[loop.example/g00183/impl.Item]"], unfollowed := true, recurses := true, apart := false }
def FnRingSaidSaid : Prop := fnRingSaidRow.holds Tryz.pinned (OpenSpec.ofChange fnRingSaidSpec)

/-- ITS FALSE NEIGHBOUR: 'it returns false'. Refute it at one input. -/
def fnRingSaidWrong : ChangeSpec := { name := "fnRingSaid", fn := fun _ => fun
  | [d] => { results := [.lit (.bool false)], args := [d] }
  | _ => none }
def FnRingSaidWrongFalsely : Prop := fnRingSaidRow.holds Tryz.pinned (OpenSpec.ofChange fnRingSaidWrong)

/-- 'laws.FnExactRunWork': WHATEVER THE INPUT: true; the input reads as it did. -/
def fnExactRunWorkSpec : ChangeSpec := { name := "fnExactRunWork", fn := fun _ => fun
  | [d1, d2] => { results := [.lit (.bool true)], args := [d1, d2] }
  | _ => none }
def fnExactRunWorkRow : OpenClaim := { program := "ythdjkkiegecgnaagreat", sum := "922a83b38aeced6488d63fa6ff283dabd58bde90bc9051a77c6cd3876fb9c602", func := "loop.example/g00183/laws.FnExactRunWork", spec := "fnExactRunWork", inPlace := ["slices.overlaps[loop.example/g00183/impl.Item]"], unfollowed := true, recurses := true, apart := false }
def FnExactRunWorkSaid : Prop := fnExactRunWorkRow.holds Tryz.pinned (OpenSpec.ofChange fnExactRunWorkSpec)

/-- ITS FALSE NEIGHBOUR: 'it returns false'. Refute it at one input. -/
def fnExactRunWorkWrong : ChangeSpec := { name := "fnExactRunWork", fn := fun _ => fun
  | [d1, d2] => { results := [.lit (.bool false)], args := [d1, d2] }
  | _ => none }
def FnExactRunWorkWrongFalsely : Prop := fnExactRunWorkRow.holds Tryz.pinned (OpenSpec.ofChange fnExactRunWorkWrong)

/- THE SECOND FORM. 'bulk': how many values and letters a reading holds, each counted each time it is reached (what is shared counts as often as it is met; a slice's spare places count too). A statement '..UptoSaid' is the law's where the arguments, and the package variables that the reading takes, are together of bulk at most 1048576: NARROWER than '..Said'. Prove '..Said' where nothing that the law and all that it calls make is longer than what came in: it says more and counts as full. Else prove '..UptoSaid'. A law counts once. -/
mutual
def uptoBulk {H : Type} : DataW H → Nat
  | .lit (.string bytes) => bytes.length + 1
  | .lit _ => 1
  | .nil => 1
  | .ptr d => uptoBulk d + 1
  | .slice elems spare => uptoBulkAll elems + uptoBulkAll spare + 1
  | .agg parts => uptoBulkAll parts + 1
  | .iface _ d => uptoBulk d + 1
  | .map entries => uptoBulkEntries entries + 1
  | .held _ => 1
def uptoBulkAll {H : Type} : List (DataW H) → Nat
  | [] => 0
  | d :: r => uptoBulk d + uptoBulkAll r
def uptoBulkEntries {H : Type} : List (Lit × DataW H) → Nat
  | [] => 0
  | x :: r => uptoBulkEntry x + uptoBulkEntries r
def uptoBulkEntry {H : Type} : Lit × DataW H → Nat
  | (.string bytes, d) => bytes.length + uptoBulk d + 1
  | (_, d) => uptoBulk d + 1
 end
def uptoSmall : (H : Type) → List (DataW H) → Bool := fun _ ds => decide (uptoBulkAll ds ≤ 1048576)
def OpenSpec.upto (s : _root_.Go.ChangeSpec) : _root_.Go.OpenSpec := { _root_.Go.OpenSpec.ofChange s with cond := some uptoSmall }

/-- 'laws.FnHolds', WHERE WHAT IT READS IS OF BULK AT MOST 1048576: true; the input reads as it did. -/
def fnHoldsUptoRow : OpenClaim := { program := "ythdjkkiegecgnaagreat", sum := "922a83b38aeced6488d63fa6ff283dabd58bde90bc9051a77c6cd3876fb9c602", func := "loop.example/g00183/laws.FnHolds", spec := "fnHolds", inPlace := ["slices.overlaps[loop.example/g00183/impl.Item]"], unfollowed := true, recurses := true, apart := false, narrowed := true }
def FnHoldsUptoSaid : Prop := fnHoldsUptoRow.holds Tryz.pinned (OpenSpec.upto fnHoldsSpec)

/-- 'laws.FnCatches', WHERE WHAT IT READS IS OF BULK AT MOST 1048576: true; the input reads as it did. -/
def fnCatchesUptoRow : OpenClaim := { program := "ythdjkkiegecgnaagreat", sum := "922a83b38aeced6488d63fa6ff283dabd58bde90bc9051a77c6cd3876fb9c602", func := "loop.example/g00183/laws.FnCatches", spec := "fnCatches", inPlace := ["slices.overlaps[loop.example/g00183/impl.Item]"], unfollowed := true, recurses := true, apart := false, narrowed := true }
def FnCatchesUptoSaid : Prop := fnCatchesUptoRow.holds Tryz.pinned (OpenSpec.upto fnCatchesSpec)

/-- 'laws.FnOneOrder', WHERE WHAT IT READS IS OF BULK AT MOST 1048576: true; the input reads as it did. -/
def fnOneOrderUptoRow : OpenClaim := { program := "ythdjkkiegecgnaagreat", sum := "922a83b38aeced6488d63fa6ff283dabd58bde90bc9051a77c6cd3876fb9c602", func := "loop.example/g00183/laws.FnOneOrder", spec := "fnOneOrder", inPlace := ["slices.overlaps[loop.example/g00183/impl.Item]"], unfollowed := true, recurses := true, apart := false, narrowed := true }
def FnOneOrderUptoSaid : Prop := fnOneOrderUptoRow.holds Tryz.pinned (OpenSpec.upto fnOneOrderSpec)

/-- 'laws.FnQuiet', WHERE WHAT IT READS IS OF BULK AT MOST 1048576: true; the input reads as it did. -/
def fnQuietUptoRow : OpenClaim := { program := "ythdjkkiegecgnaagreat", sum := "922a83b38aeced6488d63fa6ff283dabd58bde90bc9051a77c6cd3876fb9c602", func := "loop.example/g00183/laws.FnQuiet", spec := "fnQuiet", inPlace := ["slices.overlaps[loop.example/g00183/impl.Item]"], unfollowed := true, recurses := true, apart := false, narrowed := true }
def FnQuietUptoSaid : Prop := fnQuietUptoRow.holds Tryz.pinned (OpenSpec.upto fnQuietSpec)

/-- 'laws.FnRingSaid', WHERE WHAT IT READS IS OF BULK AT MOST 1048576: true; the input reads as it did. -/
def fnRingSaidUptoRow : OpenClaim := { program := "ythdjkkiegecgnaagreat", sum := "922a83b38aeced6488d63fa6ff283dabd58bde90bc9051a77c6cd3876fb9c602", func := "loop.example/g00183/laws.FnRingSaid", spec := "fnRingSaid", inPlace := ["slices.overlaps[loop.example/g00183/impl.Item]"], unfollowed := true, recurses := true, apart := false, narrowed := true }
def FnRingSaidUptoSaid : Prop := fnRingSaidUptoRow.holds Tryz.pinned (OpenSpec.upto fnRingSaidSpec)

/-- 'laws.FnExactRunWork', WHERE WHAT IT READS IS OF BULK AT MOST 1048576: true; the input reads as it did. -/
def fnExactRunWorkUptoRow : OpenClaim := { program := "ythdjkkiegecgnaagreat", sum := "922a83b38aeced6488d63fa6ff283dabd58bde90bc9051a77c6cd3876fb9c602", func := "loop.example/g00183/laws.FnExactRunWork", spec := "fnExactRunWork", inPlace := ["slices.overlaps[loop.example/g00183/impl.Item]"], unfollowed := true, recurses := true, apart := false, narrowed := true }
def FnExactRunWorkUptoSaid : Prop := fnExactRunWorkUptoRow.holds Tryz.pinned (OpenSpec.upto fnExactRunWorkSpec)

end Rows
end Go.Proofs.YthdjkkiegecgnaaGreat
