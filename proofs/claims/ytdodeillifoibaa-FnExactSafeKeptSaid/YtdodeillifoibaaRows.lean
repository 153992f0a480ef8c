/-
  No cell of these rows narrows 'for every input' (looked for: loops, veiled, ifaces, maps, wideKeys, modest, calm, conditions, laid).
  DERIVED. THE GIVEN ROWS OF THIS SEAT. 4 by the template 'for every input the law returns true; each argument reads behind the call as it read before'; 0 by the template 'total and deterministic' (their statements: YtdodeillifoibaaTotals.lean).
  GIVEN WITH THE SEED: the statements are not yours to turn. If you find one false, say at which input.
  Laid BY PROGRAM, IN A SANDBOX (cutbox-rows.mjs): the forced cells as the released guide's own fill.sh prints them over the translation 3eba4708d02aaa53… (all of the seat's roots in one cut). By AI agents, Wed Nov 11 2026. No macro, syntax, notation, axiom, sorry.
-/
import Derived.Test.YtdodeillifoibaaChecked
import GoSem.Claim
import GoSem.ClaimJoined
import GoSem.ClaimMapViews
import Derived.JoinedTies
import Derived.KernelRfl
namespace Go.Proofs.Ytdodeillifoibaa
/- THE CELL 'sum', in the pinned program and in every row, IS THE sha256 OF THE DUMP (.gsa) THAT YtdodeillifoibaaProg.lean LOADS. Nothing in Lean hashes anything: it is a label: what it is worth is what the hold of that sum in a sandbox is worth. -/
noncomputable def Try.pinned : Pinned := { name := "ytdodeillifoibaa", sum := "3eba4708d02aaa53454d7dc26efc1cd03b6351f0b10e33e3c2ed8745703ea3bd", checked := Try.checked }
namespace Rows
def none {H : Type} : Left H := { results := [], args := [] }

/-- 'laws.FnExactItemsOf': WHATEVER THE INPUT: true; the input reads as it did. -/
def fnExactItemsOfSpec : ChangeSpec := { name := "fnExactItemsOf", fn := fun _ => fun
  | [d1, d2] => { results := [.lit (.bool true)], args := [d1, d2] }
  | _ => none }
def fnExactItemsOfRow : OpenClaim := { program := "ytdodeillifoibaa", sum := "3eba4708d02aaa53454d7dc26efc1cd03b6351f0b10e33e3c2ed8745703ea3bd", func := "loop.example/g00183/laws.FnExactItemsOf", spec := "fnExactItemsOf", plainKeys := false, apart := false }
def FnExactItemsOfSaid : Prop := fnExactItemsOfRow.holds Try.pinned (OpenSpec.ofChange fnExactItemsOfSpec)

/-- ITS FALSE NEIGHBOUR: 'it returns false'. Refute it at one input. -/
def fnExactItemsOfWrong : ChangeSpec := { name := "fnExactItemsOf", fn := fun _ => fun
  | [d1, d2] => { results := [.lit (.bool false)], args := [d1, d2] }
  | _ => none }
def FnExactItemsOfWrongFalsely : Prop := fnExactItemsOfRow.holds Try.pinned (OpenSpec.ofChange fnExactItemsOfWrong)

/-- 'laws.FnExactSaidFirst': WHATEVER THE INPUT: true; the input reads as it did. -/
def fnExactSaidFirstSpec : ChangeSpec := { name := "fnExactSaidFirst", fn := fun _ => fun
  | [d] => { results := [.lit (.bool true)], args := [d] }
  | _ => none }
def fnExactSaidFirstRow : OpenClaim := { program := "ytdodeillifoibaa", sum := "3eba4708d02aaa53454d7dc26efc1cd03b6351f0b10e33e3c2ed8745703ea3bd", func := "loop.example/g00183/laws.FnExactSaidFirst", spec := "fnExactSaidFirst", unfollowed := true, recurses := true, plainKeys := false, apart := false }
def FnExactSaidFirstSaid : Prop := fnExactSaidFirstRow.holds Try.pinned (OpenSpec.ofChange fnExactSaidFirstSpec)

/-- ITS FALSE NEIGHBOUR: 'it returns false'. Refute it at one input. -/
def fnExactSaidFirstWrong : ChangeSpec := { name := "fnExactSaidFirst", fn := fun _ => fun
  | [d] => { results := [.lit (.bool false)], args := [d] }
  | _ => none }
def FnExactSaidFirstWrongFalsely : Prop := fnExactSaidFirstRow.holds Try.pinned (OpenSpec.ofChange fnExactSaidFirstWrong)

/-- 'laws.FnExactSameTogether': WHATEVER THE INPUT: true; the input reads as it did. -/
def fnExactSameTogetherSpec : ChangeSpec := { name := "fnExactSameTogether", fn := fun _ => fun
  | [d] => { results := [.lit (.bool true)], args := [d] }
  | _ => none }
def fnExactSameTogetherRow : OpenClaim := { program := "ytdodeillifoibaa", sum := "3eba4708d02aaa53454d7dc26efc1cd03b6351f0b10e33e3c2ed8745703ea3bd", func := "loop.example/g00183/laws.FnExactSameTogether", spec := "fnExactSameTogether", unfollowed := true, recurses := true, plainKeys := false, apart := false }
def FnExactSameTogetherSaid : Prop := fnExactSameTogetherRow.holds Try.pinned (OpenSpec.ofChange fnExactSameTogetherSpec)

/-- ITS FALSE NEIGHBOUR: 'it returns false'. Refute it at one input. -/
def fnExactSameTogetherWrong : ChangeSpec := { name := "fnExactSameTogether", fn := fun _ => fun
  | [d] => { results := [.lit (.bool false)], args := [d] }
  | _ => none }
def FnExactSameTogetherWrongFalsely : Prop := fnExactSameTogetherRow.holds Try.pinned (OpenSpec.ofChange fnExactSameTogetherWrong)

/-- 'laws.FnExactSafeKept': WHATEVER THE INPUT: true; the input reads as it did. -/
def fnExactSafeKeptSpec : ChangeSpec := { name := "fnExactSafeKept", fn := fun _ => fun
  | [d] => { results := [.lit (.bool true)], args := [d] }
  | _ => none }
def fnExactSafeKeptRow : OpenClaim := { program := "ytdodeillifoibaa", sum := "3eba4708d02aaa53454d7dc26efc1cd03b6351f0b10e33e3c2ed8745703ea3bd", func := "loop.example/g00183/laws.FnExactSafeKept", spec := "fnExactSafeKept", unfollowed := true, recurses := true, plainKeys := false, apart := false }
def FnExactSafeKeptSaid : Prop := fnExactSafeKeptRow.holds Try.pinned (OpenSpec.ofChange fnExactSafeKeptSpec)

/-- ITS FALSE NEIGHBOUR: 'it returns false'. Refute it at one input. -/
def fnExactSafeKeptWrong : ChangeSpec := { name := "fnExactSafeKept", fn := fun _ => fun
  | [d] => { results := [.lit (.bool false)], args := [d] }
  | _ => none }
def FnExactSafeKeptWrongFalsely : Prop := fnExactSafeKeptRow.holds Try.pinned (OpenSpec.ofChange fnExactSafeKeptWrong)

/- THE SECOND FORM. 'bulk': how many values and letters a reading holds, each counted each time it is reached (what is shared counts as often as it is met; a slice's spare places count too). A statement '..UptoSaid' is the law's where the arguments, and the package variables that the reading takes, are together of bulk at most 1048576: NARROWER than '..Said'. Prove '..Said' where nothing that the law and all that it calls make is longer than what came in: it says more and counts as full. Else prove '..UptoSaid'. A law counts once. -/
mutual
def uptoBulk {H : Type} : DataW H → Nat
  | .lit (.string bytes) => bytes.length + 1
  | .lit _ => 1
  | .nil => 1
  | .ptr d => uptoBulk d + 1
  | .slice elems spare => uptoBulkAll elems + uptoBulkAll spare + 1
  | .agg parts => uptoBulkAll parts + 1
  | .iface _ d => uptoBulk d + 1
  | .map entries => uptoBulkEntries entries + 1
  | .held _ => 1
def uptoBulkAll {H : Type} : List (DataW H) → Nat
  | [] => 0
  | d :: r => uptoBulk d + uptoBulkAll r
def uptoBulkEntries {H : Type} : List (Lit × DataW H) → Nat
  | [] => 0
  | x :: r => uptoBulkEntry x + uptoBulkEntries r
def uptoBulkEntry {H : Type} : Lit × DataW H → Nat
  | (.string bytes, d) => bytes.length + uptoBulk d + 1
  | (_, d) => uptoBulk d + 1
 end
def uptoSmall : (H : Type) → List (DataW H) → Bool := fun _ ds => decide (uptoBulkAll ds ≤ 1048576)
def OpenSpec.upto (s : _root_.Go.ChangeSpec) : _root_.Go.OpenSpec := { _root_.Go.OpenSpec.ofChange s with cond := some uptoSmall }

/-- 'laws.FnExactItemsOf', WHERE WHAT IT READS IS OF BULK AT MOST 1048576: true; the input reads as it did. -/
def fnExactItemsOfUptoRow : OpenClaim := { program := "ytdodeillifoibaa", sum := "3eba4708d02aaa53454d7dc26efc1cd03b6351f0b10e33e3c2ed8745703ea3bd", func := "loop.example/g00183/laws.FnExactItemsOf", spec := "fnExactItemsOf", plainKeys := false, apart := false, narrowed := true }
def FnExactItemsOfUptoSaid : Prop := fnExactItemsOfUptoRow.holds Try.pinned (OpenSpec.upto fnExactItemsOfSpec)

/-- 'laws.FnExactSaidFirst', WHERE WHAT IT READS IS OF BULK AT MOST 1048576: true; the input reads as it did. -/
def fnExactSaidFirstUptoRow : OpenClaim := { program := "ytdodeillifoibaa", sum := "3eba4708d02aaa53454d7dc26efc1cd03b6351f0b10e33e3c2ed8745703ea3bd", func := "loop.example/g00183/laws.FnExactSaidFirst", spec := "fnExactSaidFirst", unfollowed := true, recurses := true, plainKeys := false, apart := false, narrowed := true }
def FnExactSaidFirstUptoSaid : Prop := fnExactSaidFirstUptoRow.holds Try.pinned (OpenSpec.upto fnExactSaidFirstSpec)

/-- 'laws.FnExactSameTogether', WHERE WHAT IT READS IS OF BULK AT MOST 1048576: true; the input reads as it did. -/
def fnExactSameTogetherUptoRow : OpenClaim := { program := "ytdodeillifoibaa", sum := "3eba4708d02aaa53454d7dc26efc1cd03b6351f0b10e33e3c2ed8745703ea3bd", func := "loop.example/g00183/laws.FnExactSameTogether", spec := "fnExactSameTogether", unfollowed := true, recurses := true, plainKeys := false, apart := false, narrowed := true }
def FnExactSameTogetherUptoSaid : Prop := fnExactSameTogetherUptoRow.holds Try.pinned (OpenSpec.upto fnExactSameTogetherSpec)

/-- 'laws.FnExactSafeKept', WHERE WHAT IT READS IS OF BULK AT MOST 1048576: true; the input reads as it did. -/
def fnExactSafeKeptUptoRow : OpenClaim := { program := "ytdodeillifoibaa", sum := "3eba4708d02aaa53454d7dc26efc1cd03b6351f0b10e33e3c2ed8745703ea3bd", func := "loop.example/g00183/laws.FnExactSafeKept", spec := "fnExactSafeKept", unfollowed := true, recurses := true, plainKeys := false, apart := false, narrowed := true }
def FnExactSafeKeptUptoSaid : Prop := fnExactSafeKeptUptoRow.holds Try.pinned (OpenSpec.upto fnExactSafeKeptSpec)

end Rows
end Go.Proofs.Ytdodeillifoibaa
