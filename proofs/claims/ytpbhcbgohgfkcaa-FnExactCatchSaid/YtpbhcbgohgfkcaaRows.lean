/-
  No cell of these rows narrows 'for every input' (looked for: loops, veiled, ifaces, maps, wideKeys, modest, calm, conditions, laid).
  DERIVED. THE GIVEN ROWS OF THIS SEAT. 7 by the template 'for every input the law returns true; each argument reads behind the call as it read before'; 0 by the template 'total and deterministic' (their statements: YtpbhcbgohgfkcaaTotals.lean).
  GIVEN WITH THE SEED: the statements are not yours to turn. If you find one false, say at which input.
  Laid BY PROGRAM, IN A SANDBOX (cutbox-rows.mjs): the forced cells as the released guide's own fill.sh prints them over the translation ef183bf9dad23e90… (all of the seat's roots in one cut). By AI agents, Wed Nov 11 2026. No macro, syntax, notation, axiom, sorry.
-/
import Derived.Test.YtpbhcbgohgfkcaaChecked
import GoSem.Claim
import GoSem.ClaimJoined
import GoSem.ClaimMapViews
import Derived.JoinedTies
import Derived.KernelRfl
namespace Go.Proofs.Ytpbhcbgohgfkcaa
/- THE CELL 'sum', in the pinned program and in every row, IS THE sha256 OF THE DUMP (.gsa) THAT YtpbhcbgohgfkcaaProg.lean LOADS. Nothing in Lean hashes anything: it is a label: what it is worth is what the hold of that sum in a sandbox is worth. -/
noncomputable def Try.pinned : Pinned := { name := "ytpbhcbgohgfkcaa", sum := "ef183bf9dad23e90304d160577d56d9e66885c9e520568289487b419f3918344", checked := Try.checked }
namespace Rows
def none {H : Type} : Left H := { results := [], args := [] }

/-- 'laws.FnHears': WHATEVER THE INPUT: true; the input reads as it did. -/
def fnHearsSpec : ChangeSpec := { name := "fnHears", fn := fun _ => fun
  | [d] => { results := [.lit (.bool true)], args := [d] }
  | _ => none }
def fnHearsRow : OpenClaim := { program := "ytpbhcbgohgfkcaa", sum := "ef183bf9dad23e90304d160577d56d9e66885c9e520568289487b419f3918344", func := "loop.example/g00183/laws.FnHears", spec := "fnHears", unfollowed := true, recurses := true, apart := false }
def FnHearsSaid : Prop := fnHearsRow.holds Try.pinned (OpenSpec.ofChange fnHearsSpec)

/-- ITS FALSE NEIGHBOUR: 'it returns false'. Refute it at one input. -/
def fnHearsWrong : ChangeSpec := { name := "fnHears", fn := fun _ => fun
  | [d] => { results := [.lit (.bool false)], args := [d] }
  | _ => none }
def FnHearsWrongFalsely : Prop := fnHearsRow.holds Try.pinned (OpenSpec.ofChange fnHearsWrong)

/-- 'laws.FnSays': WHATEVER THE INPUT: true; the input reads as it did. -/
def fnSaysSpec : ChangeSpec := { name := "fnSays", fn := fun _ => fun
  | [d] => { results := [.lit (.bool true)], args := [d] }
  | _ => none }
def fnSaysRow : OpenClaim := { program := "ytpbhcbgohgfkcaa", sum := "ef183bf9dad23e90304d160577d56d9e66885c9e520568289487b419f3918344", func := "loop.example/g00183/laws.FnSays", spec := "fnSays", inPlace := ["slices.overlaps[loop.example/g00183/impl.Item]"], unfollowed := true, recurses := true, apart := false }
def FnSaysSaid : Prop := fnSaysRow.holds Try.pinned (OpenSpec.ofChange fnSaysSpec)

/-- ITS FALSE NEIGHBOUR: 'it returns false'. Refute it at one input. -/
def fnSaysWrong : ChangeSpec := { name := "fnSays", fn := fun _ => fun
  | [d] => { results := [.lit (.bool false)], args := [d] }
  | _ => none }
def FnSaysWrongFalsely : Prop := fnSaysRow.holds Try.pinned (OpenSpec.ofChange fnSaysWrong)

/-- 'laws.FnCatches': WHATEVER THE INPUT: true; the input reads as it did. -/
def fnCatchesSpec : ChangeSpec := { name := "fnCatches", fn := fun _ => fun
  | [d] => { results := [.lit (.bool true)], args := [d] }
  | _ => none }
def fnCatchesRow : OpenClaim := { program := "ytpbhcbgohgfkcaa", sum := "ef183bf9dad23e90304d160577d56d9e66885c9e520568289487b419f3918344", func := "loop.example/g00183/laws.FnCatches", spec := "fnCatches", inPlace := ["slices.overlaps[loop.example/g00183/impl.Item]"], unfollowed := true, recurses := true, apart := false }
def FnCatchesSaid : Prop := fnCatchesRow.holds Try.pinned (OpenSpec.ofChange fnCatchesSpec)

/-- ITS FALSE NEIGHBOUR: 'it returns false'. Refute it at one input. -/
def fnCatchesWrong : ChangeSpec := { name := "fnCatches", fn := fun _ => fun
  | [d] => { results := [.lit (.bool false)], args := [d] }
  | _ => none }
def FnCatchesWrongFalsely : Prop := fnCatchesRow.holds Try.pinned (OpenSpec.ofChange fnCatchesWrong)

/-- 'laws.FnExactMateNew': WHATEVER THE INPUT: true; the input reads as it did. -/
def fnExactMateNewSpec : ChangeSpec := { name := "fnExactMateNew", fn := fun _ => fun
  | [d1, d2] => { results := [.lit (.bool true)], args := [d1, d2] }
  | _ => none }
def fnExactMateNewRow : OpenClaim := { program := "ytpbhcbgohgfkcaa", sum := "ef183bf9dad23e90304d160577d56d9e66885c9e520568289487b419f3918344", func := "loop.example/g00183/laws.FnExactMateNew", spec := "fnExactMateNew", apart := false }
def FnExactMateNewSaid : Prop := fnExactMateNewRow.holds Try.pinned (OpenSpec.ofChange fnExactMateNewSpec)

/-- ITS FALSE NEIGHBOUR: 'it returns false'. Refute it at one input. -/
def fnExactMateNewWrong : ChangeSpec := { name := "fnExactMateNew", fn := fun _ => fun
  | [d1, d2] => { results := [.lit (.bool false)], args := [d1, d2] }
  | _ => none }
def FnExactMateNewWrongFalsely : Prop := fnExactMateNewRow.holds Try.pinned (OpenSpec.ofChange fnExactMateNewWrong)

/-- 'laws.FnExactMateOk': WHATEVER THE INPUT: true; the input reads as it did. -/
def fnExactMateOkSpec : ChangeSpec := { name := "fnExactMateOk", fn := fun _ => fun
  | [d] => { results := [.lit (.bool true)], args := [d] }
  | _ => none }
def fnExactMateOkRow : OpenClaim := { program := "ytpbhcbgohgfkcaa", sum := "ef183bf9dad23e90304d160577d56d9e66885c9e520568289487b419f3918344", func := "loop.example/g00183/laws.FnExactMateOk", spec := "fnExactMateOk", unfollowed := true, recurses := true, apart := false }
def FnExactMateOkSaid : Prop := fnExactMateOkRow.holds Try.pinned (OpenSpec.ofChange fnExactMateOkSpec)

/-- ITS FALSE NEIGHBOUR: 'it returns false'. Refute it at one input. -/
def fnExactMateOkWrong : ChangeSpec := { name := "fnExactMateOk", fn := fun _ => fun
  | [d] => { results := [.lit (.bool false)], args := [d] }
  | _ => none }
def FnExactMateOkWrongFalsely : Prop := fnExactMateOkRow.holds Try.pinned (OpenSpec.ofChange fnExactMateOkWrong)

/-- 'laws.FnExactSay': WHATEVER THE INPUT: true; the input reads as it did. -/
def fnExactSaySpec : ChangeSpec := { name := "fnExactSay", fn := fun _ => fun
  | [d1, d2, d3] => { results := [.lit (.bool true)], args := [d1, d2, d3] }
  | _ => none }
def fnExactSayRow : OpenClaim := { program := "ytpbhcbgohgfkcaa", sum := "ef183bf9dad23e90304d160577d56d9e66885c9e520568289487b419f3918344", func := "loop.example/g00183/laws.FnExactSay", spec := "fnExactSay", unfollowed := true, recurses := true, apart := false }
def FnExactSaySaid : Prop := fnExactSayRow.holds Try.pinned (OpenSpec.ofChange fnExactSaySpec)

/-- ITS FALSE NEIGHBOUR: 'it returns false'. Refute it at one input. -/
def fnExactSayWrong : ChangeSpec := { name := "fnExactSay", fn := fun _ => fun
  | [d1, d2, d3] => { results := [.lit (.bool false)], args := [d1, d2, d3] }
  | _ => none }
def FnExactSayWrongFalsely : Prop := fnExactSayRow.holds Try.pinned (OpenSpec.ofChange fnExactSayWrong)

/-- 'laws.FnExactCatch': WHATEVER THE INPUT: true; the input reads as it did. -/
def fnExactCatchSpec : ChangeSpec := { name := "fnExactCatch", fn := fun _ => fun
  | [d1, d2] => { results := [.lit (.bool true)], args := [d1, d2] }
  | _ => none }
def fnExactCatchRow : OpenClaim := { program := "ytpbhcbgohgfkcaa", sum := "ef183bf9dad23e90304d160577d56d9e66885c9e520568289487b419f3918344", func := "loop.example/g00183/laws.FnExactCatch", spec := "fnExactCatch", inPlace := ["slices.overlaps[loop.example/g00183/impl.Item]"], unfollowed := true, recurses := true, apart := false }
def FnExactCatchSaid : Prop := fnExactCatchRow.holds Try.pinned (OpenSpec.ofChange fnExactCatchSpec)

/-- ITS FALSE NEIGHBOUR: 'it returns false'. Refute it at one input. -/
def fnExactCatchWrong : ChangeSpec := { name := "fnExactCatch", fn := fun _ => fun
  | [d1, d2] => { results := [.lit (.bool false)], args := [d1, d2] }
  | _ => none }
def FnExactCatchWrongFalsely : Prop := fnExactCatchRow.holds Try.pinned (OpenSpec.ofChange fnExactCatchWrong)

/- THE SECOND FORM. 'bulk': how many values and letters a reading holds, each counted each time it is reached (what is shared counts as often as it is met; a slice's spare places count too). A statement '..UptoSaid' is the law's where the arguments, and the package variables that the reading takes, are together of bulk at most 1048576: NARROWER than '..Said'. Prove '..Said' where nothing that the law and all that it calls make is longer than what came in: it says more and counts as full. Else prove '..UptoSaid'. A law counts once. -/
mutual
def uptoBulk {H : Type} : DataW H → Nat
  | .lit (.string bytes) => bytes.length + 1
  | .lit _ => 1
  | .nil => 1
  | .ptr d => uptoBulk d + 1
  | .slice elems spare => uptoBulkAll elems + uptoBulkAll spare + 1
  | .agg parts => uptoBulkAll parts + 1
  | .iface _ d => uptoBulk d + 1
  | .map entries => uptoBulkEntries entries + 1
  | .held _ => 1
def uptoBulkAll {H : Type} : List (DataW H) → Nat
  | [] => 0
  | d :: r => uptoBulk d + uptoBulkAll r
def uptoBulkEntries {H : Type} : List (Lit × DataW H) → Nat
  | [] => 0
  | x :: r => uptoBulkEntry x + uptoBulkEntries r
def uptoBulkEntry {H : Type} : Lit × DataW H → Nat
  | (.string bytes, d) => bytes.length + uptoBulk d + 1
  | (_, d) => uptoBulk d + 1
 end
def uptoSmall : (H : Type) → List (DataW H) → Bool := fun _ ds => decide (uptoBulkAll ds ≤ 1048576)
def OpenSpec.upto (s : _root_.Go.ChangeSpec) : _root_.Go.OpenSpec := { _root_.Go.OpenSpec.ofChange s with cond := some uptoSmall }

/-- 'laws.FnHears', WHERE WHAT IT READS IS OF BULK AT MOST 1048576: true; the input reads as it did. -/
def fnHearsUptoRow : OpenClaim := { program := "ytpbhcbgohgfkcaa", sum := "ef183bf9dad23e90304d160577d56d9e66885c9e520568289487b419f3918344", func := "loop.example/g00183/laws.FnHears", spec := "fnHears", unfollowed := true, recurses := true, apart := false, narrowed := true }
def FnHearsUptoSaid : Prop := fnHearsUptoRow.holds Try.pinned (OpenSpec.upto fnHearsSpec)

/-- 'laws.FnSays', WHERE WHAT IT READS IS OF BULK AT MOST 1048576: true; the input reads as it did. -/
def fnSaysUptoRow : OpenClaim := { program := "ytpbhcbgohgfkcaa", sum := "ef183bf9dad23e90304d160577d56d9e66885c9e520568289487b419f3918344", func := "loop.example/g00183/laws.FnSays", spec := "fnSays", inPlace := ["slices.overlaps[loop.example/g00183/impl.Item]"], unfollowed := true, recurses := true, apart := false, narrowed := true }
def FnSaysUptoSaid : Prop := fnSaysUptoRow.holds Try.pinned (OpenSpec.upto fnSaysSpec)

/-- 'laws.FnCatches', WHERE WHAT IT READS IS OF BULK AT MOST 1048576: true; the input reads as it did. -/
def fnCatchesUptoRow : OpenClaim := { program := "ytpbhcbgohgfkcaa", sum := "ef183bf9dad23e90304d160577d56d9e66885c9e520568289487b419f3918344", func := "loop.example/g00183/laws.FnCatches", spec := "fnCatches", inPlace := ["slices.overlaps[loop.example/g00183/impl.Item]"], unfollowed := true, recurses := true, apart := false, narrowed := true }
def FnCatchesUptoSaid : Prop := fnCatchesUptoRow.holds Try.pinned (OpenSpec.upto fnCatchesSpec)

/-- 'laws.FnExactMateNew', WHERE WHAT IT READS IS OF BULK AT MOST 1048576: true; the input reads as it did. -/
def fnExactMateNewUptoRow : OpenClaim := { program := "ytpbhcbgohgfkcaa", sum := "ef183bf9dad23e90304d160577d56d9e66885c9e520568289487b419f3918344", func := "loop.example/g00183/laws.FnExactMateNew", spec := "fnExactMateNew", apart := false, narrowed := true }
def FnExactMateNewUptoSaid : Prop := fnExactMateNewUptoRow.holds Try.pinned (OpenSpec.upto fnExactMateNewSpec)

/-- 'laws.FnExactMateOk', WHERE WHAT IT READS IS OF BULK AT MOST 1048576: true; the input reads as it did. -/
def fnExactMateOkUptoRow : OpenClaim := { program := "ytpbhcbgohgfkcaa", sum := "ef183bf9dad23e90304d160577d56d9e66885c9e520568289487b419f3918344", func := "loop.example/g00183/laws.FnExactMateOk", spec := "fnExactMateOk", unfollowed := true, recurses := true, apart := false, narrowed := true }
def FnExactMateOkUptoSaid : Prop := fnExactMateOkUptoRow.holds Try.pinned (OpenSpec.upto fnExactMateOkSpec)

/-- 'laws.FnExactSay', WHERE WHAT IT READS IS OF BULK AT MOST 1048576: true; the input reads as it did. -/
def fnExactSayUptoRow : OpenClaim := { program := "ytpbhcbgohgfkcaa", sum := "ef183bf9dad23e90304d160577d56d9e66885c9e520568289487b419f3918344", func := "loop.example/g00183/laws.FnExactSay", spec := "fnExactSay", unfollowed := true, recurses := true, apart := false, narrowed := true }
def FnExactSayUptoSaid : Prop := fnExactSayUptoRow.holds Try.pinned (OpenSpec.upto fnExactSaySpec)

/-- 'laws.FnExactCatch', WHERE WHAT IT READS IS OF BULK AT MOST 1048576: true; the input reads as it did. -/
def fnExactCatchUptoRow : OpenClaim := { program := "ytpbhcbgohgfkcaa", sum := "ef183bf9dad23e90304d160577d56d9e66885c9e520568289487b419f3918344", func := "loop.example/g00183/laws.FnExactCatch", spec := "fnExactCatch", inPlace := ["slices.overlaps[loop.example/g00183/impl.Item]"], unfollowed := true, recurses := true, apart := false, narrowed := true }
def FnExactCatchUptoSaid : Prop := fnExactCatchUptoRow.holds Try.pinned (OpenSpec.upto fnExactCatchSpec)

end Rows
end Go.Proofs.Ytpbhcbgohgfkcaa
