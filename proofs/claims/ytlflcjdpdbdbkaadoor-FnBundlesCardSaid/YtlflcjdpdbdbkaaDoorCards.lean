/-
  DERIVED. GIVEN WITH THE SEED: THE CARDS: each row of YtlflcjdpdbdbkaaDoorRows.lean that lists a variable, with what it lists TIED to the program's text (the seventh form; the later family's looks); each row that meets fmt, with fmt's text TOLD by the authors' own Lean function (tested against real Go, not proved from fmt's source: count such statements apart). THE CARD IS WHAT COUNTS. Prove the row's statement (the work); the ties are given (YtlflcjdpdbdbkaaDoorTie.lean); close each card by the builder's one call (the guide's Derived/Test/ToyasCard.lean, 'card_holds'). Laid BY PROGRAM, IN A SANDBOX (cutbox-door.mjs). By AI agents, Wed Nov 11 2026. No macro, syntax, notation, axiom, sorry.
-/
import Derived.Test.YtlflcjdpdbdbkaaDoorRows
import GoSem.ClaimSeven
namespace Go.Proofs.YtlflcjdpdbdbkaaDoor
namespace Rows

/-- THE TIED CARD OF 'laws.FnBundles'. -/
def fnBundlesCard : Claim7 := { stood := { row := fnBundlesRow, standIns := [], harness := (true, "cebd21fac5450be56541b0a538986fd524c530e888a1497799c05f47ddfa6ff6"), looks := false }, kinds := [], alts := [], laidByText := true, laidKinds := [.data], laidTests := true, laidLooks := .later }
def FnBundlesCardSaid : Prop := Claim7.holds Tryd.pinned (.plain (OpenSpec.ofChange fnBundlesSpec)) fnBundlesCard

/-- THE TIED CARD OF 'laws.FnExactBundleText'. -/
def fnExactBundleTextCard : Claim7 := { stood := { row := fnExactBundleTextRow, standIns := [], harness := (true, "cebd21fac5450be56541b0a538986fd524c530e888a1497799c05f47ddfa6ff6"), looks := false }, kinds := [], alts := [], laidByText := true, laidKinds := [.data], laidTests := true, laidLooks := .later }
def FnExactBundleTextCardSaid : Prop := Claim7.holds Tryd.pinned (.plain (OpenSpec.ofChange fnExactBundleTextSpec)) fnExactBundleTextCard

/-- THE TIED CARD OF 'laws.FnExactReadBundle'. -/
def fnExactReadBundleCard : Claim7 := { stood := { row := fnExactReadBundleRow, standIns := [], harness := (true, "cebd21fac5450be56541b0a538986fd524c530e888a1497799c05f47ddfa6ff6"), looks := false }, kinds := [], alts := [], laidByText := true, laidKinds := [.data], laidTests := true, laidLooks := .later }
def FnExactReadBundleCardSaid : Prop := Claim7.holds Tryd.pinned (.plain (OpenSpec.ofChange fnExactReadBundleSpec)) fnExactReadBundleCard

/-- THE SECOND FORM's CARD OF 'laws.FnBundles'. -/
def fnBundlesUptoCard : Claim7 := { stood := { row := fnBundlesUptoRow, standIns := [], harness := (true, "cebd21fac5450be56541b0a538986fd524c530e888a1497799c05f47ddfa6ff6"), looks := false }, kinds := [], alts := [], laidByText := true, laidKinds := [.data], laidTests := true, laidLooks := .later }
def FnBundlesUptoCardSaid : Prop := Claim7.holds Tryd.pinned (.plain (OpenSpec.upto fnBundlesSpec)) fnBundlesUptoCard

/-- THE SECOND FORM's CARD OF 'laws.FnExactBundleText'. -/
def fnExactBundleTextUptoCard : Claim7 := { stood := { row := fnExactBundleTextUptoRow, standIns := [], harness := (true, "cebd21fac5450be56541b0a538986fd524c530e888a1497799c05f47ddfa6ff6"), looks := false }, kinds := [], alts := [], laidByText := true, laidKinds := [.data], laidTests := true, laidLooks := .later }
def FnExactBundleTextUptoCardSaid : Prop := Claim7.holds Tryd.pinned (.plain (OpenSpec.upto fnExactBundleTextSpec)) fnExactBundleTextUptoCard

/-- THE SECOND FORM's CARD OF 'laws.FnExactReadBundle'. -/
def fnExactReadBundleUptoCard : Claim7 := { stood := { row := fnExactReadBundleUptoRow, standIns := [], harness := (true, "cebd21fac5450be56541b0a538986fd524c530e888a1497799c05f47ddfa6ff6"), looks := false }, kinds := [], alts := [], laidByText := true, laidKinds := [.data], laidTests := true, laidLooks := .later }
def FnExactReadBundleUptoCardSaid : Prop := Claim7.holds Tryd.pinned (.plain (OpenSpec.upto fnExactReadBundleSpec)) fnExactReadBundleUptoCard
end Rows
end Go.Proofs.YtlflcjdpdbdbkaaDoor
