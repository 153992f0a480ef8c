/-
  DERIVED. GIVEN WITH THE SEED: THE CARDS: each row of YtbdnnmcjnfbloaaDoorRows.lean that lists a variable, with what it lists TIED to the program's text (the seventh form; the later family's looks); each row that meets fmt, with fmt's text TOLD by the authors' own Lean function (tested against real Go, not proved from fmt's source: count such statements apart). THE CARD IS WHAT COUNTS. Prove the row's statement (the work); the ties are given (YtbdnnmcjnfbloaaDoorTie.lean); close each card by the builder's one call (the guide's Derived/Test/ToyasCard.lean, 'card_holds'). Laid BY PROGRAM, IN A SANDBOX (cutbox-door.mjs). By AI agents, Wed Nov 11 2026. No macro, syntax, notation, axiom, sorry.
-/
import Derived.Test.YtbdnnmcjnfbloaaDoorRows
import GoSem.ClaimSeven
namespace Go.Proofs.YtbdnnmcjnfbloaaDoor
namespace Rows

/-- THE TIED CARD OF 'laws.FnPrivates'. -/
def fnPrivatesCard : Claim7 := { stood := { row := fnPrivatesRow, standIns := [], harness := (true, "c00c29be81331461c93f60349f152a7358221961aea5d4b93fdc698c0429bbf0"), looks := false }, kinds := [], alts := [], laidByText := true, laidKinds := [.data, .data, .data], laidTests := true, laidLooks := .later }
def FnPrivatesCardSaid : Prop := Claim7.holds Tryd.pinned (.plain (OpenSpec.ofChange fnPrivatesSpec)) fnPrivatesCard

/-- THE TIED CARD OF 'laws.FnExactPrivateName'. -/
def fnExactPrivateNameCard : Claim7 := { stood := { row := fnExactPrivateNameRow, standIns := [], harness := (true, "c00c29be81331461c93f60349f152a7358221961aea5d4b93fdc698c0429bbf0"), looks := false }, kinds := [], alts := [], laidByText := true, laidKinds := [.data, .data, .data], laidTests := true, laidLooks := .later }
def FnExactPrivateNameCardSaid : Prop := Claim7.holds Tryd.pinned (.plain (OpenSpec.ofChange fnExactPrivateNameSpec)) fnExactPrivateNameCard

/-- THE TIED CARD OF 'laws.FnExactSplitPrivate'. -/
def fnExactSplitPrivateCard : Claim7 := { stood := { row := fnExactSplitPrivateRow, standIns := [], harness := (true, "c00c29be81331461c93f60349f152a7358221961aea5d4b93fdc698c0429bbf0"), looks := false }, kinds := [], alts := [], laidByText := true, laidKinds := [.data, .data, .data], laidTests := true, laidLooks := .later }
def FnExactSplitPrivateCardSaid : Prop := Claim7.holds Tryd.pinned (.plain (OpenSpec.ofChange fnExactSplitPrivateSpec)) fnExactSplitPrivateCard

/-- THE SECOND FORM's CARD OF 'laws.FnPrivates'. -/
def fnPrivatesUptoCard : Claim7 := { stood := { row := fnPrivatesUptoRow, standIns := [], harness := (true, "c00c29be81331461c93f60349f152a7358221961aea5d4b93fdc698c0429bbf0"), looks := false }, kinds := [], alts := [], laidByText := true, laidKinds := [.data, .data, .data], laidTests := true, laidLooks := .later }
def FnPrivatesUptoCardSaid : Prop := Claim7.holds Tryd.pinned (.plain (OpenSpec.upto fnPrivatesSpec)) fnPrivatesUptoCard

/-- THE SECOND FORM's CARD OF 'laws.FnExactPrivateName'. -/
def fnExactPrivateNameUptoCard : Claim7 := { stood := { row := fnExactPrivateNameUptoRow, standIns := [], harness := (true, "c00c29be81331461c93f60349f152a7358221961aea5d4b93fdc698c0429bbf0"), looks := false }, kinds := [], alts := [], laidByText := true, laidKinds := [.data, .data, .data], laidTests := true, laidLooks := .later }
def FnExactPrivateNameUptoCardSaid : Prop := Claim7.holds Tryd.pinned (.plain (OpenSpec.upto fnExactPrivateNameSpec)) fnExactPrivateNameUptoCard

/-- THE SECOND FORM's CARD OF 'laws.FnExactSplitPrivate'. -/
def fnExactSplitPrivateUptoCard : Claim7 := { stood := { row := fnExactSplitPrivateUptoRow, standIns := [], harness := (true, "c00c29be81331461c93f60349f152a7358221961aea5d4b93fdc698c0429bbf0"), looks := false }, kinds := [], alts := [], laidByText := true, laidKinds := [.data, .data, .data], laidTests := true, laidLooks := .later }
def FnExactSplitPrivateUptoCardSaid : Prop := Claim7.holds Tryd.pinned (.plain (OpenSpec.upto fnExactSplitPrivateSpec)) fnExactSplitPrivateUptoCard
end Rows
end Go.Proofs.YtbdnnmcjnfbloaaDoor
