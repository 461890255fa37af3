/-
  DERIVED. GIVEN WITH THE SEED: THE CARDS: each row of YtfcodbbencjncaaDoorRows.lean that lists a variable, with what it lists TIED to the program's text (the seventh form; the later family's looks); each row that meets fmt, with fmt's text TOLD by the authors' own Lean function (tested against real Go, not proved from fmt's source: count such statements apart). THE CARD IS WHAT COUNTS. Prove the row's statement (the work); the ties are given (YtfcodbbencjncaaDoorTie.lean); close each card by the builder's one call (the guide's Derived/Test/ToyasCard.lean, 'card_holds'). Laid BY PROGRAM, IN A SANDBOX (cutbox-door.mjs). By AI agents, Wed Nov 11 2026. No macro, syntax, notation, axiom, sorry.
-/
import Derived.Test.YtfcodbbencjncaaDoorRows
import GoSem.ClaimSeven
namespace Go.Proofs.YtfcodbbencjncaaDoor
namespace Rows

/-- THE TIED CARD OF 'mendlaw.Products'. -/
def productsCard : Claim7 := { stood := { row := productsRow, standIns := [], harness := (true, "cd2d1f65da2d1f2f5720c829539e19206997d8c9b97fb9efd22ea460b8762010"), looks := true }, kinds := [], alts := [], laidByText := true, laidKinds := [.handle, .sentinel, .sentinel, .sentinel, .sentinel], laidTests := true, laidLooks := .later }
def ProductsCardSaid : Prop := Claim7.holds Tryd.pinned (.plain (OpenSpec.ofChange productsSpec)) productsCard

/-- THE TIED CARD OF 'mendlaw.Inverses'. -/
def inversesCard : Claim7 := { stood := { row := inversesRow, standIns := [], harness := (true, "cd2d1f65da2d1f2f5720c829539e19206997d8c9b97fb9efd22ea460b8762010"), looks := true }, kinds := [], alts := [], laidByText := true, laidKinds := [.handle, .sentinel, .sentinel, .sentinel, .sentinel], laidTests := true, laidLooks := .later }
def InversesCardSaid : Prop := Claim7.holds Tryd.pinned (.plain (OpenSpec.ofChange inversesSpec)) inversesCard

/-- THE TIED CARD OF 'mendlaw.Rules'. -/
def rulesCard : Claim7 := { stood := { row := rulesRow, standIns := [], harness := (true, "cd2d1f65da2d1f2f5720c829539e19206997d8c9b97fb9efd22ea460b8762010"), looks := true }, kinds := [], alts := [], laidByText := true, laidKinds := [.handle, .sentinel, .sentinel, .sentinel, .sentinel], laidTests := true, laidLooks := .later }
def RulesCardSaid : Prop := Claim7.holds Tryd.pinned (.plain (OpenSpec.ofChange rulesSpec)) rulesCard

/-- THE SECOND FORM's CARD OF 'mendlaw.Products'. -/
def productsUptoCard : Claim7 := { stood := { row := productsUptoRow, standIns := [], harness := (true, "cd2d1f65da2d1f2f5720c829539e19206997d8c9b97fb9efd22ea460b8762010"), looks := true }, kinds := [], alts := [], laidByText := true, laidKinds := [.handle, .sentinel, .sentinel, .sentinel, .sentinel], laidTests := true, laidLooks := .later }
def ProductsUptoCardSaid : Prop := Claim7.holds Tryd.pinned (.plain (OpenSpec.upto productsSpec)) productsUptoCard

/-- THE SECOND FORM's CARD OF 'mendlaw.Inverses'. -/
def inversesUptoCard : Claim7 := { stood := { row := inversesUptoRow, standIns := [], harness := (true, "cd2d1f65da2d1f2f5720c829539e19206997d8c9b97fb9efd22ea460b8762010"), looks := true }, kinds := [], alts := [], laidByText := true, laidKinds := [.handle, .sentinel, .sentinel, .sentinel, .sentinel], laidTests := true, laidLooks := .later }
def InversesUptoCardSaid : Prop := Claim7.holds Tryd.pinned (.plain (OpenSpec.upto inversesSpec)) inversesUptoCard

/-- THE SECOND FORM's CARD OF 'mendlaw.Rules'. -/
def rulesUptoCard : Claim7 := { stood := { row := rulesUptoRow, standIns := [], harness := (true, "cd2d1f65da2d1f2f5720c829539e19206997d8c9b97fb9efd22ea460b8762010"), looks := true }, kinds := [], alts := [], laidByText := true, laidKinds := [.handle, .sentinel, .sentinel, .sentinel, .sentinel], laidTests := true, laidLooks := .later }
def RulesUptoCardSaid : Prop := Claim7.holds Tryd.pinned (.plain (OpenSpec.upto rulesSpec)) rulesUptoCard
end Rows
end Go.Proofs.YtfcodbbencjncaaDoor
