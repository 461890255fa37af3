/-
  DERIVED. GIVEN WITH THE SEED: THE CARDS: each row of YtnpkkcbadcmgkaaDoorRows.lean that lists a variable, with what it lists TIED to the program's text (the seventh form; the later family's looks); each row that meets fmt, with fmt's text TOLD by the authors' own Lean function (tested against real Go, not proved from fmt's source: count such statements apart). THE CARD IS WHAT COUNTS. Prove the row's statement (the work); the ties are given (YtnpkkcbadcmgkaaDoorTie.lean); close each card by the builder's one call (the guide's Derived/Test/ToyasCard.lean, 'card_holds'). Laid BY PROGRAM, IN A SANDBOX (cutbox-door.mjs). By AI agents, Wed Nov 11 2026. No macro, syntax, notation, axiom, sorry.
-/
import Derived.Test.YtnpkkcbadcmgkaaDoorRows
import GoSem.ClaimSeven
namespace Go.Proofs.YtnpkkcbadcmgkaaDoor
namespace Rows

/-- THE TIED CARD OF 'mendlaw.Products'. -/
def productsCard : Claim7 := { stood := { row := productsRow, standIns := [], harness := (true, "2d0881f0500b2b64387df34db110cfc64aba804896a9499f680ab3078cf91687"), looks := true }, kinds := [], alts := [], laidByText := true, laidKinds := [.handle, .sentinel, .sentinel, .sentinel], laidTests := true, laidLooks := .later }
def ProductsCardSaid : Prop := Claim7.holds Tryd.pinned (.plain (OpenSpec.ofChange productsSpec)) productsCard

/-- THE TIED CARD OF 'mendlaw.Inverses'. -/
def inversesCard : Claim7 := { stood := { row := inversesRow, standIns := [], harness := (true, "2d0881f0500b2b64387df34db110cfc64aba804896a9499f680ab3078cf91687"), looks := true }, kinds := [], alts := [], laidByText := true, laidKinds := [.handle, .sentinel, .sentinel, .sentinel, .sentinel], laidTests := true, laidLooks := .later }
def InversesCardSaid : Prop := Claim7.holds Tryd.pinned (.plain (OpenSpec.ofChange inversesSpec)) inversesCard

/-- THE TIED CARD OF 'mendlaw.Rules'. -/
def rulesCard : Claim7 := { stood := { row := rulesRow, standIns := [], harness := (true, "2d0881f0500b2b64387df34db110cfc64aba804896a9499f680ab3078cf91687"), looks := true }, kinds := [], alts := [], laidByText := true, laidKinds := [.handle, .sentinel, .sentinel, .sentinel, .sentinel], laidTests := true, laidLooks := .later }
def RulesCardSaid : Prop := Claim7.holds Tryd.pinned (.plain (OpenSpec.ofChange rulesSpec)) rulesCard

/-- THE TIED CARD OF 'mendlaw.News'. -/
def newsCard : Claim7 := { stood := { row := newsRow, standIns := [], harness := (true, "2d0881f0500b2b64387df34db110cfc64aba804896a9499f680ab3078cf91687"), looks := true }, kinds := [], alts := [], laidByText := true, laidKinds := [.handle, .sentinel, .sentinel, .sentinel, .sentinel, .sentinel, .sentinel], laidTests := true, laidLooks := .later }
def NewsCardSaid : Prop := Claim7.holds Tryd.pinned (.plain (OpenSpec.ofChange newsSpec)) newsCard

/-- THE TIED CARD OF 'mendlaw.Checked'. -/
def checkedCard : Claim7 := { stood := { row := checkedRow, standIns := [], harness := (true, "2d0881f0500b2b64387df34db110cfc64aba804896a9499f680ab3078cf91687"), looks := true }, kinds := [], alts := [], laidByText := true, laidKinds := [.handle, .sentinel, .sentinel, .sentinel, .sentinel, .sentinel, .sentinel, .sentinel], laidTests := true, laidLooks := .later }
def CheckedCardSaid : Prop := Claim7.holds Tryd.pinned (.plain (OpenSpec.ofChange checkedSpec)) checkedCard

/-- THE TIED CARD OF 'mendlaw.Linear'. -/
def linearCard : Claim7 := { stood := { row := linearRow, standIns := [], harness := (true, "2d0881f0500b2b64387df34db110cfc64aba804896a9499f680ab3078cf91687"), looks := true }, kinds := [], alts := [], laidByText := true, laidKinds := [.handle, .sentinel, .sentinel, .sentinel, .sentinel, .sentinel, .sentinel, .sentinel], laidTests := true, laidLooks := .later }
def LinearCardSaid : Prop := Claim7.holds Tryd.pinned (.plain (OpenSpec.ofChange linearSpec)) linearCard

/-- THE TIED CARD OF 'mendlaw.Apart'. -/
def apartCard : Claim7 := { stood := { row := apartRow, standIns := [], harness := (true, "2d0881f0500b2b64387df34db110cfc64aba804896a9499f680ab3078cf91687"), looks := true }, kinds := [], alts := [], laidByText := true, laidKinds := [.handle, .sentinel, .sentinel, .sentinel, .sentinel, .sentinel, .sentinel, .sentinel], laidTests := true, laidLooks := .later }
def ApartCardSaid : Prop := Claim7.holds Tryd.pinned (.plain (OpenSpec.ofChange apartSpec)) apartCard

/-- THE TIED CARD OF 'mendlaw.Turned'. -/
def turnedCard : Claim7 := { stood := { row := turnedRow, standIns := [], harness := (true, "2d0881f0500b2b64387df34db110cfc64aba804896a9499f680ab3078cf91687"), looks := true }, kinds := [], alts := [], laidByText := true, laidKinds := [.handle, .sentinel, .sentinel, .sentinel, .sentinel, .sentinel, .sentinel, .sentinel], laidTests := true, laidLooks := .later }
def TurnedCardSaid : Prop := Claim7.holds Tryd.pinned (.plain (OpenSpec.ofChange turnedSpec)) turnedCard

/-- THE SECOND FORM's CARD OF 'mendlaw.Products'. -/
def productsUptoCard : Claim7 := { stood := { row := productsUptoRow, standIns := [], harness := (true, "2d0881f0500b2b64387df34db110cfc64aba804896a9499f680ab3078cf91687"), looks := true }, kinds := [], alts := [], laidByText := true, laidKinds := [.handle, .sentinel, .sentinel, .sentinel], laidTests := true, laidLooks := .later }
def ProductsUptoCardSaid : Prop := Claim7.holds Tryd.pinned (.plain (OpenSpec.upto productsSpec)) productsUptoCard

/-- THE SECOND FORM's CARD OF 'mendlaw.Inverses'. -/
def inversesUptoCard : Claim7 := { stood := { row := inversesUptoRow, standIns := [], harness := (true, "2d0881f0500b2b64387df34db110cfc64aba804896a9499f680ab3078cf91687"), looks := true }, kinds := [], alts := [], laidByText := true, laidKinds := [.handle, .sentinel, .sentinel, .sentinel, .sentinel], laidTests := true, laidLooks := .later }
def InversesUptoCardSaid : Prop := Claim7.holds Tryd.pinned (.plain (OpenSpec.upto inversesSpec)) inversesUptoCard

/-- THE SECOND FORM's CARD OF 'mendlaw.Rules'. -/
def rulesUptoCard : Claim7 := { stood := { row := rulesUptoRow, standIns := [], harness := (true, "2d0881f0500b2b64387df34db110cfc64aba804896a9499f680ab3078cf91687"), looks := true }, kinds := [], alts := [], laidByText := true, laidKinds := [.handle, .sentinel, .sentinel, .sentinel, .sentinel], laidTests := true, laidLooks := .later }
def RulesUptoCardSaid : Prop := Claim7.holds Tryd.pinned (.plain (OpenSpec.upto rulesSpec)) rulesUptoCard

/-- THE SECOND FORM's CARD OF 'mendlaw.News'. -/
def newsUptoCard : Claim7 := { stood := { row := newsUptoRow, standIns := [], harness := (true, "2d0881f0500b2b64387df34db110cfc64aba804896a9499f680ab3078cf91687"), looks := true }, kinds := [], alts := [], laidByText := true, laidKinds := [.handle, .sentinel, .sentinel, .sentinel, .sentinel, .sentinel, .sentinel], laidTests := true, laidLooks := .later }
def NewsUptoCardSaid : Prop := Claim7.holds Tryd.pinned (.plain (OpenSpec.upto newsSpec)) newsUptoCard

/-- THE SECOND FORM's CARD OF 'mendlaw.Checked'. -/
def checkedUptoCard : Claim7 := { stood := { row := checkedUptoRow, standIns := [], harness := (true, "2d0881f0500b2b64387df34db110cfc64aba804896a9499f680ab3078cf91687"), looks := true }, kinds := [], alts := [], laidByText := true, laidKinds := [.handle, .sentinel, .sentinel, .sentinel, .sentinel, .sentinel, .sentinel, .sentinel], laidTests := true, laidLooks := .later }
def CheckedUptoCardSaid : Prop := Claim7.holds Tryd.pinned (.plain (OpenSpec.upto checkedSpec)) checkedUptoCard

/-- THE SECOND FORM's CARD OF 'mendlaw.Linear'. -/
def linearUptoCard : Claim7 := { stood := { row := linearUptoRow, standIns := [], harness := (true, "2d0881f0500b2b64387df34db110cfc64aba804896a9499f680ab3078cf91687"), looks := true }, kinds := [], alts := [], laidByText := true, laidKinds := [.handle, .sentinel, .sentinel, .sentinel, .sentinel, .sentinel, .sentinel, .sentinel], laidTests := true, laidLooks := .later }
def LinearUptoCardSaid : Prop := Claim7.holds Tryd.pinned (.plain (OpenSpec.upto linearSpec)) linearUptoCard

/-- THE SECOND FORM's CARD OF 'mendlaw.Apart'. -/
def apartUptoCard : Claim7 := { stood := { row := apartUptoRow, standIns := [], harness := (true, "2d0881f0500b2b64387df34db110cfc64aba804896a9499f680ab3078cf91687"), looks := true }, kinds := [], alts := [], laidByText := true, laidKinds := [.handle, .sentinel, .sentinel, .sentinel, .sentinel, .sentinel, .sentinel, .sentinel], laidTests := true, laidLooks := .later }
def ApartUptoCardSaid : Prop := Claim7.holds Tryd.pinned (.plain (OpenSpec.upto apartSpec)) apartUptoCard

/-- THE SECOND FORM's CARD OF 'mendlaw.Turned'. -/
def turnedUptoCard : Claim7 := { stood := { row := turnedUptoRow, standIns := [], harness := (true, "2d0881f0500b2b64387df34db110cfc64aba804896a9499f680ab3078cf91687"), looks := true }, kinds := [], alts := [], laidByText := true, laidKinds := [.handle, .sentinel, .sentinel, .sentinel, .sentinel, .sentinel, .sentinel, .sentinel], laidTests := true, laidLooks := .later }
def TurnedUptoCardSaid : Prop := Claim7.holds Tryd.pinned (.plain (OpenSpec.upto turnedSpec)) turnedUptoCard
end Rows
end Go.Proofs.YtnpkkcbadcmgkaaDoor
