/-
  NARROWER THAN 'FOR EVERY INPUT', by the rows' own cells (each row's printed sentence says how): Products: laid · Inverses: laid · Rules: laid · News: laid · Checked: laid · Linear: laid · Apart: laid · Turned: laid.
  DERIVED. THE GIVEN ROWS OF THIS SEAT. 8 by the template 'for every input the law returns true; each argument reads behind the call as it read before'; 0 by the template 'total and deterministic' (their statements: YtnpkkcbadcmgkaaDoorTotals.lean).
  GIVEN WITH THE SEED: the statements are not yours to turn. If you find one false, say at which input.
  Laid BY PROGRAM, IN A SANDBOX (cutbox-rows.mjs): the forced cells as the released guide's own fill.sh prints them over the translation df5e4462902e9592… (all of the seat's roots in one cut). By AI agents, Wed Nov 11 2026. No macro, syntax, notation, axiom, sorry.
-/
import Derived.Test.YtnpkkcbadcmgkaaDoorChecked
import GoSem.Claim
import GoSem.ClaimJoined
import GoSem.ClaimMapViews
import Derived.JoinedTies
import Derived.KernelRfl
namespace Go.Proofs.YtnpkkcbadcmgkaaDoor
/- THE CELL 'sum', in the pinned program and in every row, IS THE sha256 OF THE DUMP (.gsa) THAT YtnpkkcbadcmgkaaDoorProg.lean LOADS. Nothing in Lean hashes anything: it is a label: what it is worth is what the hold of that sum in a sandbox is worth. -/
noncomputable def Tryd.pinned : Pinned := { name := "ytnpkkcbadcmgkaadoor", sum := "df5e4462902e95924acd92244cf71143a2c87a8c33f23f2cec72f00605a2277f", checked := Tryd.checked }
namespace Rows
def none {H : Type} : Left H := { results := [], args := [] }

/- WHAT THE LISTED PACKAGE-LEVEL VARIABLES READ AS WHEN THE CALL BEGINS. Each datum BY PROGRAM (the guide's laid-datum.mjs) off the statement by which the dump's own 'gosem.cut.vars' lays the variable. In a bare row this is a premise. The card (YtnpkkcbadcmgkaaDoorCards.lean) ties it to the program's text. -/
def laid_errors_errorType {H : Type} : DataW H := .iface "internal/reflectlite.rtype" (.agg [.ptr (.lit (.string [101, 114, 114, 111, 114]))])
def laid_mend_field_ErrDegree {H : Type} : DataW H := .iface "*errors.errorString" (.ptr (.agg [.lit (.string [102, 105, 101, 108, 100, 58, 32, 109, 32, 105, 115, 32, 110, 111, 116, 32, 102, 114, 111, 109, 32, 51, 32, 116, 111, 32, 56])]))
def laid_mend_field_ErrModulus {H : Type} : DataW H := .iface "*errors.errorString" (.ptr (.agg [.lit (.string [102, 105, 101, 108, 100, 58, 32, 116, 104, 101, 32, 109, 111, 100, 117, 108, 117, 115, 32, 104, 97, 115, 32, 97, 110, 111, 116, 104, 101, 114, 32, 104, 105, 103, 104, 101, 115, 116, 32, 98, 105, 116, 32, 111, 114, 32, 105, 115, 32, 110, 111, 116, 32, 112, 114, 105, 109, 105, 116, 105, 118, 101])]))
def laid_mend_field_ErrElement {H : Type} : DataW H := .iface "*errors.errorString" (.ptr (.agg [.lit (.string [102, 105, 101, 108, 100, 58, 32, 110, 111, 32, 101, 108, 101, 109, 101, 110, 116])]))
def laid_mend_field_ErrZero {H : Type} : DataW H := .iface "*errors.errorString" (.ptr (.agg [.lit (.string [102, 105, 101, 108, 100, 58, 32, 48, 32, 104, 97, 115, 32, 110, 111, 32, 105, 110, 118, 101, 114, 115, 101])]))
def laid_mend_field_ErrBit {H : Type} : DataW H := .iface "*errors.errorString" (.ptr (.agg [.lit (.string [102, 105, 101, 108, 100, 58, 32, 110, 101, 105, 116, 104, 101, 114, 32, 48, 32, 110, 111, 114, 32, 49])]))
def laid_mend_mend_errRange {H : Type} : DataW H := .iface "*errors.errorString" (.ptr (.agg [.lit (.string [109, 101, 110, 100, 58, 32, 111, 117, 116, 115, 105, 100, 101, 32, 105, 116, 115, 32, 114, 97, 110, 103, 101])]))
def laid_mend_mend_errNoMessage {H : Type} : DataW H := .iface "*errors.errorString" (.ptr (.agg [.lit (.string [109, 101, 110, 100, 58, 32, 110, 111, 32, 115, 121, 109, 98, 111, 108, 32, 105, 115, 32, 108, 101, 102, 116, 32, 102, 111, 114, 32, 97, 32, 109, 101, 115, 115, 97, 103, 101])]))
def laid_mend_mend_errSize {H : Type} : DataW H := .iface "*errors.errorString" (.ptr (.agg [.lit (.string [109, 101, 110, 100, 58, 32, 116, 111, 111, 32, 109, 97, 110, 121, 32, 115, 121, 109, 98, 111, 108, 115, 32, 111, 114, 32, 116, 111, 111, 32, 102, 101, 119])]))

/-- 'mendlaw.Products': WHATEVER THE INPUT: true; the input reads as it did. -/
def productsSpec : ChangeSpec := { name := "products", fn := fun _ => fun
  | [d1, d2, d3, d4] => { results := [.lit (.bool true)], args := [d1, d2, d3, d4] }
  | _ => none }
def productsRow : OpenClaim := { program := "ytnpkkcbadcmgkaadoor", sum := "df5e4462902e95924acd92244cf71143a2c87a8c33f23f2cec72f00605a2277f", func := "mend/mendlaw.Products", spec := "products", inPlace := ["internal/reflectlite.TypeOf", "internal/reflectlite.ValueOf", "(internal/reflectlite.Value).Type", "(internal/reflectlite.Value).IsNil", "(internal/reflectlite.Value).Elem", "(internal/reflectlite.Value).Set"], unfollowed := true, recurses := true, named := ["mend/field.ErrDegree", "mend/field.ErrModulus", "mend/field.ErrElement", "errors.errorType"], apart := false, laid := [("errors.errorType", laid_errors_errorType), ("mend/field.ErrDegree", laid_mend_field_ErrDegree), ("mend/field.ErrModulus", laid_mend_field_ErrModulus), ("mend/field.ErrElement", laid_mend_field_ErrElement)] }
def ProductsSaid : Prop := productsRow.holds Tryd.pinned (OpenSpec.ofChange productsSpec)

/-- ITS FALSE NEIGHBOUR: 'it returns false'. Refute it at one input. -/
def productsWrong : ChangeSpec := { name := "products", fn := fun _ => fun
  | [d1, d2, d3, d4] => { results := [.lit (.bool false)], args := [d1, d2, d3, d4] }
  | _ => none }
def ProductsWrongFalsely : Prop := productsRow.holds Tryd.pinned (OpenSpec.ofChange productsWrong)

/-- 'mendlaw.Inverses': WHATEVER THE INPUT: true; the input reads as it did. -/
def inversesSpec : ChangeSpec := { name := "inverses", fn := fun _ => fun
  | [d1, d2, d3] => { results := [.lit (.bool true)], args := [d1, d2, d3] }
  | _ => none }
def inversesRow : OpenClaim := { program := "ytnpkkcbadcmgkaadoor", sum := "df5e4462902e95924acd92244cf71143a2c87a8c33f23f2cec72f00605a2277f", func := "mend/mendlaw.Inverses", spec := "inverses", inPlace := ["internal/reflectlite.TypeOf", "internal/reflectlite.ValueOf", "(internal/reflectlite.Value).Type", "(internal/reflectlite.Value).IsNil", "(internal/reflectlite.Value).Elem", "(internal/reflectlite.Value).Set"], unfollowed := true, recurses := true, named := ["mend/field.ErrDegree", "mend/field.ErrModulus", "mend/field.ErrZero", "mend/field.ErrElement", "errors.errorType"], apart := false, laid := [("errors.errorType", laid_errors_errorType), ("mend/field.ErrDegree", laid_mend_field_ErrDegree), ("mend/field.ErrModulus", laid_mend_field_ErrModulus), ("mend/field.ErrElement", laid_mend_field_ErrElement), ("mend/field.ErrZero", laid_mend_field_ErrZero)] }
def InversesSaid : Prop := inversesRow.holds Tryd.pinned (OpenSpec.ofChange inversesSpec)

/-- ITS FALSE NEIGHBOUR: 'it returns false'. Refute it at one input. -/
def inversesWrong : ChangeSpec := { name := "inverses", fn := fun _ => fun
  | [d1, d2, d3] => { results := [.lit (.bool false)], args := [d1, d2, d3] }
  | _ => none }
def InversesWrongFalsely : Prop := inversesRow.holds Tryd.pinned (OpenSpec.ofChange inversesWrong)

/-- 'mendlaw.Rules': WHATEVER THE INPUT: true; the input reads as it did. -/
def rulesSpec : ChangeSpec := { name := "rules", fn := fun _ => fun
  | [d1, d2, d3, d4, d5] => { results := [.lit (.bool true)], args := [d1, d2, d3, d4, d5] }
  | _ => none }
def rulesRow : OpenClaim := { program := "ytnpkkcbadcmgkaadoor", sum := "df5e4462902e95924acd92244cf71143a2c87a8c33f23f2cec72f00605a2277f", func := "mend/mendlaw.Rules", spec := "rules", inPlace := ["internal/reflectlite.TypeOf", "internal/reflectlite.ValueOf", "(internal/reflectlite.Value).Type", "(internal/reflectlite.Value).IsNil", "(internal/reflectlite.Value).Elem", "(internal/reflectlite.Value).Set"], unfollowed := true, recurses := true, named := ["mend/field.ErrDegree", "mend/field.ErrModulus", "mend/field.ErrElement", "errors.errorType", "mend/field.ErrZero"], apart := false, laid := [("errors.errorType", laid_errors_errorType), ("mend/field.ErrDegree", laid_mend_field_ErrDegree), ("mend/field.ErrModulus", laid_mend_field_ErrModulus), ("mend/field.ErrElement", laid_mend_field_ErrElement), ("mend/field.ErrZero", laid_mend_field_ErrZero)] }
def RulesSaid : Prop := rulesRow.holds Tryd.pinned (OpenSpec.ofChange rulesSpec)

/-- ITS FALSE NEIGHBOUR: 'it returns false'. Refute it at one input. -/
def rulesWrong : ChangeSpec := { name := "rules", fn := fun _ => fun
  | [d1, d2, d3, d4, d5] => { results := [.lit (.bool false)], args := [d1, d2, d3, d4, d5] }
  | _ => none }
def RulesWrongFalsely : Prop := rulesRow.holds Tryd.pinned (OpenSpec.ofChange rulesWrong)

/-- 'mendlaw.News': WHATEVER THE INPUT: true; the input reads as it did. -/
def newsSpec : ChangeSpec := { name := "news", fn := fun _ => fun
  | [d] => { results := [.lit (.bool true)], args := [d] }
  | _ => none }
def newsRow : OpenClaim := { program := "ytnpkkcbadcmgkaadoor", sum := "df5e4462902e95924acd92244cf71143a2c87a8c33f23f2cec72f00605a2277f", func := "mend/mendlaw.News", spec := "news", inPlace := ["internal/reflectlite.TypeOf", "internal/reflectlite.ValueOf", "(internal/reflectlite.Value).Type", "(internal/reflectlite.Value).IsNil", "(internal/reflectlite.Value).Elem", "(internal/reflectlite.Value).Set"], unfollowed := true, recurses := true, named := ["mend/mend.errNoMessage", "mend/field.ErrDegree", "mend/field.ErrModulus", "mend/mend.errRange", "mend/field.ErrBit", "mend/field.ErrElement", "errors.errorType"], apart := false, laid := [("errors.errorType", laid_errors_errorType), ("mend/field.ErrDegree", laid_mend_field_ErrDegree), ("mend/field.ErrModulus", laid_mend_field_ErrModulus), ("mend/field.ErrElement", laid_mend_field_ErrElement), ("mend/field.ErrBit", laid_mend_field_ErrBit), ("mend/mend.errRange", laid_mend_mend_errRange), ("mend/mend.errNoMessage", laid_mend_mend_errNoMessage)] }
def NewsSaid : Prop := newsRow.holds Tryd.pinned (OpenSpec.ofChange newsSpec)

/-- ITS FALSE NEIGHBOUR: 'it returns false'. Refute it at one input. -/
def newsWrong : ChangeSpec := { name := "news", fn := fun _ => fun
  | [d] => { results := [.lit (.bool false)], args := [d] }
  | _ => none }
def NewsWrongFalsely : Prop := newsRow.holds Tryd.pinned (OpenSpec.ofChange newsWrong)

/-- 'mendlaw.Checked': WHATEVER THE INPUT: true; the input reads as it did. -/
def checkedSpec : ChangeSpec := { name := "checked", fn := fun _ => fun
  | [d1, d2] => { results := [.lit (.bool true)], args := [d1, d2] }
  | _ => none }
def checkedRow : OpenClaim := { program := "ytnpkkcbadcmgkaadoor", sum := "df5e4462902e95924acd92244cf71143a2c87a8c33f23f2cec72f00605a2277f", func := "mend/mendlaw.Checked", spec := "checked", inPlace := ["internal/reflectlite.TypeOf", "internal/reflectlite.ValueOf", "(internal/reflectlite.Value).Type", "(internal/reflectlite.Value).IsNil", "(internal/reflectlite.Value).Elem", "(internal/reflectlite.Value).Set"], unfollowed := true, recurses := true, named := ["mend/mend.errNoMessage", "mend/field.ErrDegree", "mend/field.ErrModulus", "mend/mend.errRange", "mend/field.ErrBit", "mend/field.ErrElement", "errors.errorType", "mend/mend.errSize"], apart := false, laid := [("errors.errorType", laid_errors_errorType), ("mend/field.ErrDegree", laid_mend_field_ErrDegree), ("mend/field.ErrModulus", laid_mend_field_ErrModulus), ("mend/field.ErrElement", laid_mend_field_ErrElement), ("mend/field.ErrBit", laid_mend_field_ErrBit), ("mend/mend.errRange", laid_mend_mend_errRange), ("mend/mend.errNoMessage", laid_mend_mend_errNoMessage), ("mend/mend.errSize", laid_mend_mend_errSize)] }
def CheckedSaid : Prop := checkedRow.holds Tryd.pinned (OpenSpec.ofChange checkedSpec)

/-- ITS FALSE NEIGHBOUR: 'it returns false'. Refute it at one input. -/
def checkedWrong : ChangeSpec := { name := "checked", fn := fun _ => fun
  | [d1, d2] => { results := [.lit (.bool false)], args := [d1, d2] }
  | _ => none }
def CheckedWrongFalsely : Prop := checkedRow.holds Tryd.pinned (OpenSpec.ofChange checkedWrong)

/-- 'mendlaw.Linear': WHATEVER THE INPUT: true; the input reads as it did. -/
def linearSpec : ChangeSpec := { name := "linear", fn := fun _ => fun
  | [d1, d2, d3] => { results := [.lit (.bool true)], args := [d1, d2, d3] }
  | _ => none }
def linearRow : OpenClaim := { program := "ytnpkkcbadcmgkaadoor", sum := "df5e4462902e95924acd92244cf71143a2c87a8c33f23f2cec72f00605a2277f", func := "mend/mendlaw.Linear", spec := "linear", inPlace := ["internal/reflectlite.TypeOf", "internal/reflectlite.ValueOf", "(internal/reflectlite.Value).Type", "(internal/reflectlite.Value).IsNil", "(internal/reflectlite.Value).Elem", "(internal/reflectlite.Value).Set"], unfollowed := true, recurses := true, named := ["mend/mend.errNoMessage", "mend/field.ErrDegree", "mend/field.ErrModulus", "mend/mend.errRange", "mend/field.ErrBit", "mend/field.ErrElement", "errors.errorType", "mend/mend.errSize"], apart := false, laid := [("errors.errorType", laid_errors_errorType), ("mend/field.ErrDegree", laid_mend_field_ErrDegree), ("mend/field.ErrModulus", laid_mend_field_ErrModulus), ("mend/field.ErrElement", laid_mend_field_ErrElement), ("mend/field.ErrBit", laid_mend_field_ErrBit), ("mend/mend.errRange", laid_mend_mend_errRange), ("mend/mend.errNoMessage", laid_mend_mend_errNoMessage), ("mend/mend.errSize", laid_mend_mend_errSize)] }
def LinearSaid : Prop := linearRow.holds Tryd.pinned (OpenSpec.ofChange linearSpec)

/-- ITS FALSE NEIGHBOUR: 'it returns false'. Refute it at one input. -/
def linearWrong : ChangeSpec := { name := "linear", fn := fun _ => fun
  | [d1, d2, d3] => { results := [.lit (.bool false)], args := [d1, d2, d3] }
  | _ => none }
def LinearWrongFalsely : Prop := linearRow.holds Tryd.pinned (OpenSpec.ofChange linearWrong)

/-- 'mendlaw.Apart': WHATEVER THE INPUT: true; the input reads as it did. -/
def apartSpec : ChangeSpec := { name := "apart", fn := fun _ => fun
  | [d1, d2, d3] => { results := [.lit (.bool true)], args := [d1, d2, d3] }
  | _ => none }
def apartRow : OpenClaim := { program := "ytnpkkcbadcmgkaadoor", sum := "df5e4462902e95924acd92244cf71143a2c87a8c33f23f2cec72f00605a2277f", func := "mend/mendlaw.Apart", spec := "apart", inPlace := ["internal/reflectlite.TypeOf", "internal/reflectlite.ValueOf", "(internal/reflectlite.Value).Type", "(internal/reflectlite.Value).IsNil", "(internal/reflectlite.Value).Elem", "(internal/reflectlite.Value).Set"], unfollowed := true, recurses := true, named := ["mend/mend.errNoMessage", "mend/field.ErrDegree", "mend/field.ErrModulus", "mend/mend.errRange", "mend/field.ErrBit", "mend/field.ErrElement", "errors.errorType", "mend/mend.errSize"], apart := false, laid := [("errors.errorType", laid_errors_errorType), ("mend/field.ErrDegree", laid_mend_field_ErrDegree), ("mend/field.ErrModulus", laid_mend_field_ErrModulus), ("mend/field.ErrElement", laid_mend_field_ErrElement), ("mend/field.ErrBit", laid_mend_field_ErrBit), ("mend/mend.errRange", laid_mend_mend_errRange), ("mend/mend.errNoMessage", laid_mend_mend_errNoMessage), ("mend/mend.errSize", laid_mend_mend_errSize)] }
def ApartSaid : Prop := apartRow.holds Tryd.pinned (OpenSpec.ofChange apartSpec)

/-- ITS FALSE NEIGHBOUR: 'it returns false'. Refute it at one input. -/
def apartWrong : ChangeSpec := { name := "apart", fn := fun _ => fun
  | [d1, d2, d3] => { results := [.lit (.bool false)], args := [d1, d2, d3] }
  | _ => none }
def ApartWrongFalsely : Prop := apartRow.holds Tryd.pinned (OpenSpec.ofChange apartWrong)

/-- 'mendlaw.Turned': WHATEVER THE INPUT: true; the input reads as it did. -/
def turnedSpec : ChangeSpec := { name := "turned", fn := fun _ => fun
  | [d1, d2] => { results := [.lit (.bool true)], args := [d1, d2] }
  | _ => none }
def turnedRow : OpenClaim := { program := "ytnpkkcbadcmgkaadoor", sum := "df5e4462902e95924acd92244cf71143a2c87a8c33f23f2cec72f00605a2277f", func := "mend/mendlaw.Turned", spec := "turned", inPlace := ["internal/reflectlite.TypeOf", "internal/reflectlite.ValueOf", "(internal/reflectlite.Value).Type", "(internal/reflectlite.Value).IsNil", "(internal/reflectlite.Value).Elem", "(internal/reflectlite.Value).Set"], unfollowed := true, recurses := true, named := ["mend/mend.errNoMessage", "mend/field.ErrDegree", "mend/field.ErrModulus", "mend/mend.errRange", "mend/field.ErrBit", "mend/field.ErrElement", "errors.errorType", "mend/mend.errSize"], apart := false, laid := [("errors.errorType", laid_errors_errorType), ("mend/field.ErrDegree", laid_mend_field_ErrDegree), ("mend/field.ErrModulus", laid_mend_field_ErrModulus), ("mend/field.ErrElement", laid_mend_field_ErrElement), ("mend/field.ErrBit", laid_mend_field_ErrBit), ("mend/mend.errRange", laid_mend_mend_errRange), ("mend/mend.errNoMessage", laid_mend_mend_errNoMessage), ("mend/mend.errSize", laid_mend_mend_errSize)] }
def TurnedSaid : Prop := turnedRow.holds Tryd.pinned (OpenSpec.ofChange turnedSpec)

/-- ITS FALSE NEIGHBOUR: 'it returns false'. Refute it at one input. -/
def turnedWrong : ChangeSpec := { name := "turned", fn := fun _ => fun
  | [d1, d2] => { results := [.lit (.bool false)], args := [d1, d2] }
  | _ => none }
def TurnedWrongFalsely : Prop := turnedRow.holds Tryd.pinned (OpenSpec.ofChange turnedWrong)

/- THE SECOND FORM. 'bulk': how many values and letters a reading holds, each counted each time it is reached (what is shared counts as often as it is met; a slice's spare places count too). A statement '..UptoSaid' is the law's where the arguments, and the package variables that the reading takes, are together of bulk at most 1048576: NARROWER than '..Said'. Prove '..Said' where nothing that the law and all that it calls make is longer than what came in: it says more and counts as full. Else prove '..UptoSaid'. A law counts once. -/
mutual
def uptoBulk {H : Type} : DataW H → Nat
  | .lit (.string bytes) => bytes.length + 1
  | .lit _ => 1
  | .nil => 1
  | .ptr d => uptoBulk d + 1
  | .slice elems spare => uptoBulkAll elems + uptoBulkAll spare + 1
  | .agg parts => uptoBulkAll parts + 1
  | .iface _ d => uptoBulk d + 1
  | .map entries => uptoBulkEntries entries + 1
  | .held _ => 1
def uptoBulkAll {H : Type} : List (DataW H) → Nat
  | [] => 0
  | d :: r => uptoBulk d + uptoBulkAll r
def uptoBulkEntries {H : Type} : List (Lit × DataW H) → Nat
  | [] => 0
  | x :: r => uptoBulkEntry x + uptoBulkEntries r
def uptoBulkEntry {H : Type} : Lit × DataW H → Nat
  | (.string bytes, d) => bytes.length + uptoBulk d + 1
  | (_, d) => uptoBulk d + 1
 end
def uptoSmall : (H : Type) → List (DataW H) → Bool := fun _ ds => decide (uptoBulkAll ds ≤ 1048576)
def OpenSpec.upto (s : _root_.Go.ChangeSpec) : _root_.Go.OpenSpec := { _root_.Go.OpenSpec.ofChange s with cond := some uptoSmall }

/-- 'mendlaw.Products', WHERE WHAT IT READS IS OF BULK AT MOST 1048576: true; the input reads as it did. -/
def productsUptoRow : OpenClaim := { program := "ytnpkkcbadcmgkaadoor", sum := "df5e4462902e95924acd92244cf71143a2c87a8c33f23f2cec72f00605a2277f", func := "mend/mendlaw.Products", spec := "products", inPlace := ["internal/reflectlite.TypeOf", "internal/reflectlite.ValueOf", "(internal/reflectlite.Value).Type", "(internal/reflectlite.Value).IsNil", "(internal/reflectlite.Value).Elem", "(internal/reflectlite.Value).Set"], unfollowed := true, recurses := true, named := ["mend/field.ErrDegree", "mend/field.ErrModulus", "mend/field.ErrElement", "errors.errorType"], apart := false, laid := [("errors.errorType", laid_errors_errorType), ("mend/field.ErrDegree", laid_mend_field_ErrDegree), ("mend/field.ErrModulus", laid_mend_field_ErrModulus), ("mend/field.ErrElement", laid_mend_field_ErrElement)], narrowed := true }
def ProductsUptoSaid : Prop := productsUptoRow.holds Tryd.pinned (OpenSpec.upto productsSpec)

/-- 'mendlaw.Inverses', WHERE WHAT IT READS IS OF BULK AT MOST 1048576: true; the input reads as it did. -/
def inversesUptoRow : OpenClaim := { program := "ytnpkkcbadcmgkaadoor", sum := "df5e4462902e95924acd92244cf71143a2c87a8c33f23f2cec72f00605a2277f", func := "mend/mendlaw.Inverses", spec := "inverses", inPlace := ["internal/reflectlite.TypeOf", "internal/reflectlite.ValueOf", "(internal/reflectlite.Value).Type", "(internal/reflectlite.Value).IsNil", "(internal/reflectlite.Value).Elem", "(internal/reflectlite.Value).Set"], unfollowed := true, recurses := true, named := ["mend/field.ErrDegree", "mend/field.ErrModulus", "mend/field.ErrZero", "mend/field.ErrElement", "errors.errorType"], apart := false, laid := [("errors.errorType", laid_errors_errorType), ("mend/field.ErrDegree", laid_mend_field_ErrDegree), ("mend/field.ErrModulus", laid_mend_field_ErrModulus), ("mend/field.ErrElement", laid_mend_field_ErrElement), ("mend/field.ErrZero", laid_mend_field_ErrZero)], narrowed := true }
def InversesUptoSaid : Prop := inversesUptoRow.holds Tryd.pinned (OpenSpec.upto inversesSpec)

/-- 'mendlaw.Rules', WHERE WHAT IT READS IS OF BULK AT MOST 1048576: true; the input reads as it did. -/
def rulesUptoRow : OpenClaim := { program := "ytnpkkcbadcmgkaadoor", sum := "df5e4462902e95924acd92244cf71143a2c87a8c33f23f2cec72f00605a2277f", func := "mend/mendlaw.Rules", spec := "rules", inPlace := ["internal/reflectlite.TypeOf", "internal/reflectlite.ValueOf", "(internal/reflectlite.Value).Type", "(internal/reflectlite.Value).IsNil", "(internal/reflectlite.Value).Elem", "(internal/reflectlite.Value).Set"], unfollowed := true, recurses := true, named := ["mend/field.ErrDegree", "mend/field.ErrModulus", "mend/field.ErrElement", "errors.errorType", "mend/field.ErrZero"], apart := false, laid := [("errors.errorType", laid_errors_errorType), ("mend/field.ErrDegree", laid_mend_field_ErrDegree), ("mend/field.ErrModulus", laid_mend_field_ErrModulus), ("mend/field.ErrElement", laid_mend_field_ErrElement), ("mend/field.ErrZero", laid_mend_field_ErrZero)], narrowed := true }
def RulesUptoSaid : Prop := rulesUptoRow.holds Tryd.pinned (OpenSpec.upto rulesSpec)

/-- 'mendlaw.News', WHERE WHAT IT READS IS OF BULK AT MOST 1048576: true; the input reads as it did. -/
def newsUptoRow : OpenClaim := { program := "ytnpkkcbadcmgkaadoor", sum := "df5e4462902e95924acd92244cf71143a2c87a8c33f23f2cec72f00605a2277f", func := "mend/mendlaw.News", spec := "news", inPlace := ["internal/reflectlite.TypeOf", "internal/reflectlite.ValueOf", "(internal/reflectlite.Value).Type", "(internal/reflectlite.Value).IsNil", "(internal/reflectlite.Value).Elem", "(internal/reflectlite.Value).Set"], unfollowed := true, recurses := true, named := ["mend/mend.errNoMessage", "mend/field.ErrDegree", "mend/field.ErrModulus", "mend/mend.errRange", "mend/field.ErrBit", "mend/field.ErrElement", "errors.errorType"], apart := false, laid := [("errors.errorType", laid_errors_errorType), ("mend/field.ErrDegree", laid_mend_field_ErrDegree), ("mend/field.ErrModulus", laid_mend_field_ErrModulus), ("mend/field.ErrElement", laid_mend_field_ErrElement), ("mend/field.ErrBit", laid_mend_field_ErrBit), ("mend/mend.errRange", laid_mend_mend_errRange), ("mend/mend.errNoMessage", laid_mend_mend_errNoMessage)], narrowed := true }
def NewsUptoSaid : Prop := newsUptoRow.holds Tryd.pinned (OpenSpec.upto newsSpec)

/-- 'mendlaw.Checked', WHERE WHAT IT READS IS OF BULK AT MOST 1048576: true; the input reads as it did. -/
def checkedUptoRow : OpenClaim := { program := "ytnpkkcbadcmgkaadoor", sum := "df5e4462902e95924acd92244cf71143a2c87a8c33f23f2cec72f00605a2277f", func := "mend/mendlaw.Checked", spec := "checked", inPlace := ["internal/reflectlite.TypeOf", "internal/reflectlite.ValueOf", "(internal/reflectlite.Value).Type", "(internal/reflectlite.Value).IsNil", "(internal/reflectlite.Value).Elem", "(internal/reflectlite.Value).Set"], unfollowed := true, recurses := true, named := ["mend/mend.errNoMessage", "mend/field.ErrDegree", "mend/field.ErrModulus", "mend/mend.errRange", "mend/field.ErrBit", "mend/field.ErrElement", "errors.errorType", "mend/mend.errSize"], apart := false, laid := [("errors.errorType", laid_errors_errorType), ("mend/field.ErrDegree", laid_mend_field_ErrDegree), ("mend/field.ErrModulus", laid_mend_field_ErrModulus), ("mend/field.ErrElement", laid_mend_field_ErrElement), ("mend/field.ErrBit", laid_mend_field_ErrBit), ("mend/mend.errRange", laid_mend_mend_errRange), ("mend/mend.errNoMessage", laid_mend_mend_errNoMessage), ("mend/mend.errSize", laid_mend_mend_errSize)], narrowed := true }
def CheckedUptoSaid : Prop := checkedUptoRow.holds Tryd.pinned (OpenSpec.upto checkedSpec)

/-- 'mendlaw.Linear', WHERE WHAT IT READS IS OF BULK AT MOST 1048576: true; the input reads as it did. -/
def linearUptoRow : OpenClaim := { program := "ytnpkkcbadcmgkaadoor", sum := "df5e4462902e95924acd92244cf71143a2c87a8c33f23f2cec72f00605a2277f", func := "mend/mendlaw.Linear", spec := "linear", inPlace := ["internal/reflectlite.TypeOf", "internal/reflectlite.ValueOf", "(internal/reflectlite.Value).Type", "(internal/reflectlite.Value).IsNil", "(internal/reflectlite.Value).Elem", "(internal/reflectlite.Value).Set"], unfollowed := true, recurses := true, named := ["mend/mend.errNoMessage", "mend/field.ErrDegree", "mend/field.ErrModulus", "mend/mend.errRange", "mend/field.ErrBit", "mend/field.ErrElement", "errors.errorType", "mend/mend.errSize"], apart := false, laid := [("errors.errorType", laid_errors_errorType), ("mend/field.ErrDegree", laid_mend_field_ErrDegree), ("mend/field.ErrModulus", laid_mend_field_ErrModulus), ("mend/field.ErrElement", laid_mend_field_ErrElement), ("mend/field.ErrBit", laid_mend_field_ErrBit), ("mend/mend.errRange", laid_mend_mend_errRange), ("mend/mend.errNoMessage", laid_mend_mend_errNoMessage), ("mend/mend.errSize", laid_mend_mend_errSize)], narrowed := true }
def LinearUptoSaid : Prop := linearUptoRow.holds Tryd.pinned (OpenSpec.upto linearSpec)

/-- 'mendlaw.Apart', WHERE WHAT IT READS IS OF BULK AT MOST 1048576: true; the input reads as it did. -/
def apartUptoRow : OpenClaim := { program := "ytnpkkcbadcmgkaadoor", sum := "df5e4462902e95924acd92244cf71143a2c87a8c33f23f2cec72f00605a2277f", func := "mend/mendlaw.Apart", spec := "apart", inPlace := ["internal/reflectlite.TypeOf", "internal/reflectlite.ValueOf", "(internal/reflectlite.Value).Type", "(internal/reflectlite.Value).IsNil", "(internal/reflectlite.Value).Elem", "(internal/reflectlite.Value).Set"], unfollowed := true, recurses := true, named := ["mend/mend.errNoMessage", "mend/field.ErrDegree", "mend/field.ErrModulus", "mend/mend.errRange", "mend/field.ErrBit", "mend/field.ErrElement", "errors.errorType", "mend/mend.errSize"], apart := false, laid := [("errors.errorType", laid_errors_errorType), ("mend/field.ErrDegree", laid_mend_field_ErrDegree), ("mend/field.ErrModulus", laid_mend_field_ErrModulus), ("mend/field.ErrElement", laid_mend_field_ErrElement), ("mend/field.ErrBit", laid_mend_field_ErrBit), ("mend/mend.errRange", laid_mend_mend_errRange), ("mend/mend.errNoMessage", laid_mend_mend_errNoMessage), ("mend/mend.errSize", laid_mend_mend_errSize)], narrowed := true }
def ApartUptoSaid : Prop := apartUptoRow.holds Tryd.pinned (OpenSpec.upto apartSpec)

/-- 'mendlaw.Turned', WHERE WHAT IT READS IS OF BULK AT MOST 1048576: true; the input reads as it did. -/
def turnedUptoRow : OpenClaim := { program := "ytnpkkcbadcmgkaadoor", sum := "df5e4462902e95924acd92244cf71143a2c87a8c33f23f2cec72f00605a2277f", func := "mend/mendlaw.Turned", spec := "turned", inPlace := ["internal/reflectlite.TypeOf", "internal/reflectlite.ValueOf", "(internal/reflectlite.Value).Type", "(internal/reflectlite.Value).IsNil", "(internal/reflectlite.Value).Elem", "(internal/reflectlite.Value).Set"], unfollowed := true, recurses := true, named := ["mend/mend.errNoMessage", "mend/field.ErrDegree", "mend/field.ErrModulus", "mend/mend.errRange", "mend/field.ErrBit", "mend/field.ErrElement", "errors.errorType", "mend/mend.errSize"], apart := false, laid := [("errors.errorType", laid_errors_errorType), ("mend/field.ErrDegree", laid_mend_field_ErrDegree), ("mend/field.ErrModulus", laid_mend_field_ErrModulus), ("mend/field.ErrElement", laid_mend_field_ErrElement), ("mend/field.ErrBit", laid_mend_field_ErrBit), ("mend/mend.errRange", laid_mend_mend_errRange), ("mend/mend.errNoMessage", laid_mend_mend_errNoMessage), ("mend/mend.errSize", laid_mend_mend_errSize)], narrowed := true }
def TurnedUptoSaid : Prop := turnedUptoRow.holds Tryd.pinned (OpenSpec.upto turnedSpec)

end Rows
end Go.Proofs.YtnpkkcbadcmgkaaDoor
