/-
  NARROWER THAN 'FOR EVERY INPUT', by the rows' own cells (each row's printed sentence says how): All: laid.
  DERIVED. THE GIVEN ROWS OF THIS SEAT. 1 by the template 'for every input the law returns true; each argument reads behind the call as it read before'; 0 by the template 'total and deterministic' (their statements: YtnpkkcbadcmgkabGreatDoorTotals.lean).
  GIVEN WITH THE SEED: the statements are not yours to turn. If you find one false, say at which input.
  Laid BY PROGRAM, IN A SANDBOX (cutbox-rows.mjs): the forced cells as the released guide's own fill.sh prints them over the translation 90ec6213370706da… (all of the seat's roots in one cut). By AI agents, Wed Nov 11 2026. No macro, syntax, notation, axiom, sorry.
-/
import Derived.Test.YtnpkkcbadcmgkabGreatDoorChecked
import GoSem.Claim
import GoSem.ClaimJoined
import GoSem.ClaimMapViews
import Derived.JoinedTies
import Derived.KernelRfl
namespace Go.Proofs.YtnpkkcbadcmgkabGreatDoor
/- THE CELL 'sum', in the pinned program and in every row, IS THE sha256 OF THE DUMP (.gsa) THAT YtnpkkcbadcmgkabGreatDoorProg.lean LOADS. Nothing in Lean hashes anything: it is a label: what it is worth is what the hold of that sum in a sandbox is worth. -/
noncomputable def Tryz.pinned : Pinned := { name := "ytnpkkcbadcmgkabgreatdoor", sum := "90ec6213370706da92520420fb782f91b4ffc483a0a36a032256cbc656f9b890", checked := Tryz.checked }
namespace Rows
def none {H : Type} : Left H := { results := [], args := [] }

/- WHAT THE LISTED PACKAGE-LEVEL VARIABLES READ AS WHEN THE CALL BEGINS. Each datum BY PROGRAM (the guide's laid-datum.mjs) off the statement by which the dump's own 'gosem.cut.vars' lays the variable. In a bare row this is a premise. The card (YtnpkkcbadcmgkabGreatDoorCards.lean) ties it to the program's text. -/
def laid_errors_errorType {H : Type} : DataW H := .iface "internal/reflectlite.rtype" (.agg [.ptr (.lit (.string [101, 114, 114, 111, 114]))])
def laid_mend_field_ErrDegree {H : Type} : DataW H := .iface "*errors.errorString" (.ptr (.agg [.lit (.string [102, 105, 101, 108, 100, 58, 32, 109, 32, 105, 115, 32, 110, 111, 116, 32, 102, 114, 111, 109, 32, 51, 32, 116, 111, 32, 56])]))
def laid_mend_field_ErrModulus {H : Type} : DataW H := .iface "*errors.errorString" (.ptr (.agg [.lit (.string [102, 105, 101, 108, 100, 58, 32, 116, 104, 101, 32, 109, 111, 100, 117, 108, 117, 115, 32, 104, 97, 115, 32, 97, 110, 111, 116, 104, 101, 114, 32, 104, 105, 103, 104, 101, 115, 116, 32, 98, 105, 116, 32, 111, 114, 32, 105, 115, 32, 110, 111, 116, 32, 112, 114, 105, 109, 105, 116, 105, 118, 101])]))
def laid_mend_field_ErrElement {H : Type} : DataW H := .iface "*errors.errorString" (.ptr (.agg [.lit (.string [102, 105, 101, 108, 100, 58, 32, 110, 111, 32, 101, 108, 101, 109, 101, 110, 116])]))
def laid_mend_field_ErrBit {H : Type} : DataW H := .iface "*errors.errorString" (.ptr (.agg [.lit (.string [102, 105, 101, 108, 100, 58, 32, 110, 101, 105, 116, 104, 101, 114, 32, 48, 32, 110, 111, 114, 32, 49])]))
def laid_mend_mend_errRange {H : Type} : DataW H := .iface "*errors.errorString" (.ptr (.agg [.lit (.string [109, 101, 110, 100, 58, 32, 111, 117, 116, 115, 105, 100, 101, 32, 105, 116, 115, 32, 114, 97, 110, 103, 101])]))
def laid_mend_mend_errNoMessage {H : Type} : DataW H := .iface "*errors.errorString" (.ptr (.agg [.lit (.string [109, 101, 110, 100, 58, 32, 110, 111, 32, 115, 121, 109, 98, 111, 108, 32, 105, 115, 32, 108, 101, 102, 116, 32, 102, 111, 114, 32, 97, 32, 109, 101, 115, 115, 97, 103, 101])]))
def laid_mend_mend_errSize {H : Type} : DataW H := .iface "*errors.errorString" (.ptr (.agg [.lit (.string [109, 101, 110, 100, 58, 32, 116, 111, 111, 32, 109, 97, 110, 121, 32, 115, 121, 109, 98, 111, 108, 115, 32, 111, 114, 32, 116, 111, 111, 32, 102, 101, 119])]))
def laid_mend_mend_errNoPlace {H : Type} : DataW H := .iface "*errors.errorString" (.ptr (.agg [.lit (.string [109, 101, 110, 100, 58, 32, 110, 111, 32, 112, 108, 97, 99, 101, 32, 111, 102, 32, 97, 32, 119, 111, 114, 100])]))
def laid_mend_mend_errOrder {H : Type} : DataW H := .iface "*errors.errorString" (.ptr (.agg [.lit (.string [109, 101, 110, 100, 58, 32, 110, 111, 116, 32, 97, 98, 111, 118, 101, 32, 116, 104, 101, 32, 112, 108, 97, 99, 101, 32, 97, 104, 101, 97, 100, 32, 111, 102, 32, 105, 116])]))
def laid_mend_mend_errLosses {H : Type} : DataW H := .iface "*errors.errorString" (.ptr (.agg [.lit (.string [109, 101, 110, 100, 58, 32, 116, 111, 111, 32, 109, 97, 110, 121, 32, 112, 108, 97, 99, 101, 115, 32, 97, 114, 101, 32, 108, 111, 115, 116])]))
def laid_mend_mend_errTurns {H : Type} : DataW H := .iface "*errors.errorString" (.ptr (.agg [.lit (.string [109, 101, 110, 100, 58, 32, 116, 111, 111, 32, 109, 97, 110, 121, 32, 112, 108, 97, 99, 101, 115, 32, 97, 114, 101, 32, 116, 117, 114, 110, 101, 100])]))
def laid_mend_mend_errNotZero {H : Type} : DataW H := .iface "*errors.errorString" (.ptr (.agg [.lit (.string [109, 101, 110, 100, 58, 32, 111, 116, 104, 101, 114, 32, 116, 104, 97, 110, 32, 48, 32, 119, 104, 101, 114, 101, 32, 116, 104, 101, 32, 99, 111, 100, 101, 32, 108, 101, 97, 118, 101, 115, 32, 111, 117, 116, 32, 122, 101, 114, 111, 115])]))

/-- 'mendlaw.All': WHATEVER THE INPUT: true; the input reads as it did. -/
def allSpec : ChangeSpec := { name := "all", fn := fun _ => fun
  | [d] => { results := [.lit (.bool true)], args := [d] }
  | _ => none }
def allRow : OpenClaim := { program := "ytnpkkcbadcmgkabgreatdoor", sum := "90ec6213370706da92520420fb782f91b4ffc483a0a36a032256cbc656f9b890", func := "mend/mendlaw.All", spec := "all", inPlace := ["internal/reflectlite.TypeOf", "internal/reflectlite.ValueOf", "(internal/reflectlite.Value).Type", "(internal/reflectlite.Value).IsNil", "(internal/reflectlite.Value).Elem", "(internal/reflectlite.Value).Set", "(*internal/sync.Mutex).Lock", "internal/race.Disable", "sync/atomic.CompareAndSwapInt32", "internal/race.Enable", "internal/race.Acquire", "(*internal/sync.Mutex).lockSlow", "internal/sync.runtime_canSpin", "internal/sync.runtime_doSpin", "internal/sync.throw", "internal/sync.runtime_nanotime", "internal/sync.runtime_SemacquireMutex", "sync/atomic.AddInt32", "(*internal/sync.Mutex).Unlock", "internal/race.ReleaseMerge", "(*internal/sync.Mutex).unlockSlow", "internal/sync.fatal", "internal/sync.runtime_Semrelease"], unfollowed := true, recurses := true, named := ["mend/mend.errNoMessage", "mend/field.ErrDegree", "mend/field.ErrModulus", "mend/mend.errRange", "mend/field.ErrBit", "mend/field.ErrElement", "errors.errorType", "mend/mend.errSize", "mend/mend.errNoPlace", "mend/mend.errOrder", "mend/mend.errLosses", "mend/mend.errTurns", "mend/mend.errNotZero"], apart := false, laid := [("errors.errorType", laid_errors_errorType), ("mend/field.ErrDegree", laid_mend_field_ErrDegree), ("mend/field.ErrModulus", laid_mend_field_ErrModulus), ("mend/field.ErrElement", laid_mend_field_ErrElement), ("mend/field.ErrBit", laid_mend_field_ErrBit), ("mend/mend.errRange", laid_mend_mend_errRange), ("mend/mend.errNoMessage", laid_mend_mend_errNoMessage), ("mend/mend.errSize", laid_mend_mend_errSize), ("mend/mend.errNoPlace", laid_mend_mend_errNoPlace), ("mend/mend.errOrder", laid_mend_mend_errOrder), ("mend/mend.errLosses", laid_mend_mend_errLosses), ("mend/mend.errTurns", laid_mend_mend_errTurns), ("mend/mend.errNotZero", laid_mend_mend_errNotZero)] }
def AllSaid : Prop := allRow.holds Tryz.pinned (OpenSpec.ofChange allSpec)

/-- ITS FALSE NEIGHBOUR: 'it returns false'. Refute it at one input. -/
def allWrong : ChangeSpec := { name := "all", fn := fun _ => fun
  | [d] => { results := [.lit (.bool false)], args := [d] }
  | _ => none }
def AllWrongFalsely : Prop := allRow.holds Tryz.pinned (OpenSpec.ofChange allWrong)

/- THE SECOND FORM. 'bulk': how many values and letters a reading holds, each counted each time it is reached (what is shared counts as often as it is met; a slice's spare places count too). A statement '..UptoSaid' is the law's where the arguments, and the package variables that the reading takes, are together of bulk at most 1048576: NARROWER than '..Said'. Prove '..Said' where nothing that the law and all that it calls make is longer than what came in: it says more and counts as full. Else prove '..UptoSaid'. A law counts once. -/
mutual
def uptoBulk {H : Type} : DataW H → Nat
  | .lit (.string bytes) => bytes.length + 1
  | .lit _ => 1
  | .nil => 1
  | .ptr d => uptoBulk d + 1
  | .slice elems spare => uptoBulkAll elems + uptoBulkAll spare + 1
  | .agg parts => uptoBulkAll parts + 1
  | .iface _ d => uptoBulk d + 1
  | .map entries => uptoBulkEntries entries + 1
  | .held _ => 1
def uptoBulkAll {H : Type} : List (DataW H) → Nat
  | [] => 0
  | d :: r => uptoBulk d + uptoBulkAll r
def uptoBulkEntries {H : Type} : List (Lit × DataW H) → Nat
  | [] => 0
  | x :: r => uptoBulkEntry x + uptoBulkEntries r
def uptoBulkEntry {H : Type} : Lit × DataW H → Nat
  | (.string bytes, d) => bytes.length + uptoBulk d + 1
  | (_, d) => uptoBulk d + 1
 end
def uptoSmall : (H : Type) → List (DataW H) → Bool := fun _ ds => decide (uptoBulkAll ds ≤ 1048576)
def OpenSpec.upto (s : _root_.Go.ChangeSpec) : _root_.Go.OpenSpec := { _root_.Go.OpenSpec.ofChange s with cond := some uptoSmall }

/-- 'mendlaw.All', WHERE WHAT IT READS IS OF BULK AT MOST 1048576: true; the input reads as it did. -/
def allUptoRow : OpenClaim := { program := "ytnpkkcbadcmgkabgreatdoor", sum := "90ec6213370706da92520420fb782f91b4ffc483a0a36a032256cbc656f9b890", func := "mend/mendlaw.All", spec := "all", inPlace := ["internal/reflectlite.TypeOf", "internal/reflectlite.ValueOf", "(internal/reflectlite.Value).Type", "(internal/reflectlite.Value).IsNil", "(internal/reflectlite.Value).Elem", "(internal/reflectlite.Value).Set", "(*internal/sync.Mutex).Lock", "internal/race.Disable", "sync/atomic.CompareAndSwapInt32", "internal/race.Enable", "internal/race.Acquire", "(*internal/sync.Mutex).lockSlow", "internal/sync.runtime_canSpin", "internal/sync.runtime_doSpin", "internal/sync.throw", "internal/sync.runtime_nanotime", "internal/sync.runtime_SemacquireMutex", "sync/atomic.AddInt32", "(*internal/sync.Mutex).Unlock", "internal/race.ReleaseMerge", "(*internal/sync.Mutex).unlockSlow", "internal/sync.fatal", "internal/sync.runtime_Semrelease"], unfollowed := true, recurses := true, named := ["mend/mend.errNoMessage", "mend/field.ErrDegree", "mend/field.ErrModulus", "mend/mend.errRange", "mend/field.ErrBit", "mend/field.ErrElement", "errors.errorType", "mend/mend.errSize", "mend/mend.errNoPlace", "mend/mend.errOrder", "mend/mend.errLosses", "mend/mend.errTurns", "mend/mend.errNotZero"], apart := false, laid := [("errors.errorType", laid_errors_errorType), ("mend/field.ErrDegree", laid_mend_field_ErrDegree), ("mend/field.ErrModulus", laid_mend_field_ErrModulus), ("mend/field.ErrElement", laid_mend_field_ErrElement), ("mend/field.ErrBit", laid_mend_field_ErrBit), ("mend/mend.errRange", laid_mend_mend_errRange), ("mend/mend.errNoMessage", laid_mend_mend_errNoMessage), ("mend/mend.errSize", laid_mend_mend_errSize), ("mend/mend.errNoPlace", laid_mend_mend_errNoPlace), ("mend/mend.errOrder", laid_mend_mend_errOrder), ("mend/mend.errLosses", laid_mend_mend_errLosses), ("mend/mend.errTurns", laid_mend_mend_errTurns), ("mend/mend.errNotZero", laid_mend_mend_errNotZero)], narrowed := true }
def AllUptoSaid : Prop := allUptoRow.holds Tryz.pinned (OpenSpec.upto allSpec)

end Rows
end Go.Proofs.YtnpkkcbadcmgkabGreatDoor
