import Derived.Test.YtnpkkcbadcmgkaaGreatDoorLaid
import Derived.Test.YtnpkkcbadcmgkaaGreatDoorOpen
import Derived.Test.YtnpkkcbadcmgkaaGreatDoorWInst
import Derived.Test.YtnpkkcbadcmgkaaGreatDoorCards
import Derived.Test.YtnpkkcbadcmgkaaGreatDoorTie
import Derived.SevenTiedAt
import Derived.SizedLaws
namespace Go.Proofs.YtnpkkcbadcmgkaaGreatDoor
open Go.ChangeShapes Go.WideShapes Go.ChangeAt Go.RowKit

theorem Tryz.laidOut : laidOutB Tryz.prog = true := by kernel_rfl

/-- the parameters at their zero values: the witness. -/
def zeroP : Value := .agg #[.int .i64 0, .int .i64 0, .int .i64 0, .int .i64 0, .int .i64 0, .int .i64 0, .bool false]

theorem bytes3 : Tryz.prog.bytesOf 3 = 8 := by kernel_rfl
/-- a list's bytes, by the reach. -/
theorem list_bytes {H : Type} {ts : List TypeId} {ds : List (DataW H)} (h : (DataW.weightsEach Tryz.prog ts ds).all (· ≤ reachBytes) = true) {j : Nat} {d : DataW H} {l : List Int} (ht : ts[j]? = some 24) (hd : ds[j]? = some d)
    (hl : (d = .nil ∧ l = []) ∨ ∃ el s, d = .slice el s ∧ el.length = l.length) : 8 * l.length ≤ 281474976710656 := by
  rcases hl with ⟨rfl, rfl⟩ | ⟨el, s, rfl, he⟩
  · simp
  · have h1 := sized_slice h ht hd Tryz.underlying24
    rw [bytes3, he] at h1
    have h2 := reachBytes_lt
    omega
theorem plain36 : Tryz.prog.wantsStandIn 23 = false := by kernel_rfl
theorem plain41 : Tryz.prog.wantsStandIn 24 = false := by kernel_rfl
end Go.Proofs.YtnpkkcbadcmgkaaGreatDoor
