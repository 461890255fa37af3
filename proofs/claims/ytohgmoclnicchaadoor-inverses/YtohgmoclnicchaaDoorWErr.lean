import Derived.Test.YtohgmoclnicchaaDoorWBase
import Derived.LaidEql
import Derived.Stop.Asserts
import Derived.RowKitTokens
namespace Go.Proofs.YtohgmoclnicchaaDoor
open Go.RowKit Go.Extern.Stop Go.Stop Go.Extern

/-- what a function that the model stands in for answers at given arguments, the entry itself left unnamed. -/
theorem entry_run {P : Program} {fn : Func} {e : Array Value → Sem Value} (he : Extern.find fn = some e) {args : Array Value} {w : World} {r : Result Value}
    (h : (Extern.find fn).map (fun x => (x args).run P w) = some r) : (e args).run P w = r := by
  rw [he] at h
  exact Option.some.inj h

/-! ### errors.Is against a sentinel of errors.New's make -/
theorem Tryd.isTypeOf (v : Value) (w : World) : (Extern.find Tryd.f92).map (fun x => (x #[.iface 154 v]).run Tryd.prog w) = some (.ok (.iface 134 (.agg #[.pointer (some ⟨9, 154, none⟩)])) w) := by kernel_rfl
theorem Tryd.isComparable (w : World) : (Extern.find Tryd.f126).map (fun x => (x #[.agg #[.pointer (some ⟨9, 154, none⟩)]]).run Tryd.prog w) = some (.ok (.bool true) w) := by kernel_rfl
theorem Tryd.has92 : (Extern.find Tryd.f92).isSome = true := by kernel_rfl
theorem Tryd.has126 : (Extern.find Tryd.f126).isSome = true := by kernel_rfl
theorem Tryd.isMethodComparable (v : Value) (w : World) : (Go.method 287 134 v "Comparable").run Tryd.prog w = .ok (126, v) w := by kernel_rfl
theorem Tryd.isComp : (Tryd.prog.info? 154).map (·.comparable) = some true := by kernel_rfl
theorem Tryd.isSize : (Tryd.prog.info? 175).map (·.size) = some 1 := by kernel_rfl
theorem Tryd.noIsE (v : Value) (xT : TypeId) (w : World) : (Instr.typeAssert (.iface 154 v) xT 150 true).run Tryd.prog w = .ok (.tuple #[.nilIface, .bool false]) w := run_typeAssert_lacksB Tryd.underlying150 (by kernel_rfl) (by kernel_rfl) v xT w
theorem Tryd.noUnwrapE (v : Value) (xT : TypeId) (w : World) : (Instr.typeAssert (.iface 154 v) xT 141 true).run Tryd.prog w = .ok (.tuple #[.nilIface, .bool false]) w := run_typeAssert_lacksB Tryd.underlying141 (by kernel_rfl) (by kernel_rfl) v xT w
theorem Tryd.noUnwrapsE (v : Value) (xT : TypeId) (w : World) : (Instr.typeAssert (.iface 154 v) xT 143 true).run Tryd.prog w = .ok (.tuple #[.nilIface, .bool false]) w := run_typeAssert_lacksB Tryd.underlying143 (by kernel_rfl) (by kernel_rfl) v xT w

theorem is_same (a : Addr) (w : World) :
    Calls Tryd.prog 73 #[.iface 154 (.pointer (some a)), .iface 154 (.pointer (some a))] w fun e w' => e = .returned (.bool true) ∧ w' = w := by
  obtain ⟨i, hi, hcmp⟩ := Option.map_eq_some_iff.1 Tryd.isComp
  obtain ⟨j, hj, hjs⟩ := Option.map_eq_some_iff.1 Tryd.isSize
  obtain ⟨e33, he33⟩ := Option.isSome_iff_exists.1 Tryd.has92
  obtain ⟨e61, he61⟩ := Option.isSome_iff_exists.1 Tryd.has126
  have h8 := @run_callFunc_extern Tryd.prog 92 _ e33 Tryd.func92 (by kernel_rfl) (by kernel_rfl) (by kernel_rfl) he33
  have h32 := @run_callFunc_extern Tryd.prog 126 _ e61 Tryd.func126 (by kernel_rfl) (by kernel_rfl) (by kernel_rfl) he61
  have tT := fun v wx => entry_run he33 (Tryd.isTypeOf v wx)
  have cT := fun wx => entry_run he61 (Tryd.isComparable wx)
  have mR := Tryd.isMethodComparable
  have heq := run_eql_iface_ptr_same (P := Tryd.prog) w a Tryd.underlying60 Tryd.underlying154 hi hcmp hj
  clear he33 he61
  go_enter Tryd.func73, Tryd.ntmps73
  go_wp2
  refine wp_loop_rounds 1 ?_
  rw [rounds_succ]
  go_wp2
  go_ret
  exact ⟨rfl, rfl⟩

theorem is_other (a b : Addr) (ca cb : Array Value) (ta tb : TypeId) (w : World) (hne : a ≠ b) (ha : w.heap[a.block]? = some (.cells ca ta (0, 0))) (hb : w.heap[b.block]? = some (.cells cb tb (0, 0))) :
    Calls Tryd.prog 73 #[.iface 154 (.pointer (some a)), .iface 154 (.pointer (some b))] w fun e w' => e = .returned (.bool false) ∧ w' = w := by
  obtain ⟨i, hi, hcmp⟩ := Option.map_eq_some_iff.1 Tryd.isComp
  obtain ⟨j, hj, hjs⟩ := Option.map_eq_some_iff.1 Tryd.isSize
  obtain ⟨e33, he33⟩ := Option.isSome_iff_exists.1 Tryd.has92
  obtain ⟨e61, he61⟩ := Option.isSome_iff_exists.1 Tryd.has126
  have h8 := @run_callFunc_extern Tryd.prog 92 _ e33 Tryd.func92 (by kernel_rfl) (by kernel_rfl) (by kernel_rfl) he33
  have h32 := @run_callFunc_extern Tryd.prog 126 _ e61 Tryd.func126 (by kernel_rfl) (by kernel_rfl) (by kernel_rfl) he61
  have tT := fun v wx => entry_run he33 (Tryd.isTypeOf v wx)
  have cT := fun wx => entry_run he61 (Tryd.isComparable wx)
  have mR := Tryd.isMethodComparable
  have nE := Tryd.noIsE
  have uE := Tryd.noUnwrapE
  have vE := Tryd.noUnwrapsE
  have heq := run_eql_iface_ptr_other (P := Tryd.prog) w Tryd.underlying60 Tryd.underlying154 hi hcmp hj (by rw [hjs]; decide) hne ha hb
  clear he33 he61
  go_enter Tryd.func73, Tryd.ntmps73
  go_wp2
  refine wp_loop_rounds 1 ?_
  rw [rounds_succ]
  go_wp2
  go_ret
  exact ⟨rfl, rfl⟩
end Go.Proofs.YtohgmoclnicchaaDoor
