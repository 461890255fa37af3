import Derived.Test.YtnpkkcbadcmgkabGreatDoorWBase
import Derived.LaidEql
import Derived.Stop.Asserts
import Derived.RowKitTokens
namespace Go.Proofs.YtnpkkcbadcmgkabGreatDoor
open Go.RowKit Go.Extern.Stop Go.Stop Go.Extern

/-- what a function that the model stands in for answers at given arguments, the entry itself left unnamed. -/
theorem entry_run {P : Program} {fn : Func} {e : Array Value → Sem Value} (he : Extern.find fn = some e) {args : Array Value} {w : World} {r : Result Value}
    (h : (Extern.find fn).map (fun x => (x args).run P w) = some r) : (e args).run P w = r := by
  rw [he] at h
  exact Option.some.inj h

/-! ### errors.Is against a sentinel of errors.New's make -/
theorem Tryz.isTypeOf (v : Value) (w : World) : (Extern.find Tryz.f85).map (fun x => (x #[.iface 182 v]).run Tryz.prog w) = some (.ok (.iface 150 (.agg #[.pointer (some ⟨13, 182, none⟩)])) w) := by kernel_rfl
theorem Tryz.isComparable (w : World) : (Extern.find Tryz.f145).map (fun x => (x #[.agg #[.pointer (some ⟨13, 182, none⟩)]]).run Tryz.prog w) = some (.ok (.bool true) w) := by kernel_rfl
theorem Tryz.has85 : (Extern.find Tryz.f85).isSome = true := by kernel_rfl
theorem Tryz.has145 : (Extern.find Tryz.f145).isSome = true := by kernel_rfl
theorem Tryz.isMethodComparable (v : Value) (w : World) : (Go.method 314 150 v "Comparable").run Tryz.prog w = .ok (145, v) w := by kernel_rfl
theorem Tryz.isComp : (Tryz.prog.info? 182).map (·.comparable) = some true := by kernel_rfl
theorem Tryz.isSize : (Tryz.prog.info? 202).map (·.size) = some 1 := by kernel_rfl
theorem Tryz.noIsE (v : Value) (xT : TypeId) (w : World) : (Instr.typeAssert (.iface 182 v) xT 166 true).run Tryz.prog w = .ok (.tuple #[.nilIface, .bool false]) w := run_typeAssert_lacksB Tryz.underlying166 (by kernel_rfl) (by kernel_rfl) v xT w
theorem Tryz.noUnwrapE (v : Value) (xT : TypeId) (w : World) : (Instr.typeAssert (.iface 182 v) xT 157 true).run Tryz.prog w = .ok (.tuple #[.nilIface, .bool false]) w := run_typeAssert_lacksB Tryz.underlying157 (by kernel_rfl) (by kernel_rfl) v xT w
theorem Tryz.noUnwrapsE (v : Value) (xT : TypeId) (w : World) : (Instr.typeAssert (.iface 182 v) xT 159 true).run Tryz.prog w = .ok (.tuple #[.nilIface, .bool false]) w := run_typeAssert_lacksB Tryz.underlying159 (by kernel_rfl) (by kernel_rfl) v xT w

theorem is_same (a : Addr) (w : World) :
    Calls Tryz.prog 63 #[.iface 182 (.pointer (some a)), .iface 182 (.pointer (some a))] w fun e w' => e = .returned (.bool true) ∧ w' = w := by
  obtain ⟨i, hi, hcmp⟩ := Option.map_eq_some_iff.1 Tryz.isComp
  obtain ⟨j, hj, hjs⟩ := Option.map_eq_some_iff.1 Tryz.isSize
  obtain ⟨e33, he33⟩ := Option.isSome_iff_exists.1 Tryz.has85
  obtain ⟨e61, he61⟩ := Option.isSome_iff_exists.1 Tryz.has145
  have h8 := @run_callFunc_extern Tryz.prog 85 _ e33 Tryz.func85 (by kernel_rfl) (by kernel_rfl) (by kernel_rfl) he33
  have h32 := @run_callFunc_extern Tryz.prog 145 _ e61 Tryz.func145 (by kernel_rfl) (by kernel_rfl) (by kernel_rfl) he61
  have tT := fun v wx => entry_run he33 (Tryz.isTypeOf v wx)
  have cT := fun wx => entry_run he61 (Tryz.isComparable wx)
  have mR := Tryz.isMethodComparable
  have heq := run_eql_iface_ptr_same (P := Tryz.prog) w a Tryz.underlying64 Tryz.underlying182 hi hcmp hj
  clear he33 he61
  go_enter Tryz.func63, Tryz.ntmps63
  go_wp2
  refine wp_loop_rounds 1 ?_
  rw [rounds_succ]
  go_wp2
  go_ret
  exact ⟨rfl, rfl⟩

theorem is_other (a b : Addr) (ca cb : Array Value) (ta tb : TypeId) (w : World) (hne : a ≠ b) (ha : w.heap[a.block]? = some (.cells ca ta (0, 0))) (hb : w.heap[b.block]? = some (.cells cb tb (0, 0))) :
    Calls Tryz.prog 63 #[.iface 182 (.pointer (some a)), .iface 182 (.pointer (some b))] w fun e w' => e = .returned (.bool false) ∧ w' = w := by
  obtain ⟨i, hi, hcmp⟩ := Option.map_eq_some_iff.1 Tryz.isComp
  obtain ⟨j, hj, hjs⟩ := Option.map_eq_some_iff.1 Tryz.isSize
  obtain ⟨e33, he33⟩ := Option.isSome_iff_exists.1 Tryz.has85
  obtain ⟨e61, he61⟩ := Option.isSome_iff_exists.1 Tryz.has145
  have h8 := @run_callFunc_extern Tryz.prog 85 _ e33 Tryz.func85 (by kernel_rfl) (by kernel_rfl) (by kernel_rfl) he33
  have h32 := @run_callFunc_extern Tryz.prog 145 _ e61 Tryz.func145 (by kernel_rfl) (by kernel_rfl) (by kernel_rfl) he61
  have tT := fun v wx => entry_run he33 (Tryz.isTypeOf v wx)
  have cT := fun wx => entry_run he61 (Tryz.isComparable wx)
  have mR := Tryz.isMethodComparable
  have nE := Tryz.noIsE
  have uE := Tryz.noUnwrapE
  have vE := Tryz.noUnwrapsE
  have heq := run_eql_iface_ptr_other (P := Tryz.prog) w Tryz.underlying64 Tryz.underlying182 hi hcmp hj (by rw [hjs]; decide) hne ha hb
  clear he33 he61
  go_enter Tryz.func63, Tryz.ntmps63
  go_wp2
  refine wp_loop_rounds 1 ?_
  rw [rounds_succ]
  go_wp2
  go_ret
  exact ⟨rfl, rfl⟩
end Go.Proofs.YtnpkkcbadcmgkabGreatDoor

namespace Go.Proofs.YtnpkkcbadcmgkabGreatDoor
open Go.RowKit Go.Extern.Stop Go.Stop Go.Extern

/-! ### errors.As at the target of errnoOf: 99: the pointer to a fault, 101: the pointer to that, 64: error, 150: reflectlite's rtype, 129: reflectlite's Value -/
theorem as_nil (t : Value) (w : World) :
    Calls Tryz.prog 50 #[.nilIface, t] w fun e w' => e = .returned (.bool false) ∧ w' = w := by
  go_enter Tryz.func50, Tryz.ntmps50
  go_wp2
  go_ret
  exact ⟨rfl, rfl⟩

theorem Tryz.has70 : (Extern.find Tryz.f70).isSome = true := by kernel_rfl
theorem Tryz.has71 : (Extern.find Tryz.f71).isSome = true := by kernel_rfl
theorem Tryz.has135 : (Extern.find Tryz.f135).isSome = true := by kernel_rfl
theorem Tryz.has146 : (Extern.find Tryz.f146).isSome = true := by kernel_rfl
theorem Tryz.has147 : (Extern.find Tryz.f147).isSome = true := by kernel_rfl
theorem Tryz.has144 : (Extern.find Tryz.f144).isSome = true := by kernel_rfl
theorem Tryz.valueOf49 (t : Addr) (w : World) : (Extern.find Tryz.f70).map (fun x => (x #[.iface 101 (.pointer (some t))]).run Tryz.prog w)
    = some (.ok (.agg #[.pointer (some ⟨13, 101, none⟩), .pointer (some ⟨w.heap.size, 0, none⟩), .int .u64 150]) (w.alloc (.cells #[.pointer (some t)] 101))) := by kernel_rfl
theorem Tryz.valueOf47 (t : Addr) (w : World) : (Extern.find Tryz.f70).map (fun x => (x #[.iface 99 (.pointer (some t))]).run Tryz.prog w)
    = some (.ok (.agg #[.pointer (some ⟨13, 99, none⟩), .pointer (some ⟨w.heap.size, 0, none⟩), .int .u64 150]) (w.alloc (.cells #[.pointer (some t)] 99))) := by kernel_rfl
theorem Tryz.type49 (a : Addr) (w : World) : (Extern.find Tryz.f71).map (fun x => (x #[.agg #[.pointer (some ⟨13, 101, none⟩), .pointer (some a), .int .u64 150]]).run Tryz.prog w)
    = some (.ok (.iface 150 (.agg #[.pointer (some ⟨13, 101, none⟩)])) w) := by kernel_rfl
theorem Tryz.methodKind (h : Value) (w : World) : (Go.method 314 150 (.agg #[h]) "Kind").run Tryz.prog w = .ok (135, h) w := by kernel_rfl
theorem Tryz.kind49 (w : World) : (Extern.find Tryz.f135).map (fun x => (x #[.pointer (some ⟨13, 101, none⟩)]).run Tryz.prog w) = some (.ok (.int .u8 22) w) := by kernel_rfl
theorem Tryz.kind47 (w : World) : (Extern.find Tryz.f135).map (fun x => (x #[.pointer (some ⟨13, 99, none⟩)]).run Tryz.prog w) = some (.ok (.int .u8 22) w) := by kernel_rfl
theorem Tryz.methodElem (h : Value) (w : World) : (Go.method 314 150 (.agg #[h]) "Elem").run Tryz.prog w = .ok (146, .agg #[h]) w := by kernel_rfl
theorem Tryz.methodImplements (h : Value) (w : World) : (Go.method 314 150 (.agg #[h]) "Implements").run Tryz.prog w = .ok (147, .agg #[h]) w := by kernel_rfl
theorem Tryz.methodAssignableTo (h : Value) (w : World) : (Go.method 314 150 (.agg #[h]) "AssignableTo").run Tryz.prog w = .ok (144, .agg #[h]) w := by kernel_rfl
theorem Tryz.elem49 (w : World) : (Extern.find Tryz.f146).map (fun x => (x #[.agg #[.pointer (some ⟨13, 101, none⟩)]]).run Tryz.prog w) = some (.ok (.iface 150 (.agg #[.pointer (some ⟨13, 99, none⟩)])) w) := by kernel_rfl
theorem Tryz.implements47 (w : World) : (Extern.find Tryz.f147).map (fun x => (x #[.agg #[.pointer (some ⟨13, 99, none⟩)], .iface 150 (.agg #[.pointer (some ⟨13, 64, none⟩)])]).run Tryz.prog w) = some (.ok (.bool true) w) := by kernel_rfl
theorem Tryz.typeOf47 (v : Value) (w : World) : (Extern.find Tryz.f85).map (fun x => (x #[.iface 99 v]).run Tryz.prog w) = some (.ok (.iface 150 (.agg #[.pointer (some ⟨13, 99, none⟩)])) w) := by kernel_rfl
theorem Tryz.assignable47 (w : World) : (Extern.find Tryz.f144).map (fun x => (x #[.agg #[.pointer (some ⟨13, 99, none⟩)], .iface 150 (.agg #[.pointer (some ⟨13, 99, none⟩)])]).run Tryz.prog w) = some (.ok (.bool true) w) := by kernel_rfl

/-! ### the entries that read or write memory -/
theorem Tryz.parts49 (a : Addr) (w : World) : (ReflectliteValue.parts (.agg #[.pointer (some ⟨13, 101, none⟩), .pointer (some a), .int .u64 150])).run Tryz.prog w = .ok (some (101, a, 150)) w := by kernel_rfl
theorem Tryz.parts47a (a : Addr) (w : World) : (ReflectliteValue.parts (.agg #[.pointer (some ⟨13, 99, none⟩), .pointer (some a), .int .u64 406])).run Tryz.prog w = .ok (some (99, a, 406)) w := by kernel_rfl
theorem Tryz.parts47 (a : Addr) (w : World) : (ReflectliteValue.parts (.agg #[.pointer (some ⟨13, 99, none⟩), .pointer (some a), .int .u64 150])).run Tryz.prog w = .ok (some (99, a, 150)) w := by kernel_rfl
theorem Tryz.elemOf49 (w : World) : (Rtype.elem? 101).run Tryz.prog w = .ok (some 99) w := by kernel_rfl
theorem Tryz.mk47 (p : Addr) (w : World) : (ReflectliteValue.mk 99 p ReflectliteValue.flagAddr).run Tryz.prog w = .ok (.agg #[.pointer (some ⟨13, 99, none⟩), .pointer (some p), .int .u64 406]) w := by kernel_rfl
theorem Tryz.direct47 (w : World) : (Rtype.directlyAssignable 99 99).run Tryz.prog w = .ok true w := by kernel_rfl
end Go.Proofs.YtnpkkcbadcmgkabGreatDoor

namespace Go.Proofs.YtnpkkcbadcmgkabGreatDoor
open Go.RowKit Go.Extern.Stop Go.Stop Go.Extern
theorem method_run {P : Program} (z : Sem Value) (f : TypeId → Addr → Nat → Nat → Sem Value) (v : Value) {t : TypeId} {a : Addr} {fl : Nat} {W : World} (h : (ReflectliteValue.parts v).run P W = .ok (some (t, a, fl)) W) :
    (ReflectliteValue.method z f #[v]).run P W = (f t a fl (fl % 32)).run P W := by
  show Sem.run P (ReflectliteValue.parts v >>= _) W = _
  rw [Sem.run_bind, h]
  rfl
theorem Tryz.isNil49 (a p : Addr) (W : World) (ha : W.cell? a = some (.pointer (some p))) :
    (ReflectliteValue.method (ReflectliteValue.valueError "reflectlite.Value.IsNil" 0) ReflectliteValue.isNil #[.agg #[.pointer (some ⟨13, 101, none⟩), .pointer (some a), .int .u64 150]]).run Tryz.prog W = .ok (.bool false) W := by
  rw [method_run _ _ _ (Tryz.parts49 a W)]
  simp [ReflectliteValue.isNil, loadVar, isAgg, underlying, Tryz.underlying101, ha, Result.andThen]
theorem Tryz.elemV49 (a p : Addr) (W : World) (ha : W.cell? a = some (.pointer (some p))) :
    (ReflectliteValue.method (ReflectliteValue.valueError "reflectlite.Value.Elem" 0) ReflectliteValue.elem #[.agg #[.pointer (some ⟨13, 101, none⟩), .pointer (some a), .int .u64 150]]).run Tryz.prog W
      = .ok (.agg #[.pointer (some ⟨13, 99, none⟩), .pointer (some p), .int .u64 406]) W := by
  rw [method_run _ _ _ (Tryz.parts49 a W)]
  simp [ReflectliteValue.elem, loadVar, isAgg, underlying, Tryz.underlying101, ha, Result.andThen, Tryz.elemOf49, Tryz.mk47]
set_option maxRecDepth 100000 in
theorem Tryz.set47 (ta b e : Addr) (old : Value) (W : World) (hb : W.cell? b = some (.pointer (some e))) (ht : W.cell? ta = some old) (hf : W.frozen? ta = false) :
    (ReflectliteValue.set #[.agg #[.pointer (some ⟨13, 99, none⟩), .pointer (some ta), .int .u64 406], .agg #[.pointer (some ⟨13, 99, none⟩), .pointer (some b), .int .u64 150]]).run Tryz.prog W
      = .ok (.tuple #[]) (W.setCell ta (.pointer (some e))) := by
  show Sem.run Tryz.prog (ReflectliteValue.parts (.agg #[.pointer (some ⟨13, 99, none⟩), .pointer (some ta), .int .u64 406]) >>= _) W = _
  rw [Sem.run_bind, Tryz.parts47a]
  show Sem.run Tryz.prog (ReflectliteValue.parts (.agg #[.pointer (some ⟨13, 99, none⟩), .pointer (some b), .int .u64 150]) >>= _) W = _
  rw [Sem.run_bind, Tryz.parts47]
  simp [ReflectliteValue.flagAddr, loadVar, isAgg, underlying, Tryz.underlying99, hb, Result.andThen, Tryz.direct47, storeVar, Value.cells, storeCells, Addr.add]
  rw [run_store Tryz.prog W ta _ _ (by rfl)]
  simp [ht, hf]
end Go.Proofs.YtnpkkcbadcmgkabGreatDoor

namespace Go.Proofs.YtnpkkcbadcmgkabGreatDoor
open Go.RowKit Go.Extern.Stop Go.Stop Go.Extern

set_option maxHeartbeats 4000000 in
theorem as_hit (e t : Addr) (old : Value) (w : World) (hg : w.cell? ⟨4, 0, none⟩ = some (.iface 150 (.agg #[.pointer (some ⟨13, 64, none⟩)]))) (ht0 : w.cell? t = some old) (hf0 : w.frozen? t = false) :
    Calls Tryz.prog 50 #[.iface 99 (.pointer (some e)), .iface 101 (.pointer (some t))] w fun ev w' => ev = .returned (.bool true) ∧ w' = ((((w.alloc (.cells #[.pointer (some t)] 101)).alloc (.cells #[.pointer (some ⟨13, 101, none⟩), .pointer (some ⟨w.heap.size, 0, none⟩), .int .u64 150] 129)).alloc (.cells #[.pointer (some ⟨13, 101, none⟩), .pointer (some ⟨w.heap.size, 0, none⟩), .int .u64 150] 129)).alloc (.cells #[.pointer (some e)] 99)).setCell t (.pointer (some e)) := by
  obtain ⟨e28, he28⟩ := Option.isSome_iff_exists.1 Tryz.has70
  obtain ⟨e29, he29⟩ := Option.isSome_iff_exists.1 Tryz.has71
  obtain ⟨e51, he51⟩ := Option.isSome_iff_exists.1 Tryz.has135
  obtain ⟨e62, he62⟩ := Option.isSome_iff_exists.1 Tryz.has146
  obtain ⟨e63, he63⟩ := Option.isSome_iff_exists.1 Tryz.has147
  obtain ⟨e60, he60⟩ := Option.isSome_iff_exists.1 Tryz.has144
  obtain ⟨e33, he33⟩ := Option.isSome_iff_exists.1 Tryz.has85
  have h6 := @run_callFunc_extern Tryz.prog 70 _ e28 Tryz.func70 (by kernel_rfl) (by kernel_rfl) (by kernel_rfl) he28
  have h7 := @run_callFunc_extern Tryz.prog 71 _ e29 Tryz.func71 (by kernel_rfl) (by kernel_rfl) (by kernel_rfl) he29
  have h8 := @run_callFunc_extern Tryz.prog 72 _ (ReflectliteValue.method (ReflectliteValue.valueError "reflectlite.Value.IsNil" 0) ReflectliteValue.isNil) Tryz.func72 (by kernel_rfl) (by kernel_rfl) (by kernel_rfl) (by kernel_rfl)
  have h27 := @run_callFunc_extern Tryz.prog 135 _ e51 Tryz.func135 (by kernel_rfl) (by kernel_rfl) (by kernel_rfl) he51
  have h37 := @run_callFunc_extern Tryz.prog 146 _ e62 Tryz.func146 (by kernel_rfl) (by kernel_rfl) (by kernel_rfl) he62
  have h38 := @run_callFunc_extern Tryz.prog 147 _ e63 Tryz.func147 (by kernel_rfl) (by kernel_rfl) (by kernel_rfl) he63
  have h10 := @run_callFunc_extern Tryz.prog 85 _ e33 Tryz.func85 (by kernel_rfl) (by kernel_rfl) (by kernel_rfl) he33
  have h35 := @run_callFunc_extern Tryz.prog 144 _ e60 Tryz.func144 (by kernel_rfl) (by kernel_rfl) (by kernel_rfl) he60
  have h11 := @run_callFunc_extern Tryz.prog 88 _ (ReflectliteValue.method (ReflectliteValue.valueError "reflectlite.Value.Elem" 0) ReflectliteValue.elem) Tryz.func88 (by kernel_rfl) (by kernel_rfl) (by kernel_rfl) (by kernel_rfl)
  have h12 := @run_callFunc_extern Tryz.prog 89 _ ReflectliteValue.set Tryz.func89 (by kernel_rfl) (by kernel_rfl) (by kernel_rfl) (by kernel_rfl)
  have tO := fun v wx => entry_run he33 (Tryz.typeOf47 v wx)
  have mA := Tryz.methodAssignableTo
  have a25 := fun wx => entry_run he60 (Tryz.assignable47 wx)
  have v25 := fun a wx => entry_run he28 (Tryz.valueOf47 a wx)
  have f6 := fun a wx => entry_run he28 (Tryz.valueOf49 a wx)
  have f7 := fun a wx => entry_run he29 (Tryz.type49 a wx)
  have mK := Tryz.methodKind
  have mE := Tryz.methodElem
  have mI := Tryz.methodImplements
  have k27 := fun wx => entry_run he51 (Tryz.kind49 wx)
  have k25 := fun wx => entry_run he51 (Tryz.kind47 wx)
  have e27 := fun wx => entry_run he62 (Tryz.elem49 wx)
  have i25 := fun wx => entry_run he63 (Tryz.implements47 wx)
  clear he28 he29 he51 he62 he63 he60 he33
  have n8 := Tryz.isNil49 ⟨w.heap.size, 0, none⟩ t ((w.alloc (.cells #[.pointer (some t)] 101)).alloc (.cells #[.pointer (some ⟨13, 101, none⟩), .pointer (some ⟨w.heap.size, 0, none⟩), .int .u64 150] 129)) (by simp)
  have hlt : 4 < w.heap.size := by
    rcases Nat.lt_or_ge 4 w.heap.size with h | h
    · exact h
    · simp [World.cell?, Array.getElem?_eq_none h] at hg
  have hg2 : ((w.alloc (.cells #[.pointer (some t)] 101)).alloc (.cells #[.pointer (some ⟨13, 101, none⟩), .pointer (some ⟨w.heap.size, 0, none⟩), .int .u64 150] 129)).cell? ⟨4, 0, none⟩ = some (.iface 150 (.agg #[.pointer (some ⟨13, 64, none⟩)])) := by
    rw [World.cell?_alloc_lt _ _ ⟨4, 0, none⟩ (by simp; omega), World.cell?_alloc_lt _ _ ⟨4, 0, none⟩ hlt]; exact hg
  have htl : t.block < w.heap.size := by
    rcases Nat.lt_or_ge t.block w.heap.size with h | h
    · exact h
    · simp [World.cell?, Array.getElem?_eq_none h] at ht0
  have el := Tryz.elemV49 ⟨w.heap.size, 0, none⟩ t (((w.alloc (.cells #[.pointer (some t)] 101)).alloc (.cells #[.pointer (some ⟨13, 101, none⟩), .pointer (some ⟨w.heap.size, 0, none⟩), .int .u64 150] 129)).alloc (.cells #[.pointer (some ⟨13, 101, none⟩), .pointer (some ⟨w.heap.size, 0, none⟩), .int .u64 150] 129)) (by rw [World.cell?_alloc_lt _ _ ⟨w.heap.size, 0, none⟩ (by simp; omega)]; simp)
  have st := Tryz.set47 t ⟨w.heap.size + 1 + 1 + 1, 0, none⟩ e old ((((w.alloc (.cells #[.pointer (some t)] 101)).alloc (.cells #[.pointer (some ⟨13, 101, none⟩), .pointer (some ⟨w.heap.size, 0, none⟩), .int .u64 150] 129)).alloc (.cells #[.pointer (some ⟨13, 101, none⟩), .pointer (some ⟨w.heap.size, 0, none⟩), .int .u64 150] 129)).alloc (.cells #[.pointer (some e)] 99))
    (by rw [World.cell?_alloc_at _ _ _ _ (by simp)]; rfl)
    (by rw [World.cell?_alloc_lt _ _ t (by simp; omega), World.cell?_alloc_lt _ _ t (by simp; omega), World.cell?_alloc_lt _ _ t (by simp; omega), World.cell?_alloc_lt _ _ t htl]; exact ht0)
    (by rw [World.frozen?_alloc_old _ _ t (by simp; omega), World.frozen?_alloc_old _ _ t (by simp; omega), World.frozen?_alloc_old _ _ t (by simp; omega), World.frozen?_alloc_old _ _ t (Nat.ne_of_lt htl)]; exact hf0)
  go_enter Tryz.func50, Tryz.ntmps50
  go_wp2
  refine wp_loop_rounds 1 ?_
  rw [rounds_succ]
  go_wp2
  go_ret
  exact ⟨rfl, rfl⟩
end Go.Proofs.YtnpkkcbadcmgkabGreatDoor
