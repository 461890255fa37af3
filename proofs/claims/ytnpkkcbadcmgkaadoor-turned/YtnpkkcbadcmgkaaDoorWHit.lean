import Derived.Test.YtnpkkcbadcmgkaaDoorWBase
import Derived.LaidEql
import Derived.Stop.Asserts
import Derived.RowKitTokens
namespace Go.Proofs.YtnpkkcbadcmgkaaDoor
open Go.RowKit Go.Extern.Stop Go.Stop Go.Extern

/-- what a function that the model stands in for answers at given arguments, the entry itself left unnamed. -/
theorem entry_run {P : Program} {fn : Func} {e : Array Value → Sem Value} (he : Extern.find fn = some e) {args : Array Value} {w : World} {r : Result Value}
    (h : (Extern.find fn).map (fun x => (x args).run P w) = some r) : (e args).run P w = r := by
  rw [he] at h
  exact Option.some.inj h

/-! ### errors.Is against a sentinel of errors.New's make -/
theorem Tryd.isTypeOf (v : Value) (w : World) : (Extern.find Tryd.f80).map (fun x => (x #[.iface 159 v]).run Tryd.prog w) = some (.ok (.iface 126 (.agg #[.pointer (some ⟨9, 159, none⟩)])) w) := by kernel_rfl
theorem Tryd.isComparable (w : World) : (Extern.find Tryd.f117).map (fun x => (x #[.agg #[.pointer (some ⟨9, 159, none⟩)]]).run Tryd.prog w) = some (.ok (.bool true) w) := by kernel_rfl
theorem Tryd.has80 : (Extern.find Tryd.f80).isSome = true := by kernel_rfl
theorem Tryd.has117 : (Extern.find Tryd.f117).isSome = true := by kernel_rfl
theorem Tryd.isMethodComparable (v : Value) (w : World) : (Go.method 291 126 v "Comparable").run Tryd.prog w = .ok (117, v) w := by kernel_rfl
theorem Tryd.isComp : (Tryd.prog.info? 159).map (·.comparable) = some true := by kernel_rfl
theorem Tryd.isSize : (Tryd.prog.info? 179).map (·.size) = some 1 := by kernel_rfl
theorem Tryd.noIsE (v : Value) (xT : TypeId) (w : World) : (Instr.typeAssert (.iface 159 v) xT 153 true).run Tryd.prog w = .ok (.tuple #[.nilIface, .bool false]) w := run_typeAssert_lacksB Tryd.underlying153 (by kernel_rfl) (by kernel_rfl) v xT w
theorem Tryd.noUnwrapE (v : Value) (xT : TypeId) (w : World) : (Instr.typeAssert (.iface 159 v) xT 133 true).run Tryd.prog w = .ok (.tuple #[.nilIface, .bool false]) w := run_typeAssert_lacksB Tryd.underlying133 (by kernel_rfl) (by kernel_rfl) v xT w
theorem Tryd.noUnwrapsE (v : Value) (xT : TypeId) (w : World) : (Instr.typeAssert (.iface 159 v) xT 135 true).run Tryd.prog w = .ok (.tuple #[.nilIface, .bool false]) w := run_typeAssert_lacksB Tryd.underlying135 (by kernel_rfl) (by kernel_rfl) v xT w

theorem is_same (a : Addr) (w : World) :
    Calls Tryd.prog 60 #[.iface 159 (.pointer (some a)), .iface 159 (.pointer (some a))] w fun e w' => e = .returned (.bool true) ∧ w' = w := by
  obtain ⟨i, hi, hcmp⟩ := Option.map_eq_some_iff.1 Tryd.isComp
  obtain ⟨j, hj, hjs⟩ := Option.map_eq_some_iff.1 Tryd.isSize
  obtain ⟨e33, he33⟩ := Option.isSome_iff_exists.1 Tryd.has80
  obtain ⟨e61, he61⟩ := Option.isSome_iff_exists.1 Tryd.has117
  have h8 := @run_callFunc_extern Tryd.prog 80 _ e33 Tryd.func80 (by kernel_rfl) (by kernel_rfl) (by kernel_rfl) he33
  have h32 := @run_callFunc_extern Tryd.prog 117 _ e61 Tryd.func117 (by kernel_rfl) (by kernel_rfl) (by kernel_rfl) he61
  have tT := fun v wx => entry_run he33 (Tryd.isTypeOf v wx)
  have cT := fun wx => entry_run he61 (Tryd.isComparable wx)
  have mR := Tryd.isMethodComparable
  have heq := run_eql_iface_ptr_same (P := Tryd.prog) w a Tryd.underlying55 Tryd.underlying159 hi hcmp hj
  clear he33 he61
  go_enter Tryd.func60, Tryd.ntmps60
  go_wp2
  refine wp_loop_rounds 1 ?_
  rw [rounds_succ]
  go_wp2
  go_ret
  exact ⟨rfl, rfl⟩

theorem is_other (a b : Addr) (ca cb : Array Value) (ta tb : TypeId) (w : World) (hne : a ≠ b) (ha : w.heap[a.block]? = some (.cells ca ta (0, 0))) (hb : w.heap[b.block]? = some (.cells cb tb (0, 0))) :
    Calls Tryd.prog 60 #[.iface 159 (.pointer (some a)), .iface 159 (.pointer (some b))] w fun e w' => e = .returned (.bool false) ∧ w' = w := by
  obtain ⟨i, hi, hcmp⟩ := Option.map_eq_some_iff.1 Tryd.isComp
  obtain ⟨j, hj, hjs⟩ := Option.map_eq_some_iff.1 Tryd.isSize
  obtain ⟨e33, he33⟩ := Option.isSome_iff_exists.1 Tryd.has80
  obtain ⟨e61, he61⟩ := Option.isSome_iff_exists.1 Tryd.has117
  have h8 := @run_callFunc_extern Tryd.prog 80 _ e33 Tryd.func80 (by kernel_rfl) (by kernel_rfl) (by kernel_rfl) he33
  have h32 := @run_callFunc_extern Tryd.prog 117 _ e61 Tryd.func117 (by kernel_rfl) (by kernel_rfl) (by kernel_rfl) he61
  have tT := fun v wx => entry_run he33 (Tryd.isTypeOf v wx)
  have cT := fun wx => entry_run he61 (Tryd.isComparable wx)
  have mR := Tryd.isMethodComparable
  have nE := Tryd.noIsE
  have uE := Tryd.noUnwrapE
  have vE := Tryd.noUnwrapsE
  have heq := run_eql_iface_ptr_other (P := Tryd.prog) w Tryd.underlying55 Tryd.underlying159 hi hcmp hj (by rw [hjs]; decide) hne ha hb
  clear he33 he61
  go_enter Tryd.func60, Tryd.ntmps60
  go_wp2
  refine wp_loop_rounds 1 ?_
  rw [rounds_succ]
  go_wp2
  go_ret
  exact ⟨rfl, rfl⟩
end Go.Proofs.YtnpkkcbadcmgkaaDoor

namespace Go.Proofs.YtnpkkcbadcmgkaaDoor
open Go.RowKit Go.Extern.Stop Go.Stop Go.Extern

/-! ### errors.As at the target of errnoOf: 81: the pointer to a fault, 83: the pointer to that, 55: error, 126: reflectlite's rtype, 106: reflectlite's Value -/
theorem as_nil (t : Value) (w : World) :
    Calls Tryd.prog 48 #[.nilIface, t] w fun e w' => e = .returned (.bool false) ∧ w' = w := by
  go_enter Tryd.func48, Tryd.ntmps48
  go_wp2
  go_ret
  exact ⟨rfl, rfl⟩

theorem Tryd.has62 : (Extern.find Tryd.f62).isSome = true := by kernel_rfl
theorem Tryd.has63 : (Extern.find Tryd.f63).isSome = true := by kernel_rfl
theorem Tryd.has107 : (Extern.find Tryd.f107).isSome = true := by kernel_rfl
theorem Tryd.has118 : (Extern.find Tryd.f118).isSome = true := by kernel_rfl
theorem Tryd.has119 : (Extern.find Tryd.f119).isSome = true := by kernel_rfl
theorem Tryd.has116 : (Extern.find Tryd.f116).isSome = true := by kernel_rfl
theorem Tryd.valueOf49 (t : Addr) (w : World) : (Extern.find Tryd.f62).map (fun x => (x #[.iface 83 (.pointer (some t))]).run Tryd.prog w)
    = some (.ok (.agg #[.pointer (some ⟨9, 83, none⟩), .pointer (some ⟨w.heap.size, 0, none⟩), .int .u64 150]) (w.alloc (.cells #[.pointer (some t)] 83))) := by kernel_rfl
theorem Tryd.valueOf47 (t : Addr) (w : World) : (Extern.find Tryd.f62).map (fun x => (x #[.iface 81 (.pointer (some t))]).run Tryd.prog w)
    = some (.ok (.agg #[.pointer (some ⟨9, 81, none⟩), .pointer (some ⟨w.heap.size, 0, none⟩), .int .u64 150]) (w.alloc (.cells #[.pointer (some t)] 81))) := by kernel_rfl
theorem Tryd.type49 (a : Addr) (w : World) : (Extern.find Tryd.f63).map (fun x => (x #[.agg #[.pointer (some ⟨9, 83, none⟩), .pointer (some a), .int .u64 150]]).run Tryd.prog w)
    = some (.ok (.iface 126 (.agg #[.pointer (some ⟨9, 83, none⟩)])) w) := by kernel_rfl
theorem Tryd.methodKind (h : Value) (w : World) : (Go.method 291 126 (.agg #[h]) "Kind").run Tryd.prog w = .ok (107, h) w := by kernel_rfl
theorem Tryd.kind49 (w : World) : (Extern.find Tryd.f107).map (fun x => (x #[.pointer (some ⟨9, 83, none⟩)]).run Tryd.prog w) = some (.ok (.int .u8 22) w) := by kernel_rfl
theorem Tryd.kind47 (w : World) : (Extern.find Tryd.f107).map (fun x => (x #[.pointer (some ⟨9, 81, none⟩)]).run Tryd.prog w) = some (.ok (.int .u8 22) w) := by kernel_rfl
theorem Tryd.methodElem (h : Value) (w : World) : (Go.method 291 126 (.agg #[h]) "Elem").run Tryd.prog w = .ok (118, .agg #[h]) w := by kernel_rfl
theorem Tryd.methodImplements (h : Value) (w : World) : (Go.method 291 126 (.agg #[h]) "Implements").run Tryd.prog w = .ok (119, .agg #[h]) w := by kernel_rfl
theorem Tryd.methodAssignableTo (h : Value) (w : World) : (Go.method 291 126 (.agg #[h]) "AssignableTo").run Tryd.prog w = .ok (116, .agg #[h]) w := by kernel_rfl
theorem Tryd.elem49 (w : World) : (Extern.find Tryd.f118).map (fun x => (x #[.agg #[.pointer (some ⟨9, 83, none⟩)]]).run Tryd.prog w) = some (.ok (.iface 126 (.agg #[.pointer (some ⟨9, 81, none⟩)])) w) := by kernel_rfl
theorem Tryd.implements47 (w : World) : (Extern.find Tryd.f119).map (fun x => (x #[.agg #[.pointer (some ⟨9, 81, none⟩)], .iface 126 (.agg #[.pointer (some ⟨9, 55, none⟩)])]).run Tryd.prog w) = some (.ok (.bool true) w) := by kernel_rfl
theorem Tryd.typeOf47 (v : Value) (w : World) : (Extern.find Tryd.f80).map (fun x => (x #[.iface 81 v]).run Tryd.prog w) = some (.ok (.iface 126 (.agg #[.pointer (some ⟨9, 81, none⟩)])) w) := by kernel_rfl
theorem Tryd.assignable47 (w : World) : (Extern.find Tryd.f116).map (fun x => (x #[.agg #[.pointer (some ⟨9, 81, none⟩)], .iface 126 (.agg #[.pointer (some ⟨9, 81, none⟩)])]).run Tryd.prog w) = some (.ok (.bool true) w) := by kernel_rfl

/-! ### the entries that read or write memory -/
theorem Tryd.parts49 (a : Addr) (w : World) : (ReflectliteValue.parts (.agg #[.pointer (some ⟨9, 83, none⟩), .pointer (some a), .int .u64 150])).run Tryd.prog w = .ok (some (83, a, 150)) w := by kernel_rfl
theorem Tryd.parts47a (a : Addr) (w : World) : (ReflectliteValue.parts (.agg #[.pointer (some ⟨9, 81, none⟩), .pointer (some a), .int .u64 406])).run Tryd.prog w = .ok (some (81, a, 406)) w := by kernel_rfl
theorem Tryd.parts47 (a : Addr) (w : World) : (ReflectliteValue.parts (.agg #[.pointer (some ⟨9, 81, none⟩), .pointer (some a), .int .u64 150])).run Tryd.prog w = .ok (some (81, a, 150)) w := by kernel_rfl
theorem Tryd.elemOf49 (w : World) : (Rtype.elem? 83).run Tryd.prog w = .ok (some 81) w := by kernel_rfl
theorem Tryd.mk47 (p : Addr) (w : World) : (ReflectliteValue.mk 81 p ReflectliteValue.flagAddr).run Tryd.prog w = .ok (.agg #[.pointer (some ⟨9, 81, none⟩), .pointer (some p), .int .u64 406]) w := by kernel_rfl
theorem Tryd.direct47 (w : World) : (Rtype.directlyAssignable 81 81).run Tryd.prog w = .ok true w := by kernel_rfl
end Go.Proofs.YtnpkkcbadcmgkaaDoor

namespace Go.Proofs.YtnpkkcbadcmgkaaDoor
open Go.RowKit Go.Extern.Stop Go.Stop Go.Extern
theorem method_run {P : Program} (z : Sem Value) (f : TypeId → Addr → Nat → Nat → Sem Value) (v : Value) {t : TypeId} {a : Addr} {fl : Nat} {W : World} (h : (ReflectliteValue.parts v).run P W = .ok (some (t, a, fl)) W) :
    (ReflectliteValue.method z f #[v]).run P W = (f t a fl (fl % 32)).run P W := by
  show Sem.run P (ReflectliteValue.parts v >>= _) W = _
  rw [Sem.run_bind, h]
  rfl
theorem Tryd.isNil49 (a p : Addr) (W : World) (ha : W.cell? a = some (.pointer (some p))) :
    (ReflectliteValue.method (ReflectliteValue.valueError "reflectlite.Value.IsNil" 0) ReflectliteValue.isNil #[.agg #[.pointer (some ⟨9, 83, none⟩), .pointer (some a), .int .u64 150]]).run Tryd.prog W = .ok (.bool false) W := by
  rw [method_run _ _ _ (Tryd.parts49 a W)]
  simp [ReflectliteValue.isNil, loadVar, isAgg, underlying, Tryd.underlying83, ha, Result.andThen]
theorem Tryd.elemV49 (a p : Addr) (W : World) (ha : W.cell? a = some (.pointer (some p))) :
    (ReflectliteValue.method (ReflectliteValue.valueError "reflectlite.Value.Elem" 0) ReflectliteValue.elem #[.agg #[.pointer (some ⟨9, 83, none⟩), .pointer (some a), .int .u64 150]]).run Tryd.prog W
      = .ok (.agg #[.pointer (some ⟨9, 81, none⟩), .pointer (some p), .int .u64 406]) W := by
  rw [method_run _ _ _ (Tryd.parts49 a W)]
  simp [ReflectliteValue.elem, loadVar, isAgg, underlying, Tryd.underlying83, ha, Result.andThen, Tryd.elemOf49, Tryd.mk47]
set_option maxRecDepth 100000 in
theorem Tryd.set47 (ta b e : Addr) (old : Value) (W : World) (hb : W.cell? b = some (.pointer (some e))) (ht : W.cell? ta = some old) (hf : W.frozen? ta = false) :
    (ReflectliteValue.set #[.agg #[.pointer (some ⟨9, 81, none⟩), .pointer (some ta), .int .u64 406], .agg #[.pointer (some ⟨9, 81, none⟩), .pointer (some b), .int .u64 150]]).run Tryd.prog W
      = .ok (.tuple #[]) (W.setCell ta (.pointer (some e))) := by
  show Sem.run Tryd.prog (ReflectliteValue.parts (.agg #[.pointer (some ⟨9, 81, none⟩), .pointer (some ta), .int .u64 406]) >>= _) W = _
  rw [Sem.run_bind, Tryd.parts47a]
  show Sem.run Tryd.prog (ReflectliteValue.parts (.agg #[.pointer (some ⟨9, 81, none⟩), .pointer (some b), .int .u64 150]) >>= _) W = _
  rw [Sem.run_bind, Tryd.parts47]
  simp [ReflectliteValue.flagAddr, loadVar, isAgg, underlying, Tryd.underlying81, hb, Result.andThen, Tryd.direct47, storeVar, Value.cells, storeCells, Addr.add]
  rw [run_store Tryd.prog W ta _ _ (by rfl)]
  simp [ht, hf]
end Go.Proofs.YtnpkkcbadcmgkaaDoor

namespace Go.Proofs.YtnpkkcbadcmgkaaDoor
open Go.RowKit Go.Extern.Stop Go.Stop Go.Extern

set_option maxHeartbeats 4000000 in
theorem as_hit (e t : Addr) (old : Value) (w : World) (hg : w.cell? ⟨3, 0, none⟩ = some (.iface 126 (.agg #[.pointer (some ⟨9, 55, none⟩)]))) (ht0 : w.cell? t = some old) (hf0 : w.frozen? t = false) :
    Calls Tryd.prog 48 #[.iface 81 (.pointer (some e)), .iface 83 (.pointer (some t))] w fun ev w' => ev = .returned (.bool true) ∧ w' = ((((w.alloc (.cells #[.pointer (some t)] 83)).alloc (.cells #[.pointer (some ⟨9, 83, none⟩), .pointer (some ⟨w.heap.size, 0, none⟩), .int .u64 150] 106)).alloc (.cells #[.pointer (some ⟨9, 83, none⟩), .pointer (some ⟨w.heap.size, 0, none⟩), .int .u64 150] 106)).alloc (.cells #[.pointer (some e)] 81)).setCell t (.pointer (some e)) := by
  obtain ⟨e28, he28⟩ := Option.isSome_iff_exists.1 Tryd.has62
  obtain ⟨e29, he29⟩ := Option.isSome_iff_exists.1 Tryd.has63
  obtain ⟨e51, he51⟩ := Option.isSome_iff_exists.1 Tryd.has107
  obtain ⟨e62, he62⟩ := Option.isSome_iff_exists.1 Tryd.has118
  obtain ⟨e63, he63⟩ := Option.isSome_iff_exists.1 Tryd.has119
  obtain ⟨e60, he60⟩ := Option.isSome_iff_exists.1 Tryd.has116
  obtain ⟨e33, he33⟩ := Option.isSome_iff_exists.1 Tryd.has80
  have h6 := @run_callFunc_extern Tryd.prog 62 _ e28 Tryd.func62 (by kernel_rfl) (by kernel_rfl) (by kernel_rfl) he28
  have h7 := @run_callFunc_extern Tryd.prog 63 _ e29 Tryd.func63 (by kernel_rfl) (by kernel_rfl) (by kernel_rfl) he29
  have h8 := @run_callFunc_extern Tryd.prog 64 _ (ReflectliteValue.method (ReflectliteValue.valueError "reflectlite.Value.IsNil" 0) ReflectliteValue.isNil) Tryd.func64 (by kernel_rfl) (by kernel_rfl) (by kernel_rfl) (by kernel_rfl)
  have h27 := @run_callFunc_extern Tryd.prog 107 _ e51 Tryd.func107 (by kernel_rfl) (by kernel_rfl) (by kernel_rfl) he51
  have h37 := @run_callFunc_extern Tryd.prog 118 _ e62 Tryd.func118 (by kernel_rfl) (by kernel_rfl) (by kernel_rfl) he62
  have h38 := @run_callFunc_extern Tryd.prog 119 _ e63 Tryd.func119 (by kernel_rfl) (by kernel_rfl) (by kernel_rfl) he63
  have h10 := @run_callFunc_extern Tryd.prog 80 _ e33 Tryd.func80 (by kernel_rfl) (by kernel_rfl) (by kernel_rfl) he33
  have h35 := @run_callFunc_extern Tryd.prog 116 _ e60 Tryd.func116 (by kernel_rfl) (by kernel_rfl) (by kernel_rfl) he60
  have h11 := @run_callFunc_extern Tryd.prog 82 _ (ReflectliteValue.method (ReflectliteValue.valueError "reflectlite.Value.Elem" 0) ReflectliteValue.elem) Tryd.func82 (by kernel_rfl) (by kernel_rfl) (by kernel_rfl) (by kernel_rfl)
  have h12 := @run_callFunc_extern Tryd.prog 83 _ ReflectliteValue.set Tryd.func83 (by kernel_rfl) (by kernel_rfl) (by kernel_rfl) (by kernel_rfl)
  have tO := fun v wx => entry_run he33 (Tryd.typeOf47 v wx)
  have mA := Tryd.methodAssignableTo
  have a25 := fun wx => entry_run he60 (Tryd.assignable47 wx)
  have v25 := fun a wx => entry_run he28 (Tryd.valueOf47 a wx)
  have f6 := fun a wx => entry_run he28 (Tryd.valueOf49 a wx)
  have f7 := fun a wx => entry_run he29 (Tryd.type49 a wx)
  have mK := Tryd.methodKind
  have mE := Tryd.methodElem
  have mI := Tryd.methodImplements
  have k27 := fun wx => entry_run he51 (Tryd.kind49 wx)
  have k25 := fun wx => entry_run he51 (Tryd.kind47 wx)
  have e27 := fun wx => entry_run he62 (Tryd.elem49 wx)
  have i25 := fun wx => entry_run he63 (Tryd.implements47 wx)
  clear he28 he29 he51 he62 he63 he60 he33
  have n8 := Tryd.isNil49 ⟨w.heap.size, 0, none⟩ t ((w.alloc (.cells #[.pointer (some t)] 83)).alloc (.cells #[.pointer (some ⟨9, 83, none⟩), .pointer (some ⟨w.heap.size, 0, none⟩), .int .u64 150] 106)) (by simp)
  have hlt : 3 < w.heap.size := by
    rcases Nat.lt_or_ge 3 w.heap.size with h | h
    · exact h
    · simp [World.cell?, Array.getElem?_eq_none h] at hg
  have hg2 : ((w.alloc (.cells #[.pointer (some t)] 83)).alloc (.cells #[.pointer (some ⟨9, 83, none⟩), .pointer (some ⟨w.heap.size, 0, none⟩), .int .u64 150] 106)).cell? ⟨3, 0, none⟩ = some (.iface 126 (.agg #[.pointer (some ⟨9, 55, none⟩)])) := by
    rw [World.cell?_alloc_lt _ _ ⟨3, 0, none⟩ (by simp; omega), World.cell?_alloc_lt _ _ ⟨3, 0, none⟩ hlt]; exact hg
  have htl : t.block < w.heap.size := by
    rcases Nat.lt_or_ge t.block w.heap.size with h | h
    · exact h
    · simp [World.cell?, Array.getElem?_eq_none h] at ht0
  have el := Tryd.elemV49 ⟨w.heap.size, 0, none⟩ t (((w.alloc (.cells #[.pointer (some t)] 83)).alloc (.cells #[.pointer (some ⟨9, 83, none⟩), .pointer (some ⟨w.heap.size, 0, none⟩), .int .u64 150] 106)).alloc (.cells #[.pointer (some ⟨9, 83, none⟩), .pointer (some ⟨w.heap.size, 0, none⟩), .int .u64 150] 106)) (by rw [World.cell?_alloc_lt _ _ ⟨w.heap.size, 0, none⟩ (by simp; omega)]; simp)
  have st := Tryd.set47 t ⟨w.heap.size + 1 + 1 + 1, 0, none⟩ e old ((((w.alloc (.cells #[.pointer (some t)] 83)).alloc (.cells #[.pointer (some ⟨9, 83, none⟩), .pointer (some ⟨w.heap.size, 0, none⟩), .int .u64 150] 106)).alloc (.cells #[.pointer (some ⟨9, 83, none⟩), .pointer (some ⟨w.heap.size, 0, none⟩), .int .u64 150] 106)).alloc (.cells #[.pointer (some e)] 81))
    (by rw [World.cell?_alloc_at _ _ _ _ (by simp)]; rfl)
    (by rw [World.cell?_alloc_lt _ _ t (by simp; omega), World.cell?_alloc_lt _ _ t (by simp; omega), World.cell?_alloc_lt _ _ t (by simp; omega), World.cell?_alloc_lt _ _ t htl]; exact ht0)
    (by rw [World.frozen?_alloc_old _ _ t (by simp; omega), World.frozen?_alloc_old _ _ t (by simp; omega), World.frozen?_alloc_old _ _ t (by simp; omega), World.frozen?_alloc_old _ _ t (Nat.ne_of_lt htl)]; exact hf0)
  go_enter Tryd.func48, Tryd.ntmps48
  go_wp2
  refine wp_loop_rounds 1 ?_
  rw [rounds_succ]
  go_wp2
  go_ret
  exact ⟨rfl, rfl⟩
end Go.Proofs.YtnpkkcbadcmgkaaDoor
