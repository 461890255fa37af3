import Derived.Test.YtnpkkcbadcmgkaaGreatDoorWBase
import Derived.LaidEql
import Derived.Stop.Asserts
import Derived.RowKitTokens
namespace Go.Proofs.YtnpkkcbadcmgkaaGreatDoor
open Go.RowKit Go.Extern.Stop Go.Stop Go.Extern

/-- what a function that the model stands in for answers at given arguments, the entry itself left unnamed. -/
theorem entry_run {P : Program} {fn : Func} {e : Array Value → Sem Value} (he : Extern.find fn = some e) {args : Array Value} {w : World} {r : Result Value}
    (h : (Extern.find fn).map (fun x => (x args).run P w) = some r) : (e args).run P w = r := by
  rw [he] at h
  exact Option.some.inj h

/-! ### errors.Is against a sentinel of errors.New's make -/
theorem Tryz.isTypeOf (v : Value) (w : World) : (Extern.find Tryz.f88).map (fun x => (x #[.iface 175 v]).run Tryz.prog w) = some (.ok (.iface 139 (.agg #[.pointer (some ⟨13, 175, none⟩)])) w) := by kernel_rfl
theorem Tryz.isComparable (w : World) : (Extern.find Tryz.f148).map (fun x => (x #[.agg #[.pointer (some ⟨13, 175, none⟩)]]).run Tryz.prog w) = some (.ok (.bool true) w) := by kernel_rfl
theorem Tryz.has88 : (Extern.find Tryz.f88).isSome = true := by kernel_rfl
theorem Tryz.has148 : (Extern.find Tryz.f148).isSome = true := by kernel_rfl
theorem Tryz.isMethodComparable (v : Value) (w : World) : (Go.method 307 139 v "Comparable").run Tryz.prog w = .ok (148, v) w := by kernel_rfl
theorem Tryz.isComp : (Tryz.prog.info? 175).map (·.comparable) = some true := by kernel_rfl
theorem Tryz.isSize : (Tryz.prog.info? 195).map (·.size) = some 1 := by kernel_rfl
theorem Tryz.noIsE (v : Value) (xT : TypeId) (w : World) : (Instr.typeAssert (.iface 175 v) xT 167 true).run Tryz.prog w = .ok (.tuple #[.nilIface, .bool false]) w := run_typeAssert_lacksB Tryz.underlying167 (by kernel_rfl) (by kernel_rfl) v xT w
theorem Tryz.noUnwrapE (v : Value) (xT : TypeId) (w : World) : (Instr.typeAssert (.iface 175 v) xT 147 true).run Tryz.prog w = .ok (.tuple #[.nilIface, .bool false]) w := run_typeAssert_lacksB Tryz.underlying147 (by kernel_rfl) (by kernel_rfl) v xT w
theorem Tryz.noUnwrapsE (v : Value) (xT : TypeId) (w : World) : (Instr.typeAssert (.iface 175 v) xT 149 true).run Tryz.prog w = .ok (.tuple #[.nilIface, .bool false]) w := run_typeAssert_lacksB Tryz.underlying149 (by kernel_rfl) (by kernel_rfl) v xT w

theorem is_same (a : Addr) (w : World) :
    Calls Tryz.prog 79 #[.iface 175 (.pointer (some a)), .iface 175 (.pointer (some a))] w fun e w' => e = .returned (.bool true) ∧ w' = w := by
  obtain ⟨i, hi, hcmp⟩ := Option.map_eq_some_iff.1 Tryz.isComp
  obtain ⟨j, hj, hjs⟩ := Option.map_eq_some_iff.1 Tryz.isSize
  obtain ⟨e33, he33⟩ := Option.isSome_iff_exists.1 Tryz.has88
  obtain ⟨e61, he61⟩ := Option.isSome_iff_exists.1 Tryz.has148
  have h8 := @run_callFunc_extern Tryz.prog 88 _ e33 Tryz.func88 (by kernel_rfl) (by kernel_rfl) (by kernel_rfl) he33
  have h32 := @run_callFunc_extern Tryz.prog 148 _ e61 Tryz.func148 (by kernel_rfl) (by kernel_rfl) (by kernel_rfl) he61
  have tT := fun v wx => entry_run he33 (Tryz.isTypeOf v wx)
  have cT := fun wx => entry_run he61 (Tryz.isComparable wx)
  have mR := Tryz.isMethodComparable
  have heq := run_eql_iface_ptr_same (P := Tryz.prog) w a Tryz.underlying58 Tryz.underlying175 hi hcmp hj
  clear he33 he61
  go_enter Tryz.func79, Tryz.ntmps79
  go_wp2
  refine wp_loop_rounds 1 ?_
  rw [rounds_succ]
  go_wp2
  go_ret
  exact ⟨rfl, rfl⟩

theorem is_other (a b : Addr) (ca cb : Array Value) (ta tb : TypeId) (w : World) (hne : a ≠ b) (ha : w.heap[a.block]? = some (.cells ca ta (0, 0))) (hb : w.heap[b.block]? = some (.cells cb tb (0, 0))) :
    Calls Tryz.prog 79 #[.iface 175 (.pointer (some a)), .iface 175 (.pointer (some b))] w fun e w' => e = .returned (.bool false) ∧ w' = w := by
  obtain ⟨i, hi, hcmp⟩ := Option.map_eq_some_iff.1 Tryz.isComp
  obtain ⟨j, hj, hjs⟩ := Option.map_eq_some_iff.1 Tryz.isSize
  obtain ⟨e33, he33⟩ := Option.isSome_iff_exists.1 Tryz.has88
  obtain ⟨e61, he61⟩ := Option.isSome_iff_exists.1 Tryz.has148
  have h8 := @run_callFunc_extern Tryz.prog 88 _ e33 Tryz.func88 (by kernel_rfl) (by kernel_rfl) (by kernel_rfl) he33
  have h32 := @run_callFunc_extern Tryz.prog 148 _ e61 Tryz.func148 (by kernel_rfl) (by kernel_rfl) (by kernel_rfl) he61
  have tT := fun v wx => entry_run he33 (Tryz.isTypeOf v wx)
  have cT := fun wx => entry_run he61 (Tryz.isComparable wx)
  have mR := Tryz.isMethodComparable
  have nE := Tryz.noIsE
  have uE := Tryz.noUnwrapE
  have vE := Tryz.noUnwrapsE
  have heq := run_eql_iface_ptr_other (P := Tryz.prog) w Tryz.underlying58 Tryz.underlying175 hi hcmp hj (by rw [hjs]; decide) hne ha hb
  clear he33 he61
  go_enter Tryz.func79, Tryz.ntmps79
  go_wp2
  refine wp_loop_rounds 1 ?_
  rw [rounds_succ]
  go_wp2
  go_ret
  exact ⟨rfl, rfl⟩
end Go.Proofs.YtnpkkcbadcmgkaaGreatDoor

namespace Go.Proofs.YtnpkkcbadcmgkaaGreatDoor
open Go.RowKit Go.Extern.Stop Go.Stop Go.Extern

/-! ### errors.As at the target of errnoOf: 83: the pointer to a fault, 85: the pointer to that, 58: error, 139: reflectlite's rtype, 108: reflectlite's Value -/
theorem as_nil (t : Value) (w : World) :
    Calls Tryz.prog 43 #[.nilIface, t] w fun e w' => e = .returned (.bool false) ∧ w' = w := by
  go_enter Tryz.func43, Tryz.ntmps43
  go_wp2
  go_ret
  exact ⟨rfl, rfl⟩

theorem Tryz.has69 : (Extern.find Tryz.f69).isSome = true := by kernel_rfl
theorem Tryz.has70 : (Extern.find Tryz.f70).isSome = true := by kernel_rfl
theorem Tryz.has138 : (Extern.find Tryz.f138).isSome = true := by kernel_rfl
theorem Tryz.has149 : (Extern.find Tryz.f149).isSome = true := by kernel_rfl
theorem Tryz.has150 : (Extern.find Tryz.f150).isSome = true := by kernel_rfl
theorem Tryz.has147 : (Extern.find Tryz.f147).isSome = true := by kernel_rfl
theorem Tryz.valueOf49 (t : Addr) (w : World) : (Extern.find Tryz.f69).map (fun x => (x #[.iface 85 (.pointer (some t))]).run Tryz.prog w)
    = some (.ok (.agg #[.pointer (some ⟨13, 85, none⟩), .pointer (some ⟨w.heap.size, 0, none⟩), .int .u64 150]) (w.alloc (.cells #[.pointer (some t)] 85))) := by kernel_rfl
theorem Tryz.valueOf47 (t : Addr) (w : World) : (Extern.find Tryz.f69).map (fun x => (x #[.iface 83 (.pointer (some t))]).run Tryz.prog w)
    = some (.ok (.agg #[.pointer (some ⟨13, 83, none⟩), .pointer (some ⟨w.heap.size, 0, none⟩), .int .u64 150]) (w.alloc (.cells #[.pointer (some t)] 83))) := by kernel_rfl
theorem Tryz.type49 (a : Addr) (w : World) : (Extern.find Tryz.f70).map (fun x => (x #[.agg #[.pointer (some ⟨13, 85, none⟩), .pointer (some a), .int .u64 150]]).run Tryz.prog w)
    = some (.ok (.iface 139 (.agg #[.pointer (some ⟨13, 85, none⟩)])) w) := by kernel_rfl
theorem Tryz.methodKind (h : Value) (w : World) : (Go.method 307 139 (.agg #[h]) "Kind").run Tryz.prog w = .ok (138, h) w := by kernel_rfl
theorem Tryz.kind49 (w : World) : (Extern.find Tryz.f138).map (fun x => (x #[.pointer (some ⟨13, 85, none⟩)]).run Tryz.prog w) = some (.ok (.int .u8 22) w) := by kernel_rfl
theorem Tryz.kind47 (w : World) : (Extern.find Tryz.f138).map (fun x => (x #[.pointer (some ⟨13, 83, none⟩)]).run Tryz.prog w) = some (.ok (.int .u8 22) w) := by kernel_rfl
theorem Tryz.methodElem (h : Value) (w : World) : (Go.method 307 139 (.agg #[h]) "Elem").run Tryz.prog w = .ok (149, .agg #[h]) w := by kernel_rfl
theorem Tryz.methodImplements (h : Value) (w : World) : (Go.method 307 139 (.agg #[h]) "Implements").run Tryz.prog w = .ok (150, .agg #[h]) w := by kernel_rfl
theorem Tryz.methodAssignableTo (h : Value) (w : World) : (Go.method 307 139 (.agg #[h]) "AssignableTo").run Tryz.prog w = .ok (147, .agg #[h]) w := by kernel_rfl
theorem Tryz.elem49 (w : World) : (Extern.find Tryz.f149).map (fun x => (x #[.agg #[.pointer (some ⟨13, 85, none⟩)]]).run Tryz.prog w) = some (.ok (.iface 139 (.agg #[.pointer (some ⟨13, 83, none⟩)])) w) := by kernel_rfl
theorem Tryz.implements47 (w : World) : (Extern.find Tryz.f150).map (fun x => (x #[.agg #[.pointer (some ⟨13, 83, none⟩)], .iface 139 (.agg #[.pointer (some ⟨13, 58, none⟩)])]).run Tryz.prog w) = some (.ok (.bool true) w) := by kernel_rfl
theorem Tryz.typeOf47 (v : Value) (w : World) : (Extern.find Tryz.f88).map (fun x => (x #[.iface 83 v]).run Tryz.prog w) = some (.ok (.iface 139 (.agg #[.pointer (some ⟨13, 83, none⟩)])) w) := by kernel_rfl
theorem Tryz.assignable47 (w : World) : (Extern.find Tryz.f147).map (fun x => (x #[.agg #[.pointer (some ⟨13, 83, none⟩)], .iface 139 (.agg #[.pointer (some ⟨13, 83, none⟩)])]).run Tryz.prog w) = some (.ok (.bool true) w) := by kernel_rfl

/-! ### the entries that read or write memory -/
theorem Tryz.parts49 (a : Addr) (w : World) : (ReflectliteValue.parts (.agg #[.pointer (some ⟨13, 85, none⟩), .pointer (some a), .int .u64 150])).run Tryz.prog w = .ok (some (85, a, 150)) w := by kernel_rfl
theorem Tryz.parts47a (a : Addr) (w : World) : (ReflectliteValue.parts (.agg #[.pointer (some ⟨13, 83, none⟩), .pointer (some a), .int .u64 406])).run Tryz.prog w = .ok (some (83, a, 406)) w := by kernel_rfl
theorem Tryz.parts47 (a : Addr) (w : World) : (ReflectliteValue.parts (.agg #[.pointer (some ⟨13, 83, none⟩), .pointer (some a), .int .u64 150])).run Tryz.prog w = .ok (some (83, a, 150)) w := by kernel_rfl
theorem Tryz.elemOf49 (w : World) : (Rtype.elem? 85).run Tryz.prog w = .ok (some 83) w := by kernel_rfl
theorem Tryz.mk47 (p : Addr) (w : World) : (ReflectliteValue.mk 83 p ReflectliteValue.flagAddr).run Tryz.prog w = .ok (.agg #[.pointer (some ⟨13, 83, none⟩), .pointer (some p), .int .u64 406]) w := by kernel_rfl
theorem Tryz.direct47 (w : World) : (Rtype.directlyAssignable 83 83).run Tryz.prog w = .ok true w := by kernel_rfl
end Go.Proofs.YtnpkkcbadcmgkaaGreatDoor

namespace Go.Proofs.YtnpkkcbadcmgkaaGreatDoor
open Go.RowKit Go.Extern.Stop Go.Stop Go.Extern
theorem method_run {P : Program} (z : Sem Value) (f : TypeId → Addr → Nat → Nat → Sem Value) (v : Value) {t : TypeId} {a : Addr} {fl : Nat} {W : World} (h : (ReflectliteValue.parts v).run P W = .ok (some (t, a, fl)) W) :
    (ReflectliteValue.method z f #[v]).run P W = (f t a fl (fl % 32)).run P W := by
  show Sem.run P (ReflectliteValue.parts v >>= _) W = _
  rw [Sem.run_bind, h]
  rfl
theorem Tryz.isNil49 (a p : Addr) (W : World) (ha : W.cell? a = some (.pointer (some p))) :
    (ReflectliteValue.method (ReflectliteValue.valueError "reflectlite.Value.IsNil" 0) ReflectliteValue.isNil #[.agg #[.pointer (some ⟨13, 85, none⟩), .pointer (some a), .int .u64 150]]).run Tryz.prog W = .ok (.bool false) W := by
  rw [method_run _ _ _ (Tryz.parts49 a W)]
  simp [ReflectliteValue.isNil, loadVar, isAgg, underlying, Tryz.underlying85, ha, Result.andThen]
theorem Tryz.elemV49 (a p : Addr) (W : World) (ha : W.cell? a = some (.pointer (some p))) :
    (ReflectliteValue.method (ReflectliteValue.valueError "reflectlite.Value.Elem" 0) ReflectliteValue.elem #[.agg #[.pointer (some ⟨13, 85, none⟩), .pointer (some a), .int .u64 150]]).run Tryz.prog W
      = .ok (.agg #[.pointer (some ⟨13, 83, none⟩), .pointer (some p), .int .u64 406]) W := by
  rw [method_run _ _ _ (Tryz.parts49 a W)]
  simp [ReflectliteValue.elem, loadVar, isAgg, underlying, Tryz.underlying85, ha, Result.andThen, Tryz.elemOf49, Tryz.mk47]
set_option maxRecDepth 100000 in
theorem Tryz.set47 (ta b e : Addr) (old : Value) (W : World) (hb : W.cell? b = some (.pointer (some e))) (ht : W.cell? ta = some old) (hf : W.frozen? ta = false) :
    (ReflectliteValue.set #[.agg #[.pointer (some ⟨13, 83, none⟩), .pointer (some ta), .int .u64 406], .agg #[.pointer (some ⟨13, 83, none⟩), .pointer (some b), .int .u64 150]]).run Tryz.prog W
      = .ok (.tuple #[]) (W.setCell ta (.pointer (some e))) := by
  show Sem.run Tryz.prog (ReflectliteValue.parts (.agg #[.pointer (some ⟨13, 83, none⟩), .pointer (some ta), .int .u64 406]) >>= _) W = _
  rw [Sem.run_bind, Tryz.parts47a]
  show Sem.run Tryz.prog (ReflectliteValue.parts (.agg #[.pointer (some ⟨13, 83, none⟩), .pointer (some b), .int .u64 150]) >>= _) W = _
  rw [Sem.run_bind, Tryz.parts47]
  simp [ReflectliteValue.flagAddr, loadVar, isAgg, underlying, Tryz.underlying83, hb, Result.andThen, Tryz.direct47, storeVar, Value.cells, storeCells, Addr.add]
  rw [run_store Tryz.prog W ta _ _ (by rfl)]
  simp [ht, hf]
end Go.Proofs.YtnpkkcbadcmgkaaGreatDoor

namespace Go.Proofs.YtnpkkcbadcmgkaaGreatDoor
open Go.RowKit Go.Extern.Stop Go.Stop Go.Extern

set_option maxHeartbeats 4000000 in
theorem as_hit (e t : Addr) (old : Value) (w : World) (hg : w.cell? ⟨2, 0, none⟩ = some (.iface 139 (.agg #[.pointer (some ⟨13, 58, none⟩)]))) (ht0 : w.cell? t = some old) (hf0 : w.frozen? t = false) :
    Calls Tryz.prog 43 #[.iface 83 (.pointer (some e)), .iface 85 (.pointer (some t))] w fun ev w' => ev = .returned (.bool true) ∧ w' = ((((w.alloc (.cells #[.pointer (some t)] 85)).alloc (.cells #[.pointer (some ⟨13, 85, none⟩), .pointer (some ⟨w.heap.size, 0, none⟩), .int .u64 150] 108)).alloc (.cells #[.pointer (some ⟨13, 85, none⟩), .pointer (some ⟨w.heap.size, 0, none⟩), .int .u64 150] 108)).alloc (.cells #[.pointer (some e)] 83)).setCell t (.pointer (some e)) := by
  obtain ⟨e28, he28⟩ := Option.isSome_iff_exists.1 Tryz.has69
  obtain ⟨e29, he29⟩ := Option.isSome_iff_exists.1 Tryz.has70
  obtain ⟨e51, he51⟩ := Option.isSome_iff_exists.1 Tryz.has138
  obtain ⟨e62, he62⟩ := Option.isSome_iff_exists.1 Tryz.has149
  obtain ⟨e63, he63⟩ := Option.isSome_iff_exists.1 Tryz.has150
  obtain ⟨e60, he60⟩ := Option.isSome_iff_exists.1 Tryz.has147
  obtain ⟨e33, he33⟩ := Option.isSome_iff_exists.1 Tryz.has88
  have h6 := @run_callFunc_extern Tryz.prog 69 _ e28 Tryz.func69 (by kernel_rfl) (by kernel_rfl) (by kernel_rfl) he28
  have h7 := @run_callFunc_extern Tryz.prog 70 _ e29 Tryz.func70 (by kernel_rfl) (by kernel_rfl) (by kernel_rfl) he29
  have h8 := @run_callFunc_extern Tryz.prog 71 _ (ReflectliteValue.method (ReflectliteValue.valueError "reflectlite.Value.IsNil" 0) ReflectliteValue.isNil) Tryz.func71 (by kernel_rfl) (by kernel_rfl) (by kernel_rfl) (by kernel_rfl)
  have h27 := @run_callFunc_extern Tryz.prog 138 _ e51 Tryz.func138 (by kernel_rfl) (by kernel_rfl) (by kernel_rfl) he51
  have h37 := @run_callFunc_extern Tryz.prog 149 _ e62 Tryz.func149 (by kernel_rfl) (by kernel_rfl) (by kernel_rfl) he62
  have h38 := @run_callFunc_extern Tryz.prog 150 _ e63 Tryz.func150 (by kernel_rfl) (by kernel_rfl) (by kernel_rfl) he63
  have h10 := @run_callFunc_extern Tryz.prog 88 _ e33 Tryz.func88 (by kernel_rfl) (by kernel_rfl) (by kernel_rfl) he33
  have h35 := @run_callFunc_extern Tryz.prog 147 _ e60 Tryz.func147 (by kernel_rfl) (by kernel_rfl) (by kernel_rfl) he60
  have h11 := @run_callFunc_extern Tryz.prog 89 _ (ReflectliteValue.method (ReflectliteValue.valueError "reflectlite.Value.Elem" 0) ReflectliteValue.elem) Tryz.func89 (by kernel_rfl) (by kernel_rfl) (by kernel_rfl) (by kernel_rfl)
  have h12 := @run_callFunc_extern Tryz.prog 90 _ ReflectliteValue.set Tryz.func90 (by kernel_rfl) (by kernel_rfl) (by kernel_rfl) (by kernel_rfl)
  have tO := fun v wx => entry_run he33 (Tryz.typeOf47 v wx)
  have mA := Tryz.methodAssignableTo
  have a25 := fun wx => entry_run he60 (Tryz.assignable47 wx)
  have v25 := fun a wx => entry_run he28 (Tryz.valueOf47 a wx)
  have f6 := fun a wx => entry_run he28 (Tryz.valueOf49 a wx)
  have f7 := fun a wx => entry_run he29 (Tryz.type49 a wx)
  have mK := Tryz.methodKind
  have mE := Tryz.methodElem
  have mI := Tryz.methodImplements
  have k27 := fun wx => entry_run he51 (Tryz.kind49 wx)
  have k25 := fun wx => entry_run he51 (Tryz.kind47 wx)
  have e27 := fun wx => entry_run he62 (Tryz.elem49 wx)
  have i25 := fun wx => entry_run he63 (Tryz.implements47 wx)
  clear he28 he29 he51 he62 he63 he60 he33
  have n8 := Tryz.isNil49 ⟨w.heap.size, 0, none⟩ t ((w.alloc (.cells #[.pointer (some t)] 85)).alloc (.cells #[.pointer (some ⟨13, 85, none⟩), .pointer (some ⟨w.heap.size, 0, none⟩), .int .u64 150] 108)) (by simp)
  have hlt : 2 < w.heap.size := by
    rcases Nat.lt_or_ge 2 w.heap.size with h | h
    · exact h
    · simp [World.cell?, Array.getElem?_eq_none h] at hg
  have hg2 : ((w.alloc (.cells #[.pointer (some t)] 85)).alloc (.cells #[.pointer (some ⟨13, 85, none⟩), .pointer (some ⟨w.heap.size, 0, none⟩), .int .u64 150] 108)).cell? ⟨2, 0, none⟩ = some (.iface 139 (.agg #[.pointer (some ⟨13, 58, none⟩)])) := by
    rw [World.cell?_alloc_lt _ _ ⟨2, 0, none⟩ (by simp; omega), World.cell?_alloc_lt _ _ ⟨2, 0, none⟩ hlt]; exact hg
  have htl : t.block < w.heap.size := by
    rcases Nat.lt_or_ge t.block w.heap.size with h | h
    · exact h
    · simp [World.cell?, Array.getElem?_eq_none h] at ht0
  have el := Tryz.elemV49 ⟨w.heap.size, 0, none⟩ t (((w.alloc (.cells #[.pointer (some t)] 85)).alloc (.cells #[.pointer (some ⟨13, 85, none⟩), .pointer (some ⟨w.heap.size, 0, none⟩), .int .u64 150] 108)).alloc (.cells #[.pointer (some ⟨13, 85, none⟩), .pointer (some ⟨w.heap.size, 0, none⟩), .int .u64 150] 108)) (by rw [World.cell?_alloc_lt _ _ ⟨w.heap.size, 0, none⟩ (by simp; omega)]; simp)
  have st := Tryz.set47 t ⟨w.heap.size + 1 + 1 + 1, 0, none⟩ e old ((((w.alloc (.cells #[.pointer (some t)] 85)).alloc (.cells #[.pointer (some ⟨13, 85, none⟩), .pointer (some ⟨w.heap.size, 0, none⟩), .int .u64 150] 108)).alloc (.cells #[.pointer (some ⟨13, 85, none⟩), .pointer (some ⟨w.heap.size, 0, none⟩), .int .u64 150] 108)).alloc (.cells #[.pointer (some e)] 83))
    (by rw [World.cell?_alloc_at _ _ _ _ (by simp)]; rfl)
    (by rw [World.cell?_alloc_lt _ _ t (by simp; omega), World.cell?_alloc_lt _ _ t (by simp; omega), World.cell?_alloc_lt _ _ t (by simp; omega), World.cell?_alloc_lt _ _ t htl]; exact ht0)
    (by rw [World.frozen?_alloc_old _ _ t (by simp; omega), World.frozen?_alloc_old _ _ t (by simp; omega), World.frozen?_alloc_old _ _ t (by simp; omega), World.frozen?_alloc_old _ _ t (Nat.ne_of_lt htl)]; exact hf0)
  go_enter Tryz.func43, Tryz.ntmps43
  go_wp2
  refine wp_loop_rounds 1 ?_
  rw [rounds_succ]
  go_wp2
  go_ret
  exact ⟨rfl, rfl⟩
end Go.Proofs.YtnpkkcbadcmgkaaGreatDoor
