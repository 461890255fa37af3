import Derived.Test.YtfcodbbencjncaaDoorWErr
namespace Go.Proofs.YtfcodbbencjncaaDoor
open Go.RowKit Go.Extern.Stop Go.Stop Go.Extern

/-! ### errors.As at the target of errnoOf: 47: the pointer to a fault, 49: the pointer to that, 36: error, 74: reflectlite's rtype, 60: reflectlite's Value -/
theorem as_nil (t : Value) (w : World) :
    Calls Tryd.prog 23 #[.nilIface, t] w fun e w' => e = .returned (.bool false) ∧ w' = w := by
  go_enter Tryd.func23, Tryd.ntmps23
  go_wp2
  go_ret
  exact ⟨rfl, rfl⟩

theorem Tryd.has28 : (Extern.find Tryd.f28).isSome = true := by kernel_rfl
theorem Tryd.has29 : (Extern.find Tryd.f29).isSome = true := by kernel_rfl
theorem Tryd.has51 : (Extern.find Tryd.f51).isSome = true := by kernel_rfl
theorem Tryd.has62 : (Extern.find Tryd.f62).isSome = true := by kernel_rfl
theorem Tryd.has63 : (Extern.find Tryd.f63).isSome = true := by kernel_rfl
theorem Tryd.has60 : (Extern.find Tryd.f60).isSome = true := by kernel_rfl
theorem Tryd.valueOf49 (t : Addr) (w : World) : (Extern.find Tryd.f28).map (fun x => (x #[.iface 49 (.pointer (some t))]).run Tryd.prog w)
    = some (.ok (.agg #[.pointer (some ⟨5, 49, none⟩), .pointer (some ⟨w.heap.size, 0, none⟩), .int .u64 150]) (w.alloc (.cells #[.pointer (some t)] 49))) := by kernel_rfl
theorem Tryd.valueOf47 (t : Addr) (w : World) : (Extern.find Tryd.f28).map (fun x => (x #[.iface 47 (.pointer (some t))]).run Tryd.prog w)
    = some (.ok (.agg #[.pointer (some ⟨5, 47, none⟩), .pointer (some ⟨w.heap.size, 0, none⟩), .int .u64 150]) (w.alloc (.cells #[.pointer (some t)] 47))) := by kernel_rfl
theorem Tryd.type49 (a : Addr) (w : World) : (Extern.find Tryd.f29).map (fun x => (x #[.agg #[.pointer (some ⟨5, 49, none⟩), .pointer (some a), .int .u64 150]]).run Tryd.prog w)
    = some (.ok (.iface 74 (.agg #[.pointer (some ⟨5, 49, none⟩)])) w) := by kernel_rfl
theorem Tryd.methodKind (h : Value) (w : World) : (Go.method 224 74 (.agg #[h]) "Kind").run Tryd.prog w = .ok (51, h) w := by kernel_rfl
theorem Tryd.kind49 (w : World) : (Extern.find Tryd.f51).map (fun x => (x #[.pointer (some ⟨5, 49, none⟩)]).run Tryd.prog w) = some (.ok (.int .u8 22) w) := by kernel_rfl
theorem Tryd.kind47 (w : World) : (Extern.find Tryd.f51).map (fun x => (x #[.pointer (some ⟨5, 47, none⟩)]).run Tryd.prog w) = some (.ok (.int .u8 22) w) := by kernel_rfl
theorem Tryd.methodElem (h : Value) (w : World) : (Go.method 224 74 (.agg #[h]) "Elem").run Tryd.prog w = .ok (62, .agg #[h]) w := by kernel_rfl
theorem Tryd.methodImplements (h : Value) (w : World) : (Go.method 224 74 (.agg #[h]) "Implements").run Tryd.prog w = .ok (63, .agg #[h]) w := by kernel_rfl
theorem Tryd.methodAssignableTo (h : Value) (w : World) : (Go.method 224 74 (.agg #[h]) "AssignableTo").run Tryd.prog w = .ok (60, .agg #[h]) w := by kernel_rfl
theorem Tryd.elem49 (w : World) : (Extern.find Tryd.f62).map (fun x => (x #[.agg #[.pointer (some ⟨5, 49, none⟩)]]).run Tryd.prog w) = some (.ok (.iface 74 (.agg #[.pointer (some ⟨5, 47, none⟩)])) w) := by kernel_rfl
theorem Tryd.implements47 (w : World) : (Extern.find Tryd.f63).map (fun x => (x #[.agg #[.pointer (some ⟨5, 47, none⟩)], .iface 74 (.agg #[.pointer (some ⟨5, 36, none⟩)])]).run Tryd.prog w) = some (.ok (.bool true) w) := by kernel_rfl
theorem Tryd.typeOf47 (v : Value) (w : World) : (Extern.find Tryd.f33).map (fun x => (x #[.iface 47 v]).run Tryd.prog w) = some (.ok (.iface 74 (.agg #[.pointer (some ⟨5, 47, none⟩)])) w) := by kernel_rfl
theorem Tryd.assignable47 (w : World) : (Extern.find Tryd.f60).map (fun x => (x #[.agg #[.pointer (some ⟨5, 47, none⟩)], .iface 74 (.agg #[.pointer (some ⟨5, 47, none⟩)])]).run Tryd.prog w) = some (.ok (.bool true) w) := by kernel_rfl

/-! ### the entries that read or write memory -/
theorem Tryd.parts49 (a : Addr) (w : World) : (ReflectliteValue.parts (.agg #[.pointer (some ⟨5, 49, none⟩), .pointer (some a), .int .u64 150])).run Tryd.prog w = .ok (some (49, a, 150)) w := by kernel_rfl
theorem Tryd.parts47a (a : Addr) (w : World) : (ReflectliteValue.parts (.agg #[.pointer (some ⟨5, 47, none⟩), .pointer (some a), .int .u64 406])).run Tryd.prog w = .ok (some (47, a, 406)) w := by kernel_rfl
theorem Tryd.parts47 (a : Addr) (w : World) : (ReflectliteValue.parts (.agg #[.pointer (some ⟨5, 47, none⟩), .pointer (some a), .int .u64 150])).run Tryd.prog w = .ok (some (47, a, 150)) w := by kernel_rfl
theorem Tryd.elemOf49 (w : World) : (Rtype.elem? 49).run Tryd.prog w = .ok (some 47) w := by kernel_rfl
theorem Tryd.mk47 (p : Addr) (w : World) : (ReflectliteValue.mk 47 p ReflectliteValue.flagAddr).run Tryd.prog w = .ok (.agg #[.pointer (some ⟨5, 47, none⟩), .pointer (some p), .int .u64 406]) w := by kernel_rfl
theorem Tryd.direct47 (w : World) : (Rtype.directlyAssignable 47 47).run Tryd.prog w = .ok true w := by kernel_rfl
end Go.Proofs.YtfcodbbencjncaaDoor
