import Derived.Test.YtohgmoclnicchaaDoorWErr
namespace Go.Proofs.YtohgmoclnicchaaDoor
open Go.RowKit Go.Extern.Stop Go.Stop Go.Extern

/-! ### errors.As at the target of errnoOf: 91: the pointer to a fault, 93: the pointer to that, 60: error, 134: reflectlite's rtype, 115: reflectlite's Value -/
theorem as_nil (t : Value) (w : World) :
    Calls Tryd.prog 61 #[.nilIface, t] w fun e w' => e = .returned (.bool false) ∧ w' = w := by
  go_enter Tryd.func61, Tryd.ntmps61
  go_wp2
  go_ret
  exact ⟨rfl, rfl⟩

theorem Tryd.has75 : (Extern.find Tryd.f75).isSome = true := by kernel_rfl
theorem Tryd.has76 : (Extern.find Tryd.f76).isSome = true := by kernel_rfl
theorem Tryd.has116 : (Extern.find Tryd.f116).isSome = true := by kernel_rfl
theorem Tryd.has127 : (Extern.find Tryd.f127).isSome = true := by kernel_rfl
theorem Tryd.has128 : (Extern.find Tryd.f128).isSome = true := by kernel_rfl
theorem Tryd.has125 : (Extern.find Tryd.f125).isSome = true := by kernel_rfl
theorem Tryd.valueOf49 (t : Addr) (w : World) : (Extern.find Tryd.f75).map (fun x => (x #[.iface 93 (.pointer (some t))]).run Tryd.prog w)
    = some (.ok (.agg #[.pointer (some ⟨9, 93, none⟩), .pointer (some ⟨w.heap.size, 0, none⟩), .int .u64 150]) (w.alloc (.cells #[.pointer (some t)] 93))) := by kernel_rfl
theorem Tryd.valueOf47 (t : Addr) (w : World) : (Extern.find Tryd.f75).map (fun x => (x #[.iface 91 (.pointer (some t))]).run Tryd.prog w)
    = some (.ok (.agg #[.pointer (some ⟨9, 91, none⟩), .pointer (some ⟨w.heap.size, 0, none⟩), .int .u64 150]) (w.alloc (.cells #[.pointer (some t)] 91))) := by kernel_rfl
theorem Tryd.type49 (a : Addr) (w : World) : (Extern.find Tryd.f76).map (fun x => (x #[.agg #[.pointer (some ⟨9, 93, none⟩), .pointer (some a), .int .u64 150]]).run Tryd.prog w)
    = some (.ok (.iface 134 (.agg #[.pointer (some ⟨9, 93, none⟩)])) w) := by kernel_rfl
theorem Tryd.methodKind (h : Value) (w : World) : (Go.method 287 134 (.agg #[h]) "Kind").run Tryd.prog w = .ok (116, h) w := by kernel_rfl
theorem Tryd.kind49 (w : World) : (Extern.find Tryd.f116).map (fun x => (x #[.pointer (some ⟨9, 93, none⟩)]).run Tryd.prog w) = some (.ok (.int .u8 22) w) := by kernel_rfl
theorem Tryd.kind47 (w : World) : (Extern.find Tryd.f116).map (fun x => (x #[.pointer (some ⟨9, 91, none⟩)]).run Tryd.prog w) = some (.ok (.int .u8 22) w) := by kernel_rfl
theorem Tryd.methodElem (h : Value) (w : World) : (Go.method 287 134 (.agg #[h]) "Elem").run Tryd.prog w = .ok (127, .agg #[h]) w := by kernel_rfl
theorem Tryd.methodImplements (h : Value) (w : World) : (Go.method 287 134 (.agg #[h]) "Implements").run Tryd.prog w = .ok (128, .agg #[h]) w := by kernel_rfl
theorem Tryd.methodAssignableTo (h : Value) (w : World) : (Go.method 287 134 (.agg #[h]) "AssignableTo").run Tryd.prog w = .ok (125, .agg #[h]) w := by kernel_rfl
theorem Tryd.elem49 (w : World) : (Extern.find Tryd.f127).map (fun x => (x #[.agg #[.pointer (some ⟨9, 93, none⟩)]]).run Tryd.prog w) = some (.ok (.iface 134 (.agg #[.pointer (some ⟨9, 91, none⟩)])) w) := by kernel_rfl
theorem Tryd.implements47 (w : World) : (Extern.find Tryd.f128).map (fun x => (x #[.agg #[.pointer (some ⟨9, 91, none⟩)], .iface 134 (.agg #[.pointer (some ⟨9, 60, none⟩)])]).run Tryd.prog w) = some (.ok (.bool true) w) := by kernel_rfl
theorem Tryd.typeOf47 (v : Value) (w : World) : (Extern.find Tryd.f92).map (fun x => (x #[.iface 91 v]).run Tryd.prog w) = some (.ok (.iface 134 (.agg #[.pointer (some ⟨9, 91, none⟩)])) w) := by kernel_rfl
theorem Tryd.assignable47 (w : World) : (Extern.find Tryd.f125).map (fun x => (x #[.agg #[.pointer (some ⟨9, 91, none⟩)], .iface 134 (.agg #[.pointer (some ⟨9, 91, none⟩)])]).run Tryd.prog w) = some (.ok (.bool true) w) := by kernel_rfl

/-! ### the entries that read or write memory -/
theorem Tryd.parts49 (a : Addr) (w : World) : (ReflectliteValue.parts (.agg #[.pointer (some ⟨9, 93, none⟩), .pointer (some a), .int .u64 150])).run Tryd.prog w = .ok (some (93, a, 150)) w := by kernel_rfl
theorem Tryd.parts47a (a : Addr) (w : World) : (ReflectliteValue.parts (.agg #[.pointer (some ⟨9, 91, none⟩), .pointer (some a), .int .u64 406])).run Tryd.prog w = .ok (some (91, a, 406)) w := by kernel_rfl
theorem Tryd.parts47 (a : Addr) (w : World) : (ReflectliteValue.parts (.agg #[.pointer (some ⟨9, 91, none⟩), .pointer (some a), .int .u64 150])).run Tryd.prog w = .ok (some (91, a, 150)) w := by kernel_rfl
theorem Tryd.elemOf49 (w : World) : (Rtype.elem? 93).run Tryd.prog w = .ok (some 91) w := by kernel_rfl
theorem Tryd.mk47 (p : Addr) (w : World) : (ReflectliteValue.mk 91 p ReflectliteValue.flagAddr).run Tryd.prog w = .ok (.agg #[.pointer (some ⟨9, 91, none⟩), .pointer (some p), .int .u64 406]) w := by kernel_rfl
theorem Tryd.direct47 (w : World) : (Rtype.directlyAssignable 91 91).run Tryd.prog w = .ok true w := by kernel_rfl
end Go.Proofs.YtohgmoclnicchaaDoor
