import Derived.Test.YtohgmoclnicchaaDoorWAsF
namespace Go.Proofs.YtohgmoclnicchaaDoor
open Go.RowKit Go.Extern.Stop Go.Stop Go.Extern
theorem method_run {P : Program} (z : Sem Value) (f : TypeId → Addr → Nat → Nat → Sem Value) (v : Value) {t : TypeId} {a : Addr} {fl : Nat} {W : World} (h : (ReflectliteValue.parts v).run P W = .ok (some (t, a, fl)) W) :
    (ReflectliteValue.method z f #[v]).run P W = (f t a fl (fl % 32)).run P W := by
  show Sem.run P (ReflectliteValue.parts v >>= _) W = _
  rw [Sem.run_bind, h]
  rfl
theorem Tryd.isNil49 (a p : Addr) (W : World) (ha : W.cell? a = some (.pointer (some p))) :
    (ReflectliteValue.method (ReflectliteValue.valueError "reflectlite.Value.IsNil" 0) ReflectliteValue.isNil #[.agg #[.pointer (some ⟨9, 93, none⟩), .pointer (some a), .int .u64 150]]).run Tryd.prog W = .ok (.bool false) W := by
  rw [method_run _ _ _ (Tryd.parts49 a W)]
  simp [ReflectliteValue.isNil, loadVar, isAgg, underlying, Tryd.underlying93, ha, Result.andThen]
theorem Tryd.elemV49 (a p : Addr) (W : World) (ha : W.cell? a = some (.pointer (some p))) :
    (ReflectliteValue.method (ReflectliteValue.valueError "reflectlite.Value.Elem" 0) ReflectliteValue.elem #[.agg #[.pointer (some ⟨9, 93, none⟩), .pointer (some a), .int .u64 150]]).run Tryd.prog W
      = .ok (.agg #[.pointer (some ⟨9, 91, none⟩), .pointer (some p), .int .u64 406]) W := by
  rw [method_run _ _ _ (Tryd.parts49 a W)]
  simp [ReflectliteValue.elem, loadVar, isAgg, underlying, Tryd.underlying93, ha, Result.andThen, Tryd.elemOf49, Tryd.mk47]
set_option maxRecDepth 100000 in
theorem Tryd.set47 (ta b e : Addr) (old : Value) (W : World) (hb : W.cell? b = some (.pointer (some e))) (ht : W.cell? ta = some old) (hf : W.frozen? ta = false) :
    (ReflectliteValue.set #[.agg #[.pointer (some ⟨9, 91, none⟩), .pointer (some ta), .int .u64 406], .agg #[.pointer (some ⟨9, 91, none⟩), .pointer (some b), .int .u64 150]]).run Tryd.prog W
      = .ok (.tuple #[]) (W.setCell ta (.pointer (some e))) := by
  show Sem.run Tryd.prog (ReflectliteValue.parts (.agg #[.pointer (some ⟨9, 91, none⟩), .pointer (some ta), .int .u64 406]) >>= _) W = _
  rw [Sem.run_bind, Tryd.parts47a]
  show Sem.run Tryd.prog (ReflectliteValue.parts (.agg #[.pointer (some ⟨9, 91, none⟩), .pointer (some b), .int .u64 150]) >>= _) W = _
  rw [Sem.run_bind, Tryd.parts47]
  simp [ReflectliteValue.flagAddr, loadVar, isAgg, underlying, Tryd.underlying91, hb, Result.andThen, Tryd.direct47, storeVar, Value.cells, storeCells, Addr.add]
  rw [run_store Tryd.prog W ta _ _ (by rfl)]
  simp [ht, hf]
end Go.Proofs.YtohgmoclnicchaaDoor
