import Derived.Test.YtohgmoclnicchaaDoorWAs
namespace Go.Proofs.YtohgmoclnicchaaDoor
open Go.RowKit Go.Extern.Stop Go.Stop Go.Extern

set_option maxHeartbeats 4000000 in
theorem as_hit (e t : Addr) (old : Value) (w : World) (hg : w.cell? ⟨3, 0, none⟩ = some (.iface 134 (.agg #[.pointer (some ⟨9, 60, none⟩)]))) (ht0 : w.cell? t = some old) (hf0 : w.frozen? t = false) :
    Calls Tryd.prog 61 #[.iface 91 (.pointer (some e)), .iface 93 (.pointer (some t))] w fun ev w' => ev = .returned (.bool true) ∧ w' = ((((w.alloc (.cells #[.pointer (some t)] 93)).alloc (.cells #[.pointer (some ⟨9, 93, none⟩), .pointer (some ⟨w.heap.size, 0, none⟩), .int .u64 150] 115)).alloc (.cells #[.pointer (some ⟨9, 93, none⟩), .pointer (some ⟨w.heap.size, 0, none⟩), .int .u64 150] 115)).alloc (.cells #[.pointer (some e)] 91)).setCell t (.pointer (some e)) := by
  obtain ⟨e28, he28⟩ := Option.isSome_iff_exists.1 Tryd.has75
  obtain ⟨e29, he29⟩ := Option.isSome_iff_exists.1 Tryd.has76
  obtain ⟨e51, he51⟩ := Option.isSome_iff_exists.1 Tryd.has116
  obtain ⟨e62, he62⟩ := Option.isSome_iff_exists.1 Tryd.has127
  obtain ⟨e63, he63⟩ := Option.isSome_iff_exists.1 Tryd.has128
  obtain ⟨e60, he60⟩ := Option.isSome_iff_exists.1 Tryd.has125
  obtain ⟨e33, he33⟩ := Option.isSome_iff_exists.1 Tryd.has92
  have h6 := @run_callFunc_extern Tryd.prog 75 _ e28 Tryd.func75 (by kernel_rfl) (by kernel_rfl) (by kernel_rfl) he28
  have h7 := @run_callFunc_extern Tryd.prog 76 _ e29 Tryd.func76 (by kernel_rfl) (by kernel_rfl) (by kernel_rfl) he29
  have h8 := @run_callFunc_extern Tryd.prog 77 _ (ReflectliteValue.method (ReflectliteValue.valueError "reflectlite.Value.IsNil" 0) ReflectliteValue.isNil) Tryd.func77 (by kernel_rfl) (by kernel_rfl) (by kernel_rfl) (by kernel_rfl)
  have h27 := @run_callFunc_extern Tryd.prog 116 _ e51 Tryd.func116 (by kernel_rfl) (by kernel_rfl) (by kernel_rfl) he51
  have h37 := @run_callFunc_extern Tryd.prog 127 _ e62 Tryd.func127 (by kernel_rfl) (by kernel_rfl) (by kernel_rfl) he62
  have h38 := @run_callFunc_extern Tryd.prog 128 _ e63 Tryd.func128 (by kernel_rfl) (by kernel_rfl) (by kernel_rfl) he63
  have h10 := @run_callFunc_extern Tryd.prog 92 _ e33 Tryd.func92 (by kernel_rfl) (by kernel_rfl) (by kernel_rfl) he33
  have h35 := @run_callFunc_extern Tryd.prog 125 _ e60 Tryd.func125 (by kernel_rfl) (by kernel_rfl) (by kernel_rfl) he60
  have h11 := @run_callFunc_extern Tryd.prog 94 _ (ReflectliteValue.method (ReflectliteValue.valueError "reflectlite.Value.Elem" 0) ReflectliteValue.elem) Tryd.func94 (by kernel_rfl) (by kernel_rfl) (by kernel_rfl) (by kernel_rfl)
  have h12 := @run_callFunc_extern Tryd.prog 95 _ ReflectliteValue.set Tryd.func95 (by kernel_rfl) (by kernel_rfl) (by kernel_rfl) (by kernel_rfl)
  have tO := fun v wx => entry_run he33 (Tryd.typeOf47 v wx)
  have mA := Tryd.methodAssignableTo
  have a25 := fun wx => entry_run he60 (Tryd.assignable47 wx)
  have v25 := fun a wx => entry_run he28 (Tryd.valueOf47 a wx)
  have f6 := fun a wx => entry_run he28 (Tryd.valueOf49 a wx)
  have f7 := fun a wx => entry_run he29 (Tryd.type49 a wx)
  have mK := Tryd.methodKind
  have mE := Tryd.methodElem
  have mI := Tryd.methodImplements
  have k27 := fun wx => entry_run he51 (Tryd.kind49 wx)
  have k25 := fun wx => entry_run he51 (Tryd.kind47 wx)
  have e27 := fun wx => entry_run he62 (Tryd.elem49 wx)
  have i25 := fun wx => entry_run he63 (Tryd.implements47 wx)
  clear he28 he29 he51 he62 he63 he60 he33
  have n8 := Tryd.isNil49 ⟨w.heap.size, 0, none⟩ t ((w.alloc (.cells #[.pointer (some t)] 93)).alloc (.cells #[.pointer (some ⟨9, 93, none⟩), .pointer (some ⟨w.heap.size, 0, none⟩), .int .u64 150] 115)) (by simp)
  have hlt : 3 < w.heap.size := by
    rcases Nat.lt_or_ge 3 w.heap.size with h | h
    · exact h
    · simp [World.cell?, Array.getElem?_eq_none h] at hg
  have hg2 : ((w.alloc (.cells #[.pointer (some t)] 93)).alloc (.cells #[.pointer (some ⟨9, 93, none⟩), .pointer (some ⟨w.heap.size, 0, none⟩), .int .u64 150] 115)).cell? ⟨3, 0, none⟩ = some (.iface 134 (.agg #[.pointer (some ⟨9, 60, none⟩)])) := by
    rw [World.cell?_alloc_lt _ _ ⟨3, 0, none⟩ (by simp; omega), World.cell?_alloc_lt _ _ ⟨3, 0, none⟩ hlt]; exact hg
  have htl : t.block < w.heap.size := by
    rcases Nat.lt_or_ge t.block w.heap.size with h | h
    · exact h
    · simp [World.cell?, Array.getElem?_eq_none h] at ht0
  have el := Tryd.elemV49 ⟨w.heap.size, 0, none⟩ t (((w.alloc (.cells #[.pointer (some t)] 93)).alloc (.cells #[.pointer (some ⟨9, 93, none⟩), .pointer (some ⟨w.heap.size, 0, none⟩), .int .u64 150] 115)).alloc (.cells #[.pointer (some ⟨9, 93, none⟩), .pointer (some ⟨w.heap.size, 0, none⟩), .int .u64 150] 115)) (by rw [World.cell?_alloc_lt _ _ ⟨w.heap.size, 0, none⟩ (by simp; omega)]; simp)
  have st := Tryd.set47 t ⟨w.heap.size + 1 + 1 + 1, 0, none⟩ e old ((((w.alloc (.cells #[.pointer (some t)] 93)).alloc (.cells #[.pointer (some ⟨9, 93, none⟩), .pointer (some ⟨w.heap.size, 0, none⟩), .int .u64 150] 115)).alloc (.cells #[.pointer (some ⟨9, 93, none⟩), .pointer (some ⟨w.heap.size, 0, none⟩), .int .u64 150] 115)).alloc (.cells #[.pointer (some e)] 91))
    (by rw [World.cell?_alloc_at _ _ _ _ (by simp)]; rfl)
    (by rw [World.cell?_alloc_lt _ _ t (by simp; omega), World.cell?_alloc_lt _ _ t (by simp; omega), World.cell?_alloc_lt _ _ t (by simp; omega), World.cell?_alloc_lt _ _ t htl]; exact ht0)
    (by rw [World.frozen?_alloc_old _ _ t (by simp; omega), World.frozen?_alloc_old _ _ t (by simp; omega), World.frozen?_alloc_old _ _ t (by simp; omega), World.frozen?_alloc_old _ _ t (Nat.ne_of_lt htl)]; exact hf0)
  go_enter Tryd.func61, Tryd.ntmps61
  go_wp2
  refine wp_loop_rounds 1 ?_
  rw [rounds_succ]
  go_wp2
  go_ret
  exact ⟨rfl, rfl⟩
end Go.Proofs.YtohgmoclnicchaaDoor
