/-
  The walk of impl.codeOf: the code that an error carries, asked for with errors.As.
-/
import Derived.Test.YtjkgjnpifdafaabDoorJoint1
import Derived.Test.YtjkgjnpifdafaabDoorRows
import Derived.Laws.Externs
import Derived.WalkSmall
import Derived.WalkKit
namespace Go.Proofs.YtjkgjnpifdafaabDoor
open Go.RowKit

set_option maxRecDepth 1000000 in
theorem as_nil (v : Value) (w : World) : Calls Tryd.prog 59 #[.nilIface, v] w fun e w' => e = .returned (.bool false) ∧ w' = w := by
  go_enter Tryd.func59, Tryd.ntmps59
  go_wp2
  go_ret
  exact ⟨rfl, rfl⟩
set_option maxRecDepth 1000000 in
theorem codeOf_nil (w : World) : Calls Tryd.prog 33 #[.nilIface] w fun e w' => e = .returned (.int .i64 0) ∧ Below w.heap.size w w' := by
  have HB := hid (below_more (Below.refl w.heap.size w) (.cells #[.int .i64 0] 100))
  go_enter Tryd.func33, Tryd.ntmps33
  go_wp2_with fail
  refine (as_nil _ _).mono ?_
  rintro e w1 ⟨rfl, hw⟩
  rw [hw]
  clear hw w1
  go_wp2
  go_ret
  exact ⟨rfl, HB.out⟩
abbrev hP : Value := .pointer (some ⟨2, 107, none⟩)
abbrev hF : Value := .pointer (some ⟨2, 100, none⟩)
abbrev vP (g : Nat) : Value := .agg #[hP, .pointer (some ⟨g, 0, none⟩), .int .u64 150]
abbrev vF (g : Nat) (fl : Int) : Value := .agg #[hF, .pointer (some ⟨g, 0, none⟩), .int .u64 fl]
abbrev rt (h : Value) : Value := .iface 156 (.agg #[h])
theorem valueOf_ptr (p : Addr) (w : World) : (callFunc 82 #[.iface 107 (.pointer (some p))]).run Tryd.prog w = .ok (.value (vP w.heap.size)) (w.alloc (.cells #[.pointer (some p)] 107)) := by kernel_rfl
theorem valueOf_fault (k : Int) (w : World) : (callFunc 82 #[.iface 100 (.agg #[.int .i64 k])]).run Tryd.prog w = .ok (.value (vF w.heap.size 153)) (w.alloc (.cells #[.int .i64 k] 100)) := by kernel_rfl
theorem type_ptr (g : Nat) (w : World) : (callFunc 83 #[vP g]).run Tryd.prog w = .ok (.value (rt hP)) w := by kernel_rfl
theorem typeOf_fault (k : Int) (w : World) : (callFunc 97 #[.iface 100 (.agg #[.int .i64 k])]).run Tryd.prog w = .ok (.value (rt hF)) w := by kernel_rfl
theorem m_kind (h : Value) (w : World) : (method 300 156 (.agg #[h]) "Kind").run Tryd.prog w = .ok (119, h) w := by kernel_rfl
theorem kind_ptr (w : World) : (callFunc 119 #[hP]).run Tryd.prog w = .ok (.value (.int .u8 22)) w := by kernel_rfl
theorem kind_fault (w : World) : (callFunc 119 #[hF]).run Tryd.prog w = .ok (.value (.int .u8 25)) w := by kernel_rfl
theorem m_elem (h : Value) (w : World) : (method 300 156 (.agg #[h]) "Elem").run Tryd.prog w = .ok (134, .agg #[h]) w := by kernel_rfl
theorem elem_ptr (w : World) : (callFunc 134 #[.agg #[hP]]).run Tryd.prog w = .ok (.value (rt hF)) w := by kernel_rfl
theorem m_assign (h : Value) (w : World) : (method 300 156 (.agg #[h]) "AssignableTo").run Tryd.prog w = .ok (132, .agg #[h]) w := by kernel_rfl
theorem assign_fault (w : World) : (callFunc 132 #[.agg #[hF], rt hF]).run Tryd.prog w = .ok (.value (.bool true)) w := by kernel_rfl
theorem isNil_ptr (g : Nat) (p : Addr) (w : World) (h : w.cell? ⟨g, 0, none⟩ = some (.pointer (some p))) : (callFunc 84 #[vP g]).run Tryd.prog w = .ok (.value (.bool false)) w := by
  have hl : (loadVar 107 ⟨g, 0, none⟩).run Tryd.prog w = .ok (.pointer (some p)) w := by
    simp [go_sem, h]
  have hp : (Extern.ReflectliteValue.parts (vP g)).run Tryd.prog w = .ok (some (107, ⟨g, 0, none⟩, 150)) w := by kernel_rfl
  rw [run_callFunc_extern Tryd.func84 (by kernel_rfl) (by kernel_rfl) (by kernel_rfl) (e := Extern.ReflectliteValue.method (Extern.ReflectliteValue.valueError "reflectlite.Value.IsNil" 0) Extern.ReflectliteValue.isNil) (by kernel_rfl)]
  have e1 : Extern.ReflectliteValue.method (Extern.ReflectliteValue.valueError "reflectlite.Value.IsNil" 0) Extern.ReflectliteValue.isNil #[vP g] = (Extern.ReflectliteValue.parts (vP g) >>= fun r => match r with
    | none => Extern.ReflectliteValue.valueError "reflectlite.Value.IsNil" 0
    | some (t, a, fl) => Extern.ReflectliteValue.isNil t a fl (fl % 32)) := rfl
  rw [e1, Sem.run_bind, hp, Result.andThen_ok]
  have e2 : Extern.ReflectliteValue.isNil 107 ⟨g, 0, none⟩ 150 (150 % 32) = (loadVar 107 ⟨g, 0, none⟩ >>= fun v => match v with
    | .chan none | .nilFunc | .nilIface | .map none | .pointer none | .slice none _ _ => pure (.bool true)
    | _ => pure (.bool false)) := rfl
  show ((Extern.ReflectliteValue.isNil 107 ⟨g, 0, none⟩ 150 (150 % 32)).run Tryd.prog w).andThen _ = _
  rw [e2, Sem.run_bind, hl, Result.andThen_ok]
  rfl
theorem valElem_ptr (g : Nat) (p : Addr) (w : World) (h : w.cell? ⟨g, 0, none⟩ = some (.pointer (some p))) : (callFunc 98 #[vP g]).run Tryd.prog w = .ok (.value (.agg #[hF, .pointer (some p), .int .u64 409])) w := by
  have hl : (loadVar 107 ⟨g, 0, none⟩).run Tryd.prog w = .ok (.pointer (some p)) w := by
    simp [go_sem, h]
  have hp : (Extern.ReflectliteValue.parts (vP g)).run Tryd.prog w = .ok (some (107, ⟨g, 0, none⟩, 150)) w := by kernel_rfl
  have he : (Extern.Rtype.elem? 107).run Tryd.prog w = .ok (some 100) w := by kernel_rfl
  have hm : (Extern.ReflectliteValue.mk 100 p Extern.ReflectliteValue.flagAddr).run Tryd.prog w = .ok (.agg #[hF, .pointer (some p), .int .u64 409]) w := by kernel_rfl
  rw [run_callFunc_extern Tryd.func98 (by kernel_rfl) (by kernel_rfl) (by kernel_rfl) (e := Extern.ReflectliteValue.method (Extern.ReflectliteValue.valueError "reflectlite.Value.Elem" 0) Extern.ReflectliteValue.elem) (by kernel_rfl)]
  have e1 : Extern.ReflectliteValue.method (Extern.ReflectliteValue.valueError "reflectlite.Value.Elem" 0) Extern.ReflectliteValue.elem #[vP g] = (Extern.ReflectliteValue.parts (vP g) >>= fun r => match r with
    | none => Extern.ReflectliteValue.valueError "reflectlite.Value.Elem" 0
    | some (t, a, fl) => Extern.ReflectliteValue.elem t a fl (fl % 32)) := rfl
  rw [e1, Sem.run_bind, hp, Result.andThen_ok]
  have e2 : Extern.ReflectliteValue.elem 107 ⟨g, 0, none⟩ 150 (150 % 32) = (loadVar 107 ⟨g, 0, none⟩ >>= fun v => Extern.Rtype.elem? 107 >>= fun e => match 22, v, e with
    | 20, i, _ => Extern.ReflectliteValue.unpack i
    | 22, .pointer none, _ => pure Extern.ReflectliteValue.zeroV
    | 22, .pointer (some p), some e => Extern.ReflectliteValue.mk e p Extern.ReflectliteValue.flagAddr
    | _, _, _ => Extern.ReflectliteValue.valueError "reflectlite.Value.Elem" 22) := rfl
  show ((Extern.ReflectliteValue.elem 107 ⟨g, 0, none⟩ 150 (150 % 32)).run Tryd.prog w).andThen _ = _
  rw [e2, Sem.run_bind, hl, Result.andThen_ok, Sem.run_bind, he, Result.andThen_ok]
  show ((Extern.ReflectliteValue.mk 100 p Extern.ReflectliteValue.flagAddr).run Tryd.prog w).andThen _ = _
  rw [hm]
  rfl
theorem set_fault (b g : Nat) (k j : Int) (w : World) (h : w.cell? ⟨g, 0, none⟩ = some (.int .i64 k)) (h2 : w.cell? ⟨b, 0, none⟩ = some (.int .i64 j)) (h3 : w.frozen? ⟨b, 0, none⟩ = false) : (callFunc 99 #[.agg #[hF, .pointer (some ⟨b, 0, none⟩), .int .u64 409], vF g 153]).run Tryd.prog w = .ok (.value (.tuple #[])) (w.setCell ⟨b, 0, none⟩ (.int .i64 k)) := by
  have hl : (loadVar 100 ⟨g, 0, none⟩).run Tryd.prog w = .ok (.agg #[.int .i64 k]) w := by
    simp [go_sem, h]
  have hs : (storeVar 100 ⟨b, 0, none⟩ (.agg #[.int .i64 k])).run Tryd.prog w = .ok () (w.setCell ⟨b, 0, none⟩ (.int .i64 k)) := by
    simp [go_sem, h2, h3]
  have hp1 : (Extern.ReflectliteValue.parts (.agg #[hF, .pointer (some ⟨b, 0, none⟩), .int .u64 409])).run Tryd.prog w = .ok (some (100, ⟨b, 0, none⟩, 409)) w := by kernel_rfl
  have hp2 : (Extern.ReflectliteValue.parts (vF g 153)).run Tryd.prog w = .ok (some (100, ⟨g, 0, none⟩, 153)) w := by kernel_rfl
  have hd : (Extern.Rtype.directlyAssignable 100 100).run Tryd.prog w = .ok true w := by kernel_rfl
  rw [run_callFunc_extern Tryd.func99 (by kernel_rfl) (by kernel_rfl) (by kernel_rfl) (e := Extern.ReflectliteValue.set) (by kernel_rfl)]
  have go : (Extern.ReflectliteValue.set #[.agg #[hF, .pointer (some ⟨b, 0, none⟩), .int .u64 409], vF g 153]).run Tryd.prog w = .ok (.tuple #[]) (w.setCell ⟨b, 0, none⟩ (.int .i64 k)) := by
    change ((Extern.ReflectliteValue.parts (.agg #[hF, .pointer (some ⟨b, 0, none⟩), .int .u64 409]) >>= _).run Tryd.prog w) = _
    rw [Sem.run_bind, hp1, Result.andThen_ok]
    change ((Extern.ReflectliteValue.parts (vF g 153) >>= _).run Tryd.prog w) = _
    rw [Sem.run_bind, hp2, Result.andThen_ok]
    change ((loadVar 100 ⟨g, 0, none⟩ >>= _).run Tryd.prog w) = _
    rw [Sem.run_bind, hl, Result.andThen_ok]
    change ((Extern.Rtype.directlyAssignable 100 100 >>= _).run Tryd.prog w) = _
    rw [Sem.run_bind, hd, Result.andThen_ok]
    change ((storeVar 100 ⟨b, 0, none⟩ (.agg #[.int .i64 k]) >>= _).run Tryd.prog w) = _
    rw [Sem.run_bind, hs, Result.andThen_ok]
    rfl
  rw [go]
  rfl

abbrev hE : Value := .pointer (some ⟨2, 63, none⟩)
theorem m_impl (h : Value) (w : World) : (method 300 156 (.agg #[h]) "Implements").run Tryd.prog w = .ok (135, .agg #[h]) w := by kernel_rfl
theorem impl_fault (w : World) : (callFunc 135 #[.agg #[hF], rt hE]).run Tryd.prog w = .ok (.value (.bool true)) w := by kernel_rfl

set_option maxRecDepth 1000000 in
set_option maxHeartbeats 1000000 in
theorem as2_fault (k : Int) (b g : Nat) (w : World) (h : BlockIs w b 100 [.int .i64 0]) (hg : BlockIs w g 107 [.pointer (some ⟨b, 0, none⟩)]) : Calls Tryd.prog 85 #[.iface 100 (.agg #[.int .i64 k]), .iface 107 (.pointer (some ⟨b, 0, none⟩)), vP g, rt hF] w fun e w' => e = .returned (.bool true) ∧ BlockIs w' b 100 [.int .i64 k] ∧ Below b w w' := by
  have f1 := typeOf_fault k
  have f2 := m_assign
  have f3 := assign_fault
  have bx := below_more (Below.refl w.heap.size w) (.cells #[hP, .pointer (some ⟨g, 0, none⟩), .int .u64 150] 133)
  have f4 := valElem_ptr g ⟨b, 0, none⟩ _ ((hg.on bx hg.lt).cell (j := 0) rfl)
  have f5 := valueOf_fault k
  have by_ := below_more (Below.refl _ (w.alloc (.cells #[hP, .pointer (some ⟨g, 0, none⟩), .int .u64 150] 133))) (.cells #[.int .i64 k] 100)
  have hn := heap_alloc_new (w.alloc (.cells #[hP, .pointer (some ⟨g, 0, none⟩), .int .u64 150] 133)) (.cells #[.int .i64 k] 100)
  have hsz : (w.alloc (.cells #[hP, .pointer (some ⟨g, 0, none⟩), .int .u64 150] 133)).heap.size = w.heap.size + 1 := by simp [World.alloc, -World.alloc_eq]
  rw [hsz] at hn
  have hb2 := (h.on bx h.lt).on by_ (h.on bx h.lt).lt
  have f6 := set_fault b (w.heap.size + 1) k 0 _ (BlockIs.cell (show BlockIs _ _ 100 [.int .i64 k] from hn) (j := 0) rfl) (hb2.cell (j := 0) rfl) (hb2.thaw 0)
  have HF := hid (And.intro (hb2.set 0 (.int .i64 k)) ((((Below.refl b w).trans (bx.mono (Nat.le_of_lt h.lt))).trans (by_.mono (Nat.le_of_lt (h.on bx h.lt).lt))).setCell (p := ⟨b, 0, none⟩) (Nat.le_refl _) (.int .i64 k)))
  clear bx by_ hn hb2 h hg hsz
  go_enter Tryd.func85, Tryd.ntmps85
  go_wp2
  go_loopw [0, 9, 10, 11, 12, 14, 15] (fun a _ _ _ _ _ _ wr => a = .iface 100 (.agg #[.int .i64 k]) ∧ wr = w.alloc (.cells #[hP, .pointer (some ⟨g, 0, none⟩), .int .u64 150] 133)) (fun _ _ _ _ _ _ _ _ => 0)
  case atStart => exact ⟨rfl, rfl⟩
  case round =>
    obtain ⟨rfl, rfl⟩ := hrel
    go_wp2
    go_ret
    exact ⟨rfl, HF.out⟩
set_option maxRecDepth 1000000 in
set_option maxHeartbeats 1000000 in
theorem as_fault (k : Int) (b : Nat) (w : World) (h : BlockIs w b 100 [.int .i64 0]) (he : w.cell? ⟨0, 0, none⟩ = some (rt hE)) : Calls Tryd.prog 59 #[.iface 100 (.agg #[.int .i64 k]), .iface 107 (.pointer (some ⟨b, 0, none⟩))] w fun e w' => e = .returned (.bool true) ∧ BlockIs w' b 100 [.int .i64 k] ∧ Below b w w' := by
  have f1 := valueOf_ptr ⟨b, 0, none⟩
  have f2 := type_ptr
  have f3 := m_kind
  have f4 := kind_ptr
  have f5 := kind_fault
  have f6 := m_elem
  have f7 := elem_ptr
  have f9 := m_impl
  have fa := impl_fault
  have hx0 : BlockIs (w.alloc (.cells #[.pointer (some ⟨b, 0, none⟩)] 107)) w.heap.size 107 [.pointer (some ⟨b, 0, none⟩)] := heap_alloc_new w _
  have bx := below_more (Below.refl _ (w.alloc (.cells #[.pointer (some ⟨b, 0, none⟩)] 107))) (.cells #[hP, .pointer (some ⟨w.heap.size, 0, none⟩), .int .u64 150] 133)
  have hx1 := hx0.on bx hx0.lt
  have f8 := isNil_ptr w.heap.size ⟨b, 0, none⟩ _ (hx1.cell (j := 0) rfl)
  have b2 := below_via (below_more (Below.refl w.heap.size w) (.cells #[.pointer (some ⟨b, 0, none⟩)] 107)) bx
  have he2 := (b2.cell (p := ⟨0, 0, none⟩) (World.block_lt_of_cell? w _ he)).trans he
  have HC := hid (as2_fault k b w.heap.size _ (h.on b2 h.lt) hx1)
  have HB := hid (b2.mono (Nat.le_of_lt h.lt))
  clear hx0 hx1 bx b2 he h
  go_enter Tryd.func59, Tryd.ntmps59
  go_wp2_with fail
  refine HC.out.mono ?_
  rintro e w1 ⟨rfl, hb, b1⟩
  have B1 := hid (And.intro hb (HB.out.trans b1))
  clear hb b1 HC HB
  go_wp2
  go_ret
  exact ⟨rfl, B1.out⟩

set_option maxRecDepth 1000000 in
theorem codeOf_fault (k : Int) (w : World) (he : w.cell? ⟨0, 0, none⟩ = some (rt hE)) : Calls Tryd.prog 33 #[.iface 100 (.agg #[.int .i64 k])] w fun e w' => e = .returned (.int .i64 k) ∧ Below w.heap.size w w' := by
  have bx := below_more (Below.refl w.heap.size w) (.cells #[.int .i64 0] 100)
  have C := hid (as_fault k w.heap.size _ (heap_alloc_new w (.cells #[.int .i64 0] 100)) ((bx.cell (p := ⟨0, 0, none⟩) (World.block_lt_of_cell? w _ he)).trans he))
  have HB := hid bx
  clear bx he
  go_enter Tryd.func33, Tryd.ntmps33
  go_wp2_with fail
  refine C.out.mono ?_
  rintro e w1 ⟨rfl, hb, b1⟩
  have c0 := hb.cell (j := 0) rfl
  have B1 := hid (HB.out.trans b1)
  clear hb b1 C HB
  go_wp2
  go_ret
  exact ⟨rfl, B1.out⟩
end Go.Proofs.YtjkgjnpifdafaabDoor
