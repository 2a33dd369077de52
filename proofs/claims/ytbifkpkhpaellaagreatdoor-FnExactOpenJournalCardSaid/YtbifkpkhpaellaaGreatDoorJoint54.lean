/-
  The walk of impl.nextFile: what begins a journal's next file.
  The walk of impl.codeOf: the code that an error carries, asked for with errors.As.
  The walk of impl.LogLast: what it answers.
  The walks of impl.entriesBehind, impl.copiedEntries: the entries behind an index, and a copy of entries in memory of its own.
  The walks of impl.nameOk, impl.fileOk, impl.DiskOk: what they answer.
  The walk of impl.greatestNumber.
-/
import Derived.Test.YtbifkpkhpaellaaGreatDoorJoint35
import Derived.Test.YtbifkpkhpaellaaGreatDoorJoint53
import Derived.Test.YtbifkpkhpaellaaGreatDoorJoint1
import Derived.BigRegion
import Derived.Test.YtbifkpkhpaellaaGreatDoorRows
import Derived.Laws.Externs
import Derived.WalkSmall
import Derived.WalkKit
import Derived.Deep.QuietTactic
import Derived.OwnWalk
import Derived.Test.YtbifkpkhpaellaaGreatDoorJoint29
import Derived.Laws.CopyOwn
import Derived.Lib.QuietBelow
import Derived.Laws.Cover1
import Derived.Test.YtbifkpkhpaellaaGreatDoorJoint33
namespace Go.Proofs.YtbifkpkhpaellaaGreatDoor
open Go.RowKit

/-- what nextFile answers -/
def NextFDid (n tm vt s t : Int) (ao : Option Addr) (l : List EntD) (cap : Nat) (w : World) (e : Ending) (w' : World) : Prop :=
  (jourOk (n + 1) tm vt s t l = false ∧ e = .returned (.tuple #[.slice none 0 0, .agg #[.int .i64 0, .int .i64 0, .int .i64 0, .int .i64 0, .int .i64 0, .slice none 0 0], .iface 89 (.agg #[.int .i64 6])]) ∧ Below w.heap.size w w') ∨
  (jourOk (n + 1) tm vt s t l = true ∧ ∃ g, w.heap.size ≤ g ∧ e = .returned (.tuple #[.slice (some ⟨g, 0, none⟩) 4 4, .agg #[.int .i64 (n + 1), .int .i64 tm, .int .i64 vt, .int .i64 s, .int .i64 t, .slice ao l.length cap], .nilIface]) ∧ BlockIs w' g 57 (actCells (nextA n tm vt s t l)) ∧ Below w.heap.size w w')

set_option maxRecDepth 1000000 in
set_option maxHeartbeats 4000000 in
theorem nextFile_any (n tm vt s t : Int) (hn0 : 0 ≤ n) (hn1 : n ≤ 999) (ao : Option Addr) (l : List EntD) (cap : Nat) (hl : l.length ≤ 1048576) (hcap : l.length ≤ cap) (w : World) (ha : EntsAt w ao l) (ht : Steps w) (htab : Lib.TabIs Tryz.prog w "internal/strconv.uint64pow10" .u64 Lib.pow10Tab) :
    Calls Tryz.prog 53 #[.agg #[.int .i64 n, .int .i64 tm, .int .i64 vt, .int .i64 s, .int .i64 t, .slice ao l.length cap]] w fun e w' => NextFDid n tm vt s t ao l cap w e w' := by
  have HT := hid ht
  have HTB := hid htab
  have HA := hid ha
  have hx0 : BlockIs ((w.alloc (.cells #[.int .i64 n, .int .i64 tm, .int .i64 vt, .int .i64 s, .int .i64 t, .slice ao l.length cap] 30)).alloc (.cells #[.int .i64 0, .int .i64 0, .int .i64 0, .int .i64 0, .int .i64 0, .slice none 0 0] 30)) w.heap.size 30 [.int .i64 n, .int .i64 tm, .int .i64 vt, .int .i64 s, .int .i64 t, .slice ao l.length cap] := by
    show ((w.heap.push _).push _)[w.heap.size]? = some _
    rw [Array.getElem?_push, if_neg (by simp), Array.getElem?_push, if_pos rfl]
  have hx1 : BlockIs ((w.alloc (.cells #[.int .i64 n, .int .i64 tm, .int .i64 vt, .int .i64 s, .int .i64 t, .slice ao l.length cap] 30)).alloc (.cells #[.int .i64 0, .int .i64 0, .int .i64 0, .int .i64 0, .int .i64 0, .slice none 0 0] 30)) (w.heap.size + 1) 30 [.int .i64 0, .int .i64 0, .int .i64 0, .int .i64 0, .int .i64 0, .slice none 0 0] := by
    show ((w.heap.push _).push _)[w.heap.size + 1]? = some _
    rw [Array.getElem?_push, if_pos (by simp)]
  have hb0 := below_more (below_more (Below.refl w.heap.size w) (.cells #[.int .i64 n, .int .i64 tm, .int .i64 vt, .int .i64 s, .int .i64 t, .slice ao l.length cap] 30)) (.cells #[.int .i64 0, .int .i64 0, .int .i64 0, .int .i64 0, .int .i64 0, .slice none 0 0] 30)
  obtain ⟨WW, hWW⟩ : ∃ WW, (w.alloc (.cells #[.int .i64 n, .int .i64 tm, .int .i64 vt, .int .i64 s, .int .i64 t, .slice ao l.length cap] 30)).alloc (.cells #[.int .i64 0, .int .i64 0, .int .i64 0, .int .i64 0, .int .i64 0, .slice none 0 0] 30) = WW := ⟨_, rfl⟩
  rw [hWW] at hx0 hx1 hb0
  have X0 := hid hx0
  have X1 := hid hx1
  have B0 := hid hb0
  have z0 := hx0.cell (j := 0) rfl
  clear hx0 hx1 hb0 ha ht htab
  go_enter Tryz.func53, Tryz.ntmps53
  go_wp2_with fail
  refine (implJName_any n _ (table_on HTB.out B0.out)).mono ?_
  rintro e w1 ⟨rfl, b1⟩
  have hx1 := X0.out.on b1 X0.out.lt
  have hB1 := below_via B0.out b1
  have c0 := hx1.cell (j := 0) rfl
  have f0 := hx1.thaw 0
  have S0 : BlockIs (w1.setCell ⟨w.heap.size, 0, none⟩ (.int .i64 (n + 1))) w.heap.size 30 [.int .i64 (n + 1), .int .i64 tm, .int .i64 vt, .int .i64 s, .int .i64 t, .slice ao l.length cap] := hx1.set 0 (.int .i64 (n + 1))
  have S1 := (X1.out.on b1 X1.out.lt).far (b := w.heap.size) (j := 0) (by omega) (.int .i64 (n + 1))
  have SB := hB1.setCell (p := ⟨w.heap.size, 0, none⟩) (Nat.le_refl _) (.int .i64 (n + 1))
  obtain ⟨W2, hW2⟩ : ∃ W2, w1.setCell ⟨w.heap.size, 0, none⟩ (.int .i64 (n + 1)) = W2 := ⟨_, rfl⟩
  rw [hW2] at S0 S1 SB
  have P0 := hid S0
  have P1 := hid S1
  have B2 := hid SB
  have d0 := S0.cell (j := 0) rfl
  have d1 := S0.cell (j := 1) rfl
  have d2 := S0.cell (j := 2) rfl
  have d3 := S0.cell (j := 3) rfl
  have d4 := S0.cell (j := 4) rfl
  have d5 := S0.cell (j := 5) rfl
  obtain ⟨LN, hLN⟩ : ∃ x, jname n = x := ⟨_, rfl⟩
  have HLN := hid hLN
  rw [hLN]
  clear b1 hx1 hB1 X0 X1 B0 z0 hWW S0 S1 SB hLN
  go_wp2_with fail
  refine (implJText_any (n + 1) tm vt s t ao l cap hl hcap _ (HA.out.on B2.out) (steps_on HT.out B2.out)).mono ?_
  rintro e w3 ⟨rfl, b3⟩
  have P03 := hid (P0.out.on b3 P0.out.lt)
  have P13 := hid (P1.out.on b3 P1.out.lt)
  have B3 := hid (below_via B2.out b3)
  clear b3 P0 P1 B2 d0 d1 d2 d3 d4 d5 c0 f0 hW2
  cases hok : jourOk (n + 1) tm vt s t l with
  | false =>
    rw [jourText_no hok]
    have HOK := hid hok
    have hp := P13.out
    have q0 := hp.cell (j := 0) rfl
    have g0 := hp.thaw 0
    have q1 := hp.cell (j := 1) rfl
    have g1 := hp.thaw 1
    have q2 := hp.cell (j := 2) rfl
    have g2 := hp.thaw 2
    have q3 := hp.cell (j := 3) rfl
    have g3 := hp.thaw 3
    have q4 := hp.cell (j := 4) rfl
    have g4 := hp.thaw 4
    have q5 := hp.cell (j := 5) rfl
    have g5 := hp.thaw 5
    have BL := hid (((((((B3.out).setCell (p := ⟨w.heap.size + 1, 0, none⟩) (by show _ ≤ w.heap.size + 1; omega) (.int .i64 0)).setCell (p := ⟨w.heap.size + 1, 1, none⟩) (by show _ ≤ w.heap.size + 1; omega) (.int .i64 0)).setCell (p := ⟨w.heap.size + 1, 2, none⟩) (by show _ ≤ w.heap.size + 1; omega) (.int .i64 0)).setCell (p := ⟨w.heap.size + 1, 3, none⟩) (by show _ ≤ w.heap.size + 1; omega) (.int .i64 0)).setCell (p := ⟨w.heap.size + 1, 4, none⟩) (by show _ ≤ w.heap.size + 1; omega) (.int .i64 0)).setCell (p := ⟨w.heap.size + 1, 5, none⟩) (by show _ ≤ w.heap.size + 1; omega) (.slice none 0 0))
    clear hok hp
    go_wp2
    refine bodyPost_ret (v := .tuple #[.slice none 0 0, .agg #[.int .i64 0, .int .i64 0, .int .i64 0, .int .i64 0, .int .i64 0, .slice none 0 0], .iface 89 (.agg #[.int .i64 6])]) (by simp [results, Tryz.results53, go_sem, q0, q1, q2, q3, q4, q5]) rfl ?_
    exact Or.inl ⟨HOK.out, rfl, BL.out⟩
  | true =>
    rw [jourText_yes hok]
    have HOK := hid hok
    obtain ⟨TX, hTX⟩ : ∃ x, jText tm vt s t l = x := ⟨_, rfl⟩
    have HTX := hid hTX
    rw [hTX]
    have k0 := P03.out.cell (j := 0) rfl
    clear hok hTX
    go_wp2_with fail
    refine (implJName_any (n + 1) _ (table_on HTB.out B3.out)).mono ?_
    rintro e w4 ⟨rfl, b4⟩
    obtain ⟨NN, hNN⟩ : ∃ x, jname (n + 1) = x := ⟨_, rfl⟩
    have HA4 : Hid (nextA n tm vt s t l = [⟨1, ⟨#[106, 43]⟩, TX, ⟨#[]⟩⟩, ⟨2, ⟨#[106, 43]⟩, ⟨#[]⟩, ⟨#[]⟩⟩, ⟨3, ⟨#[106, 43]⟩, ⟨#[]⟩, NN⟩, ⟨4, LN, ⟨#[]⟩, ⟨#[]⟩⟩]) := by
      show _ = _
      rw [nextA, HTX.out, hNN, HLN.out]
    rw [hNN]
    have b5 := below_via b4 (below_more (Below.refl w4.heap.size w4) (.cells #[.int .i64 1, .string ⟨#[106, 43]⟩, .string TX, .string ⟨#[]⟩, .int .i64 2, .string ⟨#[106, 43]⟩, .string ⟨#[]⟩, .string ⟨#[]⟩, .int .i64 3, .string ⟨#[106, 43]⟩, .string ⟨#[]⟩, .string NN, .int .i64 4, .string LN, .string ⟨#[]⟩, .string ⟨#[]⟩] 57))
    have hx5 : BlockIs (w4.alloc (.cells #[.int .i64 1, .string ⟨#[106, 43]⟩, .string TX, .string ⟨#[]⟩, .int .i64 2, .string ⟨#[106, 43]⟩, .string ⟨#[]⟩, .string ⟨#[]⟩, .int .i64 3, .string ⟨#[106, 43]⟩, .string ⟨#[]⟩, .string NN, .int .i64 4, .string LN, .string ⟨#[]⟩, .string ⟨#[]⟩] 57)) w4.heap.size 57 [.int .i64 1, .string ⟨#[106, 43]⟩, .string TX, .string ⟨#[]⟩, .int .i64 2, .string ⟨#[106, 43]⟩, .string ⟨#[]⟩, .string ⟨#[]⟩, .int .i64 3, .string ⟨#[106, 43]⟩, .string ⟨#[]⟩, .string NN, .int .i64 4, .string LN, .string ⟨#[]⟩, .string ⟨#[]⟩] := heap_alloc_new w4 _
    have hlo : w.heap.size ≤ w4.heap.size := Nat.le_trans B3.out.size b4.size
    obtain ⟨W5, hW5⟩ : ∃ W, w4.alloc (.cells #[.int .i64 1, .string ⟨#[106, 43]⟩, .string TX, .string ⟨#[]⟩, .int .i64 2, .string ⟨#[106, 43]⟩, .string ⟨#[]⟩, .string ⟨#[]⟩, .int .i64 3, .string ⟨#[106, 43]⟩, .string ⟨#[]⟩, .string NN, .int .i64 4, .string LN, .string ⟨#[]⟩, .string ⟨#[]⟩] 57) = W := ⟨_, rfl⟩
    rw [hW5] at b5 hx5
    have X5 := hid hx5
    have P05 := hid (P03.out.on b5 P03.out.lt)
    have P15 := hid (P13.out.on b5 P13.out.lt)
    have B5 := hid (below_via B3.out b5)
    have HW5 := hid hW5
    clear b4 b5 hx5 P03 P13 B3 k0 hNN
    go_wp2
    have k0 := P05.out.cell (j := 0) rfl
    have q0 := P15.out.cell (j := 0) rfl
    have g0 := P15.out.thaw 0
    have k1 := P05.out.cell (j := 1) rfl
    have q1 := P15.out.cell (j := 1) rfl
    have g1 := P15.out.thaw 1
    have k2 := P05.out.cell (j := 2) rfl
    have q2 := P15.out.cell (j := 2) rfl
    have g2 := P15.out.thaw 2
    have k3 := P05.out.cell (j := 3) rfl
    have q3 := P15.out.cell (j := 3) rfl
    have g3 := P15.out.thaw 3
    have k4 := P05.out.cell (j := 4) rfl
    have q4 := P15.out.cell (j := 4) rfl
    have g4 := P15.out.thaw 4
    have k5 := P05.out.cell (j := 5) rfl
    have q5 := P15.out.cell (j := 5) rfl
    have g5 := P15.out.thaw 5
    have BL := hid (((((((B5.out).setCell (p := ⟨w.heap.size + 1, 0, none⟩) (by show _ ≤ w.heap.size + 1; omega) (.int .i64 (n + 1))).setCell (p := ⟨w.heap.size + 1, 1, none⟩) (by show _ ≤ w.heap.size + 1; omega) (.int .i64 tm)).setCell (p := ⟨w.heap.size + 1, 2, none⟩) (by show _ ≤ w.heap.size + 1; omega) (.int .i64 vt)).setCell (p := ⟨w.heap.size + 1, 3, none⟩) (by show _ ≤ w.heap.size + 1; omega) (.int .i64 s)).setCell (p := ⟨w.heap.size + 1, 4, none⟩) (by show _ ≤ w.heap.size + 1; omega) (.int .i64 t)).setCell (p := ⟨w.heap.size + 1, 5, none⟩) (by show _ ≤ w.heap.size + 1; omega) (.slice ao l.length cap))
    have PX := hid (past6 P15.out (.int .i64 (n + 1)) (.int .i64 tm) (.int .i64 vt) (.int .i64 s) (.int .i64 t) (.slice ao l.length cap) X5.out (by decide))
    clear hW5
    go_region
    all_goals
      have PD := PX.out.on (below_drewN (Below.refl _ _) 1) PX.out.lt
      have BD := below_drewN BL.out 1
      go_wp2
      refine bodyPost_ret (v := .tuple #[.slice (some ⟨w4.heap.size, 0, none⟩) 4 4, .agg #[.int .i64 (n + 1), .int .i64 tm, .int .i64 vt, .int .i64 s, .int .i64 t, .slice ao l.length cap], .nilIface]) (by simp [results, Tryz.results53, go_sem, q0, q1, q2, q3, q4, q5]) rfl ?_
      refine Or.inr ⟨HOK.out, w4.heap.size, hlo, rfl, ?_, ?_⟩
      · rw [HA4.out]
        exact PD
      · exact BD
end Go.Proofs.YtbifkpkhpaellaaGreatDoor

namespace Go.Proofs.YtbifkpkhpaellaaGreatDoor
open Go.RowKit

set_option maxRecDepth 1000000 in
theorem as_nil (v : Value) (w : World) : Calls Tryz.prog 80 #[.nilIface, v] w fun e w' => e = .returned (.bool false) ∧ w' = w := by
  go_enter Tryz.func80, Tryz.ntmps80
  go_wp2
  go_ret
  exact ⟨rfl, rfl⟩
set_option maxRecDepth 1000000 in
theorem codeOf_nil (w : World) : Calls Tryz.prog 52 #[.nilIface] w fun e w' => e = .returned (.int .i64 0) ∧ Below w.heap.size w w' := by
  have HB := hid (below_more (Below.refl w.heap.size w) (.cells #[.int .i64 0] 89))
  go_enter Tryz.func52, Tryz.ntmps52
  go_wp2_with fail
  refine (as_nil _ _).mono ?_
  rintro e w1 ⟨rfl, hw⟩
  rw [hw]
  clear hw w1
  go_wp2
  go_ret
  exact ⟨rfl, HB.out⟩
abbrev hP : Value := .pointer (some ⟨5, 131, none⟩)
abbrev hF : Value := .pointer (some ⟨5, 89, none⟩)
abbrev vP (g : Nat) : Value := .agg #[hP, .pointer (some ⟨g, 0, none⟩), .int .u64 150]
abbrev vF (g : Nat) (fl : Int) : Value := .agg #[hF, .pointer (some ⟨g, 0, none⟩), .int .u64 fl]
abbrev rt (h : Value) : Value := .iface 170 (.agg #[h])
theorem valueOf_ptr (p : Addr) (w : World) : (callFunc 98 #[.iface 131 (.pointer (some p))]).run Tryz.prog w = .ok (.value (vP w.heap.size)) (w.alloc (.cells #[.pointer (some p)] 131)) := by kernel_rfl
theorem valueOf_fault (k : Int) (w : World) : (callFunc 98 #[.iface 89 (.agg #[.int .i64 k])]).run Tryz.prog w = .ok (.value (vF w.heap.size 153)) (w.alloc (.cells #[.int .i64 k] 89)) := by kernel_rfl
theorem type_ptr (g : Nat) (w : World) : (callFunc 99 #[vP g]).run Tryz.prog w = .ok (.value (rt hP)) w := by kernel_rfl
theorem typeOf_fault (k : Int) (w : World) : (callFunc 121 #[.iface 89 (.agg #[.int .i64 k])]).run Tryz.prog w = .ok (.value (rt hF)) w := by kernel_rfl
theorem m_kind (h : Value) (w : World) : (method 350 170 (.agg #[h]) "Kind").run Tryz.prog w = .ok (169, h) w := by kernel_rfl
theorem kind_ptr (w : World) : (callFunc 169 #[hP]).run Tryz.prog w = .ok (.value (.int .u8 22)) w := by kernel_rfl
theorem kind_fault (w : World) : (callFunc 169 #[hF]).run Tryz.prog w = .ok (.value (.int .u8 25)) w := by kernel_rfl
theorem m_elem (h : Value) (w : World) : (method 350 170 (.agg #[h]) "Elem").run Tryz.prog w = .ok (179, .agg #[h]) w := by kernel_rfl
theorem elem_ptr (w : World) : (callFunc 179 #[.agg #[hP]]).run Tryz.prog w = .ok (.value (rt hF)) w := by kernel_rfl
theorem m_assign (h : Value) (w : World) : (method 350 170 (.agg #[h]) "AssignableTo").run Tryz.prog w = .ok (177, .agg #[h]) w := by kernel_rfl
theorem assign_fault (w : World) : (callFunc 177 #[.agg #[hF], rt hF]).run Tryz.prog w = .ok (.value (.bool true)) w := by kernel_rfl
theorem isNil_ptr (g : Nat) (p : Addr) (w : World) (h : w.cell? ⟨g, 0, none⟩ = some (.pointer (some p))) : (callFunc 100 #[vP g]).run Tryz.prog w = .ok (.value (.bool false)) w := by
  have hl : (loadVar 131 ⟨g, 0, none⟩).run Tryz.prog w = .ok (.pointer (some p)) w := by
    simp [go_sem, h]
  have hp : (Extern.ReflectliteValue.parts (vP g)).run Tryz.prog w = .ok (some (131, ⟨g, 0, none⟩, 150)) w := by kernel_rfl
  rw [run_callFunc_extern Tryz.func100 (by kernel_rfl) (by kernel_rfl) (by kernel_rfl) (e := Extern.ReflectliteValue.method (Extern.ReflectliteValue.valueError "reflectlite.Value.IsNil" 0) Extern.ReflectliteValue.isNil) (by kernel_rfl)]
  have e1 : Extern.ReflectliteValue.method (Extern.ReflectliteValue.valueError "reflectlite.Value.IsNil" 0) Extern.ReflectliteValue.isNil #[vP g] = (Extern.ReflectliteValue.parts (vP g) >>= fun r => match r with
    | none => Extern.ReflectliteValue.valueError "reflectlite.Value.IsNil" 0
    | some (t, a, fl) => Extern.ReflectliteValue.isNil t a fl (fl % 32)) := rfl
  rw [e1, Sem.run_bind, hp, Result.andThen_ok]
  have e2 : Extern.ReflectliteValue.isNil 131 ⟨g, 0, none⟩ 150 (150 % 32) = (loadVar 131 ⟨g, 0, none⟩ >>= fun v => match v with
    | .chan none | .nilFunc | .nilIface | .map none | .pointer none | .slice none _ _ => pure (.bool true)
    | _ => pure (.bool false)) := rfl
  show ((Extern.ReflectliteValue.isNil 131 ⟨g, 0, none⟩ 150 (150 % 32)).run Tryz.prog w).andThen _ = _
  rw [e2, Sem.run_bind, hl, Result.andThen_ok]
  rfl
theorem valElem_ptr (g : Nat) (p : Addr) (w : World) (h : w.cell? ⟨g, 0, none⟩ = some (.pointer (some p))) : (callFunc 122 #[vP g]).run Tryz.prog w = .ok (.value (.agg #[hF, .pointer (some p), .int .u64 409])) w := by
  have hl : (loadVar 131 ⟨g, 0, none⟩).run Tryz.prog w = .ok (.pointer (some p)) w := by
    simp [go_sem, h]
  have hp : (Extern.ReflectliteValue.parts (vP g)).run Tryz.prog w = .ok (some (131, ⟨g, 0, none⟩, 150)) w := by kernel_rfl
  have he : (Extern.Rtype.elem? 131).run Tryz.prog w = .ok (some 89) w := by kernel_rfl
  have hm : (Extern.ReflectliteValue.mk 89 p Extern.ReflectliteValue.flagAddr).run Tryz.prog w = .ok (.agg #[hF, .pointer (some p), .int .u64 409]) w := by kernel_rfl
  rw [run_callFunc_extern Tryz.func122 (by kernel_rfl) (by kernel_rfl) (by kernel_rfl) (e := Extern.ReflectliteValue.method (Extern.ReflectliteValue.valueError "reflectlite.Value.Elem" 0) Extern.ReflectliteValue.elem) (by kernel_rfl)]
  have e1 : Extern.ReflectliteValue.method (Extern.ReflectliteValue.valueError "reflectlite.Value.Elem" 0) Extern.ReflectliteValue.elem #[vP g] = (Extern.ReflectliteValue.parts (vP g) >>= fun r => match r with
    | none => Extern.ReflectliteValue.valueError "reflectlite.Value.Elem" 0
    | some (t, a, fl) => Extern.ReflectliteValue.elem t a fl (fl % 32)) := rfl
  rw [e1, Sem.run_bind, hp, Result.andThen_ok]
  have e2 : Extern.ReflectliteValue.elem 131 ⟨g, 0, none⟩ 150 (150 % 32) = (loadVar 131 ⟨g, 0, none⟩ >>= fun v => Extern.Rtype.elem? 131 >>= fun e => match 22, v, e with
    | 20, i, _ => Extern.ReflectliteValue.unpack i
    | 22, .pointer none, _ => pure Extern.ReflectliteValue.zeroV
    | 22, .pointer (some p), some e => Extern.ReflectliteValue.mk e p Extern.ReflectliteValue.flagAddr
    | _, _, _ => Extern.ReflectliteValue.valueError "reflectlite.Value.Elem" 22) := rfl
  show ((Extern.ReflectliteValue.elem 131 ⟨g, 0, none⟩ 150 (150 % 32)).run Tryz.prog w).andThen _ = _
  rw [e2, Sem.run_bind, hl, Result.andThen_ok, Sem.run_bind, he, Result.andThen_ok]
  show ((Extern.ReflectliteValue.mk 89 p Extern.ReflectliteValue.flagAddr).run Tryz.prog w).andThen _ = _
  rw [hm]
  rfl
theorem set_fault (b g : Nat) (k j : Int) (w : World) (h : w.cell? ⟨g, 0, none⟩ = some (.int .i64 k)) (h2 : w.cell? ⟨b, 0, none⟩ = some (.int .i64 j)) (h3 : w.frozen? ⟨b, 0, none⟩ = false) : (callFunc 123 #[.agg #[hF, .pointer (some ⟨b, 0, none⟩), .int .u64 409], vF g 153]).run Tryz.prog w = .ok (.value (.tuple #[])) (w.setCell ⟨b, 0, none⟩ (.int .i64 k)) := by
  have hl : (loadVar 89 ⟨g, 0, none⟩).run Tryz.prog w = .ok (.agg #[.int .i64 k]) w := by
    simp [go_sem, h]
  have hs : (storeVar 89 ⟨b, 0, none⟩ (.agg #[.int .i64 k])).run Tryz.prog w = .ok () (w.setCell ⟨b, 0, none⟩ (.int .i64 k)) := by
    simp [go_sem, h2, h3]
  have hp1 : (Extern.ReflectliteValue.parts (.agg #[hF, .pointer (some ⟨b, 0, none⟩), .int .u64 409])).run Tryz.prog w = .ok (some (89, ⟨b, 0, none⟩, 409)) w := by kernel_rfl
  have hp2 : (Extern.ReflectliteValue.parts (vF g 153)).run Tryz.prog w = .ok (some (89, ⟨g, 0, none⟩, 153)) w := by kernel_rfl
  have hd : (Extern.Rtype.directlyAssignable 89 89).run Tryz.prog w = .ok true w := by kernel_rfl
  rw [run_callFunc_extern Tryz.func123 (by kernel_rfl) (by kernel_rfl) (by kernel_rfl) (e := Extern.ReflectliteValue.set) (by kernel_rfl)]
  have go : (Extern.ReflectliteValue.set #[.agg #[hF, .pointer (some ⟨b, 0, none⟩), .int .u64 409], vF g 153]).run Tryz.prog w = .ok (.tuple #[]) (w.setCell ⟨b, 0, none⟩ (.int .i64 k)) := by
    change ((Extern.ReflectliteValue.parts (.agg #[hF, .pointer (some ⟨b, 0, none⟩), .int .u64 409]) >>= _).run Tryz.prog w) = _
    rw [Sem.run_bind, hp1, Result.andThen_ok]
    change ((Extern.ReflectliteValue.parts (vF g 153) >>= _).run Tryz.prog w) = _
    rw [Sem.run_bind, hp2, Result.andThen_ok]
    change ((loadVar 89 ⟨g, 0, none⟩ >>= _).run Tryz.prog w) = _
    rw [Sem.run_bind, hl, Result.andThen_ok]
    change ((Extern.Rtype.directlyAssignable 89 89 >>= _).run Tryz.prog w) = _
    rw [Sem.run_bind, hd, Result.andThen_ok]
    change ((storeVar 89 ⟨b, 0, none⟩ (.agg #[.int .i64 k]) >>= _).run Tryz.prog w) = _
    rw [Sem.run_bind, hs, Result.andThen_ok]
    rfl
  rw [go]
  rfl

abbrev hE : Value := .pointer (some ⟨5, 63, none⟩)
theorem m_impl (h : Value) (w : World) : (method 350 170 (.agg #[h]) "Implements").run Tryz.prog w = .ok (180, .agg #[h]) w := by kernel_rfl
theorem impl_fault (w : World) : (callFunc 180 #[.agg #[hF], rt hE]).run Tryz.prog w = .ok (.value (.bool true)) w := by kernel_rfl

set_option maxRecDepth 1000000 in
set_option maxHeartbeats 1000000 in
theorem as2_fault (k : Int) (b g : Nat) (w : World) (h : BlockIs w b 89 [.int .i64 0]) (hg : BlockIs w g 131 [.pointer (some ⟨b, 0, none⟩)]) : Calls Tryz.prog 101 #[.iface 89 (.agg #[.int .i64 k]), .iface 131 (.pointer (some ⟨b, 0, none⟩)), vP g, rt hF] w fun e w' => e = .returned (.bool true) ∧ BlockIs w' b 89 [.int .i64 k] ∧ Below b w w' := by
  have f1 := typeOf_fault k
  have f2 := m_assign
  have f3 := assign_fault
  have bx := below_more (Below.refl w.heap.size w) (.cells #[hP, .pointer (some ⟨g, 0, none⟩), .int .u64 150] 148)
  have f4 := valElem_ptr g ⟨b, 0, none⟩ _ ((hg.on bx hg.lt).cell (j := 0) rfl)
  have f5 := valueOf_fault k
  have by_ := below_more (Below.refl _ (w.alloc (.cells #[hP, .pointer (some ⟨g, 0, none⟩), .int .u64 150] 148))) (.cells #[.int .i64 k] 89)
  have hn := heap_alloc_new (w.alloc (.cells #[hP, .pointer (some ⟨g, 0, none⟩), .int .u64 150] 148)) (.cells #[.int .i64 k] 89)
  have hsz : (w.alloc (.cells #[hP, .pointer (some ⟨g, 0, none⟩), .int .u64 150] 148)).heap.size = w.heap.size + 1 := by simp [World.alloc, -World.alloc_eq]
  rw [hsz] at hn
  have hb2 := (h.on bx h.lt).on by_ (h.on bx h.lt).lt
  have f6 := set_fault b (w.heap.size + 1) k 0 _ (BlockIs.cell (show BlockIs _ _ 89 [.int .i64 k] from hn) (j := 0) rfl) (hb2.cell (j := 0) rfl) (hb2.thaw 0)
  have HF := hid (And.intro (hb2.set 0 (.int .i64 k)) ((((Below.refl b w).trans (bx.mono (Nat.le_of_lt h.lt))).trans (by_.mono (Nat.le_of_lt (h.on bx h.lt).lt))).setCell (p := ⟨b, 0, none⟩) (Nat.le_refl _) (.int .i64 k)))
  clear bx by_ hn hb2 h hg hsz
  go_enter Tryz.func101, Tryz.ntmps101
  go_wp2
  go_loopw [0, 9, 10, 11, 12, 14, 15] (fun a _ _ _ _ _ _ wr => a = .iface 89 (.agg #[.int .i64 k]) ∧ wr = w.alloc (.cells #[hP, .pointer (some ⟨g, 0, none⟩), .int .u64 150] 148)) (fun _ _ _ _ _ _ _ _ => 0)
  case atStart => exact ⟨rfl, rfl⟩
  case round =>
    obtain ⟨rfl, rfl⟩ := hrel
    go_wp2
    go_ret
    exact ⟨rfl, HF.out⟩
set_option maxRecDepth 1000000 in
set_option maxHeartbeats 1000000 in
theorem as_fault (k : Int) (b : Nat) (w : World) (h : BlockIs w b 89 [.int .i64 0]) (he : w.cell? ⟨0, 0, none⟩ = some (rt hE)) : Calls Tryz.prog 80 #[.iface 89 (.agg #[.int .i64 k]), .iface 131 (.pointer (some ⟨b, 0, none⟩))] w fun e w' => e = .returned (.bool true) ∧ BlockIs w' b 89 [.int .i64 k] ∧ Below b w w' := by
  have f1 := valueOf_ptr ⟨b, 0, none⟩
  have f2 := type_ptr
  have f3 := m_kind
  have f4 := kind_ptr
  have f5 := kind_fault
  have f6 := m_elem
  have f7 := elem_ptr
  have f9 := m_impl
  have fa := impl_fault
  have hx0 : BlockIs (w.alloc (.cells #[.pointer (some ⟨b, 0, none⟩)] 131)) w.heap.size 131 [.pointer (some ⟨b, 0, none⟩)] := heap_alloc_new w _
  have bx := below_more (Below.refl _ (w.alloc (.cells #[.pointer (some ⟨b, 0, none⟩)] 131))) (.cells #[hP, .pointer (some ⟨w.heap.size, 0, none⟩), .int .u64 150] 148)
  have hx1 := hx0.on bx hx0.lt
  have f8 := isNil_ptr w.heap.size ⟨b, 0, none⟩ _ (hx1.cell (j := 0) rfl)
  have b2 := below_via (below_more (Below.refl w.heap.size w) (.cells #[.pointer (some ⟨b, 0, none⟩)] 131)) bx
  have he2 := (b2.cell (p := ⟨0, 0, none⟩) (World.block_lt_of_cell? w _ he)).trans he
  have HC := hid (as2_fault k b w.heap.size _ (h.on b2 h.lt) hx1)
  have HB := hid (b2.mono (Nat.le_of_lt h.lt))
  clear hx0 hx1 bx b2 he h
  go_enter Tryz.func80, Tryz.ntmps80
  go_wp2_with fail
  refine HC.out.mono ?_
  rintro e w1 ⟨rfl, hb, b1⟩
  have B1 := hid (And.intro hb (HB.out.trans b1))
  clear hb b1 HC HB
  go_wp2
  go_ret
  exact ⟨rfl, B1.out⟩

set_option maxRecDepth 1000000 in
theorem codeOf_fault (k : Int) (w : World) (he : w.cell? ⟨0, 0, none⟩ = some (rt hE)) : Calls Tryz.prog 52 #[.iface 89 (.agg #[.int .i64 k])] w fun e w' => e = .returned (.int .i64 k) ∧ Below w.heap.size w w' := by
  have bx := below_more (Below.refl w.heap.size w) (.cells #[.int .i64 0] 89)
  have C := hid (as_fault k w.heap.size _ (heap_alloc_new w (.cells #[.int .i64 0] 89)) ((bx.cell (p := ⟨0, 0, none⟩) (World.block_lt_of_cell? w _ he)).trans he))
  have HB := hid bx
  clear bx he
  go_enter Tryz.func52, Tryz.ntmps52
  go_wp2_with fail
  refine C.out.mono ?_
  rintro e w1 ⟨rfl, hb, b1⟩
  have c0 := hb.cell (j := 0) rfl
  have B1 := hid (HB.out.trans b1)
  clear hb b1 C HB
  go_wp2
  go_ret
  exact ⟨rfl, B1.out⟩
end Go.Proofs.YtbifkpkhpaellaaGreatDoor

namespace Go.Proofs.YtbifkpkhpaellaaGreatDoor
open Go.RowKit

set_option maxRecDepth 1000000 in
set_option maxHeartbeats 1000000 in
theorem implLogLast_any (s t : Int) (hs : -9223372036854775808 ≤ s ∧ s ≤ 9223372036854775807) (ao : Option Addr) (l : List EntD) (cap : Nat) (hl : l.length ≤ 1048577) (w : World) (ha : EntsAt w ao l) :
    Calls Tryz.prog 118 #[.agg #[.int .i64 s, .int .i64 t, .slice ao l.length cap]] w fun e w' => e = .returned (.tuple #[.int .i64 (wrap64 (s + l.length)), .int .i64 (lastT t l)]) ∧ Below w.heap.size w w' := by
  have HB := hid (below_more (Below.refl w.heap.size w) (.cells #[.int .i64 s, .int .i64 t, .slice ao l.length cap] 28))
  have hx : BlockIs (w.alloc (.cells #[.int .i64 s, .int .i64 t, .slice ao l.length cap] 28)) w.heap.size 28 [.int .i64 s, .int .i64 t, .slice ao l.length cap] := heap_alloc_new w _
  have hE := ha.on HB.out
  obtain ⟨W, hW⟩ : ∃ W, w.alloc (.cells #[.int .i64 s, .int .i64 t, .slice ao l.length cap] 28) = W := ⟨_, rfl⟩
  rw [hW] at HB hx hE
  have c0 := hx.cell (j := 0) rfl
  have c1 := hx.cell (j := 1) rfl
  have c2 := hx.cell (j := 2) rfl
  clear hx ha
  by_cases h0 : l.length = 0
  · have hl0 : l = [] := List.length_eq_zero_iff.1 h0
    subst hl0
    have hw0 : wrap64 (s + ((([] : List EntD).length : Nat) : Int)) = s := by rw [IntWalk.wrap64_in] <;> simp <;> omega
    rw [hw0]
    clear hw0
    go_enter Tryz.func118, Tryz.ntmps118
    go_wp2
    go_quiet (fail)
    go_wp2
    go_ret2
    exact ⟨rfl, below_drewN (below_more (Below.refl _ w) _) _⟩
  · have hne : ¬ (l.length : Int) = 0 := by omega
    obtain ⟨b, off, rfl, hc⟩ := hE (by intro e; rw [e] at h0; simp at h0)
    have hlt : l.length - 1 < l.length := by omega
    obtain ⟨x0, _, _⟩ := hc (l.length - 1) hlt
    have hsub : (l.length : Int) - 1 = ((l.length - 1 : Nat) : Int) := by omega
    have HL := hid (lastT_last t l (by omega))
    clear hc hE
    obtain ⟨tm, htm⟩ : ∃ tm, l[l.length - 1].term = tm := ⟨_, rfl⟩
    rw [htm] at HL x0
    rw [HL.out]
    obtain ⟨N, hN⟩ : ∃ N, l.length = N := ⟨_, rfl⟩
    rw [hN] at hsub c2 hne hlt hW x0 ⊢
    obtain ⟨n, hn⟩ : ∃ n, N - 1 = n := ⟨_, rfl⟩
    rw [hn] at hsub hlt x0
    have hnl : (n : Int) < (N : Int) := by omega
    have hn0 : (0 : Int) ≤ (n : Int) := by omega
    have hwn : IntKind.i64.wrap (n : Int) = (n : Int) := by rw [IntKind.wrap_i64]; omega
    clear hn HL htm hN h0
    go_enter Tryz.func118, Tryz.ntmps118
    go_wp2
    go_quiet (fail)
    go_wp2
    go_ret2
    exact ⟨rfl, below_drewN HB.out _⟩
end Go.Proofs.YtbifkpkhpaellaaGreatDoor

namespace Go.Proofs.YtbifkpkhpaellaaGreatDoor
open Go.RowKit

set_option maxRecDepth 1000000 in
set_option maxHeartbeats 1000000 in
theorem entriesBehind_any (s t i : Int) (k : Nat) (ao : Option Addr) (l : List EntD) (cap : Nat) (hik : i - s = (k : Int)) (hk : k ≤ l.length) (hl : l.length ≤ 1048576) (hcap : l.length ≤ cap) (w : World) (ha : EntsAt w ao l) :
    Calls Tryz.prog 125 #[.agg #[.int .i64 s, .int .i64 t, .slice ao l.length cap], .int .i64 i] w fun e w' => ∃ vo, e = .returned (.slice vo (l.drop k).length (l.drop k).length) ∧ EntsAt w' vo (l.drop k) ∧ Below w.heap.size w w' := by
  have HB := hid (below_more (Below.refl w.heap.size w) (.cells #[.int .i64 s, .int .i64 t, .slice ao l.length cap] 28))
  have hx : BlockIs (w.alloc (.cells #[.int .i64 s, .int .i64 t, .slice ao l.length cap] 28)) w.heap.size 28 [.int .i64 s, .int .i64 t, .slice ao l.length cap] := heap_alloc_new w _
  have hE := hid (ha.on HB.out)
  obtain ⟨W, hW⟩ : ∃ W, w.alloc (.cells #[.int .i64 s, .int .i64 t, .slice ao l.length cap] 28) = W := ⟨_, rfl⟩
  rw [hW] at HB hx hE
  have c0 := hx.cell (j := 0) rfl
  have c2 := hx.cell (j := 2) rfl
  clear hx ha
  have hlen : (l.drop k).length = l.length - k := by simp
  rw [hlen]
  by_cases hkl : k = l.length
  · have hnil : l.drop k = [] := List.length_eq_zero_iff.1 (by omega)
    rw [hnil, show l.length - k = 0 by omega]
    clear hnil hlen
    go_enter Tryz.func125, Tryz.ntmps125
    go_wp2
    go_ret
    exact ⟨_, rfl, fun h => absurd rfl h, HB.out⟩
  · obtain ⟨b, off, rfl, hc⟩ := hE.out (by intro e; rw [e] at hkl hk; simp at hk; exact hkl (by simpa using hk))
    have HD := hid (hE.out.drop k)
    clear hc hlen
    go_enter Tryz.func125, Tryz.ntmps125
    go_wp2
    go_ret
    exact ⟨_, rfl, HD.out, HB.out⟩

/-- elements of several cells each go over by copy -/
theorem run_copy_many {P : Program} (w : World) (dT sT ty elem : TypeId) (g dLen dCap : Nat) (a : Addr) (sLen sCap size : Nat) (cur : Array Value) (t : TypeId) (cs : List Value)
    (hu : P.underlying dT = some (.slice elem)) (hs : (P.info? elem).map (·.size) = some size) (hg : w.heap[g]? = some (.cells cur t (0, 0))) (hn : cs.length = Nat.min sLen dLen * size)
    (hsrc : ∀ j v, cs[j]? = some v → w.cell? (a.add j) = some v) (hfit : cs.length = cur.size) (h1 : ∀ v ∈ cs, v.oneCell' = true) :
    (Builtin.copy_ #[dT, sT] ty #[.slice (some ⟨g, 0, none⟩) dLen dCap, .slice (some a) sLen sCap]).run P w = .ok (goInt (Nat.min sLen dLen)) (w.setRow g cs.toArray) := by
  have hl := run_loadCells_list (P := P) w a cs hsrc
  have hst := run_storeCells_at P g 0 t cs 0 cur w hg (by omega) h1
  have hdrop : cur.toList.drop cs.length = [] := by rw [hfit]; simp
  rw [Nat.zero_add, Nat.zero_add, hdrop, List.take_zero, List.nil_append, List.append_nil] at hst
  cases hq : P.info? elem with
  | none => simp [hq] at hs
  | some i =>
    have hi : i.size = size := by simpa [hq] using hs
    simp [Builtin.copy_, run_underlying hu, Builtin.lenOf, Builtin.firstCells, sizeOf, typeInfo, hq, hi, ← hn, hl, hst]
theorem run_copy_zero {P : Program} (w : World) (dT sT ty elem : TypeId) (d a : Option Addr) (dLen dCap sLen sCap size : Nat) (hu : P.underlying dT = some (.slice elem)) (hs : (P.info? elem).map (·.size) = some size) (hn : Nat.min sLen dLen = 0) :
    (Builtin.copy_ #[dT, sT] ty #[.slice d dLen dCap, .slice a sLen sCap]).run P w = .ok (goInt 0) w := by
  cases hq : P.info? elem with
  | none => simp [hq] at hs
  | some i =>
    have hl : ∀ (x : Addr), (loadCells x 0).run P w = .ok #[] w := fun x => by simpa using run_loadCells_list (P := P) w x [] (by simp)
    cases d <;> cases a <;> simp [Builtin.copy_, run_underlying hu, Builtin.lenOf, Builtin.firstCells, sizeOf, typeInfo, hq, hn, storeCells, hl]

/-- what a copy leaves -/
theorem copy_ents {w w1 : World} {ao : Option Addr} {l : List EntD} {cap : Nat} (h1 : BlockIs w1 w.heap.size 110 (madeCells (Value.agg #[.int .i64 0, .int .i64 0, .string ByteArray.empty]).cells (l.length * 3)).toList) (hb : Below w.heap.size w w1) (ha : EntsAt w ao l) :
    ∃ W2, (Builtin.copy_ #[26, 26] 3 #[.slice (some ⟨w.heap.size, 0, none⟩) l.length l.length, .slice ao l.length cap]).run Tryz.prog w1 = .ok (goInt l.length) W2 ∧ BlockIs W2 w.heap.size 110 (entCells l) ∧ Below w.heap.size w W2 := by
  obtain ⟨i0, hi, hz0, hz1, hz2⟩ := info_parts toEnt_info
  have hsz : (Tryz.prog.info? 110).map (·.size) = some 3 := by rw [hi]; simp [hz1]
  by_cases h0 : l = []
  · subst h0
    refine ⟨w1, run_copy_zero w1 _ _ _ 110 _ _ _ _ _ _ 3 Tryz.underlying26 hsz rfl, ?_, hb⟩
    have e : (madeCells (Value.agg #[.int .i64 0, .int .i64 0, .string ByteArray.empty]).cells (0 * 3)).toList = [] := by simp [madeCells]
    rw [show (([] : List EntD).length) = 0 from rfl, e] at h1
    exact h1
  · obtain ⟨b, off, rfl, hc⟩ := ha.on hb h0
    have hr := run_copy_many w1 26 26 3 110 w.heap.size l.length l.length ⟨b, off, none⟩ l.length cap 3 _ 110 (entCells l) Tryz.underlying26 hsz h1 (by rw [entCells_length]; simp) (ents_cells hc) (by rw [entCells_length]; simpa using (made_ents l.length).symm) (entCells_one l)
    rw [show Nat.min l.length l.length = l.length from Nat.min_self _] at hr
    refine ⟨_, hr, ?_, below_setRow hb (Nat.le_refl _) _⟩
    unfold BlockIs
    exact setRow_heap w1 w.heap.size _ _ _ _ h1

set_option maxRecDepth 1000000 in
set_option maxHeartbeats 1000000 in
theorem copiedEntries_any (ao : Option Addr) (l : List EntD) (cap : Nat) (hl : l.length ≤ 1048576) (hs : ∀ f ∈ l, f.data.size ≤ 1048576) (w : World) (ha : EntsAt w ao l) :
    Calls Tryz.prog 120 #[.slice ao l.length cap] w fun e w' => e = .returned (.slice (some ⟨w.heap.size, 0, none⟩) l.length l.length) ∧ BlockIs w' w.heap.size 110 (entCells l) ∧ Below w.heap.size w w' := by
  obtain ⟨i0, hi, hz0, hz1, hz2⟩ := info_parts toEnt_info
  have HA := hid ha
  have HS := hid hs
  clear ha hs
  go_enter Tryz.func120, Tryz.ntmps120
  go_wp2_with (at_make; refine wpList_make_full _ rfl (.tmp 6) (.tmp 6) 26 rfl w.heap.size 110 i0 (.agg #[.int .i64 0, .int .i64 0, .string ByteArray.empty]) 3 Tryz.underlying26 hi hz0 hz1 _ _ _ _ l.length rfl rfl rfl rfl ?b2 ?b3 ?b4 ?_)
  case b2 => rw [hz2]; omega
  case b3 => unfold maxLen; omega
  case b4 => exact Nat.le_refl _
  intro w1 hown hgrow
  have hB1 := (Below.refl w.heap.size w).grown hgrow (Nat.le_refl _) (fun k h => by cases h)
  obtain ⟨W2, hcp, hb2, hbel⟩ := copy_ents (cap := cap) (BlockIs.made hown) hB1 HA.out
  have HM := hid hb2
  have B2 := hid hbel
  clear hown hgrow hB1 hb2 hbel
  go_wp2
  go_loopg [4, 13] l.length (fun g _ i wr => ∃ (k : Nat), k + g = l.length ∧ i = .int .i64 k ∧ Hid (Below w.heap.size w wr) ∧ Hid (BlockIs wr w.heap.size 110 (entCells l)))
  case atStart => exact ⟨0, by omega, rfl, B2, HM⟩
  case round =>
    obtain ⟨k, hkg, rfl, BR, FP⟩ := hrel
    clear HM B2 hcp
    cases gk with
    | zero =>
      have hlt : ¬ (k : Int) < (l.length : Int) := by omega
      go_wp2
      go_ret
      exact ⟨rfl, FP.out, BR.out⟩
    | succ g =>
      have hlt : k < l.length := by omega
      have hlt' : (k : Int) < (l.length : Int) := by omega
      have hat : (entCells l)[k * 3 + 2]? = some (.string l[k].data) := by
        have := row_at entEnc 3 (fun _ => rfl) l [] k 2 hlt (by omega)
        rw [List.append_nil] at this
        exact this
      have HAT := hid hat
      have x2 := FP.out.cell hat
      have C := hid (fun w => clone_any l[k].data (by have := HS.out _ (List.getElem_mem hlt); omega) w)
      clear hat
      go_wp2_with fail
      refine (C.out _).mono ?_
      rintro e w2 ⟨rfl, b2⟩
      have F2 := FP.out.on b2 FP.out.lt
      have y2 := F2.cell HAT.out
      have f2 := F2.thaw (k * 3 + 2)
      have F3 := hid (F2.set (k * 3 + 2) (.string l[k].data))
      rw [set_same HAT.out] at F3
      have B3 := hid ((below_via BR.out b2).setCell (p := ⟨w.heap.size, k * 3 + 2, none⟩) (Nat.le_refl _) (.string l[k].data))
      clear x2 C b2 F2 FP BR
      go_wp2
      go_roundg g
      case measure => omega
      case rel => exact ⟨k + 1, by omega, by go_num, B3, F3⟩
end Go.Proofs.YtbifkpkhpaellaaGreatDoor

namespace Go.Proofs.YtbifkpkhpaellaaGreatDoor
open Go.RowKit Go.Sort

set_option maxRecDepth 1000000 in
theorem implNameOk_any (s : ByteArray) (w : World) :
    Calls Tryz.prog 87 #[.string s] w fun e w' => e = .returned (.bool (nameOk s)) ∧ w' = w := by
  unfold nameOk within
  by_cases h1 : (1 : Int) ≤ (s.size : Int)
  · by_cases h2 : (s.size : Int) ≤ 8
    · go_enter Tryz.func87, Tryz.ntmps87
      go_wp2
      go_ret
      exact ⟨by simp [h1, h2], rfl⟩
    · go_enter Tryz.func87, Tryz.ntmps87
      go_wp2
      go_ret
      exact ⟨by simp; omega, rfl⟩
  · go_enter Tryz.func87, Tryz.ntmps87
    go_wp2
    go_ret
    exact ⟨by simp; omega, rfl⟩

set_option maxRecDepth 1000000 in
theorem implFileOk_any (f : FileD) (w : World) :
    Calls Tryz.prog 71 #[f.value] w fun e w' => e = .returned (.bool (fileOk f)) ∧ Below w.heap.size w w' := by
  unfold FileD.value
  have HB := hid (below_more (Below.refl w.heap.size w) (.cells #[.string f.name, .string f.text, .int .i64 f.kept] 49))
  have cN' := fun w => implNameOk_any f.name w
  cases hA : nameOk f.name with
  | false =>
    rw [hA] at cN'
    have cN := hid cN'
    have hr : Hid (fileOk f = false) := by show _ = _; simp [fileOk, hA]
    clear cN' hA
    go_enter Tryz.func71, Tryz.ntmps71
    go_wp2_with fail
    refine (cN.out _).mono ?_
    rintro e w' ⟨rfl, hw⟩
    rw [hw]
    clear hw w'
    go_wp2
    go_ret
    exact ⟨by rw [hr.out]; rfl, HB.out⟩
  | true =>
    rw [hA] at cN'
    have cN := hid cN'
    clear cN'
    by_cases h1 : (f.text.size : Int) ≤ 20000
    · by_cases h2 : (0 : Int) ≤ f.kept
      · by_cases h3 : f.kept ≤ (f.text.size : Int)
        · have hr : Hid (fileOk f = true) := by
            show _ = _
            have h1' : f.text.size ≤ 20000 := by omega
            simp [fileOk, within, hA, h1', h2, h3]
          clear hA
          go_enter Tryz.func71, Tryz.ntmps71
          go_wp2_with fail
          refine (cN.out _).mono ?_
          rintro e w' ⟨rfl, hw⟩
          rw [hw]
          clear hw w'
          go_wp2
          go_ret
          exact ⟨by rw [hr.out]; rfl, HB.out⟩
        · have hr : Hid (fileOk f = decide (f.kept ≤ (f.text.size : Int))) := by show _ = _; simp [fileOk, within, h3]
          clear hA
          go_enter Tryz.func71, Tryz.ntmps71
          go_wp2_with fail
          refine (cN.out _).mono ?_
          rintro e w' ⟨rfl, hw⟩
          rw [hw]
          clear hw w'
          go_wp2
          go_ret
          exact ⟨by rw [hr.out]; rfl, HB.out⟩
      · have hr : Hid (fileOk f = false) := by show _ = _; simp [fileOk, within, h2]
        clear hA
        go_enter Tryz.func71, Tryz.ntmps71
        go_wp2_with fail
        refine (cN.out _).mono ?_
        rintro e w' ⟨rfl, hw⟩
        rw [hw]
        clear hw w'
        go_wp2
        go_ret
        exact ⟨by rw [hr.out]; rfl, HB.out⟩
    · have hr : Hid (fileOk f = false) := by
        show _ = _
        have h1' : ¬ f.text.size ≤ 20000 := by omega
        simp [fileOk, h1']
      clear hA
      go_enter Tryz.func71, Tryz.ntmps71
      go_wp2_with fail
      refine (cN.out _).mono ?_
      rintro e w' ⟨rfl, hw⟩
      rw [hw]
      clear hw w'
      go_wp2
      go_ret
      exact ⟨by rw [hr.out]; rfl, HB.out⟩

set_option maxRecDepth 1000000 in
set_option maxHeartbeats 1000000 in
theorem implDiskOk_any (ao : Option Addr) (l : List FileD) (cap : Nat) (hl : l.length ≤ 16777216) (w : World) (ha : FilesAt w ao l) :
    Calls Tryz.prog 46 #[.agg #[.slice ao l.length cap]] w fun e w' => e = .returned (.bool (diskOk l)) ∧ Below w.heap.size w w' := by
  have HA := (show Hid (FilesAt w ao l) from ha)
  clear ha
  by_cases h30 : (30 : Int) < (l.length : Int)
  · have hr : Hid (diskOk l = false) := by show _ = _; unfold diskOk; simp; omega
    go_enter Tryz.func46, Tryz.ntmps46
    go_wp2
    go_ret
    exact ⟨by rw [hr.out]; rfl, below_more (Below.refl _ w) _⟩
  · have HB := (show Hid _ from below_more (Below.refl w.heap.size w) (.cells #[.slice ao l.length cap] 36))
    have HX := (show Hid (BlockIs (w.alloc (.cells #[.slice ao l.length cap] 36)) w.heap.size 36 [.slice ao l.length cap]) from heap_alloc_new w _)
    go_enter Tryz.func46, Tryz.ntmps46
    go_wp2
    go_loopg [3, 4, 12] l.length (fun g _ _ i wr => ∃ (k : Nat), k + g = l.length ∧ i = .int .i64 k ∧ Hid (Below w.heap.size w wr) ∧ Hid (BlockIs wr w.heap.size 36 [.slice ao l.length cap]) ∧ Hid (rightTo l k = true))
    case atStart => exact ⟨0, by omega, rfl, HB, HX, rfl⟩
    case round =>
      obtain ⟨k, hkg, rfl, BR, XR, RT⟩ := hrel
      clear HB HX
      have c0 := XR.out.cell (j := 0) rfl
      cases gk with
      | zero =>
        have hlt : ¬ (k : Int) < (l.length : Int) := by omega
        have hr : Hid (diskOk l = true) := by show _ = _; exact diskOk_of (by omega) (by rw [← RT.out, show k = l.length by omega])
        go_wp2
        go_ret
        exact ⟨by rw [hr.out]; rfl, BR.out⟩
      | succ g =>
        have hlt : k < l.length := by omega
        have hlt' : (k : Int) < (l.length : Int) := by omega
        have hne : l ≠ [] := by intro e; rw [e] at hlt; simp at hlt
        obtain ⟨b, off, rfl, hc⟩ := HA.out.on BR.out hne
        obtain ⟨x0, x1, x2⟩ := hc k hlt
        have HC := hid hc
        clear hc
        go_wp2
        generalize hW2 : wr.alloc (.cells #[.string l[k].name, .string l[k].text, .int .i64 l[k].kept] 49) = W2
        have hb2 : Below wr.heap.size wr W2 := by rw [← hW2]; exact below_more (Below.refl _ wr) _
        have hx2 : BlockIs W2 wr.heap.size 49 [.string l[k].name, .string l[k].text, .int .i64 l[k].kept] := by rw [← hW2]; exact heap_alloc_new wr _
        have n0 := cell_regrown (hx2.cell (j := 0) rfl)
        have n1 := cell_regrown (hx2.cell (j := 1) rfl)
        have n2 := cell_regrown (hx2.cell (j := 2) rfl)
        have XW := XR.out.on hb2 XR.out.lt
        have d0 := cell_regrown (XW.cell (j := 0) rfl)
        have B2 := (show Hid (Below w.heap.size w W2) from below_via BR.out hb2)
        have X2 := (show Hid (BlockIs _ _ _ _) from XW)
        have C' := fun d os => Calls.regrown_of (w := W2) (d := d) (os := os) (implFileOk_any l[k] _)
        unfold FileD.value at C'
        clear hW2 hx2 c0 x0 x1 x2 XW
        cases hA : fileOk l[k] with
        | false =>
          have hr : Hid (diskOk l = false) := not_diskOk hlt (by simp [hA])
          rw [hA] at C'
          have C := hid C'
          clear C' hA
          refine wp_region_quiet_below (by kernel_rfl) (by kernel_rfl) ?_
          repeat (first | go_big_quiet_step (first | (go_at_call 71; exact C.out _ _) | fail) | quiet_step (first | (go_at_call 71; exact C.out _ _) | fail))
          refine wpQuiet_nil ?_
          intro _ hw'
          obtain ⟨⟨dq, osq⟩, hw''⟩ := hw'
          subst hw''
          have BQ : Hid (Below w.heap.size w (grow (redrawn W2 dq) osq)) := B2.out.trans ((below_regrown W2 dq osq).mono B2.out.size)
          generalize grow (redrawn W2 dq) osq = wq at BQ ⊢
          clear n0 n1 n2 d0 C
          go_wp2
          go_ret
          exact ⟨by rw [hr.out]; rfl, BQ.out⟩
        | true =>
          rw [hA] at C'
          have C := hid C'
          clear C'
          cases k with
          | zero =>
            have HR : Hid (rightTo l 1 = true) := by show _ = _; rw [rightTo_step hlt]; simp [rightTo, behind, hA]
            clear hA
            refine wp_region_quiet_below (by kernel_rfl) (by kernel_rfl) ?_
            repeat (first | go_big_quiet_step (first | (go_at_call 71; exact C.out _ _) | fail) | quiet_step (first | (go_at_call 71; exact C.out _ _) | fail))
            refine wpQuiet_nil ?_
            intro _ hw'
            obtain ⟨⟨dq, osq⟩, hw''⟩ := hw'
            subst hw''
            have BQ : Hid (Below w.heap.size w (grow (redrawn W2 dq) osq)) := B2.out.trans ((below_regrown W2 dq osq).mono B2.out.size)
            have XQ : Hid (BlockIs (grow (redrawn W2 dq) osq) w.heap.size 36 [.slice (some ⟨b, off, none⟩) l.length cap]) := X2.out.on (below_regrown W2 dq osq) X2.out.lt
            generalize grow (redrawn W2 dq) osq = wq at BQ XQ ⊢
            clear n0 n1 n2 d0 C
            go_wp2
            go_roundg g
            case measure => omega
            case rel => exact ⟨1, by omega, by go_num, BQ, XQ, HR⟩
          | succ j =>
            have hj : j < l.length := by omega
            have p0 := cell_regrown (show W2.cell? ⟨b, off + j * 3, none⟩ = some (.string l[j].name) from (hb2.cell (p := ⟨b, off + j * 3, none⟩) (World.block_lt_of_cell? wr _ (HC.out j hj).1)).trans (HC.out j hj).1)
            have hpos : (0 : Int) < (((j + 1 : Nat)) : Int) := by omega
            have hsub : (((j + 1 : Nat)) : Int) - 1 = (j : Int) := by omega
            have hjl : (j : Int) < (l.length : Int) := by omega
            have hwj : IntKind.i64.wrap (j : Int) = (j : Int) := by rw [IntKind.wrap_i64]; omega
            cases hL : textLt l[j].name l[j + 1].name with
            | false =>
              have hr : Hid (diskOk l = false) := not_diskOk hlt (by rw [behind_step hlt, hL]; simp)
              have hL' : Op.bytesLess l[j].name.toList l[j + 1].name.toList = false := hL
              clear hA hL
              refine wp_region_quiet_below (by kernel_rfl) (by kernel_rfl) ?_
              repeat (first | go_big_quiet_step (first | (go_at_call 71; exact C.out _ _) | fail) | quiet_step (first | (go_at_call 71; exact C.out _ _) | fail))
              refine wpQuiet_nil ?_
              intro _ hw'
              obtain ⟨⟨dq, osq⟩, hw''⟩ := hw'
              subst hw''
              have BQ : Hid (Below w.heap.size w (grow (redrawn W2 dq) osq)) := B2.out.trans ((below_regrown W2 dq osq).mono B2.out.size)
              generalize grow (redrawn W2 dq) osq = wq at BQ ⊢
              clear n0 n1 n2 d0 C p0
              go_wp2
              go_ret
              exact ⟨by rw [hr.out]; rfl, BQ.out⟩
            | true =>
              have HR : Hid (rightTo l (j + 1 + 1) = true) := by show _ = _; rw [rightTo_step hlt, RT.out, behind_step hlt, hL]; simp [hA]
              have hL' : Op.bytesLess l[j].name.toList l[j + 1].name.toList = true := hL
              clear hA hL
              refine wp_region_quiet_below (by kernel_rfl) (by kernel_rfl) ?_
              repeat (first | go_big_quiet_step (first | (go_at_call 71; exact C.out _ _) | fail) | quiet_step (first | (go_at_call 71; exact C.out _ _) | fail))
              refine wpQuiet_nil ?_
              intro _ hw'
              obtain ⟨⟨dq, osq⟩, hw''⟩ := hw'
              subst hw''
              have BQ : Hid (Below w.heap.size w (grow (redrawn W2 dq) osq)) := B2.out.trans ((below_regrown W2 dq osq).mono B2.out.size)
              have XQ : Hid (BlockIs (grow (redrawn W2 dq) osq) w.heap.size 36 [.slice (some ⟨b, off, none⟩) l.length cap]) := X2.out.on (below_regrown W2 dq osq) X2.out.lt
              generalize grow (redrawn W2 dq) osq = wq at BQ XQ ⊢
              clear n0 n1 n2 d0 C p0
              go_wp2
              go_roundg g
              case measure => omega
              case rel => exact ⟨j + 1 + 1, by omega, by go_num, BQ, XQ, HR⟩
end Go.Proofs.YtbifkpkhpaellaaGreatDoor

namespace Go.Proofs.YtbifkpkhpaellaaGreatDoor
open Go.RowKit

set_option maxRecDepth 1000000 in
set_option maxHeartbeats 1000000 in
theorem greatest_any (ao : Option Addr) (l : List FileD) (cap : Nat) (hl : l.length ≤ 1048576) (w : World) (ha : FilesAt w ao l) :
    Calls Tryz.prog 47 #[.agg #[.slice ao l.length cap]] w fun e w' => e = .returned (.tuple #[.int .i64 (((bestJ l).getD 0 : Nat) : Int), .bool (bestJ l).isSome]) ∧ Below w.heap.size w w' := by
  have HB := hid (below_more (Below.refl w.heap.size w) (.cells #[.slice ao l.length cap] 36))
  have HA := hid ha
  clear ha
  go_enter Tryz.func47, Tryz.ntmps47
  go_wp2
  go_loopg [4, 5, 13] l.length (fun g y z i wr => ∃ (k : Nat), k + g = l.length ∧ i = .int .i64 k ∧ y = .int .i64 (((bestJ (l.take k)).getD 0 : Nat) : Int) ∧ z = .bool (bestJ (l.take k)).isSome ∧ Hid (Below w.heap.size w wr))
  case atStart => exact ⟨0, by omega, rfl, rfl, rfl, HB⟩
  case round =>
    obtain ⟨k, hkg, rfl, rfl, rfl, BR⟩ := hrel
    clear HB
    cases gk with
    | zero =>
      have hlt : ¬ (k : Int) < (l.length : Int) := by omega
      rw [List.take_of_length_le (by omega)]
      go_wp2
      go_ret2
      exact ⟨rfl, BR.out⟩
    | succ g =>
      have hlt : k < l.length := by omega
      have hlt' : (k : Int) < (l.length : Int) := by omega
      have hne : l ≠ [] := by intro e; rw [e] at hlt; simp at hlt
      obtain ⟨b, off, rfl, hc⟩ := HA.out.on BR.out hne
      obtain ⟨x0, x1, x2⟩ := hc k hlt
      have HBN : Hid (∀ o, Below wr.heap.size wr (wr.alloc o)) := fun o => below_more (Below.refl _ _) o
      have hstep := bestJ_take l k hlt
      have hle := bestJ_le l k
      obtain ⟨bb, hbb⟩ : ∃ bb, bestJ (l.take k) = bb := ⟨_, rfl⟩
      rw [hbb] at hstep hle ⊢
      have HS := hid hstep
      have HLE := hid hle
      clear hc hbb hstep hle
      go_wp2_with fail
      refine (numberIn_any l[k].name _).mono ?_
      rintro e w1 ⟨⟨x, rfl, hx⟩, b1⟩
      have B1 := hid (below_via BR.out (below_via (HBN.out _) b1))
      clear b1 x0 x1 x2
      cases hn : nameNum 106 999 l[k].name with
      | none =>
        have HE : Hid (bestJ (l.take (k + 1)) = bb) := by show _ = _; rw [HS.out]; unfold bestStep; rw [hn]
        rw [show (none : Option Nat).isSome = false from rfl]
        clear hn hx
        go_wp2
        go_roundg g
        case measure => omega
        case rel => exact ⟨k + 1, by omega, by go_num, by rw [HE.out], by rw [HE.out], B1⟩
      | some n =>
        have hn9 := ((nameNum_some (by omega)).1 hn).1
        obtain rfl := hx n hn
        rw [show (some n : Option Nat).isSome = true from rfl]
        have HE : Hid (bestJ (l.take (k + 1)) = some (max (bb.getD 0) n)) := by
          show _ = _
          rw [HS.out]
          unfold bestStep
          rw [hn]
          cases bb <;> simp
        have hbl : bb.getD 0 ≤ 999 := by
          cases hb : bb with
          | none => simp
          | some m => exact HLE.out m hb
        obtain ⟨G, hG⟩ : ∃ G, bb.getD 0 = G := ⟨_, rfl⟩
        rw [hG] at HE hbl ⊢
        clear hn hx hG
        go_wp2
        all_goals
          go_roundg g
          case measure => omega
          case rel => exact ⟨k + 1, by omega, by go_num, by rw [HE.out]; simp; omega, by rw [HE.out]; rfl, B1⟩
end Go.Proofs.YtbifkpkhpaellaaGreatDoor
