/-
  A journal that an answer owns: written over with marks, held against them; what is read of a journal's text, in parts.
  The walk of spec.l03At: where the first file of a name is.
  The walks of laws.eqAct, eqActS: acts compared.
-/
import Derived.Test.YtbifkpkhpaellaaGreatDoorJoint27
import Derived.Test.YtbifkpkhpaellaaGreatDoorJoint13
import Derived.Test.YtbifkpkhpaellaaGreatDoorJoint9
import Derived.Test.YtbifkpkhpaellaaGreatDoorJoint1
import Derived.Laws.Cover1
import Derived.Lib.QuietBelow
namespace Go.Proofs.YtbifkpkhpaellaaGreatDoor
open Go.RowKit

set_option maxRecDepth 1000000 in
theorem markJour_o (n tm vt s t : Int) (m : Nat) (va : Option Addr) (vc : Nat) (l : List EntD) (lo hi : Nat) (hm : m ≤ 10000000) (hl : l.length ≤ 1048576) (w : World) (hw : lo ≤ w.heap.size) (_hh : hi ≤ w.heap.size) (h : OwnAt w 110 (entCells l) l.length va lo hi) :
    Calls Tryz.prog 12 #[.agg #[.int .i64 n, .int .i64 tm, .int .i64 vt, .int .i64 s, .int .i64 t, .slice va l.length vc], .int .i64 m] w fun e w' => e = .returned (.int .i64 ((m + 3 * l.length : Nat) : Int)) ∧ EntsAt w' va (marksE m l.length) ∧ KeptBut2 lo hi w w' ∧ Below lo w w' := by
  have bw := below_more (Below.refl w.heap.size w) (.cells #[.int .i64 n, .int .i64 tm, .int .i64 vt, .int .i64 s, .int .i64 t, .slice va l.length vc] 30)
  have HJ : Hid (BlockIs (w.alloc (.cells #[.int .i64 n, .int .i64 tm, .int .i64 vt, .int .i64 s, .int .i64 t, .slice va l.length vc] 30)) w.heap.size 30 [.int .i64 n, .int .i64 tm, .int .i64 vt, .int .i64 s, .int .i64 t, .slice va l.length vc]) := heap_alloc_new w _
  have C := hid (markLog_o2 s t m va vc l lo hi hm hl _ (Nat.le_trans hw bw.size) (h.on bw))
  have HB := hid bw
  clear bw h
  obtain ⟨K, hK⟩ : ∃ K, m + 3 * l.length = K := ⟨_, rfl⟩
  rw [hK] at C ⊢
  clear hK
  obtain ⟨W, hW⟩ : ∃ W, w.alloc (.cells #[.int .i64 n, .int .i64 tm, .int .i64 vt, .int .i64 s, .int .i64 t, .slice va l.length vc] 30) = W := ⟨_, rfl⟩
  rw [hW] at HJ C HB
  have c3 := HJ.out.cell (j := 3) rfl
  have c4 := HJ.out.cell (j := 4) rfl
  have c5 := HJ.out.cell (j := 5) rfl
  go_enter Tryz.func12, Tryz.ntmps12
  go_wp2_with fail
  refine C.out.mono ?_
  rintro e w1 ⟨rfl, a1, a2, a3⟩
  clear c3 c4 c5
  have A1 := hid a1
  have A2 : Hid (KeptBut2 lo hi w w1) := fun j t cs hne hb => a2 j t cs hne (hb.on HB.out hb.lt)
  have A3 : Hid (Below lo w w1) := (HB.out.mono hw).trans a3
  clear a1 a2 a3
  go_wp2
  go_ret
  exact ⟨rfl, A1.out, A2.out, A3.out⟩
set_option maxRecDepth 1000000 in
theorem heldJour_any (n tm vt s t : Int) (ao : Option Addr) (N cap m : Nat) (hm : m ≤ 10000000) (hl : N ≤ 1048576) (w : World) (ha : EntsAt w ao (marksE m N)) :
    Calls Tryz.prog 14 #[.agg #[.int .i64 n, .int .i64 tm, .int .i64 vt, .int .i64 s, .int .i64 t, .slice ao N cap], .int .i64 m] w fun e w' => e = .returned (.int .i64 ((m + 3 * N : Nat) : Int)) ∧ Below w.heap.size w w' := by
  have bw := below_more (Below.refl w.heap.size w) (.cells #[.int .i64 n, .int .i64 tm, .int .i64 vt, .int .i64 s, .int .i64 t, .slice ao N cap] 30)
  have HJ : Hid (BlockIs (w.alloc (.cells #[.int .i64 n, .int .i64 tm, .int .i64 vt, .int .i64 s, .int .i64 t, .slice ao N cap] 30)) w.heap.size 30 [.int .i64 n, .int .i64 tm, .int .i64 vt, .int .i64 s, .int .i64 t, .slice ao N cap]) := heap_alloc_new w _
  have C := hid (heldLog_any s t ao N cap m hm hl _ (ha.on bw))
  have HB := hid bw
  clear bw ha
  obtain ⟨K, hK⟩ : ∃ K, m + 3 * N = K := ⟨_, rfl⟩
  rw [hK] at C ⊢
  have hK1 : K ≤ 20000000 := by omega
  clear hK
  obtain ⟨W, hW⟩ : ∃ W, w.alloc (.cells #[.int .i64 n, .int .i64 tm, .int .i64 vt, .int .i64 s, .int .i64 t, .slice ao N cap] 30) = W := ⟨_, rfl⟩
  rw [hW] at HJ C HB
  have c3 := HJ.out.cell (j := 3) rfl
  have c4 := HJ.out.cell (j := 4) rfl
  have c5 := HJ.out.cell (j := 5) rfl
  go_enter Tryz.func14, Tryz.ntmps14
  go_wp2_with fail
  refine C.out.mono ?_
  rintro e w1 ⟨rfl, b1⟩
  have B1 := hid (below_via HB.out b1)
  clear c3 c4 c5 b1
  go_wp2
  go_ret
  exact ⟨rfl, B1.out⟩
end Go.Proofs.YtbifkpkhpaellaaGreatDoor

namespace Go.Proofs.YtbifkpkhpaellaaGreatDoor
open Go.RowKit

/-- the first file of a name -/
def FirstAt (l : List FileD) (name : ByteArray) (k : Nat) : Prop := ∃ hk : k < l.length, l[k].name = name ∧ ∀ j (hj : j < k), l[j].name ≠ name
def NoneAt (l : List FileD) (name : ByteArray) : Prop := ∀ j (hj : j < l.length), l[j].name ≠ name

/-- what FileAt answers -/
def FileAns (l : List FileD) (name T : ByteArray) (ok : Bool) : Prop :=
  (∃ (k : Nat) (hk : k < l.length), FirstAt l name k ∧ T = l[k].text ∧ ok = true) ∨ (NoneAt l name ∧ T = ByteArray.empty ∧ ok = false)
theorem FirstAt.same {l : List FileD} {name : ByteArray} {j k : Nat} (h : FirstAt l name j) (h2 : FirstAt l name k) : j = k := by
  obtain ⟨a, b, c⟩ := h
  obtain ⟨a2, b2, c2⟩ := h2
  rcases Nat.lt_trichotomy j k with q | q | q
  · exact absurd b (c2 j q)
  · exact q
  · exact absurd b2 (c k q)
theorem FileAns.same {l : List FileD} {name T T' : ByteArray} {ok ok' : Bool} (h : FileAns l name T ok) (h2 : FileAns l name T' ok') : T = T' ∧ ok = ok' := by
  rcases h with ⟨k, hk, f, rfl, rfl⟩ | ⟨n, rfl, rfl⟩
  · rcases h2 with ⟨k2, hk2, f2, rfl, rfl⟩ | ⟨n2, rfl, rfl⟩
    · have := f.same f2
      subst this
      exact ⟨rfl, rfl⟩
    · exact absurd f.2.1 (n2 k hk)
  · rcases h2 with ⟨k2, hk2, f2, rfl, rfl⟩ | ⟨n2, rfl, rfl⟩
    · exact absurd f2.2.1 (n k2 hk2)
    · exact ⟨rfl, rfl⟩

theorem text_eq {s t : ByteArray} (h : s.toList = t.toList) : s = t := by
  rw [ByteArray.toList_eq, ByteArray.toList_eq] at h
  exact ByteArray.ext (Array.toList_inj.1 h)

set_option maxRecDepth 1000000 in
set_option maxHeartbeats 1000000 in
theorem l03At_any (ao : Option Addr) (l : List FileD) (cap : Nat) (name : ByteArray) (hl : l.length ≤ 1048576) (w : World) (ha : FilesAt w ao l) :
    Calls Tryz.prog 22 #[.agg #[.slice ao l.length cap], .string name] w fun e w' => ((∃ k : Nat, FirstAt l name k ∧ e = .returned (.int .i64 k)) ∨ (NoneAt l name ∧ e = .returned (.int .i64 (-1)))) ∧ Below w.heap.size w w' := by
  have HA := hid ha
  have HB := hid (below_more (Below.refl w.heap.size w) (.cells #[.slice ao l.length cap] 36))
  have HX := (show Hid (BlockIs (w.alloc (.cells #[.slice ao l.length cap] 36)) w.heap.size 36 [.slice ao l.length cap]) from heap_alloc_new w _)
  have c0 := HX.out.cell (j := 0) rfl
  clear ha
  obtain ⟨W, hW⟩ : ∃ W, w.alloc (.cells #[.slice ao l.length cap] 36) = W := ⟨_, rfl⟩
  rw [hW] at HB HX c0
  go_enter Tryz.func22, Tryz.ntmps22
  go_wp2
  clear hW
  go_loopg [5] l.length (fun q i wr => wr = W ∧ ∃ (k : Nat), k + q = l.length ∧ i = .int .i64 k ∧ Hid (∀ j (hj : j < l.length), j < k → l[j].name ≠ name))
  case atStart => exact ⟨rfl, 0, by omega, rfl, fun j hj h => by omega⟩
  case round =>
    obtain ⟨rfl, k, hkg, rfl, HN⟩ := hrel
    cases gk with
    | zero =>
      have hlt : ¬ (k : Int) < (l.length : Int) := by omega
      go_wp2
      go_ret
      exact ⟨Or.inr ⟨fun j hj => HN.out j hj (by omega), rfl⟩, HB.out⟩
    | succ q =>
      have hlt : k < l.length := by omega
      have hlt' : (k : Int) < (l.length : Int) := by omega
      have hne : l ≠ [] := by intro e; rw [e] at hlt; simp at hlt
      obtain ⟨b, off, rfl, hc⟩ := HA.out.on HB.out hne
      obtain ⟨x0, x1, x2⟩ := hc k hlt
      clear hc x1 x2
      by_cases he : l[k].name = name
      · have he' : (l[k].name.toList == name.toList) = true := by rw [he]; simp
        have HE := hid he
        clear he
        go_wp2
        go_ret
        exact ⟨Or.inl ⟨k, ⟨hlt, HE.out, fun j hj => HN.out j (by omega) hj⟩, rfl⟩, HB.out⟩
      · have he' : (l[k].name.toList == name.toList) = false := beq_eq_false_iff_ne.2 fun h => he (text_eq h)
        have HE := hid he
        clear he
        go_wp2
        go_roundg q
        case measure => omega
        case rel =>
          refine ⟨rfl, k + 1, by omega, by go_num, fun j hj h => ?_⟩
          rcases Nat.lt_or_ge j k with q | q
          · exact HN.out j hj q
          · obtain rfl : j = k := by omega
            exact HE.out
end Go.Proofs.YtbifkpkhpaellaaGreatDoor

namespace Go.Proofs.YtbifkpkhpaellaaGreatDoor
open Go.RowKit Go.Sort

set_option maxRecDepth 1000000 in
theorem eqAct_same (a : ActD) (w : World) :
    Calls Tryz.prog 28 #[a.value, a.value] w fun e w' => e = .returned (.bool true) ∧ Below w.heap.size w w' := by
  have hb : Hid (∀ (o p : Obj), Below w.heap.size w ((w.alloc o).alloc p)) := fun o p => below_more (below_more (Below.refl _ w) _) _
  unfold ActD.value
  go_enter Tryz.func28, Tryz.ntmps28
  go_wp2
  go_ret
  exact ⟨rfl, hb.out _ _⟩

set_option maxRecDepth 1000000 in
set_option maxHeartbeats 1000000 in
theorem eqActS_same (ao bo : Option Addr) (acts : List ActD) (cap cap' : Nat) (hl : acts.length ≤ 140737488355328) (w : World) (ha : ActsAt w ao acts) (hb : ActsAt w bo acts) :
    Calls Tryz.prog 9 #[.slice ao acts.length cap, .slice bo acts.length cap'] w fun e w' => e = .returned (.bool true) ∧ Below w.heap.size w w' := by
  have HA := hid ha
  have HB := hid hb
  clear ha hb
  go_enter Tryz.func9, Tryz.ntmps9
  go_wp2
  go_loopg [5] acts.length (fun g i wr => ∃ (k : Nat), k + g = acts.length ∧ i = .int .i64 k ∧ Hid (Below w.heap.size w wr))
  case atStart => exact ⟨0, by omega, rfl, (show Below _ _ _ from Below.refl _ _)⟩
  case round =>
    obtain ⟨k, hkg, rfl, BR⟩ := hrel
    cases gk with
    | zero =>
      have hlt : ¬ (k : Int) < (acts.length : Int) := by omega
      go_wp2
      go_ret
      exact ⟨rfl, BR.out⟩
    | succ g =>
      have hlt : k < acts.length := by omega
      have hlt' : (k : Int) < (acts.length : Int) := by omega
      have hne : acts ≠ [] := by intro e; rw [e] at hlt; simp at hlt
      obtain ⟨b, off, rfl, hc⟩ := HA.out.on BR.out hne
      obtain ⟨x0, x1, x2, x3⟩ := hc k hlt
      obtain ⟨b', off', rfl, hc'⟩ := HB.out.on BR.out hne
      obtain ⟨y0, y1, y2, y3⟩ := hc' k hlt
      have X0 := cell_regrown x0
      have X1 := cell_regrown x1
      have X2 := cell_regrown x2
      have X3 := cell_regrown x3
      have Y0 := cell_regrown y0
      have Y1 := cell_regrown y1
      have Y2 := cell_regrown y2
      have Y3 := cell_regrown y3
      clear hc hc' x0 x1 x2 x3 y0 y1 y2 y3
      have C' := fun d os => Calls.regrown_of (w := wr) (d := d) (os := os) (eqAct_same acts[k] _)
      unfold ActD.value at C'
      have C := hid C'
      clear C'
      go_wp2
      refine wp_region_quiet_below (by kernel_rfl) (by kernel_rfl) ?_
      repeat (first | go_big_quiet_step (first | (go_at_call 28; exact C.out _ _) | fail) | quiet_step (first | (go_at_call 28; exact C.out _ _) | fail))
      refine wpQuiet_nil ?_
      intro _ hw'
      obtain ⟨⟨dq, osq⟩, hw''⟩ := hw'
      subst hw''
      have BQ : Hid (Below w.heap.size w (grow (redrawn wr dq) osq)) := BR.out.trans ((below_regrown wr dq osq).mono BR.out.size)
      generalize grow (redrawn wr dq) osq = wq at BQ ⊢
      clear X0 X1 X2 X3 Y0 Y1 Y2 Y3 C
      go_wp2
      go_roundg g
      case measure => omega
      case rel => exact ⟨k + 1, by omega, by go_num, BQ⟩
end Go.Proofs.YtbifkpkhpaellaaGreatDoor
