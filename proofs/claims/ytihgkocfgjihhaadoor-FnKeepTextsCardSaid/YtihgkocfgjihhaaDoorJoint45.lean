/-
  Rows of a keep's structs, held against each other.
  The walks of slices.Equal at a keep's rows.
-/
import Derived.Test.YtihgkocfgjihhaaDoorJoint1
import Derived.Test.YtihgkocfgjihhaaDoorRows
import Derived.Laws.StructEq
import Derived.Deep.QuietTactic
import Derived.Deep.LoopGhost
import Derived.BigQuiet
namespace Go.Proofs.YtihgkocfgjihhaaDoor
open Go.RowKit

set_option maxRecDepth 100000 in
theorem neq_Session (p0 : Int) (p1 : Int) (p2 : ByteArray) (q0 : Int) (q1 : Int) (q2 : ByteArray) (w : World) : (binOp .neq 55 (.agg #[.int .i64 p0, .int .i64 p1, .string p2]) (.agg #[.int .i64 q0, .int .i64 q1, .string q2])).run Tryd.prog w = .ok (.bool (!sessEq ⟨p0, p1, p2⟩ ⟨q0, q1, q2⟩)) w := by
  rw [run_neq_struct, run_equalIn_agg (w := w) (d := 9999) (t := 55) (ht := by kernel_rfl) (hp := by kernel_rfl)]
  simp only [Program.fieldsOf, Tryd.underlying55]
  simp [go_sem, sessEq]
  by_cases e0 : p0 = q0
  rotate_left
  · simp [e0]
  by_cases e1 : p1 = q1
  rotate_left
  · simp [e1]
  by_cases e2 : p2.toList = q2.toList
  rotate_left
  · simp [e2]
  simp [e0, e1, e2]

theorem guard_Session (a b : Operand) (xs ys : Array Value) (w : World) : (eqGuard .neq 55 a b (.agg xs) (.agg ys)).run Tryd.prog w = .ok () w := run_eqGuard_agg w .neq 55 a b xs ys (by kernel_rfl)

set_option maxRecDepth 100000 in
theorem neq_Item (p0 : ByteArray) (p1 : ByteArray) (p2 : Int) (q0 : ByteArray) (q1 : ByteArray) (q2 : Int) (w : World) : (binOp .neq 58 (.agg #[.string p0, .string p1, .int .i64 p2]) (.agg #[.string q0, .string q1, .int .i64 q2])).run Tryd.prog w = .ok (.bool (!itemEq ⟨p0, p1, p2⟩ ⟨q0, q1, q2⟩)) w := by
  rw [run_neq_struct, run_equalIn_agg (w := w) (d := 9999) (t := 58) (ht := by kernel_rfl) (hp := by kernel_rfl)]
  simp only [Program.fieldsOf, Tryd.underlying58]
  simp [go_sem, itemEq]
  by_cases e0 : p0.toList = q0.toList
  rotate_left
  · simp [e0]
  by_cases e1 : p1.toList = q1.toList
  rotate_left
  · simp [e1]
  by_cases e2 : p2 = q2
  rotate_left
  · simp [e2]
  simp [e0, e1, e2]

theorem guard_Item (a b : Operand) (xs ys : Array Value) (w : World) : (eqGuard .neq 58 a b (.agg xs) (.agg ys)).run Tryd.prog w = .ok () w := run_eqGuard_agg w .neq 58 a b xs ys (by kernel_rfl)
end Go.Proofs.YtihgkocfgjihhaaDoor

namespace Go.Proofs.YtihgkocfgjihhaaDoor
open Go.RowKit

set_option maxRecDepth 1000000 in
set_option maxHeartbeats 2000000 in
theorem equal_Session (ao bo : Option Addr) (L M : List SessionD) (c c' : Nat) (_hl : L.length ≤ 1048576) (hm : M.length ≤ 1048576) (w : World) (ha : SessionsAt w ao L) (hb : SessionsAt w bo M) :
    Calls Tryd.prog 29 #[.slice ao L.length c, .slice bo M.length c'] w fun e w' => e = .returned (.bool (alikeBy sessEq L M)) ∧ Below w.heap.size w w' := by
  have HA := hid ha
  have HB := hid hb
  clear ha hb
  by_cases hn : L.length = M.length
  rotate_left
  · have HN := hid (alikeBy_len (eq := sessEq) hn)
    rw [HN.out]
    have hd : ¬ (L.length : Int) = (M.length : Int) := by omega
    have hd2 : ((L.length : Int) == (M.length : Int)) = false := by simp; omega
    clear HA HB
    go_enter Tryd.func29, Tryd.ntmps29
    go_wp2
    go_ret
    exact ⟨rfl, Below.refl _ _⟩
  have HL := hid hn
  obtain ⟨n, hk⟩ : ∃ n, L.length = n := ⟨_, rfl⟩
  have hmn : M.length = n := by omega
  have HK := hid hk
  have HM := hid hmn
  rw [hk, hmn]
  rw [hmn] at hm
  obtain ⟨R, hR⟩ : ∃ R, alikeBy sessEq L M = R := ⟨_, rfl⟩
  have HR := hid hR
  rw [hR]
  clear hR
  clear hk hmn hn _hl
  go_enter Tryd.func29, Tryd.ntmps29
  go_wp2
  go_loopg [5, 13] n (fun g _ i wr => ∃ (k : Nat), k + g = n ∧ i = .int .i64 k ∧ Hid (alikeBy sessEq L M = alikeBy sessEq (L.drop k) (M.drop k)) ∧ Hid (Below w.heap.size w wr))
  case atStart => exact ⟨0, by omega, rfl, (show _ = _ by simp), (show Below _ _ _ from Below.refl _ _)⟩
  case round =>
    obtain ⟨k, hkg, rfl, AL, BR⟩ := hrel
    cases gk with
    | zero =>
      have hr := hid (AL.out.trans (alikeBy_end (by rw [HK.out]; omega) (by rw [HM.out]; omega)))
      have hlt : decide (k < n) = false := by simp; omega
      have hlt0 : ¬ k < n := by omega
      have hR := hid (HR.out.symm.trans hr.out)
      clear hkg
      go_wp2
      go_ret
      exact ⟨by rw [hR.out]; rfl, BR.out⟩
    | succ g =>
      have hlt : decide ((k : Int) < (n : Int)) = true := by simp; omega
      have hlt' : (k : Int) < (n : Int) := by omega
      have h1 : k < L.length := by rw [HK.out]; omega
      have h2 : k < M.length := by rw [HM.out]; omega
      have hneL : L ≠ [] := by intro e; rw [e] at h1; simp at h1
      have hneM : M ≠ [] := by intro e; rw [e] at h2; simp at h2
      obtain ⟨b, off, rfl, hc⟩ := HA.out.on BR.out hneL
      obtain ⟨x0, x1, x2⟩ := hc k h1
      obtain ⟨b', off', rfl, hc'⟩ := HB.out.on BR.out hneM
      obtain ⟨y0, y1, y2⟩ := hc' k h2
      have ST := hid (AL.out.trans (alikeBy_step h1 h2))
      obtain ⟨p, hp⟩ : ∃ p, L[k] = p := ⟨_, rfl⟩
      obtain ⟨q, hq⟩ : ∃ q, M[k] = q := ⟨_, rfl⟩
      rw [hp] at x0 x1 x2 ST
      rw [hq] at y0 y1 y2 ST
      obtain ⟨p0, p1, p2⟩ := p
      obtain ⟨q0, q1, q2⟩ := q
      dsimp only at x0 x1 x2 y0 y1 y2
      clear hc hc' hp hq hneL hneM h1 h2 AL
      have hne := fun w => neq_Session p0 p1 p2 q0 q1 q2 w
      have hgd := fun a b w => guard_Session a b #[.int .i64 p0, .int .i64 p1, .string p2] #[.int .i64 q0, .int .i64 q1, .string q2] w
      obtain ⟨r, hr⟩ : ∃ r, sessEq ⟨p0, p1, p2⟩ ⟨q0, q1, q2⟩ = r := ⟨_, rfl⟩
      rw [hr] at hne ST
      clear hr
      cases r with
      | false =>
        rw [Bool.not_false] at hne
        have hR := hid (HR.out.symm.trans ST.out)
        go_wp2
        go_quiet (fail)
        go_wp2
        go_ret
        exact ⟨by rw [hR.out]; rfl, below_drewN BR.out _⟩
      | true =>
        rw [Bool.not_true] at hne
        have ST2 := hid (ST.out.trans (Bool.true_and _))
        go_wp2
        go_quiet (fail)
        go_wp2
        go_roundg g
        case measure => omega
        case rel => exact ⟨k + 1, by omega, by go_num, ST2.out, below_drewN BR.out _⟩

set_option maxRecDepth 1000000 in
set_option maxHeartbeats 2000000 in
theorem equal_Item (ao bo : Option Addr) (L M : List ItemD) (c c' : Nat) (_hl : L.length ≤ 1048576) (hm : M.length ≤ 1048576) (w : World) (ha : ItemsAt w ao L) (hb : ItemsAt w bo M) :
    Calls Tryd.prog 30 #[.slice ao L.length c, .slice bo M.length c'] w fun e w' => e = .returned (.bool (alikeBy itemEq L M)) ∧ Below w.heap.size w w' := by
  have HA := hid ha
  have HB := hid hb
  clear ha hb
  by_cases hn : L.length = M.length
  rotate_left
  · have HN := hid (alikeBy_len (eq := itemEq) hn)
    rw [HN.out]
    have hd : ¬ (L.length : Int) = (M.length : Int) := by omega
    have hd2 : ((L.length : Int) == (M.length : Int)) = false := by simp; omega
    clear HA HB
    go_enter Tryd.func30, Tryd.ntmps30
    go_wp2
    go_ret
    exact ⟨rfl, Below.refl _ _⟩
  have HL := hid hn
  obtain ⟨n, hk⟩ : ∃ n, L.length = n := ⟨_, rfl⟩
  have hmn : M.length = n := by omega
  have HK := hid hk
  have HM := hid hmn
  rw [hk, hmn]
  rw [hmn] at hm
  obtain ⟨R, hR⟩ : ∃ R, alikeBy itemEq L M = R := ⟨_, rfl⟩
  have HR := hid hR
  rw [hR]
  clear hR
  clear hk hmn hn _hl
  go_enter Tryd.func30, Tryd.ntmps30
  go_wp2
  go_loopg [5, 13] n (fun g _ i wr => ∃ (k : Nat), k + g = n ∧ i = .int .i64 k ∧ Hid (alikeBy itemEq L M = alikeBy itemEq (L.drop k) (M.drop k)) ∧ Hid (Below w.heap.size w wr))
  case atStart => exact ⟨0, by omega, rfl, (show _ = _ by simp), (show Below _ _ _ from Below.refl _ _)⟩
  case round =>
    obtain ⟨k, hkg, rfl, AL, BR⟩ := hrel
    cases gk with
    | zero =>
      have hr := hid (AL.out.trans (alikeBy_end (by rw [HK.out]; omega) (by rw [HM.out]; omega)))
      have hlt : decide (k < n) = false := by simp; omega
      have hlt0 : ¬ k < n := by omega
      have hR := hid (HR.out.symm.trans hr.out)
      clear hkg
      go_wp2
      go_ret
      exact ⟨by rw [hR.out]; rfl, BR.out⟩
    | succ g =>
      have hlt : decide ((k : Int) < (n : Int)) = true := by simp; omega
      have hlt' : (k : Int) < (n : Int) := by omega
      have h1 : k < L.length := by rw [HK.out]; omega
      have h2 : k < M.length := by rw [HM.out]; omega
      have hneL : L ≠ [] := by intro e; rw [e] at h1; simp at h1
      have hneM : M ≠ [] := by intro e; rw [e] at h2; simp at h2
      obtain ⟨b, off, rfl, hc⟩ := HA.out.on BR.out hneL
      obtain ⟨x0, x1, x2⟩ := hc k h1
      obtain ⟨b', off', rfl, hc'⟩ := HB.out.on BR.out hneM
      obtain ⟨y0, y1, y2⟩ := hc' k h2
      have ST := hid (AL.out.trans (alikeBy_step h1 h2))
      obtain ⟨p, hp⟩ : ∃ p, L[k] = p := ⟨_, rfl⟩
      obtain ⟨q, hq⟩ : ∃ q, M[k] = q := ⟨_, rfl⟩
      rw [hp] at x0 x1 x2 ST
      rw [hq] at y0 y1 y2 ST
      obtain ⟨p0, p1, p2⟩ := p
      obtain ⟨q0, q1, q2⟩ := q
      dsimp only at x0 x1 x2 y0 y1 y2
      clear hc hc' hp hq hneL hneM h1 h2 AL
      have hne := fun w => neq_Item p0 p1 p2 q0 q1 q2 w
      have hgd := fun a b w => guard_Item a b #[.string p0, .string p1, .int .i64 p2] #[.string q0, .string q1, .int .i64 q2] w
      obtain ⟨r, hr⟩ : ∃ r, itemEq ⟨p0, p1, p2⟩ ⟨q0, q1, q2⟩ = r := ⟨_, rfl⟩
      rw [hr] at hne ST
      clear hr
      cases r with
      | false =>
        rw [Bool.not_false] at hne
        have hR := hid (HR.out.symm.trans ST.out)
        go_wp2
        go_quiet (fail)
        go_wp2
        go_ret
        exact ⟨by rw [hR.out]; rfl, below_drewN BR.out _⟩
      | true =>
        rw [Bool.not_true] at hne
        have ST2 := hid (ST.out.trans (Bool.true_and _))
        go_wp2
        go_quiet (fail)
        go_wp2
        go_roundg g
        case measure => omega
        case rel => exact ⟨k + 1, by omega, by go_num, ST2.out, below_drewN BR.out _⟩
end Go.Proofs.YtihgkocfgjihhaaDoor
