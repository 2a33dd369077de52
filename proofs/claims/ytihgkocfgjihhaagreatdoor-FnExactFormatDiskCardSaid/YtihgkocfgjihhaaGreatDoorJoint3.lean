/-
  The walk of laws.markText: the text by which a place is marked.
-/
import Derived.Test.YtihgkocfgjihhaaGreatDoorRows
import Derived.Test.YtihgkocfgjihhaaGreatDoorJoint1
import Derived.BigQuiet
import Derived.Lib.QuietBelow
import Derived.WalkSmall
import Derived.WalkKit
namespace Go.Proofs.YtihgkocfgjihhaaGreatDoor
open Go.RowKit Go.Sort

/-- the text by which a place is marked -/
def mtx (m : Nat) : ByteArray := if m = 0 then ⟨#[109, 48]⟩ else ⟨#[109]⟩ ++ ⟨(dd m).toArray⟩

/-- the last figure of m -/
def mdig (m : Nat) : UInt8 := UInt8.ofNat (48 + m % 10)

theorem mark_one (m : Nat) (w : World) :
    (convert 112 9 (.slice (some ⟨w.heap.size, 0, none⟩) 1 1)).run Tryz.prog (w.alloc (.cells #[.int .u8 (48 + (m : Int) % 10)] 5)) = .ok (.string ⟨#[mdig m]⟩) (w.alloc (.cells #[.int .u8 (48 + (m : Int) % 10)] 5)) := by
  have := run_convert_bytes_back (P := Tryz.prog) (w.alloc (.cells #[.int .u8 (48 + (m : Int) % 10)] 5)) 112 9 5 ⟨w.heap.size, 0, none⟩ 1 [mdig m] Tryz.underlying112 Tryz.underlying5 Tryz.underlying9
    (by
      intro j hj
      have hj0 : j = 0 := by simpa using hj
      subst hj0
      have e : ((mdig m).toNat : Int) = 48 + (m : Int) % 10 := by unfold mdig; rw [UInt8.toNat_ofNat']; omega
      show (w.alloc (.cells #[.int .u8 (48 + (m : Int) % 10)] 5)).cell? ⟨w.heap.size, 0, none⟩ = some (.int .u8 ((mdig m).toNat : Int))
      rw [e]
      simp)
  exact this

theorem mark_step {n m : Nat} {acc : List UInt8} (hm : 0 < m) (h : dd m ++ acc = dd n) : dd (m / 10) ++ (mdig m :: acc) = dd n := by
  rw [← h, dd_pos hm]
  simp [mdig]

theorem ret_i64 {a b : Int} (h : a = b) : Ending.returned (.int .i64 a) = .returned (.int .i64 b) := by rw [h]

theorem cons_text (x : UInt8) (acc : List UInt8) : (⟨#[x]⟩ : ByteArray) ++ ⟨acc.toArray⟩ = ⟨(x :: acc).toArray⟩ := ByteArray.mk_append_mk [x] acc

theorem ret_mark {a b : List UInt8} (h : a = b) : Ending.returned (.string (⟨#[109]⟩ ++ ⟨a.toArray⟩)) = .returned (.string (⟨#[109]⟩ ++ ⟨b.toArray⟩)) := by rw [h]

set_option maxRecDepth 1000000 in
set_option maxHeartbeats 1000000 in
theorem markText_any (n : Nat) (hn : n < 1000000000000000000) (w : World) :
    Calls Tryz.prog 84 #[.int .i64 n] w fun e w' => e = .returned (.string (mtx n)) ∧ Below w.heap.size w w' := by
  by_cases h0 : n = 0
  · subst h0
    have e : mtx 0 = ⟨#[109, 48]⟩ := rfl
    rw [e]
    clear e
    go_enter Tryz.func84, Tryz.ntmps84
    go_wp2
    go_ret
    exact ⟨rfl, Below.refl _ _⟩
  · have g0 : ¬ (n : Int) ≤ 0 := by omega
    have hdl := dd_len 19 n (by omega)
    have hde : mtx n = ⟨#[109]⟩ ++ ⟨(dd n).toArray⟩ := by unfold mtx; rw [if_neg h0]
    rw [hde]
    clear hde
    go_enter Tryz.func84, Tryz.ntmps84
    go_wp2
    go_loopw [0, 3] (fun x t wr => ∃ (m : Nat) (acc : List UInt8), m ≤ n ∧ x = .int .i64 m ∧ t = .string ⟨acc.toArray⟩ ∧ Hid (dd m ++ acc = dd n) ∧ acc.length ≤ 19 ∧ Below w.heap.size w wr) (fun x _ _ => (intOf x).toNat)
    case atStart => exact ⟨n, [], Nat.le_refl _, rfl, rfl, by simp [Hid], by simp, Below.refl _ _⟩
    case round =>
      obtain ⟨m, acc, hm, rfl, rfl, HA, hal, hb⟩ := hrel
      have hsz := hb.size
      by_cases hm0 : 0 < (m : Int)
      · have ht := mark_one m
        have HS := (show Hid _ from mark_step (by omega) HA.out)
        have HL : Hid ((mdig m :: acc).length ≤ 19) := by
          have := congrArg List.length HS.out
          simp only [List.length_append] at this
          show _ ≤ _
          omega
        go_wp2
        go_roundw
        case rel => exact ⟨m / 10, mdig m :: acc, by omega, by go_num, congrArg Value.string (cons_text _ _), HS, HL.out, hb.alloc hb.size _⟩
        case measure => simp [intOf]; omega
      · have HE : Hid (acc = dd n) := by
          have h := HA.out
          have e : m = 0 := by omega
          rw [e, dd_zero] at h
          exact h
        go_wp2
        go_ret
        exact ⟨ret_mark HE.out, hb⟩
end Go.Proofs.YtihgkocfgjihhaaGreatDoor
