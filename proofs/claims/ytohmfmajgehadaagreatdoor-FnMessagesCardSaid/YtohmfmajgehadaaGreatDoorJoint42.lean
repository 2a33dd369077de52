/-
  The walk of impl.textReader's method flag.
  The walk of strings.HasPrefix with the one byte that an entry begins with: what it answers.
-/
import Derived.Test.YtohmfmajgehadaaGreatDoorJoint1
import Derived.Test.YtohmfmajgehadaaGreatDoorJoint41
import Derived.Test.YtohmfmajgehadaaGreatDoorJoint40
import Derived.Test.YtohmfmajgehadaaGreatDoorRows
import Derived.WalkSmall
import Derived.WalkKit
namespace Go.Proofs.YtohmfmajgehadaaGreatDoor
open Go.RowKit Go.Sort

def flagDid (o : Option (Bool × Nat)) (s : ByteArray) (b : Nat) (w : World) (e : Ending) (w' : World) : Prop := match o with
  | none => e = .panicked [misreadP] ∧ w.grownBy w' (some b)
  | some (x, k) => e = .returned (.bool x) ∧ RdIs w' b s k ∧ w.grownBy w' (some b)
set_option maxRecDepth 1000000 in
set_option maxHeartbeats 400000 in
theorem flag_at (b : Nat) (s : ByteArray) (k : Nat) (hs : s.size ≤ 1048576) (hk : k ≤ s.size) (w : World) (hr : RdIs w b s k) :
    Calls Tryz.prog 90 #[.pointer (some ⟨b, 0, none⟩)] w fun e w' => flagDid (flagAt s k) s b w e w' := by
  have R0 := hid hr
  clear hr
  go_enter Tryz.func90, Tryz.ntmps90
  go_wp2_with fail
  refine (oneByte_at b s k hs hk _ R0.out).mono ?_
  intro e w1 hd
  cases h0 : byteAt s k with
  | none =>
    rw [h0] at hd
    obtain ⟨rfl, hg⟩ := hd
    have HR : Hid (flagAt s k = none) := (show _ = _ by simp [flagAt, h0])
    clear h0
    go_wp2
    rw [HR.out]
    exact And.intro rfl (And.intro rfl hg)
  | some p =>
    obtain ⟨n, k1⟩ := p
    rw [h0] at hd
    obtain ⟨rfl, hr, hg⟩ := hd
    have R1 := hid hr
    have G1 := hid hg
    clear hr hg R0
    by_cases hn : n ≤ 1
    · have HR : Hid (flagAt s k = some (decide (n = 1), k1)) := (show _ = _ by simp [flagAt, h0, hn])
      have hn1 : (n : Int) ≤ 1 := by omega
      have HE : Hid (decide ((n : Int) = 1) = decide (n = 1)) := (show _ = _ by congr 1; exact propext (by omega))
      clear h0 hn
      go_wp2_with fail
      refine (need_yes (.pointer (some ⟨b, 0, none⟩)) w1).mono ?_
      rintro e w2 ⟨rfl, hw2⟩
      rw [hw2]
      clear hw2
      go_wp2
      have HE2 : Hid (((n : Int) == 1) = decide (n = 1)) := HE.out
      refine bodyPost_ret (v := .bool ((n : Int) == 1)) (by simp [results, Tryz.results90, go_sem]) rfl ?_
      rw [HR.out]
      exact And.intro (by rw [HE2.out]) (And.intro R1.out G1.out)
    · have HR : Hid (flagAt s k = none) := (show _ = _ by simp [flagAt, h0, hn])
      have hn1 : decide ((n : Int) ≤ 1) = false := decide_eq_false (by omega)
      clear h0 hn
      go_wp2_with fail
      refine (need_no (.pointer (some ⟨b, 0, none⟩)) w1).mono ?_
      rintro e w2 ⟨rfl, hw2⟩
      rw [hw2]
      clear hw2
      go_wp2
      rw [HR.out]
      exact And.intro rfl (And.intro rfl G1.out)
end Go.Proofs.YtohmfmajgehadaaGreatDoor

namespace Go.Proofs.YtohmfmajgehadaaGreatDoor
open Go.RowKit

/-- a text begins as an entry does -/
def headE (s : ByteArray) : Bool := match s.data.toList with
  | [] => false
  | h :: _ => decide (h = 69)
theorem headE_empty {s : ByteArray} (h : s.size = 0) : headE s = false := by
  have : s.data.toList = [] := List.eq_nil_of_length_eq_zero (by simpa using h)
  rw [headE, this]
theorem headE_at {s : ByteArray} (h : 0 < s.size) : headE s = decide (s[0] = 69) := by
  rw [headE, list_head s h]
theorem headE_list {s : ByteArray} (h : 0 < s.size) : ((s.extract 0 1).toList == [69]) = headE s := by
  rw [ByteArray.toList_eq, extract_eq, headE_at h, List.drop_zero, list_head s h]
  by_cases q : s[0] = 69
  · simp [q]
  · simp [q]
theorem slice_one {P : Program} {t : TypeId} (h : P.underlying t = some .string) (s : ByteArray) (ha : 1 ≤ s.size) (w : World) :
    (Instr.slice t (.string s) none (some (.int .i64 1)) none).run P w = .ok (.string (s.extract 0 1)) w := by
  rw [run_slice_string_h w t s h .i64 1 (by omega) (by omega)]
  rfl

set_option maxRecDepth 1000000 in
theorem litePrefix_any (s : ByteArray) (w : World) :
    Calls Tryz.prog 165 #[.string s, .string ⟨#[69]⟩] w fun e w' => e = .returned (.bool (headE s)) ∧ w' = w := by
  by_cases h0 : 1 ≤ s.size
  · have h1 : 1 ≤ (s.size : Int) := by omega
    have hs := slice_one (P := Tryz.prog) Tryz.underlying9 s h0
    have hh := headE_list (s := s) (by omega)
    obtain ⟨T, hT⟩ : ∃ T, s.extract 0 1 = T := ⟨_, rfl⟩
    rw [hT] at hs hh
    clear hT
    go_enter Tryz.func165, Tryz.ntmps165
    go_wp2
    go_ret
    refine ⟨?_, rfl⟩
    first | rw [← hh]; rfl | simp [← hh]
  · have h1 : ¬ 1 ≤ (s.size : Int) := by omega
    have hr := headE_empty (s := s) (by omega)
    go_enter Tryz.func165, Tryz.ntmps165
    go_wp2
    go_ret
    exact ⟨by first | rfl | (rw [hr]; rfl), rfl⟩

theorem prefix_any (s : ByteArray) (w : World) :
    Calls Tryz.prog 154 #[.string s, .string ⟨#[69]⟩] w fun e w' => e = .returned (.bool (headE s)) ∧ w' = w := by
  go_enter Tryz.func154, Tryz.ntmps154
  go_wp2_with (go_at_call 165; refine (litePrefix_any s _).mono ?_; rintro e w' ⟨rfl, hw⟩; rw [hw]; clear hw w')
  go_ret
  exact ⟨rfl, rfl⟩
end Go.Proofs.YtohmfmajgehadaaGreatDoor
