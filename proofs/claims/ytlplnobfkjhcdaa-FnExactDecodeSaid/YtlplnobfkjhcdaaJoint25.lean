/-
  The walk of strings.HasPrefix with the one byte that an entry begins with: what it answers.
-/
import Derived.Test.YtlplnobfkjhcdaaRows
import Derived.Test.YtlplnobfkjhcdaaJoint1
import Derived.WalkSmall
import Derived.WalkKit
namespace Go.Proofs.Ytlplnobfkjhcdaa
open Go.RowKit

/-- a text begins as an entry does -/
def headE (s : ByteArray) : Bool := match s.data.toList with
  | [] => false
  | h :: _ => decide (h = 69)
theorem headE_empty {s : ByteArray} (h : s.size = 0) : headE s = false := by
  have : s.data.toList = [] := List.eq_nil_of_length_eq_zero (by simpa using h)
  rw [headE, this]
theorem headE_at {s : ByteArray} (h : 0 < s.size) : headE s = decide (s[0] = 69) := by
  rw [headE, list_head s h]
theorem headE_list {s : ByteArray} (h : 0 < s.size) : ((s.extract 0 1).toList == [69]) = headE s := by
  rw [ByteArray.toList_eq, extract_eq, headE_at h, List.drop_zero, list_head s h]
  by_cases q : s[0] = 69
  · simp [q]
  · simp [q]
theorem slice_one {P : Program} {t : TypeId} (h : P.underlying t = some .string) (s : ByteArray) (ha : 1 ≤ s.size) (w : World) :
    (Instr.slice t (.string s) none (some (.int .i64 1)) none).run P w = .ok (.string (s.extract 0 1)) w := by
  rw [run_slice_string_h w t s h .i64 1 (by omega) (by omega)]
  rfl

set_option maxRecDepth 1000000 in
theorem litePrefix_any (s : ByteArray) (w : World) :
    Calls Try.prog 61 #[.string s, .string ⟨#[69]⟩] w fun e w' => e = .returned (.bool (headE s)) ∧ w' = w := by
  by_cases h0 : 1 ≤ s.size
  · have h1 : 1 ≤ (s.size : Int) := by omega
    have hs := slice_one (P := Try.prog) Try.underlying9 s h0
    have hh := headE_list (s := s) (by omega)
    obtain ⟨T, hT⟩ : ∃ T, s.extract 0 1 = T := ⟨_, rfl⟩
    rw [hT] at hs hh
    clear hT
    go_enter Try.func61, Try.ntmps61
    go_wp2
    go_ret
    refine ⟨?_, rfl⟩
    first | rw [← hh]; rfl | simp [← hh]
  · have h1 : ¬ 1 ≤ (s.size : Int) := by omega
    have hr := headE_empty (s := s) (by omega)
    go_enter Try.func61, Try.ntmps61
    go_wp2
    go_ret
    exact ⟨by first | rfl | (rw [hr]; rfl), rfl⟩

theorem prefix_any (s : ByteArray) (w : World) :
    Calls Try.prog 54 #[.string s, .string ⟨#[69]⟩] w fun e w' => e = .returned (.bool (headE s)) ∧ w' = w := by
  go_enter Try.func54, Try.ntmps54
  go_wp2_with (go_at_call 61; refine (litePrefix_any s _).mono ?_; rintro e w' ⟨rfl, hw⟩; rw [hw]; clear hw w')
  go_ret
  exact ⟨rfl, rfl⟩
end Go.Proofs.Ytlplnobfkjhcdaa
