/-
  The walks of strings.HasPrefix with one byte, and of impl.readPair: a letter and two numbers, read.
-/
import Derived.Test.YthiifhfcognedaaDoorJoint1
import Derived.Test.YthiifhfcognedaaDoorJoint14
import Derived.WalkSmall
namespace Go.Proofs.YthiifhfcognedaaDoor
open Go.RowKit

/-- a text begins with this byte -/
def headIs (c : UInt8) (s : ByteArray) : Bool := match s.data.toList with
  | [] => false
  | h :: _ => decide (h = c)
theorem headIs_empty {c : UInt8} {s : ByteArray} (h : s.size = 0) : headIs c s = false := by
  have : s.data.toList = [] := List.eq_nil_of_length_eq_zero (by simpa using h)
  rw [headIs, this]
theorem headIs_at {c : UInt8} {s : ByteArray} (h : 0 < s.size) : headIs c s = decide (s[0] = c) := by
  rw [headIs, list_head s h]
theorem headIs_list {c : UInt8} {s : ByteArray} (h : 0 < s.size) : ((s.extract 0 1).toList == [c]) = headIs c s := by
  rw [ByteArray.toList_eq, extract_eq, headIs_at h, List.drop_zero, list_head s h]
  by_cases q : s[0] = c
  · simp [q]
  · simp [q]
theorem first_slice {P : Program} {t : TypeId} (h : P.underlying t = some .string) (s : ByteArray) (ha : 1 ≤ s.size) (w : World) :
    (Instr.slice t (.string s) none (some (.int .i64 1)) none).run P w = .ok (.string (s.extract 0 1)) w := by
  rw [run_slice_string_h w t s h .i64 1 (by omega) (by omega)]
  rfl

set_option maxRecDepth 1000000 in
theorem lightPrefix_any (c : UInt8) (s : ByteArray) (w : World) :
    Calls Tryd.prog 100 #[.string s, .string ⟨#[c]⟩] w fun e w' => e = .returned (.bool (headIs c s)) ∧ w' = w := by
  by_cases h0 : 1 ≤ s.size
  · have h1 : 1 ≤ (s.size : Int) := by omega
    have hs := first_slice (P := Tryd.prog) Tryd.underlying9 s h0
    have hh := headIs_list (c := c) (s := s) (by omega)
    obtain ⟨T, hT⟩ : ∃ T, s.extract 0 1 = T := ⟨_, rfl⟩
    rw [hT] at hs hh
    clear hT
    go_enter Tryd.func100, Tryd.ntmps100
    go_wp2
    go_ret
    refine ⟨?_, rfl⟩
    first | rw [← hh]; rfl | simp [← hh]
  · have h1 : ¬ 1 ≤ (s.size : Int) := by omega
    have hr := headIs_empty (c := c) (s := s) (by omega)
    go_enter Tryd.func100, Tryd.ntmps100
    go_wp2
    go_ret
    exact ⟨by first | rfl | (rw [hr]; rfl), rfl⟩
theorem hasPrefix_any (c : UInt8) (s : ByteArray) (w : World) :
    Calls Tryd.prog 88 #[.string s, .string ⟨#[c]⟩] w fun e w' => e = .returned (.bool (headIs c s)) ∧ w' = w := by
  go_enter Tryd.func88, Tryd.ntmps88
  go_wp2_with (go_at_call 100; refine (lightPrefix_any c s _).mono ?_; rintro e w' ⟨rfl, hw⟩; rw [hw]; clear hw w')
  go_ret
  exact ⟨rfl, rfl⟩
/-- what readPair answers: two numbers, which count where the flag is true -/
def PairGot (c : UInt8) (s : ByteArray) (e : Ending) : Prop := ∃ x y : Nat, e = .returned (.tuple #[.int .i64 x, .int .i64 y, .bool (readTwo c s).isSome]) ∧ x ≤ 1000000000 ∧ y ≤ 1000000000 ∧ ∀ a b, readTwo c s = some (a, b) → x = a ∧ y = b

set_option maxRecDepth 1000000 in
set_option maxHeartbeats 1000000 in
theorem readPair_any (c : UInt8) (s : ByteArray) (hs : s.size ≤ 1048576) (w : World) :
    Calls Tryd.prog 67 #[.string ⟨#[c]⟩, .string s] w fun e w' => PairGot c s e ∧ w' = w := by
  have CP := hid (hasPrefix_any c s)
  have hc1 : (⟨#[c]⟩ : ByteArray).size = 1 := rfl
  obtain ⟨Lt, hLt⟩ : ∃ L : ByteArray, ⟨#[c]⟩ = L := ⟨_, rfl⟩
  rw [hLt] at CP hc1 ⊢
  clear hLt
  cases hh : headIs c s with
  | false =>
    have HR : Hid (readTwo c s = none) := (show _ = _ by
      rcases Nat.eq_zero_or_pos s.size with h0 | h0
      · exact readTwo_empty h0
      · rw [headIs_at h0] at hh
        exact readTwo_head h0 (by simpa using hh))
    go_enter Tryd.func67, Tryd.ntmps67
    go_wp2_with fail
    refine (CP.out _).mono ?_
    rintro e w1 ⟨rfl, hw⟩
    rw [hw, hh]
    clear hw w1 hh CP
    go_wp2
    go_ret3
    exact ⟨⟨0, 0, by rw [HR.out]; rfl, by omega, by omega, fun a b e => by rw [HR.out] at e; cases e⟩, rfl⟩
  | true =>
    have h0 : 0 < s.size := by
      rcases Nat.eq_zero_or_pos s.size with q | q
      · rw [headIs_empty q] at hh; cases hh
      · exact q
    have he : s[0] = c := by rw [headIs_at h0] at hh; simpa using hh
    have C1 := hid (implReadVar_in s 1 (by omega) (by omega))
    go_enter Tryd.func67, Tryd.ntmps67
    go_wp2_with fail
    refine (CP.out _).mono ?_
    rintro e w1 ⟨rfl, hw⟩
    rw [hw, hh]
    clear hw w1 hh CP
    go_wp2_with fail
    refine (C1.out _).mono ?_
    rintro e w1 ⟨rfl, hw⟩
    rw [hw]
    clear hw w1 C1
    cases h1 : rv (s.data.toList.drop 1) with
    | none =>
      have HR := hid (readTwo_one (c := c) h1)
      rw [show rvAns 1 none = .tuple #[.int .i64 0, .int .i64 0, .bool false] from rfl]
      clear h1
      go_wp2
      go_ret3
      exact ⟨⟨0, 0, by rw [HR.out]; rfl, by omega, by omega, fun a b e => by rw [HR.out] at e; cases e⟩, rfl⟩
    | some p =>
      obtain ⟨a, m⟩ := p
      have hb1 := rv_bd h1
      have hm : 1 + m ≤ s.size := by
        have h9 := hb1.2.2
        rw [List.length_drop] at h9
        have : s.data.toList.length = s.size := by simp
        have := hb1.2.1
        omega
      have C2 := hid (implReadVar_in s (1 + m) hm (by omega))
      rw [show rvAns 1 (some (a, m)) = .tuple #[.int .i64 a, .int .i64 ((1 + m : Nat) : Int), .bool true] from rfl]
      go_wp2_with fail
      refine (C2.out _).mono ?_
      rintro e w1 ⟨rfl, hw⟩
      rw [hw]
      clear hw w1 C2
      cases h2 : rv (s.data.toList.drop (1 + m)) with
      | none =>
        have HR := hid (readTwo_two (c := c) h1 h2)
        rw [show rvAns (1 + m) none = .tuple #[.int .i64 0, .int .i64 0, .bool false] from rfl]
        clear h2
        go_wp2
        go_ret3
        exact ⟨⟨a, 0, by rw [HR.out]; rfl, hb1.1, by omega, fun a b e => by rw [HR.out] at e; cases e⟩, rfl⟩
      | some q =>
        obtain ⟨b, k⟩ := q
        have hb2 := rv_bd h2
        have HR := hid (readTwo_go h0 he h1 h2)
        rw [show rvAns (1 + m) (some (b, k)) = .tuple #[.int .i64 b, .int .i64 ((1 + m + k : Nat) : Int), .bool true] from rfl]
        obtain ⟨E, hE⟩ : ∃ E, 1 + m + k = E := ⟨_, rfl⟩
        rw [hE] at HR ⊢
        clear h2 hE
        by_cases hq : E = s.size
        · subst hq
          rw [if_pos rfl] at HR
          go_wp2
          go_ret3
          exact ⟨⟨a, b, by rw [HR.out]; simp, hb1.1, hb2.1, fun x y e => by rw [HR.out] at e; cases e; exact ⟨rfl, rfl⟩⟩, rfl⟩
        · rw [if_neg hq] at HR
          have hq' : ¬ (E : Int) = (s.size : Int) := by omega
          go_wp2
          go_ret3
          exact ⟨⟨a, b, by rw [HR.out]; simp; omega, hb1.1, hb2.1, fun x y e => by rw [HR.out] at e; cases e⟩, rfl⟩
end Go.Proofs.YthiifhfcognedaaDoor
