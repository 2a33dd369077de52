/-
  The walks of the two readers of a short text: what they answer.
-/
import Derived.Test.YtmfimbpeihlodaiReadS
import Derived.Test.YtmfimbpeihlodaiReadI
import Derived.Test.YtmfimbpeihlodaiClone
namespace Go.Proofs.Ytmfimbpeihlodai
open Go.RowKit

/-- where a short text that is read at a begins and ends -/
def rs (s : ByteArray) (a : Int) : Option (Nat × Nat) :=
  if 0 ≤ a ∧ a ≤ s.size then
    (match rv (s.data.toList.drop a.toNat) with
    | none => none
    | some (n, c) => if n ≤ 20000 ∧ a.toNat + c + n ≤ s.size then some (a.toNat + c, a.toNat + c + n) else none)
  else none

def rsAns (s : ByteArray) : Option (Nat × Nat) → Value
  | none => .tuple #[.string ByteArray.empty, .int .i64 0, .bool false]
  | some (b, e) => .tuple #[.string (s.extract b e), .int .i64 e, .bool true]

theorem rs_out {s : ByteArray} {a : Int} (h : a < 0 ∨ (s.size : Int) < a) : rs s a = none := by
  unfold rs; rw [if_neg (by omega)]
theorem rs_none {s : ByteArray} {a : Nat} (ha : a ≤ s.size) (h : rv (s.data.toList.drop a) = none) : rs s a = none := by
  unfold rs; rw [if_pos (by omega)]; simp [h]
theorem rs_big {s : ByteArray} {a n c : Nat} (ha : a ≤ s.size) (h : rv (s.data.toList.drop a) = some (n, c)) (hb : ¬ (n ≤ 20000 ∧ a + c + n ≤ s.size)) : rs s a = none := by
  unfold rs; rw [if_pos (by omega)]; simp only [Int.toNat_natCast, h]; rw [if_neg hb]
theorem rs_yes {s : ByteArray} {a n c : Nat} (ha : a ≤ s.size) (h : rv (s.data.toList.drop a) = some (n, c)) (hb : n ≤ 20000 ∧ a + c + n ≤ s.size) : rs s a = some (a + c, a + c + n) := by
  unfold rs; rw [if_pos (by omega)]; simp only [Int.toNat_natCast, h]; rw [if_pos hb]
theorem rv_fits {s : ByteArray} {a n c : Nat} (ha : a ≤ s.size) (h : rv (s.data.toList.drop a) = some (n, c)) : n ≤ 1000000000 ∧ 0 < c ∧ a + c ≤ s.size := by
  have h1 := rvFrom_some h
  have h2 : s.data.toList.length = s.size := by simp
  simp only [List.length_drop, List.length_nil, h2] at h1
  omega

set_option maxRecDepth 1000000 in
theorem specReadShort_any (s : ByteArray) (a : Int) (hs : s.size ≤ 140737488355328) (w : World) :
    Calls Try.prog 13 #[.string s, .int .i64 a] w fun e w' => e = .returned (rsAns s (rs s a)) ∧ Below w.heap.size w w' := by
  by_cases h : 0 ≤ a ∧ a ≤ s.size
  · obtain ⟨n, rfl⟩ : ∃ n : Nat, a = n := ⟨a.toNat, by omega⟩
    have hn : n ≤ s.size := by omega
    clear h
    have c1 := specReadVar_in s n hn hs
    rcases hr : rv (s.data.toList.drop n) with _ | ⟨x, c⟩
    · rw [hr] at c1
      rw [rs_none hn hr]
      have C1 := (show Hid _ from c1)
      clear hr c1
      go_enter Try.func13, Try.ntmps13
      go_wp2_with fail
      refine (C1.out _).mono ?_
      rintro e w1 ⟨rfl, hb1⟩
      simp only [rvAns]
      go_wp2
      go_ret3
      exact ⟨rfl, hb1⟩
    · have hf := rv_fits hn hr
      obtain ⟨f1, f2, f3⟩ := hf
      rw [hr] at c1
      by_cases hb : x ≤ 20000 ∧ n + c + x ≤ s.size
      · rw [rs_yes hn hr hb]
        obtain ⟨g1, g2⟩ := hb
        have C1 := (show Hid _ from c1)
        clear hr c1
        have hsl := slice_nat (P := Try.prog) Try.underlying9 s (n + c) (n + c + x) ((n : Int) + c) ((n : Int) + c + x) (by omega) (by omega) (by omega) (by omega)
        go_enter Try.func13, Try.ntmps13
        go_wp2_with fail
        refine (C1.out _).mono ?_
        rintro e w1 ⟨rfl, hb1⟩
        simp only [rvAns]
        go_wp2
        go_ret3
        exact ⟨by simp [rsAns], hb1⟩
      · rw [rs_big hn hr hb]
        have C1 := (show Hid _ from c1)
        clear hr c1
        by_cases g1 : 20000 < x
        · clear hb
          go_enter Try.func13, Try.ntmps13
          go_wp2_with fail
          refine (C1.out _).mono ?_
          rintro e w1 ⟨rfl, hb1⟩
          simp only [rvAns]
          go_wp2
          go_ret3
          exact ⟨rfl, hb1⟩
        · have g2 : (s.size : Int) - ((n : Int) + c) < x := by omega
          clear hb
          go_enter Try.func13, Try.ntmps13
          go_wp2_with fail
          refine (C1.out _).mono ?_
          rintro e w1 ⟨rfl, hb1⟩
          simp only [rvAns]
          go_wp2
          go_ret3
          exact ⟨rfl, hb1⟩
  · have h' : a < 0 ∨ (s.size : Int) < a := by omega
    rw [rs_out h']
    have C1 := (show Hid _ from specReadVar_out s a h')
    clear h h'
    go_enter Try.func13, Try.ntmps13
    go_wp2_with fail
    refine (C1.out _).mono ?_
    rintro e w1 ⟨rfl, hb1⟩
    go_wp2
    go_ret3
    exact ⟨rfl, hb1⟩

set_option maxRecDepth 1000000 in
theorem implReadShort_any (s : ByteArray) (a : Int) (hs : s.size ≤ 140737488355328) (w : World) :
    Calls Try.prog 14 #[.string s, .int .i64 a] w fun e w' => e = .returned (rsAns s (rs s a)) ∧ Below w.heap.size w w' := by
  by_cases h : 0 ≤ a ∧ a ≤ s.size
  · obtain ⟨n, rfl⟩ : ∃ n : Nat, a = n := ⟨a.toNat, by omega⟩
    have hn : n ≤ s.size := by omega
    clear h
    have c1 := implReadVar_in s n hn hs
    rcases hr : rv (s.data.toList.drop n) with _ | ⟨x, c⟩
    · rw [hr] at c1
      rw [rs_none hn hr]
      have C1 := (show Hid _ from c1)
      clear hr c1
      go_enter Try.func14, Try.ntmps14
      go_wp2_with fail
      refine (C1.out _).mono ?_
      rintro e w1 ⟨rfl, rfl⟩
      simp only [rvAns]
      go_wp2
      go_ret3
      exact ⟨rfl, Below.refl _ _⟩
    · have hf := rv_fits hn hr
      obtain ⟨f1, f2, f3⟩ := hf
      rw [hr] at c1
      by_cases hb : x ≤ 20000 ∧ n + c + x ≤ s.size
      · rw [rs_yes hn hr hb]
        obtain ⟨g1, g2⟩ := hb
        have C1 := (show Hid _ from c1)
        clear hr c1
        have hsl := slice_nat (P := Try.prog) Try.underlying9 s (n + c) (n + c + x) ((n : Int) + c) ((n : Int) + c + x) (by omega) (by omega) (by omega) (by omega)
        have hle : (s.extract (n + c) (n + c + x)).size ≤ 140737488355328 := by rw [ByteArray.size_extract]; omega
        go_enter Try.func14, Try.ntmps14
        go_wp2_with fail
        refine (C1.out _).mono ?_
        rintro e w1 ⟨rfl, rfl⟩
        simp only [rvAns]
        go_wp2_with fail
        refine (clone_any _ hle _).mono ?_
        rintro e w2 ⟨rfl, hb2⟩
        go_wp2
        go_ret3
        exact ⟨by simp [rsAns], hb2⟩
      · rw [rs_big hn hr hb]
        have C1 := (show Hid _ from c1)
        clear hr c1
        by_cases g1 : 20000 < x
        · clear hb
          go_enter Try.func14, Try.ntmps14
          go_wp2_with fail
          refine (C1.out _).mono ?_
          rintro e w1 ⟨rfl, rfl⟩
          simp only [rvAns]
          go_wp2
          go_ret3
          exact ⟨rfl, Below.refl _ _⟩
        · have g2 : (s.size : Int) - ((n : Int) + c) < x := by omega
          clear hb
          go_enter Try.func14, Try.ntmps14
          go_wp2_with fail
          refine (C1.out _).mono ?_
          rintro e w1 ⟨rfl, rfl⟩
          simp only [rvAns]
          go_wp2
          go_ret3
          exact ⟨rfl, Below.refl _ _⟩
  · have h' : a < 0 ∨ (s.size : Int) < a := by omega
    rw [rs_out h']
    have C1 := (show Hid _ from implReadVar_out s a h')
    clear h h'
    go_enter Try.func14, Try.ntmps14
    go_wp2_with fail
    refine (C1.out _).mono ?_
    rintro e w1 ⟨rfl, rfl⟩
    go_wp2
    go_ret3
    exact ⟨rfl, Below.refl _ _⟩
end Go.Proofs.Ytmfimbpeihlodai
