/-
  The walks of laws.szStringS, szIntS: letters and numbers are counted.
-/
import Derived.Test.YtpknpodmoeaggabVals
import Derived.Deep.LoopGhost
import Derived.WalkSmall
import Derived.WalkKit
namespace Go.Proofs.Ytpknpodmoeaggab
open Go.RowKit

def tBulk : List ByteArray → Int
  | [] => 0
  | t :: l => (t.size : Int) + tBulk l
theorem tBulk_nonneg (l : List ByteArray) : 0 ≤ tBulk l := by
  induction l with
  | nil => exact Int.le_refl 0
  | cons f l ih => simp only [tBulk]; omega
theorem tBulk_take (l : List ByteArray) (k : Nat) (h : k < l.length) : tBulk (l.take (k + 1)) = tBulk (l.take k) + (l[k].size : Int) := by
  induction l generalizing k with
  | nil => simp at h
  | cons f l ih =>
    cases k with
    | zero => simp [tBulk]
    | succ k =>
      have := ih k (by simpa using h)
      simp only [List.take_succ_cons, tBulk, List.getElem_cons_succ] at this ⊢
      omega
theorem tBulk_le (l : List ByteArray) (k : Nat) : tBulk (l.take k) ≤ tBulk l := by
  induction l generalizing k with
  | nil => simp [tBulk]
  | cons f l ih =>
    cases k with
    | zero => have := tBulk_nonneg (f :: l); simpa [tBulk] using this
    | succ k => have := ih k; simp only [List.take_succ_cons, tBulk]; omega
theorem text_le_bulk {l : List ByteArray} {f : ByteArray} (h : f ∈ l) : (f.size : Int) ≤ tBulk l := by
  induction l with
  | nil => cases h
  | cons g l ih =>
    simp only [tBulk]
    have := tBulk_nonneg l
    rcases List.mem_cons.1 h with e | e
    · subst e; omega
    · have := ih e; omega
def TextsFit (ts : List ByteArray) : Prop := ∀ t ∈ ts, t.size ≤ maxLen
set_option maxRecDepth 1000000 in
set_option maxHeartbeats 1000000 in
theorem szStringS_any (ao : Option Addr) (ts : List ByteArray) (cap : Nat) (n : Int) (h0 : 0 ≤ n) (h1 : n ≤ 1048576) (hl : ts.length ≤ 9223372036854775807) (hf : TextsFit ts) (w : World) (ha : ValsAt w ao (st ts)) :
    Calls Try.prog 56 #[.slice ao ts.length cap, .int .i64 n] w fun e w' => ((n - ts.length - tBulk ts < 0 ∧ e = .returned (.int .i64 (-1))) ∨ (0 ≤ n - ts.length - tBulk ts ∧ e = .returned (.int .i64 (n - ts.length - tBulk ts)))) ∧ w' = w := by
  have HA := hid ha
  have HF := hid hf
  have HN := tBulk_nonneg ts
  clear ha hf
  by_cases hn : n - (ts.length : Int) < 0
  · go_enter Try.func56, Try.ntmps56
    go_wp2
    go_ret
    exact ⟨Or.inl ⟨by omega, rfl⟩, rfl⟩
  · go_enter Try.func56, Try.ntmps56
    go_wp2
    go_loopg [1, 5] ts.length (fun g y i wr => ∃ (k : Nat), wr = w ∧ k + g = ts.length ∧ i = .int .i64 k ∧ y = .int .i64 (n - ts.length - tBulk (ts.take k)) ∧ 0 ≤ n - ts.length - tBulk (ts.take k))
    case atStart => exact ⟨0, rfl, by omega, rfl, by simp [tBulk], by simp [tBulk]; omega⟩
    case round =>
      obtain ⟨k, hwr, hkg, rfl, rfl, hpos⟩ := hrel
      rw [hwr]
      clear hwr wr
      cases gk with
      | zero =>
        have hlt : ¬ (k : Int) < (ts.length : Int) := by omega
        rw [List.take_of_length_le (by omega)] at hpos ⊢
        go_wp2
        go_ret
        exact ⟨Or.inr ⟨by omega, rfl⟩, rfl⟩
      | succ g =>
        have hlt : k < ts.length := by omega
        have hlt' : (k : Int) < (ts.length : Int) := by omega
        obtain ⟨b, off, rfl, hc⟩ := HA.out (by intro e; rw [← List.length_eq_zero_iff, st_length] at e; omega)
        have x0 := hc k (by rw [st_length]; omega)
        have hgt : (st ts)[k]'(by rw [st_length]; omega) = .string ts[k] := by simp [st]
        rw [hgt] at x0
        have hsz := HF.out ts[k] (List.getElem_mem hlt)
        unfold maxLen at hsz
        have hstep := tBulk_take ts k hlt
        have hmore := tBulk_le ts (k + 1)
        have hpre := tBulk_nonneg (ts.take k)
        obtain ⟨S, hS⟩ : ∃ S, ts[k] = S := ⟨_, rfl⟩
        rw [hS] at x0 hsz hstep
        obtain ⟨y, hy⟩ : ∃ y, n - (ts.length : Int) - tBulk (ts.take k) = y := ⟨_, rfl⟩
        have hy2 : y ≤ 1048576 := by omega
        have HS2 : Hid (n - (ts.length : Int) - tBulk (ts.take (k + 1)) = y - (S.size : Int)) := (show _ = _ by omega)
        have HS3 : Hid (tBulk (ts.take (k + 1)) ≤ tBulk ts) := hmore
        rw [hy] at hpos ⊢
        clear hc hgt hstep hmore hpre hy hS
        by_cases hneg : y - (S.size : Int) < 0
        · go_wp2
          go_ret
          exact ⟨Or.inl ⟨by have := HS2.out; have := HS3.out; omega, rfl⟩, rfl⟩
        · go_wp2
          go_roundg g
          case measure => omega
          case rel => exact ⟨k + 1, rfl, by omega, by go_num, by rw [HS2.out], by rw [HS2.out]; omega⟩
set_option maxRecDepth 1000000 in
theorem szIntS_any (ao : Option Addr) (m cap : Nat) (n : Int) (h0 : 0 ≤ n) (h1 : n ≤ 1048576) (hl : m ≤ 9223372036854775807) (w : World) :
    Calls Try.prog 57 #[.slice ao m cap, .int .i64 n] w fun e w' => ((n - m < 0 ∧ e = .returned (.int .i64 (-1))) ∨ (0 ≤ n - m ∧ e = .returned (.int .i64 (n - m)))) ∧ w' = w := by
  by_cases hn : n - (m : Int) < 0
  · go_enter Try.func57, Try.ntmps57
    go_wp2
    go_ret
    exact ⟨Or.inl ⟨hn, rfl⟩, rfl⟩
  · go_enter Try.func57, Try.ntmps57
    go_wp2
    go_ret
    exact ⟨Or.inr ⟨by omega, rfl⟩, rfl⟩
end Go.Proofs.Ytpknpodmoeaggab
