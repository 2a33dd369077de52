/-
  The walks of impl.isPlace, isFree, isPosted, (*wheel).next, held.
-/
import Derived.Test.YtbajffpkfjkolaaPlainWheel
import Derived.Test.YtbajffpkfjkolaaRows
import Derived.Deep.QuietTactic
namespace Go.Proofs.Ytbajffpkfjkolaa
open Go.RowKit

set_option maxRecDepth 1000000 in
theorem isPlace_any (x n : Int) (w : World) :
    Calls Try.prog 35 #[.int .i64 x, .int .i64 n] w fun e w' => e = .returned (.bool (decide (0 ≤ x) && decide (x < n))) ∧ w' = w := by
  by_cases h1 : 0 ≤ x
  · by_cases h2 : x < n
    · go_enter Try.func35, Try.ntmps35
      go_wp2
      go_ret
      exact ⟨by simp; omega, rfl⟩
    · go_enter Try.func35, Try.ntmps35
      go_wp2
      go_ret
      exact ⟨by simp; omega, rfl⟩
  · go_enter Try.func35, Try.ntmps35
    go_wp2
    go_ret
    exact ⟨by simp; omega, rfl⟩

set_option maxRecDepth 1000000 in
theorem implIsFree_any (d : SlotD) (w : World) :
    Calls Try.prog 38 #[.agg #[.int .i64 d.own, .string d.text]] w fun e w' => e = .returned (.bool (isFree d)) ∧ Below w.heap.size w w' := by
  have HB := hid (fun o => below_more (Below.refl w.heap.size w) o)
  unfold isFree
  have hsz : d.text.size = 0 ↔ d.text.toList = [] := by
    rw [ByteArray.toList_eq]
    exact ⟨fun h => List.length_eq_zero_iff.1 h, fun h => by show d.text.data.toList.length = 0; rw [h]; rfl⟩
  by_cases h1 : d.own = 0
  · by_cases h2 : d.text.toList = []
    · have hz := hid (hsz.2 h2)
      clear hsz
      go_enter Try.func38, Try.ntmps38
      go_wp2
      go_ret
      exact ⟨by rw [hz.out, h1]; rfl, HB.out _⟩
    · have hz : Hid (¬ d.text.size = 0) := fun h => h2 (hsz.1 h)
      clear hsz
      go_enter Try.func38, Try.ntmps38
      go_wp2
      go_ret
      exact ⟨by rw [show (d.text.size == 0) = false from beq_false_of_ne hz.out, Bool.and_false]; rfl, HB.out _⟩
  · clear hsz
    go_enter Try.func38, Try.ntmps38
    go_wp2
    go_ret
    exact ⟨by rw [show (d.own == 0) = false from beq_false_of_ne h1]; rfl, HB.out _⟩

set_option maxRecDepth 1000000 in
theorem implIsPosted_any (d : SlotD) (hd : (d.text.size : Int) ≤ 1048576) (w : World) :
    Calls Try.prog 37 #[.agg #[.int .i64 d.own, .string d.text]] w fun e w' => e = .returned (.bool (isPosted d)) ∧ Below w.heap.size w w' := by
  have HB := hid (fun o => below_more (Below.refl w.heap.size w) o)
  unfold isPosted
  by_cases h1 : d.own = 1
  · by_cases h2 : (1 : Int) ≤ d.text.size
    · by_cases h3 : (d.text.size : Int) ≤ 100
      · go_enter Try.func37, Try.ntmps37
        go_wp2
        go_ret
        exact ⟨by simp; omega, HB.out _⟩
      · go_enter Try.func37, Try.ntmps37
        go_wp2
        go_ret
        exact ⟨by simp; omega, HB.out _⟩
    · go_enter Try.func37, Try.ntmps37
      go_wp2
      go_ret
      exact ⟨by simp; omega, HB.out _⟩
  · go_enter Try.func37, Try.ntmps37
    go_wp2
    go_ret
    exact ⟨by simp [h1], HB.out _⟩

set_option maxRecDepth 1000000 in
theorem wheelNext_any (b : Nat) (l : List SlotD) (h t p : Nat) (hp : p < 8) (w : World) (hw : WheelIs w b l h t) :
    Calls Try.prog 39 #[.pointer (some ⟨b, 0, none⟩), .int .i64 p] w fun e w' => e = .returned (.int .i64 (((p + 1) % l.length : Nat) : Int)) ∧ w' = w := by
  have c0 := hw.count
  obtain ⟨l1, l2⟩ := hw.2.1
  have hne : ¬ l = [] := by intro e; rw [e] at l1; simp at l1
  obtain ⟨P, hP⟩ : ∃ P, (p + 1) % l.length = P := ⟨_, rfl⟩
  have hP1 : ((p : Int) + 1) % (l.length : Int) = (P : Int) := by rw [← hP]; rfl
  rw [hP]
  clear hw hP
  go_enter Try.func39, Try.ntmps39
  go_wp2
  go_ret
  exact ⟨by rw [← hP1]; rfl, rfl⟩

/-- how many are the card's, by numbers -/
theorem wheel_rem {n h t : Nat} (ht : t < n) : ((h : Int) - t + n) % n = ((h + n - t) % n : Nat) := by
  have e : ((h : Int) - t + n) = ((h + n - t : Nat) : Int) := by omega
  rw [e]; rfl

set_option maxRecDepth 1000000 in
theorem wheelHeld_any (b : Nat) (l : List SlotD) (h t : Nat) (w : World) (hw : WheelIs w b l h t) :
    Calls Try.prog 43 #[.pointer (some ⟨b, 0, none⟩)] w fun e w' => e = .returned (.int .i64 ((ringHeld l h t : Nat) : Int)) ∧ Below w.heap.size w w' := by
  have c0 := hw.count
  have c1 := hw.head
  have c2 := hw.tail
  obtain ⟨⟨l1, l2⟩, l3, l4⟩ := hw.2
  have c3 := hw.own (p := t) (by omega)
  have hne : ¬ l = [] := by intro e; rw [e] at l1; simp at l1
  have l2' : (l.length : Int) ≤ 8 := by omega
  have l3' : (h : Int) < 8 := by omega
  have l4' : (t : Int) < 8 := by omega
  obtain ⟨Q, hQ⟩ : ∃ Q, (h + l.length - t) % l.length = Q := ⟨_, rfl⟩
  have hQ1 := wheel_rem (h := h) l4
  rw [hQ] at hQ1
  unfold ringHeld
  rw [hQ]
  clear hw hQ
  by_cases hht : h = t
  · by_cases hown : (slotAt l t).own = 1
    · rw [if_pos ⟨hht, hown⟩]
      have e2 : ((h : Int) == (t : Int)) = true := by simp [hht]
      have e3 : (decide ((h : Int) = (t : Int))) = true := by simp [hht]
      have e4 : (decide ((slotAt l t).own = 1)) = true := by simp [hown]
      clear hht
      go_enter Try.func43, Try.ntmps43
      go_wp2
      go_quiet (fail)
      go_wp2
      go_ret
      exact ⟨rfl, below_drewN (Below.refl _ _) _⟩
    · rw [if_neg (fun x => hown x.2)]
      have e2 : ((h : Int) == (t : Int)) = true := by simp [hht]
      have e3 : (decide ((h : Int) = (t : Int))) = true := by simp [hht]
      have e4 : (decide ((slotAt l t).own = 1)) = false := by simp [hown]
      have e5 : ((slotAt l t).own == 1) = false := by simp [hown]
      clear hht
      go_enter Try.func43, Try.ntmps43
      go_wp2
      go_quiet (fail)
      go_wp2
      go_quiet (fail)
      go_wp2
      go_ret
      exact ⟨by rw [← hQ1]; rfl, below_drewN (below_drewN (Below.refl _ _) _) _⟩
  · rw [if_neg (fun x => hht x.1)]
    have e2 : ((h : Int) == (t : Int)) = false := by simp; omega
    have e3 : (decide ((h : Int) = (t : Int))) = false := by simp; omega
    have e6 : ¬ (h : Int) = (t : Int) := by omega
    clear hht
    go_enter Try.func43, Try.ntmps43
    go_wp2
    go_quiet (fail)
    go_wp2
    go_quiet (fail)
    go_wp2
    go_ret
    exact ⟨by rw [← hQ1]; rfl, below_drewN (below_drewN (Below.refl _ _) _) _⟩
end Go.Proofs.Ytbajffpkfjkolaa
