/-
  What impl.textReader's methods number and short read, as one contract each.
  The walk of impl.ConfOk: what it answers.
-/
import Derived.Test.YtggogiepebnckaaDoorJoint37
import Derived.Test.YtggogiepebnckaaDoorJoint1
import Derived.Test.YtggogiepebnckaaDoorRows
import Derived.WalkSmall
import Derived.WalkKit
namespace Go.Proofs.YtggogiepebnckaaDoor
open Go.RowKit Go.Sort

def numDid (o : Option (Nat × Nat)) (s : ByteArray) (b : Nat) (w : World) (e : Ending) (w' : World) : Prop := match o with
  | none => e = .panicked [misreadP] ∧ w.grownBy w' (some b)
  | some (n, k) => e = .returned (.int .i64 (n : Int)) ∧ RdIs w' b s k ∧ w.grownBy w' (some b)
def txtDid (o : Option (ByteArray × Nat)) (s : ByteArray) (b : Nat) (w : World) (e : Ending) (w' : World) : Prop := match o with
  | none => e = .panicked [misreadP] ∧ w.grownBy w' (some b)
  | some (t, k) => e = .returned (.string t) ∧ RdIs w' b s k ∧ w.grownBy w' (some b)
theorem number_at (b : Nat) (s : ByteArray) (k lim : Nat) (hs : s.size ≤ 1048576) (hk : k ≤ s.size) (w : World) (hr : RdIs w b s k) (l : Int) (hl : l = (lim : Int)) :
    Calls Tryd.prog 72 #[.pointer (some ⟨b, 0, none⟩), .int .i64 l] w fun e w' => numDid (numAt s lim k) s b w e w' := by
  subst hl
  unfold numAt
  cases h : rv (s.data.toList.drop k) with
  | none => exact number_no b s k lim hs hk (fun n c e => by rw [h] at e; cases e) w hr
  | some p =>
    obtain ⟨n, c⟩ := p
    dsimp only
    by_cases hn : n ≤ lim
    · rw [if_pos hn]
      exact number_yes b s k n c lim hs hk h (by omega) w hr
    · rw [if_neg hn]
      exact number_no b s k lim hs hk (fun n' c' e => by rw [h] at e; cases e; omega) w hr
theorem short_at (b : Nat) (s : ByteArray) (k : Nat) (hs : s.size ≤ 1048576) (w : World) (hr : RdIs w b s k) :
    Calls Tryd.prog 74 #[.pointer (some ⟨b, 0, none⟩)] w fun e w' => txtDid (txtAt s k) s b w e w' := by
  unfold txtAt
  cases h : rs s (k : Int) with
  | none => exact short_no b s k hs h w hr
  | some p => exact short_yes b s k p.1 p.2 hs h w hr
theorem grown_new {w x : World} {r : Option Nat} (h : w.grownBy x r) (o : Obj) : w.grownBy (x.alloc o) r := h.trans (grown_of_below (below_more (Below.refl _ _) o) r)
theorem grown_put {w x : World} {r : Option Nat} (h : w.grownBy x r) {p j : Nat} (hp : w.heap.size ≤ p) (u : Value) : w.grownBy (x.setCell ⟨p, j, none⟩ u) r :=
  ⟨h.os, h.tape, h.output, by simpa [World.setCell] using h.size, fun k hk hr => (Below.heap_setCell _ _ _ _ (show k ≠ p by omega)).trans (h.block k hk hr)⟩
end Go.Proofs.YtggogiepebnckaaDoor

namespace Go.Proofs.YtggogiepebnckaaDoor
open Go.RowKit

set_option maxRecDepth 1000000 in
set_option maxHeartbeats 1000000 in
theorem implConfOk_any (ao : Option Addr) (zs : List Int) (cap : Nat) (hl : zs.length ≤ 1048576) (w : World) (hz : IntsAt w ao zs) :
    Calls Tryd.prog 101 #[.slice ao zs.length cap] w fun e w' => e = .returned (.bool (confOk zs)) ∧ Below w.heap.size w w' := by
  have HZ := hid hz
  clear hz
  by_cases h1 : zs.length < 1
  · have hr := hid (confOk_big (zs := zs) (by omega))
    have h1' : (zs.length : Int) < 1 := by omega
    go_enter Tryd.func101, Tryd.ntmps101
    go_wp2
    go_ret
    exact ⟨by rw [hr.out]; rfl, Below.refl _ _⟩
  by_cases h4 : 4 < zs.length
  · have hr := hid (confOk_big (zs := zs) (by omega))
    have h1' : ¬ (zs.length : Int) < 1 := by omega
    have h4' : 4 < (zs.length : Int) := by omega
    go_enter Tryd.func101, Tryd.ntmps101
    go_wp2
    go_ret
    exact ⟨by rw [hr.out]; rfl, Below.refl _ _⟩
  have h1' : ¬ (zs.length : Int) < 1 := by omega
  have h4' : ¬ 4 < (zs.length : Int) := by omega
  have HR := hid (confOk_of (zs := zs) (by omega) (by omega))
  go_enter Tryd.func101, Tryd.ntmps101
  go_wp2
  go_loop [3, 16] (fun b i => ∃ (k : Nat), k ≤ zs.length ∧ i = .int .i64 k ∧ b = .int .i64 (lastOf zs k) ∧ Hid (riseTo zs k = true)) (fun _ i => zs.length - (intOf i).toNat)
  case atStart => exact ⟨0, Nat.zero_le _, rfl, rfl, rfl⟩
  case round =>
    obtain ⟨k, hk, rfl, rfl, RT⟩ := hrel
    by_cases hlt : k < zs.length
    · have hne : zs ≠ [] := by intro e; rw [e] at hlt; simp at hlt
      obtain ⟨b, off, rfl, hc⟩ := HZ.out hne
      have x0 := hc k hlt
      have HL := hid (lastOf_step hlt)
      have HON : Hid (lastOf zs k < zs[k] → zs[k] ≤ 4 → riseTo zs (k + 1) = true) := rise_on hlt RT.out
      have HOFF : Hid (¬ (lastOf zs k < zs[k] ∧ zs[k] ≤ 4) → riseTo zs zs.length = false) := rise_off hlt RT.out
      obtain ⟨x, hx⟩ : ∃ x, zs[k] = x := ⟨_, rfl⟩
      obtain ⟨y, hy⟩ : ∃ y, lastOf zs k = y := ⟨_, rfl⟩
      rw [hx] at x0 HL HON HOFF
      rw [hy] at HON HOFF ⊢
      clear hc hx hy
      by_cases hA : x ≤ y
      · have hr := hid (HOFF.out (by omega))
        go_wp2
        go_ret
        exact ⟨by rw [HR.out, hr.out]; rfl, Below.refl _ _⟩
      · by_cases hB : 4 < x
        · have hr := hid (HOFF.out (by omega))
          go_wp2
          go_ret
          exact ⟨by rw [HR.out, hr.out]; rfl, Below.refl _ _⟩
        · have hr := hid (HON.out (by omega) (by omega))
          go_wp2
          go_round
          case rel => exact ⟨k + 1, by omega, by go_num, by rw [HL.out], hr⟩
          case measure => simp [intOf]; omega
    · obtain rfl : k = zs.length := by omega
      go_wp2
      go_ret
      exact ⟨by rw [HR.out, RT.out]; rfl, Below.refl _ _⟩
end Go.Proofs.YtggogiepebnckaaDoor
