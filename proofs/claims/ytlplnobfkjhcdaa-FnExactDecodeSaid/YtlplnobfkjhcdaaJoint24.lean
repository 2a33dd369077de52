/-
  The walk of impl.textReader's method flag.
-/
import Derived.Test.YtlplnobfkjhcdaaJoint1
import Derived.Test.YtlplnobfkjhcdaaJoint23
import Derived.Test.YtlplnobfkjhcdaaJoint22
namespace Go.Proofs.Ytlplnobfkjhcdaa
open Go.RowKit Go.Sort

def flagDid (o : Option (Bool × Nat)) (s : ByteArray) (b : Nat) (w : World) (e : Ending) (w' : World) : Prop := match o with
  | none => e = .panicked [misreadP] ∧ w.grownBy w' (some b)
  | some (x, k) => e = .returned (.bool x) ∧ RdIs w' b s k ∧ w.grownBy w' (some b)
set_option maxRecDepth 1000000 in
set_option maxHeartbeats 400000 in
theorem flag_at (b : Nat) (s : ByteArray) (k : Nat) (hs : s.size ≤ 1048576) (hk : k ≤ s.size) (w : World) (hr : RdIs w b s k) :
    Calls Try.prog 35 #[.pointer (some ⟨b, 0, none⟩)] w fun e w' => flagDid (flagAt s k) s b w e w' := by
  have R0 := hid hr
  clear hr
  go_enter Try.func35, Try.ntmps35
  go_wp2_with fail
  refine (oneByte_at b s k hs hk _ R0.out).mono ?_
  intro e w1 hd
  cases h0 : byteAt s k with
  | none =>
    rw [h0] at hd
    obtain ⟨rfl, hg⟩ := hd
    have HR : Hid (flagAt s k = none) := (show _ = _ by simp [flagAt, h0])
    clear h0
    go_wp2
    rw [HR.out]
    exact And.intro rfl (And.intro rfl hg)
  | some p =>
    obtain ⟨n, k1⟩ := p
    rw [h0] at hd
    obtain ⟨rfl, hr, hg⟩ := hd
    have R1 := hid hr
    have G1 := hid hg
    clear hr hg R0
    by_cases hn : n ≤ 1
    · have HR : Hid (flagAt s k = some (decide (n = 1), k1)) := (show _ = _ by simp [flagAt, h0, hn])
      have hn1 : (n : Int) ≤ 1 := by omega
      have HE : Hid (decide ((n : Int) = 1) = decide (n = 1)) := (show _ = _ by congr 1; exact propext (by omega))
      clear h0 hn
      go_wp2_with fail
      refine (need_yes (.pointer (some ⟨b, 0, none⟩)) w1).mono ?_
      rintro e w2 ⟨rfl, hw2⟩
      rw [hw2]
      clear hw2
      go_wp2
      have HE2 : Hid (((n : Int) == 1) = decide (n = 1)) := HE.out
      refine bodyPost_ret (v := .bool ((n : Int) == 1)) (by simp [results, Try.results35, go_sem]) rfl ?_
      rw [HR.out]
      exact And.intro (by rw [HE2.out]) (And.intro R1.out G1.out)
    · have HR : Hid (flagAt s k = none) := (show _ = _ by simp [flagAt, h0, hn])
      have hn1 : decide ((n : Int) ≤ 1) = false := decide_eq_false (by omega)
      clear h0 hn
      go_wp2_with fail
      refine (need_no (.pointer (some ⟨b, 0, none⟩)) w1).mono ?_
      rintro e w2 ⟨rfl, hw2⟩
      rw [hw2]
      clear hw2
      go_wp2
      rw [HR.out]
      exact And.intro rfl (And.intro rfl G1.out)
end Go.Proofs.Ytlplnobfkjhcdaa
