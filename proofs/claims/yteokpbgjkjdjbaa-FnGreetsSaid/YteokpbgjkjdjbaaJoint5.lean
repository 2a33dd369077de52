/-
  The walk of spec.DrawPlaces: twelve numbers below ten thousand, in memory of their own.
-/
import Derived.Test.YteokpbgjkjdjbaaJoint2
import Derived.Test.YteokpbgjkjdjbaaJoint3
import Derived.Test.YteokpbgjkjdjbaaJoint4
namespace Go.Proofs.Yteokpbgjkjdjbaa
open Go.RowKit

/-- twelve places -/
def Places (w : World) (v : Value) : Prop := ∃ g cap, v = .slice (some ⟨g, 0, none⟩) 12 cap ∧ 12 ≤ cap ∧ ∀ j, j < 12 → ∃ z : Nat, z < 10000 ∧ w.cell? ⟨g, j, none⟩ = some (.int .i64 z)

theorem places_of {w : World} {base : Nat} {v : Value} {l : List Int} (hl : l.length = 12) (hb : ∀ z ∈ l, 0 ≤ z ∧ z < 10000) (h : w.ownsRow base 3 1 v 12 (is l)) : Places w v := by
  obtain ⟨_, (⟨_, h0⟩ | ⟨g, cap, cur, rfl, _, hg, hc, _, hs, ht⟩)⟩ := h
  · omega
  · refine ⟨g, cap, rfl, hc, fun j hj => ?_⟩
    have hjl : j < l.length := by omega
    have hz := hb l[j] (List.getElem_mem hjl)
    refine ⟨l[j].toNat, by omega, ?_⟩
    have e1 : (cur.toList.take (12 * 1))[j]? = some (.int .i64 l[j]) := by rw [ht]; simp [is, hjl]
    rw [List.getElem?_take_of_lt (by omega)] at e1
    have e2 : cur[j]? = some (.int .i64 l[j]) := by simpa using e1
    rw [show ((l[j].toNat : Nat) : Int) = l[j] by omega]
    simp [World.cell?, hg, e2]

set_option maxRecDepth 1000000 in
set_option maxHeartbeats 1000000 in
theorem drawPlaces_any (ao : Option Addr) (len cap : Nat) (hlen : len ≤ 1048576) (hcap : len ≤ cap) (w : World) (hr : Bytes w ao len) :
    Calls Try.prog 8 #[.slice ao len cap] w fun e w' => ∃ v, e = .returned v ∧ Places w' v ∧ Below w.heap.size w w' := by
  obtain ⟨i0, hi, hz0, hz1, hz2⟩ := info_parts places_info3
  have HR := (show Hid (Bytes w ao len) from hr)
  clear hr
  go_enter Try.func8, Try.ntmps8
  go_wp2_with fail
  refine (l01New_any ao len cap hlen hcap _ HR.out).mono ?_
  rintro e w0 ⟨rfl, k0, b0⟩
  have K0 := (show Hid (CurAt w0 w.heap.size) from k0)
  clear k0
  obtain ⟨C, hC⟩ : ∃ C, w.heap.size = C := ⟨_, rfl⟩
  have B0 := (show Hid (Below w.heap.size w w0) from b0)
  rw [hC] at K0 ⊢
  clear b0
  go_wp2_with fail
  refine (l01Byte_any C _ K0.out).mono ?_
  rintro e w1 ⟨x0, rfl, x00, x01, k1, q1⟩
  have K1 := (show Hid (CurAt w1 C) from k1)
  have B1 : Hid (Below w.heap.size w w1) := below_cur B0.out (by rw [hC]; exact q1)
  have hCl := k1.lt
  clear k1 q1 x00 x01
  have HC := (show Hid _ from hC)
  clear hC
  go_wp2
  go_loopw [4, 5] (fun v i wr => ∃ (k : Nat) (l : List Int), k ≤ 12 ∧ i = .int .i64 k ∧ l.length = k ∧ Hid (∀ z ∈ l, 0 ≤ z ∧ z < 10000) ∧ wr.ownsRow w1.heap.size 3 1 v k (is l) ∧ Hid (CurAt wr C) ∧ Hid (w1.grownBy wr (some C))) (fun _ i _ => 12 - (intOf i).toNat)
  case atStart => exact ⟨0, [], by omega, rfl, rfl, fun z h => by simp at h, World.ownsRow_made w1 #[] 0 (Nat.le_refl _) (Nat.zero_le _) rfl, K1.out.kept (World.grownBy_alloc w1 _ none) (fun j h => by cases h), World.grownBy_alloc w1 _ (some C)⟩
  case round =>
    obtain ⟨k, l, hk, rfl, hl, HZ, hown, KC, GC⟩ := hrel
    have hsz := GC.out.size
    by_cases hlt : k < 12
    · go_wp2_with fail
      refine (l01Below_any C 10000 (by omega) (by omega) _ KC.out).mono ?_
      rintro e w2 ⟨x, rfl, x0, x1, k2, q2⟩
      have hown2 := kept_cur3 hown q2 hCl
      have hsz2 := q2.size
      have K2 := (show Hid (CurAt w2 C) from k2)
      have Q2 := (show Hid (wr.grownBy w2 (some C)) from q2)
      have HL := (show Hid _ from hl)
      have HX : Hid (0 ≤ x ∧ x < 10000) := ⟨x0, x1⟩
      clear k2 q2 hl
      go_wp2_with (at_builtin; refine wpList_append_own _ rfl (.tmp 15) (.tmp 18) 24 rfl w1.heap.size 3 i0 (.int .i64 0) 1 8 Try.underlying24 hi hz0 hz1 hz2 rfl (by decide) _ _ _ rfl (hown2.alloc _) ⟨w2.heap.size, 0, none⟩ 1 1 [.int .i64 x] rfl rfl (one_new _ _ _) (by intro u hu; simp at hu; subst hu; rfl) (by unfold maxLen; omega) (by omega) (by simp; omega) ?_)
      intro v' w3 hown' hgrow _
      obtain ⟨r2, r3, r4⟩ := places_step hCl (Nat.le_refl _) GC.out K2.out Q2.out hown' hgrow (fun j hj => (hown.lt j hj).1)
      have R1 : Hid ((l ++ [x]).length = k + 1) := by show _ = _; simp [HL.out]
      have RZ : Hid (∀ z ∈ l ++ [x], 0 ≤ z ∧ z < 10000) := by
        intro z hz
        rcases List.mem_append.1 hz with h | h
        · exact HZ.out z h
        · rw [List.mem_singleton.1 h]; exact HX.out
      have R3 := (show Hid (CurAt w3 C) from r3)
      have R4 := (show Hid (w1.grownBy w3 (some C)) from r4)
      clear hown' hgrow hown hown2 r3 r4
      go_wp2
      go_roundw
      case rel => exact ⟨k + 1, l ++ [x], by omega, by go_num, R1.out, RZ, r2, R3, R4⟩
      case measure => simp [intOf]; omega
    · obtain rfl : k = 12 := by omega
      have HP := (show Hid (Places wr u4) from places_of hl HZ.out hown)
      clear hown hl
      go_wp2
      go_ret
      exact ⟨_, rfl, HP.out, below_cur B1.out (by rw [HC.out]; exact GC.out)⟩
end Go.Proofs.Yteokpbgjkjdjbaa
