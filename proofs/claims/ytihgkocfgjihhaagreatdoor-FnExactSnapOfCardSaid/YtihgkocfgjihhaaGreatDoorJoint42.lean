/-
  The walk of impl.Unsealed: what it answers.
-/
import Derived.Test.YtihgkocfgjihhaaGreatDoorJoint41
import Derived.Test.YtihgkocfgjihhaaGreatDoorJoint38
namespace Go.Proofs.YtihgkocfgjihhaaGreatDoor
open Go.RowKit

theorem uns_whole {s : ByteArray} (h4 : 4 ≤ s.size) (h2 : s.size ≤ 20004) : s.extract 0 (s.size - 4) ++ ⟨(four (sumOf (s.extract 0 (s.size - 4)).data.toList)).toArray⟩ = s ↔ Uns s := by
  obtain ⟨l, hl⟩ : ∃ l, l = s.data.toList := ⟨_, rfl⟩
  have key : (s.extract 0 (s.size - 4) ++ ⟨(four (sumOf (s.extract 0 (s.size - 4)).data.toList)).toArray⟩ : ByteArray).data.toList = l.take (s.size - 4) ++ four (sumOf (l.take (s.size - 4))) := by
    rw [ByteArray.data_append, Array.toList_append, head_list, hl]
  constructor
  · intro h
    refine ⟨h4, h2, ?_⟩
    rw [h, ← hl] at key
    rw [← hl]
    exact List.append_cancel_left ((List.take_append_drop (s.size - 4) l).trans key)
  · intro h
    apply ByteArray.ext
    apply Array.toList_inj.1
    have h3 := h.2.2
    rw [← hl] at h3
    rw [key, ← h3, ← hl, List.take_append_drop]

set_option maxRecDepth 1000000 in
set_option maxHeartbeats 1000000 in
theorem implUnsealed_any (s : ByteArray) (hs : s.size ≤ 140737488355328) (w : World) (ht : Steps w) :
    Calls Tryz.prog 207 #[.string s] w fun e w' =>
      ((Uns s ∧ e = .returned (.tuple #[.string (s.extract 0 (s.size - 4)), .bool true])) ∨ (¬ Uns s ∧ e = .returned (.tuple #[.string ByteArray.empty, .bool false]))) ∧ Below w.heap.size w w' := by
  have HT := (show Hid _ from ht)
  clear ht
  by_cases h4 : (s.size : Int) - 4 < 0
  · go_enter Tryz.func207, Tryz.ntmps207
    go_wp2
    go_ret2
    exact ⟨Or.inr ⟨fun h => by have := h.1; omega, rfl⟩, Below.refl _ _⟩
  · have h4' : decide ((s.size : Int) - 4 < 0) = false := by simpa using h4
    have q2 := slice_upto (P := Tryz.prog) Tryz.underlying9 s (s.size - 4) ((s.size : Int) - 4) (by omega) (by omega)
    have hle : (s.extract 0 (s.size - 4)).size = s.size - 4 := by rw [ByteArray.size_extract]; omega
    by_cases h2 : s.size ≤ 20004
    · have HU := (show Hid _ from uns_whole (s := s) (by omega) h2)
      obtain ⟨T, hT⟩ : ∃ T, s.extract 0 (s.size - 4) = T := ⟨_, rfl⟩
      rw [hT] at q2 hle HU ⊢
      have cS' := implSealed_yes T (by omega) w HT.out
      obtain ⟨Q, hQ⟩ : ∃ Q, T ++ (⟨(four (sumOf T.data.toList)).toArray⟩ : ByteArray) = Q := ⟨_, rfl⟩
      rw [hQ] at cS' HU
      have cS := (show Hid _ from cS')
      have cC := (show Hid _ from fun w => clone_any T (by omega) w)
      clear cS' hT hQ
      by_cases hu : Uns s
      · have hq : Q = s := HU.out.2 hu
        clear HU h4'
        subst hq
        go_enter Tryz.func207, Tryz.ntmps207
        go_wp2_with fail
        refine Calls.mono cS.out ?_
        rintro e w1 ⟨rfl, hb1⟩
        go_wp2_with fail
        refine (cC.out _).mono ?_
        rintro e w2 ⟨rfl, hb2⟩
        go_wp2
        go_ret2
        exact ⟨Or.inl ⟨hu, rfl⟩, hb1.trans (hb2.mono hb1.size)⟩
      · have hq : (Q.toList == s.toList) = false := by
          rw [beq_eq_false_iff_ne, ByteArray.toList_eq, ByteArray.toList_eq]
          exact fun h => hu (HU.out.1 (ByteArray.ext (Array.toList_inj.1 h)))
        clear HU
        go_enter Tryz.func207, Tryz.ntmps207
        go_wp2_with fail
        refine Calls.mono cS.out ?_
        rintro e w1 ⟨rfl, hb1⟩
        go_wp2
        go_ret2
        exact ⟨Or.inr ⟨hu, rfl⟩, hb1⟩
    · obtain ⟨T, hT⟩ : ∃ T, s.extract 0 (s.size - 4) = T := ⟨_, rfl⟩
      rw [hT] at q2 hle ⊢
      have cS := (show Hid _ from implSealed_no T (by omega) w)
      have hu : ¬ Uns s := fun h => h2 h.2.1
      clear hT hle h2
      go_enter Tryz.func207, Tryz.ntmps207
      go_wp2_with fail
      refine Calls.mono cS.out ?_
      rintro e w1 ⟨rfl, hb1⟩
      go_wp2
      go_ret2
      exact ⟨Or.inr ⟨hu, rfl⟩, hb1⟩
end Go.Proofs.YtihgkocfgjihhaaGreatDoor
