/-
  The walk of spec.Unframe: what it answers.
-/
import Derived.Test.YtbifkpkhpaellaaGreatDoorJoint14
import Derived.Test.YtbifkpkhpaellaaGreatDoorJoint24
import Derived.Test.YtbifkpkhpaellaaGreatDoorJoint1
namespace Go.Proofs.YtbifkpkhpaellaaGreatDoor
open Go.RowKit

set_option maxRecDepth 1000000 in
set_option maxHeartbeats 2000000 in
theorem specUnframe_any (s : ByteArray) (hs : s.size ≤ 1048576) (w : World) : Calls Tryz.prog 39 #[.string s] w fun e w' => unframeAns s w e w' := by
  obtain ⟨i0, hi, hz0, hz1, hz2⟩ := info_parts unframe_info9
  by_cases h6 : 20000 < s.size
  · have HD : Hid (unframeAns s w (.returned (.tuple #[.slice (some ⟨w.heap.size, 0, none⟩) 0 0, .int .i64 0])) (w.alloc (.cells #[] 9))) := by
      refine ⟨_, by rw [ufE, if_pos h6]; rfl, ?_, (Below.refl _ _).alloc (Nat.le_refl _) _⟩
      rw [ufT, if_pos h6]
      exact World.ownsRow_made w #[] 0 (Nat.le_refl _) (Nat.zero_le _) rfl
    go_enter Tryz.func39, Tryz.ntmps39
    go_wp2
    go_ret2
    exact HD.out
  · go_enter Tryz.func39, Tryz.ntmps39
    go_wp2
    go_loopw [4, 5] (fun v a wr => ∃ (k : Nat) (pre : List (Nat × Nat)), UfAt s k pre ∧ a = .int .i64 k ∧ wr.ownsRow w.heap.size 9 1 v pre.length (st (recs s pre)) ∧ Below w.heap.size w wr) (fun _ a _ => s.size - (intOf a).toNat)
    case atStart => exact ⟨0, [], UfAt.start s, rfl, World.ownsRow_made w #[] 0 (Nat.le_refl _) (Nat.zero_le _) rfl, (Below.refl _ _).alloc (Nat.le_refl _) _⟩
    case round =>
      obtain ⟨k, pre, hU, rfl, hown, hb⟩ := hrel
      have HU := hid0 hU
      have hkl := hU.hi
      have hpl := hU.len
      obtain ⟨_, ao, cap, hv, _⟩ := row_lie hown
      subst hv
      have HO := hid0 hown
      have HB := hid0 hb
      clear hU hown hb
      by_cases hlt : k < s.size
      · have cR' := fun w => specReadVar_in s k hkl (by omega) w
        cases hr : rv (s.data.toList.drop k) with
        | none =>
          rw [hr] at cR'
          have cR : Hid (∀ w, Calls Tryz.prog 59 #[.string s, .int .i64 k] w fun e w' => e = .returned (.tuple #[.int .i64 0, .int .i64 0, .bool false]) ∧ Below w.heap.size w w') := cR'
          have HR := hid0 hr
          clear cR' hr
          go_wp2_with fail
          refine (cR.out _).mono ?_
          rintro e w1 ⟨rfl, b1⟩
          go_wp2
          go_ret2
          exact unframe_done (by omega) (HU.out.stop (rf_no HR.out)) HU.out.at_ (kept_onS HO.out b1) (HB.out.trans (b1.mono HB.out.size))
        | some p =>
          obtain ⟨n, c⟩ := p
          obtain ⟨hn, hc, hcl⟩ := rvFrom_some hr
          simp only [List.length_nil, List.length_drop, Array.length_toList, Nat.zero_add] at hc hcl
          have hcs : k + c ≤ s.size := by have : s.data.size = s.size := rfl; omega
          rw [hr] at cR'
          have cR : Hid (∀ w, Calls Tryz.prog 59 #[.string s, .int .i64 k] w fun e w' => e = .returned (.tuple #[.int .i64 n, .int .i64 ((k + c : Nat) : Int), .bool true]) ∧ Below w.heap.size w w') := cR'
          have HR := hid0 hr
          clear cR' hr hcl
          obtain ⟨b, hbe⟩ : ∃ b, k + c = b := ⟨_, rfl⟩
          rw [hbe] at cR hcs
          have hkb : k < b := by omega
          by_cases h1 : b + 4 + n ≤ s.size
          · have q1 := slice_nat (P := Tryz.prog) Tryz.underlying9 s (b + 4) (b + 4 + n) ((b : Int) + 4) ((b : Int) + 4 + n) (by omega) (by omega) (by omega) h1
            have q2 := slice_nat (P := Tryz.prog) Tryz.underlying9 s k (b + 4 + n) (k : Int) ((b : Int) + 4 + n) rfl (by omega) (by omega) h1
            have hle : (s.extract (b + 4) (b + 4 + n)).size = n := by rw [ByteArray.size_extract]; omega
            have HF : Hid (∀ (_ : 1 ≤ n) (_ : n ≤ 9000) (_ : frm (s.extract (b + 4) (b + 4 + n)) = s.extract k (b + 4 + n)), rf s k = some (b + 4, b + 4 + n)) := by
              intro h2 h3 h4
              subst hbe
              exact rf_yes HR.out h1 h2 h3 h4
            have HNF : Hid (¬ (1 ≤ n ∧ n ≤ 9000 ∧ frm (s.extract (b + 4) (b + 4 + n)) = s.extract k (b + 4 + n)) → rf s k = none) := by
              intro h2
              subst hbe
              exact rf_not HR.out (fun h => h2 h.2)
            obtain ⟨T, hT⟩ : ∃ T, s.extract (b + 4) (b + 4 + n) = T := ⟨_, rfl⟩
            obtain ⟨E, hE⟩ : ∃ E, s.extract k (b + 4 + n) = E := ⟨_, rfl⟩
            rw [hT] at q1 hle HF HNF
            rw [hE] at q2 HF HNF
            have HTe := hid0 hT
            clear hbe HR hc hT hE
            by_cases h2 : 1 ≤ n ∧ n ≤ 9000
            · have cF' := fun w => specFrame_yes T (by omega) (by omega) w
              obtain ⟨Q, hQ⟩ : ∃ Q, frm T = Q := ⟨_, rfl⟩
              rw [hQ] at cF' HF HNF
              have cF := hid0 cF'
              clear cF' hQ
              by_cases h3 : Q = E
              · have hrf := hid0 (HF.out h2.1 h2.2 h3)
                clear HF HNF
                subst h3
                go_wp2_with fail
                refine (cR.out _).mono ?_
                rintro e w1 ⟨rfl, b1⟩
                go_wp2_with fail
                refine (cF.out _).mono ?_
                rintro e w2 ⟨rfl, b2⟩
                have b12 : Below wr.heap.size wr w2 := b1.trans (b2.mono b1.size)
                have hown2 := kept_onS HO.out b12
                have hsz2 : w.heap.size ≤ w2.heap.size := by have := HB.out.size; have := b12.size; omega
                go_wp2_with (at_builtin; refine wpList_append_own _ rfl (.tmp 69) (.tmp 71) 77 rfl w.heap.size 9 i0 (.string ByteArray.empty) 1 16 Tryz.underlying77 hi hz0 hz1 hz2 rfl (by decide) _ _ _ rfl (hown2.alloc _) ⟨w2.heap.size, 0, none⟩ 1 1 [.string T] rfl rfl (one_new _ _ _) (by intro u hu; simp at hu; subst hu; rfl) (by unfold maxLen; omega) (by omega) (by simp; omega) ?_)
                intro v' w3 hown' hgrow _
                rw [← HTe.out] at hown'
                have R := unframe_step hown2 hown' hgrow HB.out b12
                clear hown' hgrow hown2 b1 b2 b12
                go_wp2
                go_roundw
                case rel => exact ⟨b + 4 + n, pre ++ [(b + 4, b + 4 + n)], HU.out.step hrf.out, by go_num, R.1, R.2⟩
                case measure => simp [intOf]; omega
              · have hrf := hid0 (HNF.out (fun h => h3 h.2.2))
                have hq : (Q.toList == E.toList) = false := by
                  rw [beq_eq_false_iff_ne, ByteArray.toList_eq, ByteArray.toList_eq]
                  exact fun h => h3 (ByteArray.ext (Array.toList_inj.1 h))
                clear HF HNF h3
                go_wp2_with fail
                refine (cR.out _).mono ?_
                rintro e w1 ⟨rfl, b1⟩
                go_wp2_with fail
                refine (cF.out _).mono ?_
                rintro e w2 ⟨rfl, b2⟩
                have b12 : Below wr.heap.size wr w2 := b1.trans (b2.mono b1.size)
                go_wp2
                go_ret2
                exact unframe_done (by omega) (HU.out.stop hrf.out) HU.out.at_ (kept_onS HO.out b12) (HB.out.trans (b12.mono HB.out.size))
            · have hrf := hid0 (HNF.out (fun h => h2 ⟨h.1, h.2.1⟩))
              have cF := hid0 (fun w => specFrame_no T (by omega) w)
              clear HF HNF h2
              go_wp2_with fail
              refine (cR.out _).mono ?_
              rintro e w1 ⟨rfl, b1⟩
              go_wp2_with fail
              refine (cF.out _).mono ?_
              rintro e w2 ⟨rfl, b2⟩
              have b12 : Below wr.heap.size wr w2 := b1.trans (b2.mono b1.size)
              go_wp2
              go_ret2
              exact unframe_done (by omega) (HU.out.stop hrf.out) HU.out.at_ (kept_onS HO.out b12) (HB.out.trans (b12.mono HB.out.size))
          · have hrf : Hid (rf s k = none) := by
              subst hbe
              exact rf_not HR.out (fun h => h1 h.1)
            clear hbe HR hc
            go_wp2_with fail
            refine (cR.out _).mono ?_
            rintro e w1 ⟨rfl, b1⟩
            go_wp2
            go_ret2
            exact unframe_done (by omega) (HU.out.stop hrf.out) HU.out.at_ (kept_onS HO.out b1) (HB.out.trans (b1.mono HB.out.size))
      · go_wp2
        go_ret2
        exact unframe_done (by omega) (HU.out.full (by omega)) HU.out.at_ HO.out HB.out
end Go.Proofs.YtbifkpkhpaellaaGreatDoor
