/-
  The walk of impl.readFrame: what it answers.
-/
import Derived.Test.YtbifkpkhpaellaaGreatDoorJoint55
import Derived.Test.YtbifkpkhpaellaaGreatDoorJoint46
namespace Go.Proofs.YtbifkpkhpaellaaGreatDoor
open Go.RowKit

theorem rfAns_no {s : ByteArray} {a : Nat} (h : rf s a = none) : Ending.returned (.tuple #[.string ByteArray.empty, .int .i64 0, .bool false]) = .returned (rfAns s (rf s a)) := by rw [h]; rfl

set_option maxRecDepth 1000000 in
set_option maxHeartbeats 1000000 in
theorem readFrame_any (s : ByteArray) (a : Nat) (ha : a ≤ s.size) (hs : s.size ≤ 1048576) (w : World) (ht : Steps w) :
    Calls Tryz.prog 92 #[.string s, .int .i64 a] w fun e w' => e = .returned (rfAns s (rf s a)) ∧ Below w.heap.size w w' := by
  have HT := (show Hid _ from ht)
  have cR' := implReadVar_in s a ha (by omega) w
  clear ht
  cases hr : rv (s.data.toList.drop a) with
  | none =>
    have HN := (show Hid _ from rfAns_no (rf_no hr))
    rw [hr] at cR'
    have cR : Hid (Calls Tryz.prog 111 #[.string s, .int .i64 a] w fun e w' => e = .returned (.tuple #[.int .i64 0, .int .i64 0, .bool false]) ∧ w' = w) := cR'
    clear cR' hr
    go_enter Tryz.func92, Tryz.ntmps92
    go_wp2_with fail
    refine Calls.mono cR.out ?_
    rintro e w1 ⟨rfl, hw⟩
    rw [hw]
    clear hw w1
    go_wp2
    go_ret3
    exact ⟨HN.out, Below.refl _ _⟩
  | some p =>
    obtain ⟨n, c⟩ := p
    obtain ⟨hn, hc, hcl⟩ := rvFrom_some hr
    simp only [List.length_nil, List.length_drop, Array.length_toList, Nat.zero_add] at hc hcl
    have hcs : a + c ≤ s.size := by have : s.data.size = s.size := rfl; omega
    rw [hr] at cR'
    have cR : Hid (Calls Tryz.prog 111 #[.string s, .int .i64 a] w fun e w' => e = .returned (.tuple #[.int .i64 n, .int .i64 ((a + c : Nat) : Int), .bool true]) ∧ w' = w) := cR'
    have HR := (show Hid _ from hr)
    clear cR' hr hcl
    obtain ⟨b, hb⟩ : ∃ b, a + c = b := ⟨_, rfl⟩
    rw [hb] at cR hcs
    by_cases h1 : b + 4 + n ≤ s.size
    · have q1 := slice_nat (P := Tryz.prog) Tryz.underlying9 s (b + 4) (b + 4 + n) ((b : Int) + 4) ((b : Int) + 4 + n) (by omega) (by omega) (by omega) h1
      have q2 := slice_nat (P := Tryz.prog) Tryz.underlying9 s a (b + 4 + n) (a : Int) ((b : Int) + 4 + n) rfl (by omega) (by omega) h1
      have hle : (s.extract (b + 4) (b + 4 + n)).size = n := by rw [ByteArray.size_extract]; omega
      have HF : Hid (∀ (_ : 1 ≤ n) (_ : n ≤ 9000) (_ : frm (s.extract (b + 4) (b + 4 + n)) = s.extract a (b + 4 + n)), rf s a = some (b + 4, b + 4 + n)) := by
        intro h2 h3 h4
        subst hb
        exact rf_yes HR.out h1 h2 h3 h4
      have HNF : Hid (¬ (1 ≤ n ∧ n ≤ 9000 ∧ frm (s.extract (b + 4) (b + 4 + n)) = s.extract a (b + 4 + n)) → rf s a = none) := by
        intro h2
        subst hb
        exact rf_not HR.out (fun h => h2 h.2)
      have HX : Hid (rfAns s (some (b + 4, b + 4 + n)) = .tuple #[.string (s.extract (b + 4) (b + 4 + n)), .int .i64 ((b : Int) + 4 + n), .bool true]) := by
        show _ = _
        simp [rfAns]
      clear hb HR hc
      obtain ⟨T, hT⟩ : ∃ T, s.extract (b + 4) (b + 4 + n) = T := ⟨_, rfl⟩
      obtain ⟨E, hE⟩ : ∃ E, s.extract a (b + 4 + n) = E := ⟨_, rfl⟩
      rw [hT] at q1 hle HF HNF HX
      rw [hE] at q2 HF HNF
      clear hT hE
      by_cases h2 : 1 ≤ n ∧ n ≤ 9000
      · have cF' := fun w h => implFrame_yes T (by omega) (by omega) w h
        obtain ⟨Q, hQ⟩ : ∃ Q, frm T = Q := ⟨_, rfl⟩
        rw [hQ] at cF' HF HNF
        have cF := (show Hid _ from cF')
        clear cF' hQ
        by_cases h3 : Q = E
        · have hrf := (show Hid _ from HF.out h2.1 h2.2 h3)
          clear HF HNF
          subst h3
          go_enter Tryz.func92, Tryz.ntmps92
          go_wp2_with fail
          refine Calls.mono cR.out ?_
          rintro e w1 ⟨rfl, hw⟩
          rw [hw]
          clear hw w1
          go_wp2_with fail
          refine (cF.out _ HT.out).mono ?_
          rintro e w1 ⟨rfl, b1⟩
          go_wp2
          go_ret3
          exact ⟨by rw [hrf.out, HX.out]; rfl, b1⟩
        · have hrf := (show Hid _ from rfAns_no (HNF.out (fun h => h3 h.2.2)))
          have hq : (Q.toList == E.toList) = false := by
            rw [beq_eq_false_iff_ne, ByteArray.toList_eq, ByteArray.toList_eq]
            exact fun h => h3 (ByteArray.ext (Array.toList_inj.1 h))
          clear HF HNF h3
          go_enter Tryz.func92, Tryz.ntmps92
          go_wp2_with fail
          refine Calls.mono cR.out ?_
          rintro e w1 ⟨rfl, hw⟩
          rw [hw]
          clear hw w1
          go_wp2_with fail
          refine (cF.out _ HT.out).mono ?_
          rintro e w1 ⟨rfl, b1⟩
          go_wp2
          go_ret3
          exact ⟨hrf.out, b1⟩
      · have hrf := (show Hid _ from rfAns_no (HNF.out (fun h => h2 ⟨h.1, h.2.1⟩)))
        have cF := (show Hid _ from fun w => implFrame_no T (by omega) w)
        clear HF HNF h2
        go_enter Tryz.func92, Tryz.ntmps92
        go_wp2_with fail
        refine Calls.mono cR.out ?_
        rintro e w1 ⟨rfl, hw⟩
        rw [hw]
        clear hw w1
        go_wp2_with fail
        refine (cF.out _).mono ?_
        rintro e w1 ⟨rfl, b1⟩
        go_wp2
        go_ret3
        exact ⟨hrf.out, b1⟩
    · have hrf : Hid (Ending.returned (.tuple #[.string ByteArray.empty, .int .i64 0, .bool false]) = .returned (rfAns s (rf s a))) := by
        subst hb
        exact rfAns_no (rf_not HR.out (fun h => h1 h.1))
      clear hb HR hc
      go_enter Tryz.func92, Tryz.ntmps92
      go_wp2_with fail
      refine Calls.mono cR.out ?_
      rintro e w1 ⟨rfl, hw⟩
      rw [hw]
      clear hw w1
      go_wp2
      go_ret3
      exact ⟨hrf.out, Below.refl _ _⟩
end Go.Proofs.YtbifkpkhpaellaaGreatDoor
