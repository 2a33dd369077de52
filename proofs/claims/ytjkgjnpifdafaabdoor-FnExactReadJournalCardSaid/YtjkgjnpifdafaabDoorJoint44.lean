/-
  The walk of impl.Frame: what it answers.
  The walk of impl.readFrame: what it answers.
-/
import Derived.Test.YtjkgjnpifdafaabDoorJoint41
import Derived.Test.YtjkgjnpifdafaabDoorJoint43
import Derived.Test.YtjkgjnpifdafaabDoorJoint1
import Derived.Test.YtjkgjnpifdafaabDoorJoint30
namespace Go.Proofs.YtjkgjnpifdafaabDoor
open Go.RowKit

set_option maxRecDepth 1000000 in
set_option maxHeartbeats 1000000 in
theorem implFrame_yes (s : ByteArray) (h1 : 1 ≤ s.size) (hs : s.size ≤ 9000) (w : World) (ht : Steps w) :
    Calls Tryd.prog 44 #[.string s] w fun e w' => e = .returned (.tuple #[.string (frm s), .bool true]) ∧ Below w.heap.size w w' := by
  have HT := (show Hid _ from ht)
  have cV := (show Hid _ from implVarText_yes s.size (by omega))
  have cS' := fun w h => implSumOf_any s (by omega) w h
  have cF' := sumBytes_any (sumOf s.data.toList) (sumOf_lt _)
  have hvl := vb_le s.size
  have hfr : frm s = ⟨(vb s.size).toArray⟩ ++ ⟨(four (sumOf s.data.toList)).toArray⟩ ++ s := rfl
  rw [hfr]
  clear hfr
  obtain ⟨N, hN⟩ : ∃ N, sumOf s.data.toList = N := ⟨_, rfl⟩
  rw [hN] at cS' cF' ⊢
  have hfs : (⟨(four N).toArray⟩ : ByteArray).size = 4 := rfl
  have hvs : (⟨(vb s.size).toArray⟩ : ByteArray).size ≤ 9001 := by show (vb s.size).toArray.size ≤ 9001; simp; omega
  obtain ⟨V, hV⟩ : ∃ V : ByteArray, ⟨(vb s.size).toArray⟩ = V := ⟨_, rfl⟩
  obtain ⟨F, hF⟩ : ∃ F : ByteArray, ⟨(four N).toArray⟩ = F := ⟨_, rfl⟩
  rw [hV] at cV hvs ⊢
  rw [hF] at cF' hfs ⊢
  have cS := (show Hid _ from cS')
  have cF := (show Hid _ from cF')
  clear hN cS' cF' ht hV hF hvl
  go_enter Tryd.func44, Tryd.ntmps44
  go_wp2_with fail
  refine (cV.out _).mono ?_
  rintro e w1 ⟨rfl, b1⟩
  go_wp2_with fail
  refine (cS.out _ (steps_on HT.out b1)).mono ?_
  rintro e w2 ⟨rfl, hw⟩
  rw [hw]
  clear hw w2
  go_wp2_with fail
  refine (cF.out _).mono ?_
  rintro e w2 ⟨rfl, b2⟩
  have hvf : (V ++ F).size ≤ 9005 := by rw [ByteArray.size_append]; omega
  go_wp2
  go_ret2
  exact ⟨rfl, b1.trans (b2.mono b1.size)⟩

theorem implFrame_no (s : ByteArray) (h : s.size < 1 ∨ 9000 < s.size) (w : World) :
    Calls Tryd.prog 44 #[.string s] w fun e w' => e = .returned (.tuple #[.string ByteArray.empty, .bool false]) ∧ Below w.heap.size w w' := by
  by_cases h1 : s.size < 1
  · go_enter Tryd.func44, Tryd.ntmps44
    go_wp2
    go_ret2
    exact ⟨rfl, Below.refl _ _⟩
  · have h2 : 9000 < s.size := by omega
    go_enter Tryd.func44, Tryd.ntmps44
    go_wp2
    go_ret2
    exact ⟨rfl, Below.refl _ _⟩
end Go.Proofs.YtjkgjnpifdafaabDoor

namespace Go.Proofs.YtjkgjnpifdafaabDoor
open Go.RowKit

theorem rfAns_no {s : ByteArray} {a : Nat} (h : rf s a = none) : Ending.returned (.tuple #[.string ByteArray.empty, .int .i64 0, .bool false]) = .returned (rfAns s (rf s a)) := by rw [h]; rfl

set_option maxRecDepth 1000000 in
set_option maxHeartbeats 1000000 in
theorem readFrame_any (s : ByteArray) (a : Nat) (ha : a ≤ s.size) (hs : s.size ≤ 1048576) (w : World) (ht : Steps w) :
    Calls Tryd.prog 78 #[.string s, .int .i64 a] w fun e w' => e = .returned (rfAns s (rf s a)) ∧ Below w.heap.size w w' := by
  have HT := (show Hid _ from ht)
  have cR' := implReadVar_in s a ha (by omega) w
  clear ht
  cases hr : rv (s.data.toList.drop a) with
  | none =>
    have HN := (show Hid _ from rfAns_no (rf_no hr))
    rw [hr] at cR'
    have cR : Hid (Calls Tryd.prog 91 #[.string s, .int .i64 a] w fun e w' => e = .returned (.tuple #[.int .i64 0, .int .i64 0, .bool false]) ∧ w' = w) := cR'
    clear cR' hr
    go_enter Tryd.func78, Tryd.ntmps78
    go_wp2_with fail
    refine Calls.mono cR.out ?_
    rintro e w1 ⟨rfl, hw⟩
    rw [hw]
    clear hw w1
    go_wp2
    go_ret3
    exact ⟨HN.out, Below.refl _ _⟩
  | some p =>
    obtain ⟨n, c⟩ := p
    obtain ⟨hn, hc, hcl⟩ := rvFrom_some hr
    simp only [List.length_nil, List.length_drop, Array.length_toList, Nat.zero_add] at hc hcl
    have hcs : a + c ≤ s.size := by have : s.data.size = s.size := rfl; omega
    rw [hr] at cR'
    have cR : Hid (Calls Tryd.prog 91 #[.string s, .int .i64 a] w fun e w' => e = .returned (.tuple #[.int .i64 n, .int .i64 ((a + c : Nat) : Int), .bool true]) ∧ w' = w) := cR'
    have HR := (show Hid _ from hr)
    clear cR' hr hcl
    obtain ⟨b, hb⟩ : ∃ b, a + c = b := ⟨_, rfl⟩
    rw [hb] at cR hcs
    by_cases h1 : b + 4 + n ≤ s.size
    · have q1 := slice_nat (P := Tryd.prog) Tryd.underlying9 s (b + 4) (b + 4 + n) ((b : Int) + 4) ((b : Int) + 4 + n) (by omega) (by omega) (by omega) h1
      have q2 := slice_nat (P := Tryd.prog) Tryd.underlying9 s a (b + 4 + n) (a : Int) ((b : Int) + 4 + n) rfl (by omega) (by omega) h1
      have hle : (s.extract (b + 4) (b + 4 + n)).size = n := by rw [ByteArray.size_extract]; omega
      have HF : Hid (∀ (_ : 1 ≤ n) (_ : n ≤ 9000) (_ : frm (s.extract (b + 4) (b + 4 + n)) = s.extract a (b + 4 + n)), rf s a = some (b + 4, b + 4 + n)) := by
        intro h2 h3 h4
        subst hb
        exact rf_yes HR.out h1 h2 h3 h4
      have HNF : Hid (¬ (1 ≤ n ∧ n ≤ 9000 ∧ frm (s.extract (b + 4) (b + 4 + n)) = s.extract a (b + 4 + n)) → rf s a = none) := by
        intro h2
        subst hb
        exact rf_not HR.out (fun h => h2 h.2)
      have HX : Hid (rfAns s (some (b + 4, b + 4 + n)) = .tuple #[.string (s.extract (b + 4) (b + 4 + n)), .int .i64 ((b : Int) + 4 + n), .bool true]) := by
        show _ = _
        simp [rfAns]
      clear hb HR hc
      obtain ⟨T, hT⟩ : ∃ T, s.extract (b + 4) (b + 4 + n) = T := ⟨_, rfl⟩
      obtain ⟨E, hE⟩ : ∃ E, s.extract a (b + 4 + n) = E := ⟨_, rfl⟩
      rw [hT] at q1 hle HF HNF HX
      rw [hE] at q2 HF HNF
      clear hT hE
      by_cases h2 : 1 ≤ n ∧ n ≤ 9000
      · have cF' := fun w h => implFrame_yes T (by omega) (by omega) w h
        obtain ⟨Q, hQ⟩ : ∃ Q, frm T = Q := ⟨_, rfl⟩
        rw [hQ] at cF' HF HNF
        have cF := (show Hid _ from cF')
        clear cF' hQ
        by_cases h3 : Q = E
        · have hrf := (show Hid _ from HF.out h2.1 h2.2 h3)
          clear HF HNF
          subst h3
          go_enter Tryd.func78, Tryd.ntmps78
          go_wp2_with fail
          refine Calls.mono cR.out ?_
          rintro e w1 ⟨rfl, hw⟩
          rw [hw]
          clear hw w1
          go_wp2_with fail
          refine (cF.out _ HT.out).mono ?_
          rintro e w1 ⟨rfl, b1⟩
          go_wp2
          go_ret3
          exact ⟨by rw [hrf.out, HX.out]; rfl, b1⟩
        · have hrf := (show Hid _ from rfAns_no (HNF.out (fun h => h3 h.2.2)))
          have hq : (Q.toList == E.toList) = false := by
            rw [beq_eq_false_iff_ne, ByteArray.toList_eq, ByteArray.toList_eq]
            exact fun h => h3 (ByteArray.ext (Array.toList_inj.1 h))
          clear HF HNF h3
          go_enter Tryd.func78, Tryd.ntmps78
          go_wp2_with fail
          refine Calls.mono cR.out ?_
          rintro e w1 ⟨rfl, hw⟩
          rw [hw]
          clear hw w1
          go_wp2_with fail
          refine (cF.out _ HT.out).mono ?_
          rintro e w1 ⟨rfl, b1⟩
          go_wp2
          go_ret3
          exact ⟨hrf.out, b1⟩
      · have hrf := (show Hid _ from rfAns_no (HNF.out (fun h => h2 ⟨h.1, h.2.1⟩)))
        have cF := (show Hid _ from fun w => implFrame_no T (by omega) w)
        clear HF HNF h2
        go_enter Tryd.func78, Tryd.ntmps78
        go_wp2_with fail
        refine Calls.mono cR.out ?_
        rintro e w1 ⟨rfl, hw⟩
        rw [hw]
        clear hw w1
        go_wp2_with fail
        refine (cF.out _).mono ?_
        rintro e w1 ⟨rfl, b1⟩
        go_wp2
        go_ret3
        exact ⟨hrf.out, b1⟩
    · have hrf : Hid (Ending.returned (.tuple #[.string ByteArray.empty, .int .i64 0, .bool false]) = .returned (rfAns s (rf s a))) := by
        subst hb
        exact rfAns_no (rf_not HR.out (fun h => h1 h.1))
      clear hb HR hc
      go_enter Tryd.func78, Tryd.ntmps78
      go_wp2_with fail
      refine Calls.mono cR.out ?_
      rintro e w1 ⟨rfl, hw⟩
      rw [hw]
      clear hw w1
      go_wp2
      go_ret3
      exact ⟨hrf.out, Below.refl _ _⟩
end Go.Proofs.YtjkgjnpifdafaabDoor
