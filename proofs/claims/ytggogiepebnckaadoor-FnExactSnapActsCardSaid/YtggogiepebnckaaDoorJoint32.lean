/-
  The walk of spec.l08Index.
-/
import Derived.Test.YtggogiepebnckaaDoorJoint1
import Derived.Test.YtggogiepebnckaaDoorJoint31
import Derived.Test.YtggogiepebnckaaDoorJoint30
namespace Go.Proofs.YtggogiepebnckaaDoor
open Go.RowKit

/-- what spec.ReadDecimal answers at every text -/
theorem rdecS_all (s : ByteArray) (w : World) :
    Calls Tryd.prog 77 #[.string s] w fun e w' => (∃ x ok, e = .returned (.tuple #[.int .i64 x, .bool ok]) ∧ (ok = true → DecOk s.data.toList ∧ s.data.toList.length ≤ 10 ∧ x = num s.data.toList) ∧ (ok = false → ¬ (DecOk s.data.toList ∧ s.data.toList.length ≤ 10))) ∧ Below w.heap.size w w' := by
  have hl : s.data.toList.length = s.size := Array.length_toList
  by_cases h : s.size ≤ 10
  · refine (specReadDecimal_any s h w).mono ?_
    rintro e w' ⟨(⟨hd, he⟩ | ⟨hd, he⟩), hb⟩
    · exact ⟨⟨_, true, he, fun _ => ⟨hd, by omega, rfl⟩, fun q => by cases q⟩, hb⟩
    · exact ⟨⟨_, false, he, fun q => (by cases q), fun _ q => hd q.1⟩, hb⟩
  · refine (specReadDecimal_long s (by omega) w).mono ?_
    rintro e w' ⟨he, hb⟩
    exact ⟨⟨_, false, he, fun q => (by cases q), fun _ q => by omega⟩, hb⟩

/-- the name of a number that was read of a name -/
theorem sname_back {s : ByteArray} {r : List UInt8} (hs : s.data.toList = s.data.toList.take 1 ++ r) (hsz : 2 ≤ s.size) (hd : DecOk r) :
    (sname (num r : Int) = s ↔ nameNum 115 1000000 s = some (num r)) ∧ (¬ sname (num r : Int) = s → nameNum 115 1000000 s = none) := by
  have hdec : dec (num r : Int) = r := (dec_num r hd.1).2 ⟨hd.2.2.1, hd.2.2.2⟩
  have key : sname (num r : Int) = s ↔ nameNum 115 1000000 s = some (num r) := by
    rw [nameNum_some (by omega)]
    constructor
    · intro e
      cases hq : within (num r : Int) 0 1000000 with
      | false =>
        rw [sname_no hq] at e
        rw [← e] at hsz
        exact absurd hsz (by decide)
      | true =>
        have := within_iff.1 hq
        rw [sname_yes hq] at e
        refine ⟨by omega, ?_⟩
        rw [← e]
        simp [ByteArray.data_append]
    · rintro ⟨h1, h2⟩
      rw [sname_yes (within_iff.2 ⟨by omega, by omega⟩)]
      apply ByteArray.ext
      apply Array.toList_inj.1
      rw [h2]
      simp [ByteArray.data_append]
  refine ⟨key, fun hn => ?_⟩
  cases hq : nameNum 115 1000000 s with
  | none => rfl
  | some n =>
    have h2 := (nameNum_some (by omega)).1 hq
    have e : r = dec (n : Int) := by
      have h3 := hs
      rw [h2.2] at h3
      simpa using h3.symm
    have hn2 : num r = n := by rw [e]; exact (dec_back n (by omega)).2.1
    rw [← hn2] at hq
    exact absurd (key.2 hq) hn

set_option maxRecDepth 1000000 in
set_option maxHeartbeats 1000000 in
theorem l08Index_any (s : ByteArray) (hsl : s.size ≤ 1048576) (w : World) : Calls Tryd.prog 39 #[.string s] w fun e w' => e = .returned (.int .i64 (nameAns (nameNum 115 1000000 s))) ∧ Below w.heap.size w w' := by
  by_cases h2 : (s.size : Int) < 2
  · have HN := hid (nameNum_short (c := 115) (lim := 1000000) (name := s) (by omega) (by omega))
    go_enter Tryd.func39, Tryd.ntmps39
    go_wp2
    go_ret
    exact ⟨by rw [HN.out]; rfl, Below.refl _ _⟩
  · have hs := slice_from (P := Tryd.prog) Tryd.underlying9 s 1 1 rfl (by omega)
    have hT := tail_list s 1
    have hcat : s.data.toList = s.data.toList.take 1 ++ s.data.toList.drop 1 := (List.take_append_drop 1 _).symm
    have hfst : ∃ c, s.data.toList = c :: s.data.toList.drop 1 := by
      have hz : s.data.toList.length = s.size := Array.length_toList
      match hq : s.data.toList with
      | [] => rw [hq] at hz; simp at hz; omega
      | x :: r => exact ⟨x, rfl⟩
    obtain ⟨T, hTe⟩ : ∃ T, s.extract 1 s.size = T := ⟨_, rfl⟩
    rw [hTe] at hs hT
    rw [← hT] at hcat hfst
    have HC := hid hcat
    have HF := hid hfst
    clear hTe hT hcat hfst
    go_enter Tryd.func39, Tryd.ntmps39
    go_wp2_with fail
    refine (rdecS_all T _).mono ?_
    rintro e w1 ⟨⟨x, ok, rfl, h1, h3⟩, b1⟩
    have B1 := hid b1
    clear b1
    cases ok with
    | false =>
      have HN : Hid (nameNum 115 1000000 s = none) := by
        obtain ⟨c, hc⟩ := HF.out
        by_cases h115 : c = 115
        · subst h115
          exact nameNum_figs (by omega) hc (fun q => h3 rfl ⟨q.1, q.2.2⟩)
        · exact nameNum_head (by omega) (by rw [hc]; simpa using h115)
      clear h1 h3 HC HF
      go_wp2
      go_ret
      exact ⟨by rw [HN.out]; rfl, B1.out⟩
    | true =>
      obtain ⟨d1, d2, d3⟩ := h1 rfl
      clear h1 h3
      have hb := sname_back HC.out (by omega) d1
      have hnum : (num T.data.toList : Int) ≤ 1000000000 := by have := d1.2.1; omega
      have HD := hid d3
      subst d3
      obtain ⟨n, hn⟩ : ∃ n, num T.data.toList = n := ⟨_, rfl⟩
      rw [hn] at hb hnum ⊢
      have HB := hid hb
      clear hb d1 d2 HC HF hn HD
      go_wp2_with fail
      refine (specSName_any (n : Int) _).mono ?_
      rintro e w2 ⟨rfl, b2⟩
      have B2 := hid (below_via B1.out b2)
      clear b2 B1
      by_cases hsame : sname (n : Int) = s
      · have HN := hid (HB.out.1.1 hsame)
        rw [hsame]
        have hss : (s.toList == s.toList) = true := by simp
        clear HB hsame
        go_wp2
        go_ret
        exact ⟨by rw [HN.out]; rfl, B2.out⟩
      · have HN := hid (HB.out.2 hsame)
        obtain ⟨Z, hZ⟩ : ∃ Z, sname (n : Int) = Z := ⟨_, rfl⟩
        rw [hZ] at hsame ⊢
        have hss : (Z.toList == s.toList) = false := by
          simp only [beq_eq_false_iff_ne, ne_eq]
          intro h
          refine hsame ?_
          rw [ByteArray.toList_eq, ByteArray.toList_eq] at h
          apply ByteArray.ext
          exact Array.toList_inj.1 h
        clear HB hsame hZ
        go_wp2
        go_ret
        exact ⟨by rw [HN.out]; rfl, B2.out⟩
end Go.Proofs.YtggogiepebnckaaDoor
