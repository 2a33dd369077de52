/-
  The walk of spec.SnapName.
  The walk of spec.l08Index.
  The walk of spec.l01Var: what it answers.
-/
import Derived.Test.YtihgkocfgjihhaaGreatDoorJoint1
import Derived.Laws.Concat
import Derived.Test.YtihgkocfgjihhaaGreatDoorJoint29
import Derived.Test.YtihgkocfgjihhaaGreatDoorRows
import Derived.WalkKit
namespace Go.Proofs.YtihgkocfgjihhaaGreatDoor
open Go.RowKit

set_option maxRecDepth 1000000 in
set_option maxHeartbeats 1000000 in
theorem specSName_any (n : Int) (w : World) : Calls Tryz.prog 26 #[.int .i64 n] w fun e w' => e = .returned (.string (sname n)) ∧ Below w.heap.size w w' := by
  cases h1 : within n 0 1000000 with
  | false =>
    have HJ := hid (sname_no h1)
    go_enter Tryz.func26, Tryz.ntmps26
    go_wp2_with fail
    refine (l01In_any n 0 1000000 _).mono ?_
    rintro e w1 ⟨rfl, hw⟩
    rw [hw, h1]
    clear hw w1 h1
    go_wp2
    go_ret
    exact ⟨by rw [HJ.out]; rfl, Below.refl _ _⟩
  | true =>
    have HJ := hid (sname_yes h1)
    have hb := within_iff.1 h1
    obtain ⟨m, rfl⟩ : ∃ m : Nat, n = m := ⟨n.toNat, by omega⟩
    go_enter Tryz.func26, Tryz.ntmps26
    go_wp2_with fail
    refine (l01In_any m 0 1000000 _).mono ?_
    rintro e w1 ⟨rfl, hw⟩
    rw [hw, h1]
    clear hw w1 h1
    go_wp2_with fail
    refine (specDecimal_nat m (by omega) _).mono ?_
    rintro e w1 ⟨rfl, b1⟩
    have B1 := hid b1
    clear b1
    obtain ⟨T, hT⟩ : ∃ T : ByteArray, (⟨(dec m).toArray⟩ : ByteArray) = T := ⟨_, rfl⟩
    have hTs : T.size ≤ 7 := by rw [← hT]; exact dec_small7 (by omega)
    rw [hT] at HJ ⊢
    clear hT
    obtain ⟨U, hU⟩ : ∃ U : ByteArray, (⟨#[115]⟩ : ByteArray) ++ T = U := ⟨_, rfl⟩
    have hs1 : ∀ w, (Op.stringOp .add ⟨#[115]⟩ T).run Tryz.prog w = .ok (.string U) w := fun w => by rw [run_string_add_sum w _ _ (by rw [show (⟨#[115]⟩ : ByteArray).size = 1 from rfl]; omega), hU]
    rw [hU] at HJ
    clear hU
    go_wp2
    go_ret
    exact ⟨by rw [HJ.out]; rfl, B1.out⟩
end Go.Proofs.YtihgkocfgjihhaaGreatDoor

namespace Go.Proofs.YtihgkocfgjihhaaGreatDoor
open Go.RowKit

/-- what spec.ReadDecimal answers at every text -/
theorem rdecS_all (s : ByteArray) (w : World) :
    Calls Tryz.prog 138 #[.string s] w fun e w' => (∃ x ok, e = .returned (.tuple #[.int .i64 x, .bool ok]) ∧ (ok = true → DecOk s.data.toList ∧ s.data.toList.length ≤ 10 ∧ x = num s.data.toList) ∧ (ok = false → ¬ (DecOk s.data.toList ∧ s.data.toList.length ≤ 10))) ∧ Below w.heap.size w w' := by
  have hl : s.data.toList.length = s.size := Array.length_toList
  by_cases h : s.size ≤ 10
  · refine (specReadDecimal_any s h w).mono ?_
    rintro e w' ⟨(⟨hd, he⟩ | ⟨hd, he⟩), hb⟩
    · exact ⟨⟨_, true, he, fun _ => ⟨hd, by omega, rfl⟩, fun q => by cases q⟩, hb⟩
    · exact ⟨⟨_, false, he, fun q => (by cases q), fun _ q => hd q.1⟩, hb⟩
  · refine (specReadDecimal_long s (by omega) w).mono ?_
    rintro e w' ⟨he, hb⟩
    exact ⟨⟨_, false, he, fun q => (by cases q), fun _ q => by omega⟩, hb⟩

/-- the name of a number that was read of a name -/
theorem sname_back {s : ByteArray} {r : List UInt8} (hs : s.data.toList = s.data.toList.take 1 ++ r) (hsz : 2 ≤ s.size) (hd : DecOk r) :
    (sname (num r : Int) = s ↔ nameNum 115 1000000 s = some (num r)) ∧ (¬ sname (num r : Int) = s → nameNum 115 1000000 s = none) := by
  have hdec : dec (num r : Int) = r := (dec_num r hd.1).2 ⟨hd.2.2.1, hd.2.2.2⟩
  have key : sname (num r : Int) = s ↔ nameNum 115 1000000 s = some (num r) := by
    rw [nameNum_some (by omega)]
    constructor
    · intro e
      cases hq : within (num r : Int) 0 1000000 with
      | false =>
        rw [sname_no hq] at e
        rw [← e] at hsz
        exact absurd hsz (by decide)
      | true =>
        have := within_iff.1 hq
        rw [sname_yes hq] at e
        refine ⟨by omega, ?_⟩
        rw [← e]
        simp [ByteArray.data_append]
    · rintro ⟨h1, h2⟩
      rw [sname_yes (within_iff.2 ⟨by omega, by omega⟩)]
      apply ByteArray.ext
      apply Array.toList_inj.1
      rw [h2]
      simp [ByteArray.data_append]
  refine ⟨key, fun hn => ?_⟩
  cases hq : nameNum 115 1000000 s with
  | none => rfl
  | some n =>
    have h2 := (nameNum_some (by omega)).1 hq
    have e : r = dec (n : Int) := by
      have h3 := hs
      rw [h2.2] at h3
      simpa using h3.symm
    have hn2 : num r = n := by rw [e]; exact (dec_back n (by omega)).2.1
    rw [← hn2] at hq
    exact absurd (key.2 hq) hn

set_option maxRecDepth 1000000 in
set_option maxHeartbeats 1000000 in
theorem l08Index_any (s : ByteArray) (hsl : s.size ≤ 1048576) (w : World) : Calls Tryz.prog 92 #[.string s] w fun e w' => e = .returned (.int .i64 (nameAns (nameNum 115 1000000 s))) ∧ Below w.heap.size w w' := by
  by_cases h2 : (s.size : Int) < 2
  · have HN := hid (nameNum_short (c := 115) (lim := 1000000) (name := s) (by omega) (by omega))
    go_enter Tryz.func92, Tryz.ntmps92
    go_wp2
    go_ret
    exact ⟨by rw [HN.out]; rfl, Below.refl _ _⟩
  · have hs := slice_from (P := Tryz.prog) Tryz.underlying9 s 1 1 rfl (by omega)
    have hT := tail_list s 1
    have hcat : s.data.toList = s.data.toList.take 1 ++ s.data.toList.drop 1 := (List.take_append_drop 1 _).symm
    have hfst : ∃ c, s.data.toList = c :: s.data.toList.drop 1 := by
      have hz : s.data.toList.length = s.size := Array.length_toList
      match hq : s.data.toList with
      | [] => rw [hq] at hz; simp at hz; omega
      | x :: r => exact ⟨x, rfl⟩
    obtain ⟨T, hTe⟩ : ∃ T, s.extract 1 s.size = T := ⟨_, rfl⟩
    rw [hTe] at hs hT
    rw [← hT] at hcat hfst
    have HC := hid hcat
    have HF := hid hfst
    clear hTe hT hcat hfst
    go_enter Tryz.func92, Tryz.ntmps92
    go_wp2_with fail
    refine (rdecS_all T _).mono ?_
    rintro e w1 ⟨⟨x, ok, rfl, h1, h3⟩, b1⟩
    have B1 := hid b1
    clear b1
    cases ok with
    | false =>
      have HN : Hid (nameNum 115 1000000 s = none) := by
        obtain ⟨c, hc⟩ := HF.out
        by_cases h115 : c = 115
        · subst h115
          exact nameNum_figs (by omega) hc (fun q => h3 rfl ⟨q.1, q.2.2⟩)
        · exact nameNum_head (by omega) (by rw [hc]; simpa using h115)
      clear h1 h3 HC HF
      go_wp2
      go_ret
      exact ⟨by rw [HN.out]; rfl, B1.out⟩
    | true =>
      obtain ⟨d1, d2, d3⟩ := h1 rfl
      clear h1 h3
      have hb := sname_back HC.out (by omega) d1
      have hnum : (num T.data.toList : Int) ≤ 1000000000 := by have := d1.2.1; omega
      have HD := hid d3
      subst d3
      obtain ⟨n, hn⟩ : ∃ n, num T.data.toList = n := ⟨_, rfl⟩
      rw [hn] at hb hnum ⊢
      have HB := hid hb
      clear hb d1 d2 HC HF hn HD
      go_wp2_with fail
      refine (specSName_any (n : Int) _).mono ?_
      rintro e w2 ⟨rfl, b2⟩
      have B2 := hid (below_via B1.out b2)
      clear b2 B1
      by_cases hsame : sname (n : Int) = s
      · have HN := hid (HB.out.1.1 hsame)
        rw [hsame]
        have hss : (s.toList == s.toList) = true := by simp
        clear HB hsame
        go_wp2
        go_ret
        exact ⟨by rw [HN.out]; rfl, B2.out⟩
      · have HN := hid (HB.out.2 hsame)
        obtain ⟨Z, hZ⟩ : ∃ Z, sname (n : Int) = Z := ⟨_, rfl⟩
        rw [hZ] at hsame ⊢
        have hss : (Z.toList == s.toList) = false := by
          simp only [beq_eq_false_iff_ne, ne_eq]
          intro h
          refine hsame ?_
          rw [ByteArray.toList_eq, ByteArray.toList_eq] at h
          apply ByteArray.ext
          exact Array.toList_inj.1 h
        clear HB hsame hZ
        go_wp2
        go_ret
        exact ⟨by rw [HN.out]; rfl, B2.out⟩
end Go.Proofs.YtihgkocfgjihhaaGreatDoor

namespace Go.Proofs.YtihgkocfgjihhaaGreatDoor
open Go.RowKit

theorem varS_info5 : (Tryz.prog.info? 5).map (fun i => (i.zero, i.size, i.bytes)) = some (some (.int .u8 0), 1, 1) := by kernel_rfl

set_option maxHeartbeats 400000 in
set_option maxRecDepth 1000000 in
theorem l01Var_any (n : Nat) (hn : n ≤ 1000000000000) (w : World) :
    Calls Tryz.prog 56 #[.int .i64 n] w fun e w' => e = .returned (.string ⟨(vb n).toArray⟩) ∧ Below w.heap.size w w' := by
  obtain ⟨i0, hi, hz0, hz1, hz2⟩ := info_parts varS_info5
  go_enter Tryz.func56, Tryz.ntmps56
  go_wp2
  go_loopw [0, 3] (fun x v wr => ∃ (m : Nat) (acc : List UInt8), m ≤ n ∧ x = .int .i64 m ∧ acc ++ vb m = vb n ∧ wr.ownsRow w.heap.size 5 1 v acc.length (cs acc) ∧ Below w.heap.size w wr) (fun x _ _ => (intOf x).toNat)
  case atStart => exact ⟨n, [], Nat.le_refl _, rfl, rfl, World.ownsRow_made w #[] 0 (Nat.le_refl _) (Nat.zero_le _) rfl, (Below.refl _ _).alloc (Nat.le_refl _) _⟩
  case round =>
    obtain ⟨m, acc, hm, rfl, hacc, hown, hb⟩ := hrel
    have hlen : acc.length + (vb m).length ≤ n + 1 := by rw [← List.length_append, hacc]; exact vb_le n
    have hp := vb_pos m
    have HA : Hid (acc ++ vb m = vb n) := hacc
    clear hacc
    have hsz := hb.size
    by_cases hlt : 127 < m
    · go_wp2_with (at_builtin; refine wpList_append_own _ rfl (.tmp 7) (.tmp 12) 112 rfl w.heap.size 5 i0 (.int .u8 0) 1 1 Tryz.underlying112 hi hz0 hz1 hz2 rfl (by decide) _ _ _ rfl (hown.alloc _) ⟨wr.heap.size, 0, none⟩ 1 1 [.int .u8 ((m : Int) % 128 + 128)] rfl rfl ?c1 ?c2 ?c3 ?c4 ?c5 ?_)
      case c1 => intro j u hj; match j, hj with | 0, hj => simp at hj; subst hj; simp [Addr.add]
      case c2 => intro u hu; simp at hu; subst hu; rfl
      case c3 => unfold maxLen; omega
      case c4 => omega
      case c5 => simp; omega
      intro v' w1 hown' hgrow _
      have R := var_step hlt HA.out hown hown' hgrow hb
      clear hown' hgrow hown hb
      go_wp2
      go_roundw
      case rel => exact ⟨m / 128, acc ++ [UInt8.ofNat (m % 128 + 128)], by omega, by go_num, R.1, R.2.1, R.2.2⟩
      case measure => simp [intOf]; omega
    · go_wp2_with (at_builtin; refine wpList_append_own _ rfl (.tmp 16) (.tmp 19) 112 rfl w.heap.size 5 i0 (.int .u8 0) 1 1 Tryz.underlying112 hi hz0 hz1 hz2 rfl (by decide) _ _ _ rfl (hown.alloc _) ⟨wr.heap.size, 0, none⟩ 1 1 [.int .u8 (m : Int)] rfl rfl ?d1 ?d2 ?d3 ?d4 ?d5 ?_)
      case d1 => intro j u hj; match j, hj with | 0, hj => simp at hj; subst hj; simp [Addr.add]
      case d2 => intro u hu; simp at hu; subst hu; rfl
      case d3 => unfold maxLen; omega
      case d4 => omega
      case d5 => simp; omega
      intro v' w1 hown' hgrow _
      have R := var_end (by omega) HA.out hown hown' hgrow hb
      have hcv := text_of_row (P := Tryz.prog) Tryz.underlying112 Tryz.underlying5 Tryz.underlying9 R.1
      clear hown' hgrow hown hb
      go_wp2
      go_ret
      exact ⟨rfl, R.2⟩

end Go.Proofs.YtihgkocfgjihhaaGreatDoor
