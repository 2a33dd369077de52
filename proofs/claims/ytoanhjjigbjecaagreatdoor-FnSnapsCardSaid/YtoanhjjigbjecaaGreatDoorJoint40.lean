/-
  The walks of strings.CutPrefix with one byte, and of impl.numberInName.
  The walks of impl.indexIn, otherSnap.
-/
import Derived.Test.YtoanhjjigbjecaaGreatDoorRows
import Derived.Test.YtoanhjjigbjecaaGreatDoorJoint1
import Derived.Test.YtoanhjjigbjecaaGreatDoorJoint39
import Derived.WalkSmall
import Derived.WalkKit
namespace Go.Proofs.YtoanhjjigbjecaaGreatDoor
open Go.RowKit

/-- a text begins with a byte -/
def headC (c : UInt8) (s : ByteArray) : Bool := match s.data.toList with
  | [] => false
  | h :: _ => decide (h = c)
theorem headC_yes {c : UInt8} {s : ByteArray} (h : headC c s = true) : ∃ r, s.data.toList = c :: r := by
  unfold headC at h
  split at h
  · cases h
  · rename_i x r hr
    rw [hr]
    exact ⟨r, by rw [of_decide_eq_true h]⟩
theorem headC_no {c : UInt8} {s : ByteArray} (h : headC c s = false) : s.data.toList.head? ≠ some c := by
  unfold headC at h
  split at h
  · rename_i hr; rw [hr]; simp
  · rename_i x r hr
    rw [hr]
    simpa using of_decide_eq_false h
theorem headC_empty {c : UInt8} {s : ByteArray} (h : s.size = 0) : headC c s = false := by
  have : s.data.toList = [] := List.eq_nil_of_length_eq_zero (by simpa using h)
  rw [headC, this]
theorem headC_cut {c : UInt8} {s : ByteArray} (h : 0 < s.size) : ((s.extract 0 1).toList == [c]) = headC c s := by
  have hl : s.data.toList ≠ [] := fun e => by
    have hz : s.data.toList.length = s.size := Array.length_toList
    rw [e] at hz
    simp only [List.length_nil] at hz
    omega
  rw [ByteArray.toList_eq, extract_eq, headC, List.drop_zero]
  match hq : s.data.toList, hl with
  | x :: r, _ =>
    by_cases q : x = c
    · simp [q]
    · simp [q]
theorem slice_first {P : Program} {t : TypeId} (h : P.underlying t = some .string) (s : ByteArray) (ha : 1 ≤ s.size) (w : World) :
    (Instr.slice t (.string s) none (some (.int .i64 1)) none).run P w = .ok (.string (s.extract 0 1)) w := by
  rw [run_slice_string_h w t s h .i64 1 (by omega) (by omega)]
  rfl

set_option maxRecDepth 1000000 in
theorem hasByte_any (c : UInt8) (s : ByteArray) (w : World) :
    Calls Tryz.prog 119 #[.string s, .string ⟨#[c]⟩] w fun e w' => e = .returned (.bool (headC c s)) ∧ w' = w := by
  by_cases h0 : 1 ≤ s.size
  · have h1 : 1 ≤ (s.size : Int) := by omega
    have hs := slice_first (P := Tryz.prog) Tryz.underlying9 s h0
    have hh := headC_cut (c := c) (s := s) (by omega)
    obtain ⟨T, hT⟩ : ∃ T, s.extract 0 1 = T := ⟨_, rfl⟩
    rw [hT] at hs hh
    clear hT
    go_enter Tryz.func119, Tryz.ntmps119
    go_wp2
    go_ret
    refine ⟨?_, rfl⟩
    first | rw [← hh]; rfl | simp [← hh]
  · have h1 : ¬ 1 ≤ (s.size : Int) := by omega
    have hr := headC_empty (c := c) (s := s) (by omega)
    go_enter Tryz.func119, Tryz.ntmps119
    go_wp2
    go_ret
    exact ⟨by first | rfl | (rw [hr]; rfl), rfl⟩

set_option maxRecDepth 1000000 in
theorem cutLite_yes (c : UInt8) (s : ByteArray) (h : headC c s = true) (w : World) :
    Calls Tryz.prog 113 #[.string s, .string ⟨#[c]⟩] w fun e w' => e = .returned (.tuple #[.string (s.extract 1 s.size), .bool true]) ∧ w' = w := by
  have hsz : 1 ≤ s.size := by
    rcases Nat.eq_zero_or_pos s.size with q | q
    · rw [headC_empty q] at h; cases h
    · omega
  have hs := slice_from (P := Tryz.prog) Tryz.underlying9 s 1 1 rfl hsz
  have cH := hid (fun w => hasByte_any c s w)
  rw [h] at cH
  obtain ⟨T, hT⟩ : ∃ T, s.extract 1 s.size = T := ⟨_, rfl⟩
  rw [hT] at hs ⊢
  clear hT h
  go_enter Tryz.func113, Tryz.ntmps113
  go_wp2_with fail
  refine (cH.out _).mono ?_
  rintro e w1 ⟨rfl, hw⟩
  rw [hw]
  clear hw w1 cH
  go_wp2
  go_ret2
  exact ⟨rfl, rfl⟩
set_option maxRecDepth 1000000 in
theorem cutLite_no (c : UInt8) (s : ByteArray) (h : headC c s = false) (w : World) :
    Calls Tryz.prog 113 #[.string s, .string ⟨#[c]⟩] w fun e w' => e = .returned (.tuple #[.string s, .bool false]) ∧ w' = w := by
  have cH := hid (fun w => hasByte_any c s w)
  rw [h] at cH
  clear h
  go_enter Tryz.func113, Tryz.ntmps113
  go_wp2_with fail
  refine (cH.out _).mono ?_
  rintro e w1 ⟨rfl, hw⟩
  rw [hw]
  clear hw w1 cH
  go_wp2
  go_ret2
  exact ⟨rfl, rfl⟩
set_option maxRecDepth 1000000 in
theorem cut_any (c : UInt8) (s : ByteArray) (w : World) :
    Calls Tryz.prog 110 #[.string s, .string ⟨#[c]⟩] w fun e w' => e = .returned (.tuple #[.string (if headC c s = true then s.extract 1 s.size else s), .bool (headC c s)]) ∧ w' = w := by
  cases h : headC c s with
  | true =>
    have cH := hid (fun w => cutLite_yes c s h w)
    clear h
    simp only [if_true]
    obtain ⟨T, hT⟩ : ∃ T, s.extract 1 s.size = T := ⟨_, rfl⟩
    rw [hT] at cH ⊢
    clear hT
    go_enter Tryz.func110, Tryz.ntmps110
    go_wp2_with fail
    refine (cH.out _).mono ?_
    rintro e w1 ⟨rfl, hw⟩
    rw [hw]
    clear hw w1 cH
    go_wp2
    go_ret2
    exact ⟨rfl, rfl⟩
  | false =>
    have cH := hid (fun w => cutLite_no c s h w)
    clear h
    simp only [Bool.false_eq_true, if_false]
    go_enter Tryz.func110, Tryz.ntmps110
    go_wp2_with fail
    refine (cH.out _).mono ?_
    rintro e w1 ⟨rfl, hw⟩
    rw [hw]
    clear hw w1 cH
    go_wp2
    go_ret2
    exact ⟨rfl, rfl⟩

/-- what impl.ReadDecimal answers at every text -/
theorem rdecI_all (s : ByteArray) (w : World) :
    Calls Tryz.prog 111 #[.string s] w fun e w' => (∃ x ok, e = .returned (.tuple #[.int .i64 x, .bool ok]) ∧ (ok = true → DecOk s.data.toList ∧ s.data.toList.length ≤ 10 ∧ x = num s.data.toList) ∧ (ok = false → ¬ (DecOk s.data.toList ∧ s.data.toList.length ≤ 10))) ∧ Below w.heap.size w w' := by
  have hl : s.data.toList.length = s.size := Array.length_toList
  by_cases h : s.size ≤ 10
  · refine (implReadDecimal_any s h w).mono ?_
    rintro e w' ⟨(⟨hd, he⟩ | ⟨hd, he⟩), hb⟩
    · exact ⟨⟨_, true, he, fun _ => ⟨hd, by omega, rfl⟩, fun q => by cases q⟩, hb⟩
    · exact ⟨⟨_, false, he, fun q => (by cases q), fun _ q => hd q.1⟩, hb⟩
  · refine (implReadDecimal_long s (by omega) w).mono ?_
    rintro e w' ⟨he, hb⟩
    exact ⟨⟨_, false, he, fun q => (by cases q), fun _ q => by omega⟩, hb⟩

/-- what a reader of names answers -/
def NameDid (o : Option Nat) (w : World) (e : Ending) (w' : World) : Prop := (∃ x, e = .returned (.tuple #[.int .i64 x, .bool o.isSome]) ∧ ∀ n, o = some n → x = n) ∧ Below w.heap.size w w'

set_option maxRecDepth 1000000 in
set_option maxHeartbeats 1000000 in
theorem numberInName_any (c : UInt8) (s : ByteArray) (lim : Nat) (hlim : lim ≤ 1000000000) (w : World) :
    Calls Tryz.prog 99 #[.string s, .string ⟨#[c]⟩, .int .i64 (lim : Int)] w fun e w' => NameDid (nameNum c lim s) w e w' := by
  have cC := hid (fun w => cut_any c s w)
  cases h : headC c s with
  | true =>
    obtain ⟨r, hr⟩ := headC_yes h
    rw [h] at cC
    simp only [if_true] at cC
    have hT : (s.extract 1 s.size).data.toList = r := by rw [tail_list, hr]; rfl
    obtain ⟨T, hTe⟩ : ∃ T, s.extract 1 s.size = T := ⟨_, rfl⟩
    rw [hTe] at cC hT
    clear hTe h
    go_enter Tryz.func99, Tryz.ntmps99
    go_wp2_with fail
    refine (cC.out _).mono ?_
    rintro e w1 ⟨rfl, hw⟩
    rw [hw]
    clear hw w1 cC
    go_wp2_with fail
    refine (rdecI_all T _).mono ?_
    rintro e w1 ⟨⟨x, ok, rfl, h1, h2⟩, b1⟩
    rw [hT] at h1 h2
    have B1 := hid b1
    clear b1 hT
    cases ok with
    | false =>
      have HN := hid (nameNum_figs hlim hr (fun q => h2 rfl ⟨q.1, q.2.2⟩))
      clear h1 h2 hr
      go_wp2
      go_ret2
      refine ⟨⟨x, by rw [HN.out]; rfl, fun n q => ?_⟩, B1.out⟩
      rw [HN.out] at q
      cases q
    | true =>
      obtain ⟨d1, d2, d3⟩ := h1 rfl
      clear h1 h2
      by_cases hx : x ≤ (lim : Int)
      · have HN := hid (nameNum_dec hr d1 (show num r ≤ lim by omega))
        have HX := hid d3
        have hxd := decide_eq_true hx
        clear d1 d2 d3 hr
        go_wp2
        go_ret2
        refine ⟨⟨x, by rw [HN.out]; rfl, fun n q => ?_⟩, B1.out⟩
        rw [HN.out] at q
        cases q
        exact HX.out
      · have HN := hid (nameNum_figs hlim hr (fun q => hx (by have := q.2.1; omega)))
        have hxd := decide_eq_false hx
        clear d1 d2 d3 hr
        go_wp2
        go_ret2
        refine ⟨⟨x, by rw [HN.out]; rfl, fun n q => ?_⟩, B1.out⟩
        rw [HN.out] at q
        cases q
  | false =>
    have HN := hid (nameNum_head hlim (headC_no h))
    rw [h] at cC
    simp only [Bool.false_eq_true, if_false] at cC
    clear h
    go_enter Tryz.func99, Tryz.ntmps99
    go_wp2_with fail
    refine (cC.out _).mono ?_
    rintro e w1 ⟨rfl, hw⟩
    rw [hw]
    clear hw w1 cC
    go_wp2_with fail
    refine (rdecI_all s _).mono ?_
    rintro e w1 ⟨⟨x, ok, rfl, _, _⟩, b1⟩
    have B1 := hid b1
    clear b1
    go_wp2
    go_ret2
    refine ⟨⟨x, by rw [HN.out]; rfl, fun n q => ?_⟩, B1.out⟩
    rw [HN.out] at q
    cases q
end Go.Proofs.YtoanhjjigbjecaaGreatDoor

namespace Go.Proofs.YtoanhjjigbjecaaGreatDoor
open Go.RowKit

set_option maxRecDepth 1000000 in
theorem indexIn_any (s : ByteArray) (w : World) : Calls Tryz.prog 72 #[.string s] w fun e w' => NameDid (nameNum 115 1000000 s) w e w' := by
  have C := hid (fun w => numberInName_any 115 s 1000000 (by omega) w)
  go_enter Tryz.func72, Tryz.ntmps72
  go_wp2_with fail
  refine (C.out _).mono ?_
  rintro e w1 ⟨⟨x, rfl, hx⟩, b1⟩
  have HX := hid hx
  have B1 := hid b1
  clear hx b1 C
  go_wp2
  go_ret2
  exact ⟨⟨x, rfl, HX.out⟩, B1.out⟩
end Go.Proofs.YtoanhjjigbjecaaGreatDoor
