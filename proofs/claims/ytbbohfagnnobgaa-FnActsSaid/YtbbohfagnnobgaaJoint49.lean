/-
  DoActs of spec and of impl in one form.
  The walk of impl.FileAt: what it answers.
-/
import Derived.Test.YtbbohfagnnobgaaJoint18
import Derived.Test.YtbbohfagnnobgaaJoint41
import Derived.Test.YtbbohfagnnobgaaJoint48
import Derived.Test.YtbbohfagnnobgaaJoint17
import Derived.Test.YtbbohfagnnobgaaJoint43
namespace Go.Proofs.Ytbbohfagnnobgaa
open Go.RowKit

theorem specDoActs_o (ao : Option Addr) (l : List FileD) (cap : Nat) (bo : Option Addr) (acts : List ActD) (bcap : Nat) (hl : l.length ≤ 1048576) (hal : acts.length ≤ 1048576) (ham : ActsSmall acts) (w : World) (ha : FilesAt w ao l) (hq : ActsAt w bo acts) :
    Calls Try.prog 12 #[.agg #[.slice ao l.length cap], .slice bo acts.length bcap] w fun e w' => ∃ va vc, e = .returned (.tuple #[.agg #[.slice va (doAll l acts).1.length vc], .int .i64 (doAll l acts).2]) ∧ OwnAt w' 77 (fileCells (doAll l acts).1) (doAll l acts).1.length va w.heap.size w'.heap.size ∧ Below w.heap.size w w' := by
  have h : Calls Try.prog 12 #[.agg #[.slice ao l.length cap], .slice bo acts.length bcap] w fun e w' => DidActs w l acts (fun W o va => OwnAt W 77 (fileCells o) o.length va w.heap.size W.heap.size) e w' := by
    rcases Nat.eq_zero_or_pos l.length with h0 | hpos
    · exact specDoActs_nil ao l cap bo acts bcap hl hal ham (List.length_eq_zero_iff.1 h0) w ha hq
    · exact specDoActs_any ao l cap bo acts bcap hl hal ham hpos w ha hq
  refine h.mono ?_
  rintro e w' ⟨i, o, va, vc, rfl, ⟨h1, h2, h3⟩, ho, hb⟩
  rw [doAll_eq h1 h2 h3]
  exact ⟨va, vc, rfl, ho, hb⟩
theorem implDoActs_o (ao : Option Addr) (l : List FileD) (cap : Nat) (bo : Option Addr) (acts : List ActD) (bcap : Nat) (hl : l.length ≤ 1048576) (hsm : ∀ f ∈ l, f.name.size ≤ 1048576 ∧ f.text.size ≤ 1048576) (hal : acts.length ≤ 1048576) (ham : ActsSmall acts) (w : World) (ha : FilesAt w ao l) (hq : ActsAt w bo acts) :
    Calls Try.prog 11 #[.agg #[.slice ao l.length cap], .slice bo acts.length bcap] w fun e w' => ∃ va vc, e = .returned (.tuple #[.agg #[.slice va (doAll l acts).1.length vc], .int .i64 (doAll l acts).2]) ∧ OwnAt w' 77 (fileCells (doAll l acts).1) (doAll l acts).1.length va w.heap.size w'.heap.size ∧ Below w.heap.size w w' := by
  have h : Calls Try.prog 11 #[.agg #[.slice ao l.length cap], .slice bo acts.length bcap] w fun e w' => DidActs w l acts (DoneAt w.heap.size) e w' := by
    cases hd : diskOk l with
    | true => exact implDoActs_yes ao l cap bo acts bcap hal ham hd w ha hq
    | false => exact implDoActs_no ao l cap bo acts bcap hl hsm hd w ha
  refine h.mono ?_
  rintro e w' ⟨i, o, va, vc, rfl, ⟨h1, h2, h3⟩, ho, hb⟩
  rw [doAll_eq h1 h2 h3]
  exact ⟨va, vc, rfl, ho, hb⟩
end Go.Proofs.Ytbbohfagnnobgaa

namespace Go.Proofs.Ytbbohfagnnobgaa
open Go.RowKit

set_option maxRecDepth 1000000 in
set_option maxHeartbeats 1000000 in
theorem implFileAt_any (ao : Option Addr) (l : List FileD) (cap : Nat) (name : ByteArray) (hl : l.length ≤ 1048576) (ht : ∀ f ∈ l, f.text.size ≤ 1048576) (w : World) (ha : FilesAt w ao l) :
    Calls Try.prog 15 #[.agg #[.slice ao l.length cap], .string name] w fun e w' => ((∃ (k : Nat) (hk : k < l.length), FirstAt l name k ∧ e = .returned (.tuple #[.string l[k].text, .bool true])) ∨ (NoneAt l name ∧ e = .returned (.tuple #[.string ByteArray.empty, .bool false]))) ∧ Below w.heap.size w w' := by
  have HA := hid ha
  have HT := hid ht
  have HB := hid (below_more (Below.refl w.heap.size w) (.cells #[.slice ao l.length cap] 26))
  clear ha ht
  go_enter Try.func15, Try.ntmps15
  go_wp2
  go_loopg [7, 11] l.length (fun q _ i wr => ∃ (k : Nat), k + q = l.length ∧ i = .int .i64 k ∧ Hid (Below w.heap.size w wr) ∧ Hid (∀ j (hj : j < l.length), j < k → l[j].name ≠ name))
  case atStart => exact ⟨0, by omega, rfl, HB, fun j hj h => by omega⟩
  case round =>
    obtain ⟨k, hkg, rfl, BR, HN⟩ := hrel
    clear HB
    cases gk with
    | zero =>
      have hlt : ¬ (k : Int) < (l.length : Int) := by omega
      go_wp2
      go_ret2
      exact ⟨Or.inr ⟨fun j hj => HN.out j hj (by omega), rfl⟩, BR.out⟩
    | succ q =>
      have hlt : k < l.length := by omega
      have hlt' : (k : Int) < (l.length : Int) := by omega
      have hne : l ≠ [] := by intro e; rw [e] at hlt; simp at hlt
      obtain ⟨b, off, rfl, hc⟩ := HA.out.on BR.out hne
      obtain ⟨x0, x1, x2⟩ := hc k hlt
      clear hc
      have BA := hid (below_more BR.out (.cells #[.string l[k].name, .string l[k].text, .int .i64 l[k].kept] 77))
      by_cases he : l[k].name = name
      · have he' : (l[k].name.toList == name.toList) = true := by rw [he]; simp
        have HE := hid he
        have C := hid (fun w => clone_any l[k].text (by have := HT.out l[k] (List.getElem_mem hlt); omega) w)
        clear he
        go_wp2_with fail
        refine (C.out _).mono ?_
        rintro e w1 ⟨rfl, b1⟩
        have B1 := hid (below_via BA.out b1)
        clear b1 C x0 x1 x2
        go_wp2
        go_ret2
        exact ⟨Or.inl ⟨k, hlt, ⟨hlt, HE.out, fun j hj => HN.out j (by omega) hj⟩, rfl⟩, B1.out⟩
      · have he' : (l[k].name.toList == name.toList) = false := beq_eq_false_iff_ne.2 fun h => he (text_eq h)
        have HE := hid he
        clear he
        go_wp2
        go_roundg q
        case measure => omega
        case rel =>
          refine ⟨k + 1, by omega, by go_num, BA, fun j hj h => ?_⟩
          rcases Nat.lt_or_ge j k with q | q
          · exact HN.out j hj q
          · obtain rfl : j = k := by omega
            exact HE.out
end Go.Proofs.Ytbbohfagnnobgaa
