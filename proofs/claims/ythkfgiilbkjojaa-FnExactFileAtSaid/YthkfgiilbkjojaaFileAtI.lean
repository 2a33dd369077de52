/-
  The walk of impl.FileAt: what it answers.
-/
import Derived.Test.YthkfgiilbkjojaaAtS
import Derived.Test.YthkfgiilbkjojaaClone
namespace Go.Proofs.Ythkfgiilbkjojaa
open Go.RowKit

set_option maxRecDepth 1000000 in
set_option maxHeartbeats 1000000 in
theorem implFileAt_any (ao : Option Addr) (l : List FileD) (cap : Nat) (name : ByteArray) (hl : l.length ≤ 1048576) (ht : ∀ f ∈ l, f.text.size ≤ 1048576) (w : World) (ha : FilesAt w ao l) :
    Calls Try.prog 22 #[.agg #[.slice ao l.length cap], .string name] w fun e w' => ((∃ (k : Nat) (hk : k < l.length), FirstAt l name k ∧ e = .returned (.tuple #[.string l[k].text, .bool true])) ∨ (NoneAt l name ∧ e = .returned (.tuple #[.string ByteArray.empty, .bool false]))) ∧ Below w.heap.size w w' := by
  have HA := hid ha
  have HT := hid ht
  have HB := hid (below_more (Below.refl w.heap.size w) (.cells #[.slice ao l.length cap] 26))
  clear ha ht
  go_enter Try.func22, Try.ntmps22
  go_wp2
  go_loopg [7, 11] l.length (fun q _ i wr => ∃ (k : Nat), k + q = l.length ∧ i = .int .i64 k ∧ Hid (Below w.heap.size w wr) ∧ Hid (∀ j (hj : j < l.length), j < k → l[j].name ≠ name))
  case atStart => exact ⟨0, by omega, rfl, HB, fun j hj h => by omega⟩
  case round =>
    obtain ⟨k, hkg, rfl, BR, HN⟩ := hrel
    clear HB
    cases gk with
    | zero =>
      have hlt : ¬ (k : Int) < (l.length : Int) := by omega
      go_wp2
      go_ret2
      exact ⟨Or.inr ⟨fun j hj => HN.out j hj (by omega), rfl⟩, BR.out⟩
    | succ q =>
      have hlt : k < l.length := by omega
      have hlt' : (k : Int) < (l.length : Int) := by omega
      have hne : l ≠ [] := by intro e; rw [e] at hlt; simp at hlt
      obtain ⟨b, off, rfl, hc⟩ := HA.out.on BR.out hne
      obtain ⟨x0, x1, x2⟩ := hc k hlt
      clear hc
      have BA := hid (below_more BR.out (.cells #[.string l[k].name, .string l[k].text, .int .i64 l[k].kept] 36))
      by_cases he : l[k].name = name
      · have he' : (l[k].name.toList == name.toList) = true := by rw [he]; simp
        have HE := hid he
        have C := hid (fun w => clone_any l[k].text (by have := HT.out l[k] (List.getElem_mem hlt); omega) w)
        clear he
        go_wp2_with fail
        refine (C.out _).mono ?_
        rintro e w1 ⟨rfl, b1⟩
        have B1 := hid (below_via BA.out b1)
        clear b1 C x0 x1 x2
        go_wp2
        go_ret2
        exact ⟨Or.inl ⟨k, hlt, ⟨hlt, HE.out, fun j hj => HN.out j (by omega) hj⟩, rfl⟩, B1.out⟩
      · have he' : (l[k].name.toList == name.toList) = false := beq_eq_false_iff_ne.2 fun h => he (text_eq h)
        have HE := hid he
        clear he
        go_wp2
        go_roundg q
        case measure => omega
        case rel =>
          refine ⟨k + 1, by omega, by go_num, BA, fun j hj h => ?_⟩
          rcases Nat.lt_or_ge j k with q | q
          · exact HN.out j hj q
          · obtain rfl : j = k := by omega
            exact HE.out
end Go.Proofs.Ythkfgiilbkjojaa
