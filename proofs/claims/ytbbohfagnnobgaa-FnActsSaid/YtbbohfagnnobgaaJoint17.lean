/-
  The walk of spec.l03At: where the first file of a name is.
-/
import Derived.Test.YtbbohfagnnobgaaJoint1
import Derived.Laws.Cover1
namespace Go.Proofs.Ytbbohfagnnobgaa
open Go.RowKit

/-- the first file of a name -/
def FirstAt (l : List FileD) (name : ByteArray) (k : Nat) : Prop := ∃ hk : k < l.length, l[k].name = name ∧ ∀ j (hj : j < k), l[j].name ≠ name
def NoneAt (l : List FileD) (name : ByteArray) : Prop := ∀ j (hj : j < l.length), l[j].name ≠ name

/-- what FileAt answers -/
def FileAns (l : List FileD) (name T : ByteArray) (ok : Bool) : Prop :=
  (∃ (k : Nat) (hk : k < l.length), FirstAt l name k ∧ T = l[k].text ∧ ok = true) ∨ (NoneAt l name ∧ T = ByteArray.empty ∧ ok = false)
theorem FirstAt.same {l : List FileD} {name : ByteArray} {j k : Nat} (h : FirstAt l name j) (h2 : FirstAt l name k) : j = k := by
  obtain ⟨a, b, c⟩ := h
  obtain ⟨a2, b2, c2⟩ := h2
  rcases Nat.lt_trichotomy j k with q | q | q
  · exact absurd b (c2 j q)
  · exact q
  · exact absurd b2 (c k q)
theorem FileAns.same {l : List FileD} {name T T' : ByteArray} {ok ok' : Bool} (h : FileAns l name T ok) (h2 : FileAns l name T' ok') : T = T' ∧ ok = ok' := by
  rcases h with ⟨k, hk, f, rfl, rfl⟩ | ⟨n, rfl, rfl⟩
  · rcases h2 with ⟨k2, hk2, f2, rfl, rfl⟩ | ⟨n2, rfl, rfl⟩
    · have := f.same f2
      subst this
      exact ⟨rfl, rfl⟩
    · exact absurd f.2.1 (n2 k hk)
  · rcases h2 with ⟨k2, hk2, f2, rfl, rfl⟩ | ⟨n2, rfl, rfl⟩
    · exact absurd f2.2.1 (n k2 hk2)
    · exact ⟨rfl, rfl⟩

theorem text_eq {s t : ByteArray} (h : s.toList = t.toList) : s = t := by
  rw [ByteArray.toList_eq, ByteArray.toList_eq] at h
  exact ByteArray.ext (Array.toList_inj.1 h)

set_option maxRecDepth 1000000 in
set_option maxHeartbeats 1000000 in
theorem l03At_any (ao : Option Addr) (l : List FileD) (cap : Nat) (name : ByteArray) (hl : l.length ≤ 1048576) (w : World) (ha : FilesAt w ao l) :
    Calls Try.prog 54 #[.agg #[.slice ao l.length cap], .string name] w fun e w' => ((∃ k : Nat, FirstAt l name k ∧ e = .returned (.int .i64 k)) ∨ (NoneAt l name ∧ e = .returned (.int .i64 (-1)))) ∧ Below w.heap.size w w' := by
  have HA := hid ha
  have HB := hid (below_more (Below.refl w.heap.size w) (.cells #[.slice ao l.length cap] 26))
  have HX := (show Hid (BlockIs (w.alloc (.cells #[.slice ao l.length cap] 26)) w.heap.size 26 [.slice ao l.length cap]) from heap_alloc_new w _)
  have c0 := HX.out.cell (j := 0) rfl
  clear ha
  obtain ⟨W, hW⟩ : ∃ W, w.alloc (.cells #[.slice ao l.length cap] 26) = W := ⟨_, rfl⟩
  rw [hW] at HB HX c0
  go_enter Try.func54, Try.ntmps54
  go_wp2
  clear hW
  go_loopg [5] l.length (fun q i wr => wr = W ∧ ∃ (k : Nat), k + q = l.length ∧ i = .int .i64 k ∧ Hid (∀ j (hj : j < l.length), j < k → l[j].name ≠ name))
  case atStart => exact ⟨rfl, 0, by omega, rfl, fun j hj h => by omega⟩
  case round =>
    obtain ⟨rfl, k, hkg, rfl, HN⟩ := hrel
    cases gk with
    | zero =>
      have hlt : ¬ (k : Int) < (l.length : Int) := by omega
      go_wp2
      go_ret
      exact ⟨Or.inr ⟨fun j hj => HN.out j hj (by omega), rfl⟩, HB.out⟩
    | succ q =>
      have hlt : k < l.length := by omega
      have hlt' : (k : Int) < (l.length : Int) := by omega
      have hne : l ≠ [] := by intro e; rw [e] at hlt; simp at hlt
      obtain ⟨b, off, rfl, hc⟩ := HA.out.on HB.out hne
      obtain ⟨x0, x1, x2⟩ := hc k hlt
      clear hc x1 x2
      by_cases he : l[k].name = name
      · have he' : (l[k].name.toList == name.toList) = true := by rw [he]; simp
        have HE := hid he
        clear he
        go_wp2
        go_ret
        exact ⟨Or.inl ⟨k, ⟨hlt, HE.out, fun j hj => HN.out j (by omega) hj⟩, rfl⟩, HB.out⟩
      · have he' : (l[k].name.toList == name.toList) = false := beq_eq_false_iff_ne.2 fun h => he (text_eq h)
        have HE := hid he
        clear he
        go_wp2
        go_roundg q
        case measure => omega
        case rel =>
          refine ⟨rfl, k + 1, by omega, by go_num, fun j hj h => ?_⟩
          rcases Nat.lt_or_ge j k with q | q
          · exact HN.out j hj q
          · obtain rfl : j = k := by omega
            exact HE.out
end Go.Proofs.Ytbbohfagnnobgaa
