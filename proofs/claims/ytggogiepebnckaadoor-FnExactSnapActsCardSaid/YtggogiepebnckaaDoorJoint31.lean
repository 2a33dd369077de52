/-
  The walks of spec.l03Name, spec.DiskOk: what they answer.
  The walk of spec.l03At: where the first file of a name is.
  The walk of spec.ReadDecimal: what it answers.
-/
import Derived.Test.YtggogiepebnckaaDoorJoint1
import Derived.Test.YtggogiepebnckaaDoorJoint21
import Derived.Deep.QuietTactic
import Derived.Laws.Cover1
import Derived.Test.YtggogiepebnckaaDoorJoint29
import Derived.WalkKit
namespace Go.Proofs.YtggogiepebnckaaDoor
open Go.RowKit

theorem l03Name_any (s : ByteArray) (w : World) :
    Calls Tryd.prog 76 #[.string s] w fun e w' => e = .returned (.bool (nameOk s)) ∧ w' = w := by
  have C := (show Hid _ from l01In_any s.size 1 8 w)
  go_enter Tryd.func76, Tryd.ntmps76
  go_wp2_with fail
  refine Calls.mono C.out ?_
  rintro e w1 ⟨rfl, hw⟩
  rw [hw]
  go_wp2
  go_ret
  exact ⟨rfl, rfl⟩

set_option maxRecDepth 1000000 in
set_option maxHeartbeats 1000000 in
theorem specDiskOk_any (ao : Option Addr) (l : List FileD) (cap : Nat) (hl : l.length ≤ 16777216) (w : World) (ha : FilesAt w ao l) :
    Calls Tryd.prog 38 #[.agg #[.slice ao l.length cap]] w fun e w' => e = .returned (.bool (diskOk l)) ∧ Below w.heap.size w w' := by
  have HA := (show Hid (FilesAt w ao l) from ha)
  clear ha
  by_cases h30 : (30 : Int) < (l.length : Int)
  · have hr : Hid (diskOk l = false) := by show _ = _; unfold diskOk; simp; omega
    go_enter Tryd.func38, Tryd.ntmps38
    go_wp2
    go_ret
    exact ⟨by rw [hr.out]; rfl, below_more (Below.refl _ w) _⟩
  · have HB := (show Hid _ from below_more (Below.refl w.heap.size w) (.cells #[.slice ao l.length cap] 37))
    have HX := (show Hid (BlockIs (w.alloc (.cells #[.slice ao l.length cap] 37)) w.heap.size 37 [.slice ao l.length cap]) from heap_alloc_new w _)
    go_enter Tryd.func38, Tryd.ntmps38
    go_wp2
    go_loopg [3, 4] l.length (fun g i _ wr => ∃ (k : Nat), k + g = l.length ∧ i = .int .i64 k ∧ Hid (Below w.heap.size w wr) ∧ Hid (BlockIs wr w.heap.size 37 [.slice ao l.length cap]) ∧ Hid (rightTo l k = true))
    case atStart => exact ⟨0, by omega, rfl, HB, HX, rfl⟩
    case round =>
      obtain ⟨k, hkg, rfl, BR, XR, RT⟩ := hrel
      clear HB HX
      have c0 := XR.out.cell (j := 0) rfl
      cases gk with
      | zero =>
        have hlt : ¬ (k : Int) < (l.length : Int) := by omega
        have hr : Hid (diskOk l = true) := by show _ = _; exact diskOk_of (by omega) (by rw [← RT.out, show k = l.length by omega])
        go_wp2
        go_ret
        exact ⟨by rw [hr.out]; rfl, BR.out⟩
      | succ g =>
        have hlt : k < l.length := by omega
        have hlt' : (k : Int) < (l.length : Int) := by omega
        have hne : l ≠ [] := by intro e; rw [e] at hlt; simp at hlt
        obtain ⟨b, off, rfl, hc⟩ := HA.out.on BR.out hne
        obtain ⟨x0, x1, x2⟩ := hc k hlt
        have hcc := hc
        clear hc
        have HC := (show Hid _ from hcc)
        clear hcc
        go_wp2
        generalize hW2 : wr.alloc (.cells #[.string l[k].name, .string l[k].text, .int .i64 l[k].kept] 72) = W2
        have hb2 : Below wr.heap.size wr W2 := by rw [← hW2]; exact below_more (Below.refl _ wr) _
        have hx2 : BlockIs W2 wr.heap.size 72 [.string l[k].name, .string l[k].text, .int .i64 l[k].kept] := by rw [← hW2]; exact heap_alloc_new wr _
        have n0 := hx2.cell (j := 0) rfl
        have n1 := hx2.cell (j := 1) rfl
        have n2 := hx2.cell (j := 2) rfl
        have XW := XR.out.on hb2 XR.out.lt
        have d0 := XW.cell (j := 0) rfl
        have B2 := (show Hid (Below w.heap.size w W2) from below_via BR.out hb2)
        have X2 := (show Hid _ from XW)
        have cN' := fun w => l03Name_any l[k].name w
        have cK' := fun w => l01In_any l[k].kept 0 l[k].text.size w
        clear hW2 hx2 c0 x0 x1 x2 XW
        cases hA : nameOk l[k].name with
        | false =>
          have hr : Hid (diskOk l = false) := not_diskOk hlt (by simp [fileOk, hA])
          rw [hA] at cN'
          have cN := (show Hid _ from cN')
          clear cN' cK' hA
          go_quiet (first | (go_at_call 76; refine Calls.quiet_of_same (cN.out _)) | fail)
          go_wp2
          go_ret
          exact ⟨by rw [hr.out]; rfl, below_drewN B2.out _⟩
        | true =>
          rw [hA] at cN'
          have cN := (show Hid _ from cN')
          clear cN'
          by_cases hB : (20000 : Int) < (l[k].text.size : Int)
          · have hF : ¬ l[k].text.size ≤ 20000 := by omega
            have hr : Hid (diskOk l = false) := not_diskOk hlt (by simp [fileOk, hF])
            clear hA cK'
            go_quiet (first | (go_at_call 76; refine Calls.quiet_of_same (cN.out _)) | fail)
            go_wp2
            go_ret
            exact ⟨by rw [hr.out]; rfl, below_drewN B2.out _⟩
          · have hB' : decide ((20000 : Int) < (l[k].text.size : Int)) = false := by simpa using hB
            cases hK : within l[k].kept 0 l[k].text.size with
            | false =>
              have hr : Hid (diskOk l = false) := not_diskOk hlt (by simp [fileOk, hK])
              rw [hK] at cK'
              have cK := (show Hid _ from cK')
              clear cK' hK hA
              go_quiet (first | (go_at_call 76; refine Calls.quiet_of_same (cN.out _)) | (go_at_call 65; refine Calls.quiet_of_same (cK.out _)) | fail)
              go_wp2
              go_ret
              exact ⟨by rw [hr.out]; rfl, below_drewN B2.out _⟩
            | true =>
              rw [hK] at cK'
              have cK := (show Hid _ from cK')
              clear cK'
              cases k with
              | zero =>
                have hF : l[0].text.size ≤ 20000 := by omega
                have HR : Hid (rightTo l 1 = true) := by show _ = _; rw [rightTo_step hlt]; simp [rightTo, fileOk, behind, hA, hK, hF]
                clear hK hA
                go_quiet (first | (go_at_call 76; refine Calls.quiet_of_same (cN.out _)) | (go_at_call 65; refine Calls.quiet_of_same (cK.out _)) | fail)
                go_wp2
                go_roundg g
                case measure => omega
                case rel => exact ⟨1, by omega, by go_num, below_drewN B2.out _, X2, HR⟩
              | succ j =>
                have hj : j < l.length := by omega
                have p0 : W2.cell? ⟨b, off + j * 3, none⟩ = some (.string l[j].name) := (hb2.cell (p := ⟨b, off + j * 3, none⟩) (World.block_lt_of_cell? wr _ (HC.out j hj).1)).trans (HC.out j hj).1
                have hpos : (0 : Int) < (((j + 1 : Nat)) : Int) := by omega
                have hsub : (((j + 1 : Nat)) : Int) - 1 = (j : Int) := by omega
                have hjl : (j : Int) < (l.length : Int) := by omega
                have hwj : IntKind.i64.wrap (j : Int) = (j : Int) := by rw [IntKind.wrap_i64]; omega
                cases hL : textLt l[j].name l[j + 1].name with
                | false =>
                  have hr : Hid (diskOk l = false) := not_diskOk hlt (by rw [behind_step hlt, hL]; simp)
                  have hL' : Op.bytesLess l[j].name.toList l[j + 1].name.toList = false := hL
                  clear hK hA hL
                  go_quiet (first | (go_at_call 76; refine Calls.quiet_of_same (cN.out _)) | (go_at_call 65; refine Calls.quiet_of_same (cK.out _)) | fail)
                  go_wp2
                  go_ret
                  exact ⟨by rw [hr.out]; rfl, below_drewN B2.out _⟩
                | true =>
                  have hF : l[j + 1].text.size ≤ 20000 := by omega
                  have HR : Hid (rightTo l (j + 1 + 1) = true) := by show _ = _; rw [rightTo_step hlt, RT.out, behind_step hlt, hL]; simp [fileOk, hA, hK, hF]
                  have hL' : Op.bytesLess l[j].name.toList l[j + 1].name.toList = true := hL
                  clear hK hA hL
                  go_quiet (first | (go_at_call 76; refine Calls.quiet_of_same (cN.out _)) | (go_at_call 65; refine Calls.quiet_of_same (cK.out _)) | fail)
                  go_wp2
                  go_roundg g
                  case measure => omega
                  case rel => exact ⟨j + 1 + 1, by omega, by go_num, below_drewN B2.out _, X2, HR⟩
end Go.Proofs.YtggogiepebnckaaDoor

namespace Go.Proofs.YtggogiepebnckaaDoor
open Go.RowKit

/-- the first file of a name -/
def FirstAt (l : List FileD) (name : ByteArray) (k : Nat) : Prop := ∃ hk : k < l.length, l[k].name = name ∧ ∀ j (hj : j < k), l[j].name ≠ name
def NoneAt (l : List FileD) (name : ByteArray) : Prop := ∀ j (hj : j < l.length), l[j].name ≠ name

/-- what FileAt answers -/
def FileAns (l : List FileD) (name T : ByteArray) (ok : Bool) : Prop :=
  (∃ (k : Nat) (hk : k < l.length), FirstAt l name k ∧ T = l[k].text ∧ ok = true) ∨ (NoneAt l name ∧ T = ByteArray.empty ∧ ok = false)
theorem FirstAt.same {l : List FileD} {name : ByteArray} {j k : Nat} (h : FirstAt l name j) (h2 : FirstAt l name k) : j = k := by
  obtain ⟨a, b, c⟩ := h
  obtain ⟨a2, b2, c2⟩ := h2
  rcases Nat.lt_trichotomy j k with q | q | q
  · exact absurd b (c2 j q)
  · exact q
  · exact absurd b2 (c k q)
theorem FileAns.same {l : List FileD} {name T T' : ByteArray} {ok ok' : Bool} (h : FileAns l name T ok) (h2 : FileAns l name T' ok') : T = T' ∧ ok = ok' := by
  rcases h with ⟨k, hk, f, rfl, rfl⟩ | ⟨n, rfl, rfl⟩
  · rcases h2 with ⟨k2, hk2, f2, rfl, rfl⟩ | ⟨n2, rfl, rfl⟩
    · have := f.same f2
      subst this
      exact ⟨rfl, rfl⟩
    · exact absurd f.2.1 (n2 k hk)
  · rcases h2 with ⟨k2, hk2, f2, rfl, rfl⟩ | ⟨n2, rfl, rfl⟩
    · exact absurd f2.2.1 (n k2 hk2)
    · exact ⟨rfl, rfl⟩

theorem text_eq {s t : ByteArray} (h : s.toList = t.toList) : s = t := by
  rw [ByteArray.toList_eq, ByteArray.toList_eq] at h
  exact ByteArray.ext (Array.toList_inj.1 h)

set_option maxRecDepth 1000000 in
set_option maxHeartbeats 1000000 in
theorem l03At_any (ao : Option Addr) (l : List FileD) (cap : Nat) (name : ByteArray) (hl : l.length ≤ 1048576) (w : World) (ha : FilesAt w ao l) :
    Calls Tryd.prog 82 #[.agg #[.slice ao l.length cap], .string name] w fun e w' => ((∃ k : Nat, FirstAt l name k ∧ e = .returned (.int .i64 k)) ∨ (NoneAt l name ∧ e = .returned (.int .i64 (-1)))) ∧ Below w.heap.size w w' := by
  have HA := hid ha
  have HB := hid (below_more (Below.refl w.heap.size w) (.cells #[.slice ao l.length cap] 37))
  have HX := (show Hid (BlockIs (w.alloc (.cells #[.slice ao l.length cap] 37)) w.heap.size 37 [.slice ao l.length cap]) from heap_alloc_new w _)
  have c0 := HX.out.cell (j := 0) rfl
  clear ha
  obtain ⟨W, hW⟩ : ∃ W, w.alloc (.cells #[.slice ao l.length cap] 37) = W := ⟨_, rfl⟩
  rw [hW] at HB HX c0
  go_enter Tryd.func82, Tryd.ntmps82
  go_wp2
  clear hW
  go_loopg [5] l.length (fun q i wr => wr = W ∧ ∃ (k : Nat), k + q = l.length ∧ i = .int .i64 k ∧ Hid (∀ j (hj : j < l.length), j < k → l[j].name ≠ name))
  case atStart => exact ⟨rfl, 0, by omega, rfl, fun j hj h => by omega⟩
  case round =>
    obtain ⟨rfl, k, hkg, rfl, HN⟩ := hrel
    cases gk with
    | zero =>
      have hlt : ¬ (k : Int) < (l.length : Int) := by omega
      go_wp2
      go_ret
      exact ⟨Or.inr ⟨fun j hj => HN.out j hj (by omega), rfl⟩, HB.out⟩
    | succ q =>
      have hlt : k < l.length := by omega
      have hlt' : (k : Int) < (l.length : Int) := by omega
      have hne : l ≠ [] := by intro e; rw [e] at hlt; simp at hlt
      obtain ⟨b, off, rfl, hc⟩ := HA.out.on HB.out hne
      obtain ⟨x0, x1, x2⟩ := hc k hlt
      clear hc x1 x2
      by_cases he : l[k].name = name
      · have he' : (l[k].name.toList == name.toList) = true := by rw [he]; simp
        have HE := hid he
        clear he
        go_wp2
        go_ret
        exact ⟨Or.inl ⟨k, ⟨hlt, HE.out, fun j hj => HN.out j (by omega) hj⟩, rfl⟩, HB.out⟩
      · have he' : (l[k].name.toList == name.toList) = false := beq_eq_false_iff_ne.2 fun h => he (text_eq h)
        have HE := hid he
        clear he
        go_wp2
        go_roundg q
        case measure => omega
        case rel =>
          refine ⟨rfl, k + 1, by omega, by go_num, fun j hj h => ?_⟩
          rcases Nat.lt_or_ge j k with q | q
          · exact HN.out j hj q
          · obtain rfl : j = k := by omega
            exact HE.out
end Go.Proofs.YtggogiepebnckaaDoor

namespace Go.Proofs.YtggogiepebnckaaDoor
open Go.RowKit

set_option maxRecDepth 1000000 in
set_option maxHeartbeats 1000000 in
theorem specReadDecimal_any (s : ByteArray) (hs : s.size ≤ 10) (w : World) :
    Calls Tryd.prog 77 #[.string s] w fun e w' =>
      ((DecOk s.data.toList ∧ e = .returned (.tuple #[.int .i64 (num s.data.toList), .bool true])) ∨ (¬ DecOk s.data.toList ∧ e = .returned (.tuple #[.int .i64 0, .bool false]))) ∧ Below w.heap.size w w' := by
  have hs' : ¬ (10 : Int) < (s.size : Int) := by omega
  go_enter Tryd.func77, Tryd.ntmps77
  go_wp2
  go_loop [4, 5] (fun x i => ∃ (k : Nat), k ≤ s.size ∧ i = .int .i64 k ∧ x = .int .i64 (num (s.data.toList.take k)) ∧ Digits (s.data.toList.take k)) (fun _ i => s.size - (intOf i).toNat)
  case atStart => exact ⟨0, Nat.zero_le _, rfl, rfl, by simp [Digits]⟩
  case round =>
    obtain ⟨k, hk, rfl, rfl, hD⟩ := hrel
    have hnl := num_lt k (s.data.toList.take k) (take_len s k hk) hD
    have hn10 : num (s.data.toList.take k) < 10000000000 := Nat.lt_of_lt_of_le hnl (Nat.pow_le_pow_right (by omega) (Nat.le_trans hk hs))
    clear hnl
    have HD := (show Hid _ from hD)
    clear hD
    by_cases hlt : k < s.size
    · have c0 : (s[k].toNat : Int) ≤ 255 := by have := s[k].toNat_lt; omega
      by_cases h1 : (s[k].toNat : Int) < 48
      · go_wp2
        go_ret2
        exact ⟨Or.inr ⟨digits_at hlt (by omega), rfl⟩, Below.refl _ _⟩
      · by_cases h2 : 57 < (s[k].toNat : Int)
        · go_wp2
          go_ret2
          exact ⟨Or.inr ⟨digits_at hlt (by omega), rfl⟩, Below.refl _ _⟩
        · have HN := (show Hid _ from num_step hlt (by omega))
          have HD2 : Hid (Digits (s.data.toList.take (k + 1))) := by
            rw [take_snoc s k hlt]
            exact Digits.snoc HD.out (by omega)
          go_wp2
          go_round
          case rel => exact ⟨k + 1, by omega, by go_num, by rw [HN.out], HD2.out⟩
          case measure => simp [intOf]; omega
    · have e : Hid (s.data.toList.take k = s.data.toList) := List.take_of_length_le (by simp; omega)
      have HD3 : Hid (Digits s.data.toList) := by have := HD.out; rw [e.out] at this; exact this
      rw [e.out] at hn10
      obtain ⟨N, hN⟩ : ∃ N, N = num s.data.toList := ⟨_, rfl⟩
      have hNe : num (s.data.toList.take k) = N := by rw [e.out, hN]
      rw [hNe]
      rw [← hN] at hn10
      have HN := (show Hid _ from hN)
      clear hN hNe e
      by_cases hbig : 1000000000 < (N : Int)
      · go_wp2
        go_ret2
        exact ⟨Or.inr ⟨fun h => by have := h.2.1; have := HN.out; omega, rfl⟩, Below.refl _ _⟩
      · have HC := (show Hid _ from specDecimal_nat N (by omega))
        go_wp2_with (go_at_call 84; refine (HC.out _).mono ?_; rintro e w' ⟨rfl, hb⟩)
        · have hne : (!dec ↑N == s.toList) = true := by assumption
          have hno : ¬ DecOk s.data.toList := by
            intro h
            have h1 := (dec_num _ h.1).2 h.2.2
            rw [← HN.out] at h1
            have h2 := same_dec.2 h1
            rw [hne] at h2
            cases h2
          go_ret2
          exact ⟨Or.inr ⟨hno, rfl⟩, hb⟩
        · have hne : (!dec ↑N == s.toList) = false := by assumption
          have hyes : DecOk s.data.toList := by
            have h1 := same_dec.1 hne
            have h2 := HN.out
            rw [h2] at h1
            exact ⟨HD3.out, by omega, (dec_num _ HD3.out).1 h1⟩
          go_ret2
          exact ⟨Or.inl ⟨hyes, ret_num HN.out⟩, hb⟩

theorem specReadDecimal_long (s : ByteArray) (hs : 10 < s.size) (w : World) :
    Calls Tryd.prog 77 #[.string s] w fun e w' => e = .returned (.tuple #[.int .i64 0, .bool false]) ∧ Below w.heap.size w w' := by
  go_enter Tryd.func77, Tryd.ntmps77
  go_wp2
  go_ret2
  exact ⟨rfl, Below.refl _ _⟩
end Go.Proofs.YtggogiepebnckaaDoor
