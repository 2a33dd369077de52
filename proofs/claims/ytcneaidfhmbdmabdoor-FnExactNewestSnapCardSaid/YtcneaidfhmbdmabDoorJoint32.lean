/-
  The walk of impl.figureValues: what it answers.
-/
import Derived.Test.YtcneaidfhmbdmabDoorRows
import Derived.Test.YtcneaidfhmbdmabDoorJoint1
import Derived.BigQuiet
import Derived.Deep.LoopGhost
import Derived.WalkSmall
import Derived.WalkKit
namespace Go.Proofs.YtcneaidfhmbdmabDoor
open Go.RowKit

theorem figv_info3 : (Tryd.prog.info? 3).map (fun i => (i.zero, i.size, i.bytes)) = some (some (.int .i64 0), 1, 8) := by kernel_rfl

theorem figs3 : ∀ n : Fin 16, (((ByteArray.mk #[48, 49, 50, 51, 52, 53, 54, 55, 56, 57, 97, 98, 99, 100, 101, 102])[n.val]'(by have := n.isLt; simp [ByteArray.size])).toNat : Int) = fig (n.val : Int) := by decide

theorem const_nat (n : Nat) (h1 : n < 16) (wx : World) :
    (Instr.index 9 (.string ⟨#[48, 49, 50, 51, 52, 53, 54, 55, 56, 57, 97, 98, 99, 100, 101, 102]⟩) (.int .i64 n)).run Tryd.prog wx = .ok (.int .u8 (fig n)) wx := by
  rw [run_index_string wx 9 _ .i64 n Tryd.underlying9, dif_pos (by simp [ByteArray.size]; omega)]
  have h := figs3 ⟨n, h1⟩
  simp only [Int.toNat_natCast] at h ⊢
  rw [h]

attribute [local go_sem ↓] const_nat

set_option maxRecDepth 1000000 in
set_option maxHeartbeats 1000000 in
theorem figureValues_any (s : ByteArray) (b : Nat) (hb16 : b ≤ 16) (hs : s.size ≤ 40000) (w : World) :
    Calls Tryd.prog 85 #[.string s, .int .i64 b] w fun e w' =>
      (Figs b s.data.toList ∧ ∃ v, e = .returned (.tuple #[v, .bool true]) ∧ w'.ownsRow w.heap.size 3 1 v s.size (ns (lvs s.data.toList)) ∧ Below w.heap.size w w') ∨
      (¬ Figs b s.data.toList ∧ e = .returned (.tuple #[.slice none 0 0, .bool false]) ∧ Below w.heap.size w w') := by
  obtain ⟨i0, hi, hz0, hz1, hz2⟩ := info_parts figv_info3
  go_enter Tryd.func85, Tryd.ntmps85
  go_wp2
  go_step3
  go_wp2_with (at_make; refine wpList_make_own _ rfl _ _ 26 rfl w.heap.size 3 i0 (.int .i64 0) 1 Tryd.underlying26 hi hz0 hz1 _ _ _ s.size rfl rfl ?b1 ?b2 ?b3 ?b4 ?_)
  case b1 => omega
  case b2 => rw [hz2]; omega
  case b3 => unfold maxLen; omega
  case b4 => exact Nat.le_refl _
  intro w0 hown0 hgrow0
  have hb0 : Below w.heap.size w w0 := (Below.refl _ _).grown hgrow0 (Nat.le_refl _) (fun k h => by cases h)
  clear hgrow0
  go_wp2
  go_step3
  go_wp2
  go_loopg [6, 7] s.size (fun g v i wr => ∃ (k : Nat), k + g = s.size ∧ i = .int .i64 k ∧ Figs b (s.data.toList.take k) ∧ wr.ownsRow w.heap.size 3 1 v k (ns (lvs (s.data.toList.take k))) ∧ Below w.heap.size w wr)
  case atStart => exact ⟨0, by omega, rfl, by simp [Figs], hown0, hb0⟩
  case round =>
    obtain ⟨k, hkg, rfl, hF, hown, hb⟩ := hrel
    clear hown0 hb0
    cases gk with
    | zero =>
      have hk : ¬ (k : Int) < (s.size : Int) := by omega
      have HF : Hid (Figs b s.data.toList ∧ wr.ownsRow w.heap.size 3 1 u6 s.size (ns (lvs s.data.toList))) := by
        have e : s.data.toList.take k = s.data.toList := List.take_of_length_le (by simp; omega)
        have e2 : k = s.size := by omega
        rw [e] at hF hown
        rw [e2] at hown
        exact ⟨hF, hown⟩
      clear hF hown
      go_wp2
      go_ret2
      exact Or.inl ⟨HF.out.1, _, rfl, HF.out.2, hb⟩
    | succ g =>
      have hlt : k < s.size := by omega
      have hk : (k : Int) < (s.size : Int) := by omega
      have c0 : (s[k].toNat : Int) ≤ 255 := by have := s[k].toNat_lt; omega
      go_wp2
      go_loopg [6, 8] b (fun g2 x v wy => ∃ (j : Nat), j + g2 = b ∧ v = .int .i64 j ∧ Hid (∀ i : Nat, i < j → (s[k].toNat : Int) ≠ fig i) ∧ wy.ownsRow w.heap.size 3 1 x k (ns (lvs (s.data.toList.take k))) ∧ Below w.heap.size w wy)
      case atStart => exact ⟨0, by omega, rfl, fun i hi => by omega, hown, hb⟩
      case round =>
        obtain ⟨j, hjg, rfl, HJ, hown2, hb2⟩ := hrel
        clear hown hb
        cases gk with
        | zero =>
          have hj : ¬ (j : Int) < (b : Int) := by omega
          have HN : Hid (¬ Figs b s.data.toList) := by
            intro hall
            have h1 := hall s[k] (mem_at s k hlt)
            have h2 := HJ.out (lv (s[k].toNat : Int)).toNat (by omega)
            have h3 := (fig_lv (c := (s[k].toNat : Int)) (j := ((lv (s[k].toNat : Int)).toNat : Int)) (by omega) (by omega)).2 (by omega)
            exact h2 h3
          go_wp2
          go_ret2
          exact Or.inr ⟨HN.out, rfl, hb2⟩
        | succ g2 =>
          have hj : (j : Int) < (b : Int) := by omega
          have hj16 : j < 16 := by omega
          by_cases he : (s[k].toNat : Int) = fig j
          · have he' : ((s[k].toNat : Int) == fig j) = true := by simpa using he
            have HL : Hid (lv (s[k].toNat : Int) = j) := (fig_lv (by omega) (by omega)).1 he
            clear he
            go_wp2
            go_quiet (fail)
            have hown3 : (wr.drewN nq).ownsRow w.heap.size 3 1 u6 k (ns (lvs (s.data.toList.take k))) := hown2
            have hb3 : Below w.heap.size w (wr.drewN nq) := below_drewN hb2 nq
            clear hown2 hb2
            generalize wr.drewN nq = wq at *
            have hsz := hb3.size
            go_wp2_with (at_builtin; refine wpList_append_own _ rfl (.tmp 29) (.tmp 31) 26 rfl w.heap.size 3 i0 (.int .i64 0) 1 8 Tryd.underlying26 hi hz0 hz1 hz2 rfl (by decide) _ _ _ rfl (hown3.alloc _) ⟨wq.heap.size, 0, none⟩ 1 1 [.int .i64 (j : Int)] rfl rfl ?c1 ?c2 ?c3 ?c4 ?c5 ?_)
            case c1 => intro j u hj; match j, hj with | 0, hj => simp at hj; subst hj; simp [Addr.add]
            case c2 => intro u hu; simp at hu; subst hu; rfl
            case c3 => unfold maxLen; omega
            case c4 => omega
            case c5 => simp; omega
            intro v' w1 hown' hgrow _
            have R := fv_step hlt HL.out hown3 hown' hgrow hb3
            have HF : Hid (Figs b (s.data.toList.take (k + 1))) := by
              rw [take_snoc s k hlt]
              exact hF.snoc (by have := HL.out; omega)
            clear hown' hgrow hown3 hb3 hF
            go_wp2
            go_roundg g
            case measure => omega
            case rel => exact ⟨k + 1, by omega, by go_num, HF.out, R.1, R.2⟩
          · have he' : ((s[k].toNat : Int) == fig j) = false := by simpa using he
            have HJ2 : Hid (∀ i : Nat, i < j + 1 → (s[k].toNat : Int) ≠ fig i) := fun i hi => by
              by_cases e : i = j
              · subst e; exact he
              · exact HJ.out i (by omega)
            clear he
            go_wp2
            go_quiet (fail)
            have hown3 : (wr.drewN nq).ownsRow w.heap.size 3 1 u6 k (ns (lvs (s.data.toList.take k))) := hown2
            have hb3 : Below w.heap.size w (wr.drewN nq) := below_drewN hb2 nq
            clear hown2 hb2
            go_wp2
            go_roundg g2
            case measure => omega
            case rel => exact ⟨j + 1, by omega, by go_num, HJ2, hown3, hb3⟩
end Go.Proofs.YtcneaidfhmbdmabDoor
