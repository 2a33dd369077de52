/-
  The walk of impl.figureValues: what it answers.
  The walk of impl.ReadDecimal: what it answers.
-/
import Derived.Test.YtoanhjjigbjecaaGreatDoorRows
import Derived.Test.YtoanhjjigbjecaaGreatDoorJoint1
import Derived.BigQuiet
import Derived.Deep.LoopGhost
import Derived.WalkSmall
import Derived.WalkKit
namespace Go.Proofs.YtoanhjjigbjecaaGreatDoor
open Go.RowKit

theorem figv_info3 : (Tryz.prog.info? 3).map (fun i => (i.zero, i.size, i.bytes)) = some (some (.int .i64 0), 1, 8) := by kernel_rfl

theorem figs3 : ∀ n : Fin 16, (((ByteArray.mk #[48, 49, 50, 51, 52, 53, 54, 55, 56, 57, 97, 98, 99, 100, 101, 102])[n.val]'(by have := n.isLt; simp [ByteArray.size])).toNat : Int) = fig (n.val : Int) := by decide

theorem const_nat (n : Nat) (h1 : n < 16) (wx : World) :
    (Instr.index 9 (.string ⟨#[48, 49, 50, 51, 52, 53, 54, 55, 56, 57, 97, 98, 99, 100, 101, 102]⟩) (.int .i64 n)).run Tryz.prog wx = .ok (.int .u8 (fig n)) wx := by
  rw [run_index_string wx 9 _ .i64 n Tryz.underlying9, dif_pos (by simp [ByteArray.size]; omega)]
  have h := figs3 ⟨n, h1⟩
  simp only [Int.toNat_natCast] at h ⊢
  rw [h]

attribute [local go_sem ↓] const_nat

set_option maxRecDepth 1000000 in
set_option maxHeartbeats 1000000 in
theorem figureValues_any (s : ByteArray) (b : Nat) (hb16 : b ≤ 16) (hs : s.size ≤ 40000) (w : World) :
    Calls Tryz.prog 114 #[.string s, .int .i64 b] w fun e w' =>
      (Figs b s.data.toList ∧ ∃ v, e = .returned (.tuple #[v, .bool true]) ∧ w'.ownsRow w.heap.size 3 1 v s.size (ns (lvs s.data.toList)) ∧ Below w.heap.size w w') ∨
      (¬ Figs b s.data.toList ∧ e = .returned (.tuple #[.slice none 0 0, .bool false]) ∧ Below w.heap.size w w') := by
  obtain ⟨i0, hi, hz0, hz1, hz2⟩ := info_parts figv_info3
  go_enter Tryz.func114, Tryz.ntmps114
  go_wp2
  go_step3
  go_wp2_with (at_make; refine wpList_make_own _ rfl _ _ 27 rfl w.heap.size 3 i0 (.int .i64 0) 1 Tryz.underlying27 hi hz0 hz1 _ _ _ s.size rfl rfl ?b1 ?b2 ?b3 ?b4 ?_)
  case b1 => omega
  case b2 => rw [hz2]; omega
  case b3 => unfold maxLen; omega
  case b4 => exact Nat.le_refl _
  intro w0 hown0 hgrow0
  have hb0 : Below w.heap.size w w0 := (Below.refl _ _).grown hgrow0 (Nat.le_refl _) (fun k h => by cases h)
  clear hgrow0
  go_wp2
  go_step3
  go_wp2
  go_loopg [6, 7] s.size (fun g v i wr => ∃ (k : Nat), k + g = s.size ∧ i = .int .i64 k ∧ Figs b (s.data.toList.take k) ∧ wr.ownsRow w.heap.size 3 1 v k (ns (lvs (s.data.toList.take k))) ∧ Below w.heap.size w wr)
  case atStart => exact ⟨0, by omega, rfl, by simp [Figs], hown0, hb0⟩
  case round =>
    obtain ⟨k, hkg, rfl, hF, hown, hb⟩ := hrel
    clear hown0 hb0
    cases gk with
    | zero =>
      have hk : ¬ (k : Int) < (s.size : Int) := by omega
      have HF : Hid (Figs b s.data.toList ∧ wr.ownsRow w.heap.size 3 1 u6 s.size (ns (lvs s.data.toList))) := by
        have e : s.data.toList.take k = s.data.toList := List.take_of_length_le (by simp; omega)
        have e2 : k = s.size := by omega
        rw [e] at hF hown
        rw [e2] at hown
        exact ⟨hF, hown⟩
      clear hF hown
      go_wp2
      go_ret2
      exact Or.inl ⟨HF.out.1, _, rfl, HF.out.2, hb⟩
    | succ g =>
      have hlt : k < s.size := by omega
      have hk : (k : Int) < (s.size : Int) := by omega
      have c0 : (s[k].toNat : Int) ≤ 255 := by have := s[k].toNat_lt; omega
      go_wp2
      go_loopg [6, 8] b (fun g2 x v wy => ∃ (j : Nat), j + g2 = b ∧ v = .int .i64 j ∧ Hid (∀ i : Nat, i < j → (s[k].toNat : Int) ≠ fig i) ∧ wy.ownsRow w.heap.size 3 1 x k (ns (lvs (s.data.toList.take k))) ∧ Below w.heap.size w wy)
      case atStart => exact ⟨0, by omega, rfl, fun i hi => by omega, hown, hb⟩
      case round =>
        obtain ⟨j, hjg, rfl, HJ, hown2, hb2⟩ := hrel
        clear hown hb
        cases gk with
        | zero =>
          have hj : ¬ (j : Int) < (b : Int) := by omega
          have HN : Hid (¬ Figs b s.data.toList) := by
            intro hall
            have h1 := hall s[k] (mem_at s k hlt)
            have h2 := HJ.out (lv (s[k].toNat : Int)).toNat (by omega)
            have h3 := (fig_lv (c := (s[k].toNat : Int)) (j := ((lv (s[k].toNat : Int)).toNat : Int)) (by omega) (by omega)).2 (by omega)
            exact h2 h3
          go_wp2
          go_ret2
          exact Or.inr ⟨HN.out, rfl, hb2⟩
        | succ g2 =>
          have hj : (j : Int) < (b : Int) := by omega
          have hj16 : j < 16 := by omega
          by_cases he : (s[k].toNat : Int) = fig j
          · have he' : ((s[k].toNat : Int) == fig j) = true := by simpa using he
            have HL : Hid (lv (s[k].toNat : Int) = j) := (fig_lv (by omega) (by omega)).1 he
            clear he
            go_wp2
            go_quiet (fail)
            have hown3 : (wr.drewN nq).ownsRow w.heap.size 3 1 u6 k (ns (lvs (s.data.toList.take k))) := hown2
            have hb3 : Below w.heap.size w (wr.drewN nq) := below_drewN hb2 nq
            clear hown2 hb2
            generalize wr.drewN nq = wq at *
            have hsz := hb3.size
            go_wp2_with (at_builtin; refine wpList_append_own _ rfl (.tmp 29) (.tmp 31) 27 rfl w.heap.size 3 i0 (.int .i64 0) 1 8 Tryz.underlying27 hi hz0 hz1 hz2 rfl (by decide) _ _ _ rfl (hown3.alloc _) ⟨wq.heap.size, 0, none⟩ 1 1 [.int .i64 (j : Int)] rfl rfl ?c1 ?c2 ?c3 ?c4 ?c5 ?_)
            case c1 => intro j u hj; match j, hj with | 0, hj => simp at hj; subst hj; simp [Addr.add]
            case c2 => intro u hu; simp at hu; subst hu; rfl
            case c3 => unfold maxLen; omega
            case c4 => omega
            case c5 => simp; omega
            intro v' w1 hown' hgrow _
            have R := fv_step hlt HL.out hown3 hown' hgrow hb3
            have HF : Hid (Figs b (s.data.toList.take (k + 1))) := by
              rw [take_snoc s k hlt]
              exact hF.snoc (by have := HL.out; omega)
            clear hown' hgrow hown3 hb3 hF
            go_wp2
            go_roundg g
            case measure => omega
            case rel => exact ⟨k + 1, by omega, by go_num, HF.out, R.1, R.2⟩
          · have he' : ((s[k].toNat : Int) == fig j) = false := by simpa using he
            have HJ2 : Hid (∀ i : Nat, i < j + 1 → (s[k].toNat : Int) ≠ fig i) := fun i hi => by
              by_cases e : i = j
              · subst e; exact he
              · exact HJ.out i (by omega)
            clear he
            go_wp2
            go_quiet (fail)
            have hown3 : (wr.drewN nq).ownsRow w.heap.size 3 1 u6 k (ns (lvs (s.data.toList.take k))) := hown2
            have hb3 : Below w.heap.size w (wr.drewN nq) := below_drewN hb2 nq
            clear hown2 hb2
            go_wp2
            go_roundg g2
            case measure => omega
            case rel => exact ⟨j + 1, by omega, by go_num, HJ2, hown3, hb3⟩
end Go.Proofs.YtoanhjjigbjecaaGreatDoor

namespace Go.Proofs.YtoanhjjigbjecaaGreatDoor
open Go.RowKit

theorem empty_toList {s : ByteArray} (h : s.size = 0) : s.toList.isEmpty = true := by
  rw [ByteArray.toList_eq]
  obtain ⟨⟨l⟩⟩ := s
  cases l with
  | nil => rfl
  | cons a r => simp [ByteArray.size] at h
theorem not_empty_toList {s : ByteArray} (h : 0 < s.size) : s.toList.isEmpty = false := by
  rw [ByteArray.toList_eq]
  obtain ⟨⟨l⟩⟩ := s
  cases l with
  | nil => simp [ByteArray.size] at h
  | cons a r => rfl
theorem not_DecOk_empty {s : ByteArray} (h : s.size = 0) : ¬ DecOk s.data.toList := fun hd => hd.2.2.1 (List.eq_nil_of_length_eq_zero (by simpa using h))
theorem not_nil {s : ByteArray} (h : 0 < s.size) : s.data.toList ≠ [] := by
  intro e
  have h1 : s.data.toList.length = s.size := by simp
  rw [e] at h1
  simp at h1
  omega
theorem head_at {s : ByteArray} (h : 0 < s.size) : s.data.toList.head? = some s[0] := by
  have h1 : 0 < s.data.toList.length := by simpa using h
  rw [List.head?_eq_getElem?, List.getElem?_eq_getElem h1, Array.getElem_toList]
  rfl
theorem num_stepI {s : ByteArray} {k : Nat} (hk : k < s.size) (h : 48 ≤ s[k].toNat ∧ s[k].toNat ≤ 57) : ((num (s.data.toList.take (k + 1)) : Nat) : Int) = (num (s.data.toList.take k) : Int) * 10 + lv (s[k].toNat : Int) := by
  rw [take_snoc s k hk, num_snoc, lv_digit h]
  omega

set_option maxRecDepth 1000000 in
set_option maxHeartbeats 1000000 in
theorem implReadDecimal_any (s : ByteArray) (hs : s.size ≤ 10) (w : World) :
    Calls Tryz.prog 111 #[.string s] w fun e w' =>
      ((DecOk s.data.toList ∧ e = .returned (.tuple #[.int .i64 (num s.data.toList), .bool true])) ∨ (¬ DecOk s.data.toList ∧ e = .returned (.tuple #[.int .i64 0, .bool false]))) ∧ Below w.heap.size w w' := by
  have hs' : ¬ (10 : Int) < (s.size : Int) := by omega
  by_cases h0 : s.size = 0
  · have he := empty_toList h0
    go_enter Tryz.func111, Tryz.ntmps111
    go_wp2
    go_ret2
    exact ⟨Or.inr ⟨not_DecOk_empty h0, rfl⟩, Below.refl _ _⟩
  · have hp : 0 < s.size := by omega
    have he := not_empty_toList hp
    go_enter Tryz.func111, Tryz.ntmps111
    go_wp2_with fail
    refine (figureValues_any s 10 (by omega) (by omega) _).mono ?_
    rintro e w1 (⟨hF, v, rfl, hownv, hb1⟩ | ⟨hF, rfl, hb1⟩)
    · obtain ⟨ao, cap, rfl, hcells⟩ := values_lie hownv
      obtain ⟨g, rfl, hg, hcap, hc⟩ := hcells hp
      have HD : Hid (Digits s.data.toList) := (digits_figs _).2 hF
      have hdig := fun j (hj : j < s.size) => HD.out s[j] (mem_at s j hj)
      have HC := (show Hid _ from hc)
      have HG := (show Hid _ from hdig)
      clear hownv hcells hF hc hdig
      have d0 : w1.cell? ⟨g, 0, none⟩ = some (.int .i64 (lv (s[0].toNat : Int))) := HC.out 0 hp
      by_cases hz : lv (s[0].toNat : Int) = 0 ∧ 1 < s.size
      · have hno : Hid (¬ DecOk s.data.toList) := by
          intro hd
          have h1 := hd.2.2.2
          apply h1
          rw [head_at hp]
          have h2 := HG.out 0 hp
          have h3 := lv_digit h2
          refine ⟨?_, by simp; omega⟩
          congr 1
          apply UInt8.toNat_inj.1
          simp
          omega
        obtain ⟨z1, z2⟩ := hz
        have z1' : (lv (s[0].toNat : Int) == 0) = true := by simpa using z1
        clear z1
        go_wp2
        go_ret2
        exact ⟨Or.inr ⟨hno.out, rfl⟩, hb1⟩
      · have HZ : Hid (¬ (s.data.toList.head? = some 48 ∧ 1 < s.data.toList.length)) := by
          rintro ⟨q1, q2⟩
          apply hz
          rw [head_at hp] at q1
          simp only [Option.some.injEq] at q1
          refine ⟨?_, by simpa using q2⟩
          rw [lv_digit (HG.out 0 hp), q1]
          rfl
        by_cases z1 : lv (s[0].toNat : Int) = 0
        · have z1' : (lv (s[0].toNat : Int) == 0) = true := by simpa using z1
          have z2 : ¬ (1 : Int) < (s.size : Int) := by omega
          clear hz z1
          go_wp2
          go_loop [6, 8, 36] (fun x _ i => ∃ (k : Nat), k ≤ s.size ∧ i = .int .i64 k ∧ x = .int .i64 (num (s.data.toList.take k))) (fun _ _ i => s.size - (intOf i).toNat)
          case atStart => exact ⟨0, Nat.zero_le _, rfl, rfl⟩
          case round =>
            obtain ⟨k, hk, rfl, rfl⟩ := hrel
            have hn10 : num (s.data.toList.take k) < 10000000000 := Nat.lt_of_lt_of_le (num_lt k (s.data.toList.take k) (take_len s k hk) (fun x hx => HD.out x (List.mem_of_mem_take hx))) (Nat.pow_le_pow_right (by omega) (Nat.le_trans hk hs))
            by_cases hlt : k < s.size
            · have dk := HC.out k hlt
              have gd := HG.out k hlt
              have hlv : lv (s[k].toNat : Int) ≤ 9 := by rw [lv_digit gd]; omega
              have hlv0 : 0 ≤ lv (s[k].toNat : Int) := by rw [lv_digit gd]; omega
              have HN := (show Hid _ from num_stepI hlt gd)
              clear gd
              go_wp2
              go_round
              case rel => exact ⟨k + 1, by omega, by go_num, by rw [HN.out]⟩
              case measure => simp [intOf]; omega
            · have e : Hid (num (s.data.toList.take k) = num s.data.toList) := by
                show _ = _
                rw [List.take_of_length_le (by simp; omega)]
              obtain ⟨N, hN⟩ : ∃ N, num (s.data.toList.take k) = N := ⟨_, rfl⟩
              rw [hN] at hn10 ⊢
              have HN : Hid (N = num s.data.toList) := by rw [← e.out, hN]; rfl
              clear hN e
              by_cases hbig : 1000000000 < (N : Int)
              · go_wp2
                go_ret2
                exact ⟨Or.inr ⟨fun h => by have := h.2.1; have := HN.out; omega, rfl⟩, hb1⟩
              · go_wp2
                go_ret2
                exact ⟨Or.inl ⟨⟨HD.out, by have := HN.out; omega, not_nil hp, HZ.out⟩, ret_num HN.out⟩, hb1⟩
        · have z1' : (lv (s[0].toNat : Int) == 0) = false := by simpa using z1
          clear hz z1
          go_wp2
          go_loop [6, 8, 36] (fun x _ i => ∃ (k : Nat), k ≤ s.size ∧ i = .int .i64 k ∧ x = .int .i64 (num (s.data.toList.take k))) (fun _ _ i => s.size - (intOf i).toNat)
          case atStart => exact ⟨0, Nat.zero_le _, rfl, rfl⟩
          case round =>
            obtain ⟨k, hk, rfl, rfl⟩ := hrel
            have hn10 : num (s.data.toList.take k) < 10000000000 := Nat.lt_of_lt_of_le (num_lt k (s.data.toList.take k) (take_len s k hk) (fun x hx => HD.out x (List.mem_of_mem_take hx))) (Nat.pow_le_pow_right (by omega) (Nat.le_trans hk hs))
            by_cases hlt : k < s.size
            · have dk := HC.out k hlt
              have gd := HG.out k hlt
              have hlv : lv (s[k].toNat : Int) ≤ 9 := by rw [lv_digit gd]; omega
              have hlv0 : 0 ≤ lv (s[k].toNat : Int) := by rw [lv_digit gd]; omega
              have HN := (show Hid _ from num_stepI hlt gd)
              clear gd
              go_wp2
              go_round
              case rel => exact ⟨k + 1, by omega, by go_num, by rw [HN.out]⟩
              case measure => simp [intOf]; omega
            · have e : Hid (num (s.data.toList.take k) = num s.data.toList) := by
                show _ = _
                rw [List.take_of_length_le (by simp; omega)]
              obtain ⟨N, hN⟩ : ∃ N, num (s.data.toList.take k) = N := ⟨_, rfl⟩
              rw [hN] at hn10 ⊢
              have HN : Hid (N = num s.data.toList) := by rw [← e.out, hN]; rfl
              clear hN e
              by_cases hbig : 1000000000 < (N : Int)
              · go_wp2
                go_ret2
                exact ⟨Or.inr ⟨fun h => by have := h.2.1; have := HN.out; omega, rfl⟩, hb1⟩
              · go_wp2
                go_ret2
                exact ⟨Or.inl ⟨⟨HD.out, by have := HN.out; omega, not_nil hp, HZ.out⟩, ret_num HN.out⟩, hb1⟩
    · have HF : Hid (¬ DecOk s.data.toList) := fun hd => hF ((digits_figs _).1 hd.1)
      clear hF
      go_wp2
      go_ret2
      exact ⟨Or.inr ⟨HF.out, rfl⟩, hb1⟩

theorem implReadDecimal_long (s : ByteArray) (hs : 10 < s.size) (w : World) :
    Calls Tryz.prog 111 #[.string s] w fun e w' => e = .returned (.tuple #[.int .i64 0, .bool false]) ∧ Below w.heap.size w w' := by
  have he := not_empty_toList (s := s) (by omega)
  go_enter Tryz.func111, Tryz.ntmps111
  go_wp2
  go_ret2
  exact ⟨rfl, Below.refl _ _⟩
end Go.Proofs.YtoanhjjigbjecaaGreatDoor
