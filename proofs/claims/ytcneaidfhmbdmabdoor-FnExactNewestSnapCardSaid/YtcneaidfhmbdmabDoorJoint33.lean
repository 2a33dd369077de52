/-
  The walk of impl.ReadDecimal: what it answers.
-/
import Derived.Test.YtcneaidfhmbdmabDoorJoint32
import Derived.Test.YtcneaidfhmbdmabDoorJoint1
import Derived.WalkKit
namespace Go.Proofs.YtcneaidfhmbdmabDoor
open Go.RowKit

theorem empty_toList {s : ByteArray} (h : s.size = 0) : s.toList.isEmpty = true := by
  rw [ByteArray.toList_eq]
  obtain ⟨⟨l⟩⟩ := s
  cases l with
  | nil => rfl
  | cons a r => simp [ByteArray.size] at h
theorem not_empty_toList {s : ByteArray} (h : 0 < s.size) : s.toList.isEmpty = false := by
  rw [ByteArray.toList_eq]
  obtain ⟨⟨l⟩⟩ := s
  cases l with
  | nil => simp [ByteArray.size] at h
  | cons a r => rfl
theorem not_DecOk_empty {s : ByteArray} (h : s.size = 0) : ¬ DecOk s.data.toList := fun hd => hd.2.2.1 (List.eq_nil_of_length_eq_zero (by simpa using h))
theorem not_nil {s : ByteArray} (h : 0 < s.size) : s.data.toList ≠ [] := by
  intro e
  have h1 : s.data.toList.length = s.size := by simp
  rw [e] at h1
  simp at h1
  omega
theorem head_at {s : ByteArray} (h : 0 < s.size) : s.data.toList.head? = some s[0] := by
  have h1 : 0 < s.data.toList.length := by simpa using h
  rw [List.head?_eq_getElem?, List.getElem?_eq_getElem h1, Array.getElem_toList]
  rfl
theorem num_stepI {s : ByteArray} {k : Nat} (hk : k < s.size) (h : 48 ≤ s[k].toNat ∧ s[k].toNat ≤ 57) : ((num (s.data.toList.take (k + 1)) : Nat) : Int) = (num (s.data.toList.take k) : Int) * 10 + lv (s[k].toNat : Int) := by
  rw [take_snoc s k hk, num_snoc, lv_digit h]
  omega

set_option maxRecDepth 1000000 in
set_option maxHeartbeats 1000000 in
theorem implReadDecimal_any (s : ByteArray) (hs : s.size ≤ 10) (w : World) :
    Calls Tryd.prog 78 #[.string s] w fun e w' =>
      ((DecOk s.data.toList ∧ e = .returned (.tuple #[.int .i64 (num s.data.toList), .bool true])) ∨ (¬ DecOk s.data.toList ∧ e = .returned (.tuple #[.int .i64 0, .bool false]))) ∧ Below w.heap.size w w' := by
  have hs' : ¬ (10 : Int) < (s.size : Int) := by omega
  by_cases h0 : s.size = 0
  · have he := empty_toList h0
    go_enter Tryd.func78, Tryd.ntmps78
    go_wp2
    go_ret2
    exact ⟨Or.inr ⟨not_DecOk_empty h0, rfl⟩, Below.refl _ _⟩
  · have hp : 0 < s.size := by omega
    have he := not_empty_toList hp
    go_enter Tryd.func78, Tryd.ntmps78
    go_wp2_with fail
    refine (figureValues_any s 10 (by omega) (by omega) _).mono ?_
    rintro e w1 (⟨hF, v, rfl, hownv, hb1⟩ | ⟨hF, rfl, hb1⟩)
    · obtain ⟨ao, cap, rfl, hcells⟩ := values_lie hownv
      obtain ⟨g, rfl, hg, hcap, hc⟩ := hcells hp
      have HD : Hid (Digits s.data.toList) := (digits_figs _).2 hF
      have hdig := fun j (hj : j < s.size) => HD.out s[j] (mem_at s j hj)
      have HC := (show Hid _ from hc)
      have HG := (show Hid _ from hdig)
      clear hownv hcells hF hc hdig
      have d0 : w1.cell? ⟨g, 0, none⟩ = some (.int .i64 (lv (s[0].toNat : Int))) := HC.out 0 hp
      by_cases hz : lv (s[0].toNat : Int) = 0 ∧ 1 < s.size
      · have hno : Hid (¬ DecOk s.data.toList) := by
          intro hd
          have h1 := hd.2.2.2
          apply h1
          rw [head_at hp]
          have h2 := HG.out 0 hp
          have h3 := lv_digit h2
          refine ⟨?_, by simp; omega⟩
          congr 1
          apply UInt8.toNat_inj.1
          simp
          omega
        obtain ⟨z1, z2⟩ := hz
        have z1' : (lv (s[0].toNat : Int) == 0) = true := by simpa using z1
        clear z1
        go_wp2
        go_ret2
        exact ⟨Or.inr ⟨hno.out, rfl⟩, hb1⟩
      · have HZ : Hid (¬ (s.data.toList.head? = some 48 ∧ 1 < s.data.toList.length)) := by
          rintro ⟨q1, q2⟩
          apply hz
          rw [head_at hp] at q1
          simp only [Option.some.injEq] at q1
          refine ⟨?_, by simpa using q2⟩
          rw [lv_digit (HG.out 0 hp), q1]
          rfl
        by_cases z1 : lv (s[0].toNat : Int) = 0
        · have z1' : (lv (s[0].toNat : Int) == 0) = true := by simpa using z1
          have z2 : ¬ (1 : Int) < (s.size : Int) := by omega
          clear hz z1
          go_wp2
          go_loop [6, 8, 36] (fun x _ i => ∃ (k : Nat), k ≤ s.size ∧ i = .int .i64 k ∧ x = .int .i64 (num (s.data.toList.take k))) (fun _ _ i => s.size - (intOf i).toNat)
          case atStart => exact ⟨0, Nat.zero_le _, rfl, rfl⟩
          case round =>
            obtain ⟨k, hk, rfl, rfl⟩ := hrel
            have hn10 : num (s.data.toList.take k) < 10000000000 := Nat.lt_of_lt_of_le (num_lt k (s.data.toList.take k) (take_len s k hk) (fun x hx => HD.out x (List.mem_of_mem_take hx))) (Nat.pow_le_pow_right (by omega) (Nat.le_trans hk hs))
            by_cases hlt : k < s.size
            · have dk := HC.out k hlt
              have gd := HG.out k hlt
              have hlv : lv (s[k].toNat : Int) ≤ 9 := by rw [lv_digit gd]; omega
              have hlv0 : 0 ≤ lv (s[k].toNat : Int) := by rw [lv_digit gd]; omega
              have HN := (show Hid _ from num_stepI hlt gd)
              clear gd
              go_wp2
              go_round
              case rel => exact ⟨k + 1, by omega, by go_num, by rw [HN.out]⟩
              case measure => simp [intOf]; omega
            · have e : Hid (num (s.data.toList.take k) = num s.data.toList) := by
                show _ = _
                rw [List.take_of_length_le (by simp; omega)]
              obtain ⟨N, hN⟩ : ∃ N, num (s.data.toList.take k) = N := ⟨_, rfl⟩
              rw [hN] at hn10 ⊢
              have HN : Hid (N = num s.data.toList) := by rw [← e.out, hN]; rfl
              clear hN e
              by_cases hbig : 1000000000 < (N : Int)
              · go_wp2
                go_ret2
                exact ⟨Or.inr ⟨fun h => by have := h.2.1; have := HN.out; omega, rfl⟩, hb1⟩
              · go_wp2
                go_ret2
                exact ⟨Or.inl ⟨⟨HD.out, by have := HN.out; omega, not_nil hp, HZ.out⟩, ret_num HN.out⟩, hb1⟩
        · have z1' : (lv (s[0].toNat : Int) == 0) = false := by simpa using z1
          clear hz z1
          go_wp2
          go_loop [6, 8, 36] (fun x _ i => ∃ (k : Nat), k ≤ s.size ∧ i = .int .i64 k ∧ x = .int .i64 (num (s.data.toList.take k))) (fun _ _ i => s.size - (intOf i).toNat)
          case atStart => exact ⟨0, Nat.zero_le _, rfl, rfl⟩
          case round =>
            obtain ⟨k, hk, rfl, rfl⟩ := hrel
            have hn10 : num (s.data.toList.take k) < 10000000000 := Nat.lt_of_lt_of_le (num_lt k (s.data.toList.take k) (take_len s k hk) (fun x hx => HD.out x (List.mem_of_mem_take hx))) (Nat.pow_le_pow_right (by omega) (Nat.le_trans hk hs))
            by_cases hlt : k < s.size
            · have dk := HC.out k hlt
              have gd := HG.out k hlt
              have hlv : lv (s[k].toNat : Int) ≤ 9 := by rw [lv_digit gd]; omega
              have hlv0 : 0 ≤ lv (s[k].toNat : Int) := by rw [lv_digit gd]; omega
              have HN := (show Hid _ from num_stepI hlt gd)
              clear gd
              go_wp2
              go_round
              case rel => exact ⟨k + 1, by omega, by go_num, by rw [HN.out]⟩
              case measure => simp [intOf]; omega
            · have e : Hid (num (s.data.toList.take k) = num s.data.toList) := by
                show _ = _
                rw [List.take_of_length_le (by simp; omega)]
              obtain ⟨N, hN⟩ : ∃ N, num (s.data.toList.take k) = N := ⟨_, rfl⟩
              rw [hN] at hn10 ⊢
              have HN : Hid (N = num s.data.toList) := by rw [← e.out, hN]; rfl
              clear hN e
              by_cases hbig : 1000000000 < (N : Int)
              · go_wp2
                go_ret2
                exact ⟨Or.inr ⟨fun h => by have := h.2.1; have := HN.out; omega, rfl⟩, hb1⟩
              · go_wp2
                go_ret2
                exact ⟨Or.inl ⟨⟨HD.out, by have := HN.out; omega, not_nil hp, HZ.out⟩, ret_num HN.out⟩, hb1⟩
    · have HF : Hid (¬ DecOk s.data.toList) := fun hd => hF ((digits_figs _).1 hd.1)
      clear hF
      go_wp2
      go_ret2
      exact ⟨Or.inr ⟨HF.out, rfl⟩, hb1⟩

theorem implReadDecimal_long (s : ByteArray) (hs : 10 < s.size) (w : World) :
    Calls Tryd.prog 78 #[.string s] w fun e w' => e = .returned (.tuple #[.int .i64 0, .bool false]) ∧ Below w.heap.size w w' := by
  have he := not_empty_toList (s := s) (by omega)
  go_enter Tryd.func78, Tryd.ntmps78
  go_wp2
  go_ret2
  exact ⟨rfl, Below.refl _ _⟩
end Go.Proofs.YtcneaidfhmbdmabDoor
