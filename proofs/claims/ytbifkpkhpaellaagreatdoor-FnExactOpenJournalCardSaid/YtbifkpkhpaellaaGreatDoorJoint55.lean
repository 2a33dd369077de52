/-
  The walk of impl.FileAt: what it answers.
  The walk of impl.ReadVar: what it answers.
  The walks of strings.HasPrefix with one byte, and of impl.readPair: a letter and two numbers, read.
-/
import Derived.Test.YtbifkpkhpaellaaGreatDoorJoint28
import Derived.Test.YtbifkpkhpaellaaGreatDoorJoint29
import Derived.Test.YtbifkpkhpaellaaGreatDoorRows
import Derived.Test.YtbifkpkhpaellaaGreatDoorJoint1
import Derived.WalkKit
import Derived.WalkSmall
namespace Go.Proofs.YtbifkpkhpaellaaGreatDoor
open Go.RowKit

set_option maxRecDepth 1000000 in
set_option maxHeartbeats 1000000 in
theorem implFileAt_any (ao : Option Addr) (l : List FileD) (cap : Nat) (name : ByteArray) (hl : l.length ≤ 1048576) (ht : ∀ f ∈ l, f.text.size ≤ 1048576) (w : World) (ha : FilesAt w ao l) :
    Calls Tryz.prog 48 #[.agg #[.slice ao l.length cap], .string name] w fun e w' => ((∃ (k : Nat) (hk : k < l.length), FirstAt l name k ∧ e = .returned (.tuple #[.string l[k].text, .bool true])) ∨ (NoneAt l name ∧ e = .returned (.tuple #[.string ByteArray.empty, .bool false]))) ∧ Below w.heap.size w w' := by
  have HA := hid ha
  have HT := hid ht
  have HB := hid (below_more (Below.refl w.heap.size w) (.cells #[.slice ao l.length cap] 36))
  clear ha ht
  go_enter Tryz.func48, Tryz.ntmps48
  go_wp2
  go_loopg [7, 11] l.length (fun q _ i wr => ∃ (k : Nat), k + q = l.length ∧ i = .int .i64 k ∧ Hid (Below w.heap.size w wr) ∧ Hid (∀ j (hj : j < l.length), j < k → l[j].name ≠ name))
  case atStart => exact ⟨0, by omega, rfl, HB, fun j hj h => by omega⟩
  case round =>
    obtain ⟨k, hkg, rfl, BR, HN⟩ := hrel
    clear HB
    cases gk with
    | zero =>
      have hlt : ¬ (k : Int) < (l.length : Int) := by omega
      go_wp2
      go_ret2
      exact ⟨Or.inr ⟨fun j hj => HN.out j hj (by omega), rfl⟩, BR.out⟩
    | succ q =>
      have hlt : k < l.length := by omega
      have hlt' : (k : Int) < (l.length : Int) := by omega
      have hne : l ≠ [] := by intro e; rw [e] at hlt; simp at hlt
      obtain ⟨b, off, rfl, hc⟩ := HA.out.on BR.out hne
      obtain ⟨x0, x1, x2⟩ := hc k hlt
      clear hc
      have BA := hid (below_more BR.out (.cells #[.string l[k].name, .string l[k].text, .int .i64 l[k].kept] 49))
      by_cases he : l[k].name = name
      · have he' : (l[k].name.toList == name.toList) = true := by rw [he]; simp
        have HE := hid he
        have C := hid (fun w => clone_any l[k].text (by have := HT.out l[k] (List.getElem_mem hlt); omega) w)
        clear he
        go_wp2_with fail
        refine (C.out _).mono ?_
        rintro e w1 ⟨rfl, b1⟩
        have B1 := hid (below_via BA.out b1)
        clear b1 C x0 x1 x2
        go_wp2
        go_ret2
        exact ⟨Or.inl ⟨k, hlt, ⟨hlt, HE.out, fun j hj => HN.out j (by omega) hj⟩, rfl⟩, B1.out⟩
      · have he' : (l[k].name.toList == name.toList) = false := beq_eq_false_iff_ne.2 fun h => he (text_eq h)
        have HE := hid he
        clear he
        go_wp2
        go_roundg q
        case measure => omega
        case rel =>
          refine ⟨k + 1, by omega, by go_num, BA, fun j hj h => ?_⟩
          rcases Nat.lt_or_ge j k with q | q
          · exact HN.out j hj q
          · obtain rfl : j = k := by omega
            exact HE.out
end Go.Proofs.YtbifkpkhpaellaaGreatDoor

namespace Go.Proofs.YtbifkpkhpaellaaGreatDoor
open Go.RowKit

set_option maxHeartbeats 1000000 in
set_option maxRecDepth 1000000 in
theorem implReadVar_in (s : ByteArray) (a : Nat) (ha : a ≤ s.size) (hs : s.size ≤ 140737488355328) (w : World) :
    Calls Tryz.prog 111 #[.string s, .int .i64 a] w fun e w' => e = .returned (rvAns a (rv (s.data.toList.drop a))) ∧ w' = w := by
  go_enter Tryz.func111, Tryz.ntmps111
  go_wp2
  go_loop [7, 8, 9] (fun n g i => ∃ (k W : Nat) (p : List UInt8), RvAt s a k p ∧ i = .int .i64 k ∧ n = .int .i64 (val p) ∧ g = .int .i64 W ∧ Hid (W = 128 ^ (k - a))) (fun _ _ i => a + 5 - (intOf i).toNat)
  case atStart => exact ⟨a, 1, [], RvAt.start s a ha, rfl, rfl, rfl, by simp [Hid]⟩
  case round =>
    obtain ⟨k, W, p, hR, rfl, rfl, rfl, HW⟩ := hrel
    have k1 := hR.lo
    have k2 := hR.hi
    have k3 := hR.five
    by_cases hk : k < s.size
    · by_cases h5 : k < a + 5
      · have hbd := hR.bounds h5 s[k].toNat
        rw [← HW.out] at hbd
        obtain ⟨b1, b2, b3, b4⟩ := hbd
        have m0 : (0 : Int) ≤ (s[k].toNat : Int) % 128 * (W : Int) := by
          have : ((s[k].toNat % 128 * W : Nat) : Int) = (s[k].toNat : Int) % 128 * (W : Int) := by simp
          omega
        have m1 : (s[k].toNat : Int) % 128 * (W : Int) ≤ 34091302912 := by
          have : ((s[k].toNat % 128 * W : Nat) : Int) = (s[k].toNat : Int) % 128 * (W : Int) := by simp
          omega
        have c0 : (s[k].toNat : Int) ≤ 255 := by have := s[k].toNat_lt; omega
        have HV : Hid (((val (p ++ [s[k]]) : Nat) : Int) = (val p : Int) + (s[k].toNat : Int) % 128 * (W : Int)) := hR.val_step HW.out s[k]
        by_cases hb : 127 < (s[k].toNat : Int)
        · go_wp2
          go_round
          case rel => exact ⟨k + 1, W * 128, p ++ [s[k]], hR.step hk h5 (by omega), by go_num, by rw [HV.out], by go_num, hR.W_step HW.out⟩
          case measure => simp [intOf]; omega
        · by_cases hz : (s[k].toNat : Int) ≤ 0
          · by_cases hak : a < k
            · go_wp2
              go_ret3
              exact ⟨rvAns_none (hR.no hk h5 (by omega) (Or.inr ⟨zero_of_toNat hz, hak⟩)), rfl⟩
            · have hv : (val p : Int) + (s[k].toNat : Int) % 128 * (W : Int) ≤ 1000000000 := by
                have : val p = 0 := by have := hR.len; have e : p = [] := List.eq_nil_of_length_eq_zero (by omega); rw [e]; rfl
                have e : s[k].toNat = 0 := by omega
                rw [this, e]; simp
              have HZ : Hid (((val (p ++ [s[k]]) : Nat) : Int) = (val p : Int)) := by
                have e : (s[k].toNat : Int) = 0 := by omega
                show _ = _
                rw [HV.out, e]; simp
              go_wp2
              go_ret3
              exact ⟨rvAns_some (hR.yes hk h5 (by omega) (by have := HV.out; omega) (by omega)) k1 HZ.out rfl, rfl⟩
          · by_cases hv : 1000000000 < (val p : Int) + (s[k].toNat : Int) % 128 * (W : Int)
            · go_wp2
              go_ret3
              exact ⟨rvAns_none (hR.no hk h5 (by omega) (Or.inl (by have := HV.out; omega))), rfl⟩
            · go_wp2
              go_ret3
              exact ⟨rvAns_some (hR.yes hk h5 (by omega) (by have := HV.out; omega) (fun h => not_zero (by omega) h.1)) k1 HV.out rfl, rfl⟩
      · go_wp2
        go_ret3
        exact ⟨rvAns_none (hR.none_end (Or.inr (by omega))), rfl⟩
    · go_wp2
      go_ret3
      exact ⟨rvAns_none (hR.none_end (Or.inl (by omega))), rfl⟩

theorem implReadVar_out (s : ByteArray) (a : Int) (ha : a < 0 ∨ (s.size : Int) < a) (w : World) :
    Calls Tryz.prog 111 #[.string s, .int .i64 a] w fun e w' => e = .returned (.tuple #[.int .i64 0, .int .i64 0, .bool false]) ∧ w' = w := by
  by_cases h0 : a < 0
  · go_enter Tryz.func111, Tryz.ntmps111
    go_wp2
    go_ret3
    exact ⟨rfl, rfl⟩
  · have h1 : (s.size : Int) < a := by omega
    go_enter Tryz.func111, Tryz.ntmps111
    go_wp2
    go_ret3
    exact ⟨rfl, rfl⟩
end Go.Proofs.YtbifkpkhpaellaaGreatDoor

namespace Go.Proofs.YtbifkpkhpaellaaGreatDoor
open Go.RowKit

/-- a text begins with this byte -/
def headIs (c : UInt8) (s : ByteArray) : Bool := match s.data.toList with
  | [] => false
  | h :: _ => decide (h = c)
theorem headIs_empty {c : UInt8} {s : ByteArray} (h : s.size = 0) : headIs c s = false := by
  have : s.data.toList = [] := List.eq_nil_of_length_eq_zero (by simpa using h)
  rw [headIs, this]
theorem headIs_at {c : UInt8} {s : ByteArray} (h : 0 < s.size) : headIs c s = decide (s[0] = c) := by
  rw [headIs, list_head s h]
theorem headIs_list {c : UInt8} {s : ByteArray} (h : 0 < s.size) : ((s.extract 0 1).toList == [c]) = headIs c s := by
  rw [ByteArray.toList_eq, extract_eq, headIs_at h, List.drop_zero, list_head s h]
  by_cases q : s[0] = c
  · simp [q]
  · simp [q]
theorem first_slice {P : Program} {t : TypeId} (h : P.underlying t = some .string) (s : ByteArray) (ha : 1 ≤ s.size) (w : World) :
    (Instr.slice t (.string s) none (some (.int .i64 1)) none).run P w = .ok (.string (s.extract 0 1)) w := by
  rw [run_slice_string_h w t s h .i64 1 (by omega) (by omega)]
  rfl

set_option maxRecDepth 1000000 in
theorem lightPrefix_any (c : UInt8) (s : ByteArray) (w : World) :
    Calls Tryz.prog 135 #[.string s, .string ⟨#[c]⟩] w fun e w' => e = .returned (.bool (headIs c s)) ∧ w' = w := by
  by_cases h0 : 1 ≤ s.size
  · have h1 : 1 ≤ (s.size : Int) := by omega
    have hs := first_slice (P := Tryz.prog) Tryz.underlying9 s h0
    have hh := headIs_list (c := c) (s := s) (by omega)
    obtain ⟨T, hT⟩ : ∃ T, s.extract 0 1 = T := ⟨_, rfl⟩
    rw [hT] at hs hh
    clear hT
    go_enter Tryz.func135, Tryz.ntmps135
    go_wp2
    go_ret
    refine ⟨?_, rfl⟩
    first | rw [← hh]; rfl | simp [← hh]
  · have h1 : ¬ 1 ≤ (s.size : Int) := by omega
    have hr := headIs_empty (c := c) (s := s) (by omega)
    go_enter Tryz.func135, Tryz.ntmps135
    go_wp2
    go_ret
    exact ⟨by first | rfl | (rw [hr]; rfl), rfl⟩
theorem hasPrefix_any (c : UInt8) (s : ByteArray) (w : World) :
    Calls Tryz.prog 113 #[.string s, .string ⟨#[c]⟩] w fun e w' => e = .returned (.bool (headIs c s)) ∧ w' = w := by
  go_enter Tryz.func113, Tryz.ntmps113
  go_wp2_with (go_at_call 135; refine (lightPrefix_any c s _).mono ?_; rintro e w' ⟨rfl, hw⟩; rw [hw]; clear hw w')
  go_ret
  exact ⟨rfl, rfl⟩
/-- what readPair answers: two numbers, which count where the flag is true -/
def PairGot (c : UInt8) (s : ByteArray) (e : Ending) : Prop := ∃ x y : Nat, e = .returned (.tuple #[.int .i64 x, .int .i64 y, .bool (readTwo c s).isSome]) ∧ x ≤ 1000000000 ∧ y ≤ 1000000000 ∧ ∀ a b, readTwo c s = some (a, b) → x = a ∧ y = b

set_option maxRecDepth 1000000 in
set_option maxHeartbeats 1000000 in
theorem readPair_any (c : UInt8) (s : ByteArray) (hs : s.size ≤ 1048576) (w : World) :
    Calls Tryz.prog 93 #[.string ⟨#[c]⟩, .string s] w fun e w' => PairGot c s e ∧ w' = w := by
  have CP := hid (hasPrefix_any c s)
  have hc1 : (⟨#[c]⟩ : ByteArray).size = 1 := rfl
  obtain ⟨Lt, hLt⟩ : ∃ L : ByteArray, ⟨#[c]⟩ = L := ⟨_, rfl⟩
  rw [hLt] at CP hc1 ⊢
  clear hLt
  cases hh : headIs c s with
  | false =>
    have HR : Hid (readTwo c s = none) := (show _ = _ by
      rcases Nat.eq_zero_or_pos s.size with h0 | h0
      · exact readTwo_empty h0
      · rw [headIs_at h0] at hh
        exact readTwo_head h0 (by simpa using hh))
    go_enter Tryz.func93, Tryz.ntmps93
    go_wp2_with fail
    refine (CP.out _).mono ?_
    rintro e w1 ⟨rfl, hw⟩
    rw [hw, hh]
    clear hw w1 hh CP
    go_wp2
    go_ret3
    exact ⟨⟨0, 0, by rw [HR.out]; rfl, by omega, by omega, fun a b e => by rw [HR.out] at e; cases e⟩, rfl⟩
  | true =>
    have h0 : 0 < s.size := by
      rcases Nat.eq_zero_or_pos s.size with q | q
      · rw [headIs_empty q] at hh; cases hh
      · exact q
    have he : s[0] = c := by rw [headIs_at h0] at hh; simpa using hh
    have C1 := hid (implReadVar_in s 1 (by omega) (by omega))
    go_enter Tryz.func93, Tryz.ntmps93
    go_wp2_with fail
    refine (CP.out _).mono ?_
    rintro e w1 ⟨rfl, hw⟩
    rw [hw, hh]
    clear hw w1 hh CP
    go_wp2_with fail
    refine (C1.out _).mono ?_
    rintro e w1 ⟨rfl, hw⟩
    rw [hw]
    clear hw w1 C1
    cases h1 : rv (s.data.toList.drop 1) with
    | none =>
      have HR := hid (readTwo_one (c := c) h1)
      rw [show rvAns 1 none = .tuple #[.int .i64 0, .int .i64 0, .bool false] from rfl]
      clear h1
      go_wp2
      go_ret3
      exact ⟨⟨0, 0, by rw [HR.out]; rfl, by omega, by omega, fun a b e => by rw [HR.out] at e; cases e⟩, rfl⟩
    | some p =>
      obtain ⟨a, m⟩ := p
      have hb1 := rv_bd h1
      have hm : 1 + m ≤ s.size := by
        have h9 := hb1.2.2
        rw [List.length_drop] at h9
        have : s.data.toList.length = s.size := by simp
        have := hb1.2.1
        omega
      have C2 := hid (implReadVar_in s (1 + m) hm (by omega))
      rw [show rvAns 1 (some (a, m)) = .tuple #[.int .i64 a, .int .i64 ((1 + m : Nat) : Int), .bool true] from rfl]
      go_wp2_with fail
      refine (C2.out _).mono ?_
      rintro e w1 ⟨rfl, hw⟩
      rw [hw]
      clear hw w1 C2
      cases h2 : rv (s.data.toList.drop (1 + m)) with
      | none =>
        have HR := hid (readTwo_two (c := c) h1 h2)
        rw [show rvAns (1 + m) none = .tuple #[.int .i64 0, .int .i64 0, .bool false] from rfl]
        clear h2
        go_wp2
        go_ret3
        exact ⟨⟨a, 0, by rw [HR.out]; rfl, hb1.1, by omega, fun a b e => by rw [HR.out] at e; cases e⟩, rfl⟩
      | some q =>
        obtain ⟨b, k⟩ := q
        have hb2 := rv_bd h2
        have HR := hid (readTwo_go h0 he h1 h2)
        rw [show rvAns (1 + m) (some (b, k)) = .tuple #[.int .i64 b, .int .i64 ((1 + m + k : Nat) : Int), .bool true] from rfl]
        obtain ⟨E, hE⟩ : ∃ E, 1 + m + k = E := ⟨_, rfl⟩
        rw [hE] at HR ⊢
        clear h2 hE
        by_cases hq : E = s.size
        · subst hq
          rw [if_pos rfl] at HR
          go_wp2
          go_ret3
          exact ⟨⟨a, b, by rw [HR.out]; simp, hb1.1, hb2.1, fun x y e => by rw [HR.out] at e; cases e; exact ⟨rfl, rfl⟩⟩, rfl⟩
        · rw [if_neg hq] at HR
          have hq' : ¬ (E : Int) = (s.size : Int) := by omega
          go_wp2
          go_ret3
          exact ⟨⟨a, b, by rw [HR.out]; simp; omega, hb1.1, hb2.1, fun x y e => by rw [HR.out] at e; cases e⟩, rfl⟩
end Go.Proofs.YtbifkpkhpaellaaGreatDoor
