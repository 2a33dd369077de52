/-
  A journal that an answer owns: written over with marks, held against them; what is read of a journal's text, in parts.
  The walk of impl.LogLast: what it answers.
  The walk of impl.ReadVar: what it answers.
  The walks of strings.HasPrefix with one byte, and of impl.readPair: a letter and two numbers, read.
-/
import Derived.Test.YtjkgjnpifdafaabDoorJoint29
import Derived.Test.YtjkgjnpifdafaabDoorJoint9
import Derived.Test.YtjkgjnpifdafaabDoorJoint4
import Derived.Test.YtjkgjnpifdafaabDoorJoint1
import Derived.Test.YtjkgjnpifdafaabDoorRows
import Derived.Deep.QuietTactic
import Derived.WalkKit
import Derived.WalkSmall
namespace Go.Proofs.YtjkgjnpifdafaabDoor
open Go.RowKit

set_option maxRecDepth 1000000 in
theorem markJour_o (n tm vt s t : Int) (m : Nat) (va : Option Addr) (vc : Nat) (l : List EntD) (lo hi : Nat) (hm : m ≤ 10000000) (hl : l.length ≤ 1048576) (w : World) (hw : lo ≤ w.heap.size) (_hh : hi ≤ w.heap.size) (h : OwnAt w 75 (entCells l) l.length va lo hi) :
    Calls Tryd.prog 12 #[.agg #[.int .i64 n, .int .i64 tm, .int .i64 vt, .int .i64 s, .int .i64 t, .slice va l.length vc], .int .i64 m] w fun e w' => e = .returned (.int .i64 ((m + 3 * l.length : Nat) : Int)) ∧ EntsAt w' va (marksE m l.length) ∧ KeptBut2 lo hi w w' ∧ Below lo w w' := by
  have bw := below_more (Below.refl w.heap.size w) (.cells #[.int .i64 n, .int .i64 tm, .int .i64 vt, .int .i64 s, .int .i64 t, .slice va l.length vc] 34)
  have HJ : Hid (BlockIs (w.alloc (.cells #[.int .i64 n, .int .i64 tm, .int .i64 vt, .int .i64 s, .int .i64 t, .slice va l.length vc] 34)) w.heap.size 34 [.int .i64 n, .int .i64 tm, .int .i64 vt, .int .i64 s, .int .i64 t, .slice va l.length vc]) := heap_alloc_new w _
  have C := hid (markLog_o2 s t m va vc l lo hi hm hl _ (Nat.le_trans hw bw.size) (h.on bw))
  have HB := hid bw
  clear bw h
  obtain ⟨K, hK⟩ : ∃ K, m + 3 * l.length = K := ⟨_, rfl⟩
  rw [hK] at C ⊢
  clear hK
  obtain ⟨W, hW⟩ : ∃ W, w.alloc (.cells #[.int .i64 n, .int .i64 tm, .int .i64 vt, .int .i64 s, .int .i64 t, .slice va l.length vc] 34) = W := ⟨_, rfl⟩
  rw [hW] at HJ C HB
  have c3 := HJ.out.cell (j := 3) rfl
  have c4 := HJ.out.cell (j := 4) rfl
  have c5 := HJ.out.cell (j := 5) rfl
  go_enter Tryd.func12, Tryd.ntmps12
  go_wp2_with fail
  refine C.out.mono ?_
  rintro e w1 ⟨rfl, a1, a2, a3⟩
  clear c3 c4 c5
  have A1 := hid a1
  have A2 : Hid (KeptBut2 lo hi w w1) := fun j t cs hne hb => a2 j t cs hne (hb.on HB.out hb.lt)
  have A3 : Hid (Below lo w w1) := (HB.out.mono hw).trans a3
  clear a1 a2 a3
  go_wp2
  go_ret
  exact ⟨rfl, A1.out, A2.out, A3.out⟩
set_option maxRecDepth 1000000 in
theorem heldJour_any (n tm vt s t : Int) (ao : Option Addr) (N cap m : Nat) (hm : m ≤ 10000000) (hl : N ≤ 1048576) (w : World) (ha : EntsAt w ao (marksE m N)) :
    Calls Tryd.prog 13 #[.agg #[.int .i64 n, .int .i64 tm, .int .i64 vt, .int .i64 s, .int .i64 t, .slice ao N cap], .int .i64 m] w fun e w' => e = .returned (.int .i64 ((m + 3 * N : Nat) : Int)) ∧ Below w.heap.size w w' := by
  have bw := below_more (Below.refl w.heap.size w) (.cells #[.int .i64 n, .int .i64 tm, .int .i64 vt, .int .i64 s, .int .i64 t, .slice ao N cap] 34)
  have HJ : Hid (BlockIs (w.alloc (.cells #[.int .i64 n, .int .i64 tm, .int .i64 vt, .int .i64 s, .int .i64 t, .slice ao N cap] 34)) w.heap.size 34 [.int .i64 n, .int .i64 tm, .int .i64 vt, .int .i64 s, .int .i64 t, .slice ao N cap]) := heap_alloc_new w _
  have C := hid (heldLog_any s t ao N cap m hm hl _ (ha.on bw))
  have HB := hid bw
  clear bw ha
  obtain ⟨K, hK⟩ : ∃ K, m + 3 * N = K := ⟨_, rfl⟩
  rw [hK] at C ⊢
  have hK1 : K ≤ 20000000 := by omega
  clear hK
  obtain ⟨W, hW⟩ : ∃ W, w.alloc (.cells #[.int .i64 n, .int .i64 tm, .int .i64 vt, .int .i64 s, .int .i64 t, .slice ao N cap] 34) = W := ⟨_, rfl⟩
  rw [hW] at HJ C HB
  have c3 := HJ.out.cell (j := 3) rfl
  have c4 := HJ.out.cell (j := 4) rfl
  have c5 := HJ.out.cell (j := 5) rfl
  go_enter Tryd.func13, Tryd.ntmps13
  go_wp2_with fail
  refine C.out.mono ?_
  rintro e w1 ⟨rfl, b1⟩
  have B1 := hid (below_via HB.out b1)
  clear c3 c4 c5 b1
  go_wp2
  go_ret
  exact ⟨rfl, B1.out⟩
end Go.Proofs.YtjkgjnpifdafaabDoor

namespace Go.Proofs.YtjkgjnpifdafaabDoor
open Go.RowKit

set_option maxRecDepth 1000000 in
set_option maxHeartbeats 1000000 in
theorem implLogLast_any (s t : Int) (hs : -9223372036854775808 ≤ s ∧ s ≤ 9223372036854775807) (ao : Option Addr) (l : List EntD) (cap : Nat) (hl : l.length ≤ 1048577) (w : World) (ha : EntsAt w ao l) :
    Calls Tryd.prog 94 #[.agg #[.int .i64 s, .int .i64 t, .slice ao l.length cap]] w fun e w' => e = .returned (.tuple #[.int .i64 (wrap64 (s + l.length)), .int .i64 (lastT t l)]) ∧ Below w.heap.size w w' := by
  have HB := hid (below_more (Below.refl w.heap.size w) (.cells #[.int .i64 s, .int .i64 t, .slice ao l.length cap] 32))
  have hx : BlockIs (w.alloc (.cells #[.int .i64 s, .int .i64 t, .slice ao l.length cap] 32)) w.heap.size 32 [.int .i64 s, .int .i64 t, .slice ao l.length cap] := heap_alloc_new w _
  have hE := ha.on HB.out
  obtain ⟨W, hW⟩ : ∃ W, w.alloc (.cells #[.int .i64 s, .int .i64 t, .slice ao l.length cap] 32) = W := ⟨_, rfl⟩
  rw [hW] at HB hx hE
  have c0 := hx.cell (j := 0) rfl
  have c1 := hx.cell (j := 1) rfl
  have c2 := hx.cell (j := 2) rfl
  clear hx ha
  by_cases h0 : l.length = 0
  · have hl0 : l = [] := List.length_eq_zero_iff.1 h0
    subst hl0
    have hw0 : wrap64 (s + ((([] : List EntD).length : Nat) : Int)) = s := by rw [IntWalk.wrap64_in] <;> simp <;> omega
    rw [hw0]
    clear hw0
    go_enter Tryd.func94, Tryd.ntmps94
    go_wp2
    go_quiet (fail)
    go_wp2
    go_ret2
    exact ⟨rfl, below_drewN (below_more (Below.refl _ w) _) _⟩
  · have hne : ¬ (l.length : Int) = 0 := by omega
    obtain ⟨b, off, rfl, hc⟩ := hE (by intro e; rw [e] at h0; simp at h0)
    have hlt : l.length - 1 < l.length := by omega
    obtain ⟨x0, _, _⟩ := hc (l.length - 1) hlt
    have hsub : (l.length : Int) - 1 = ((l.length - 1 : Nat) : Int) := by omega
    have HL := hid (lastT_last t l (by omega))
    clear hc hE
    obtain ⟨tm, htm⟩ : ∃ tm, l[l.length - 1].term = tm := ⟨_, rfl⟩
    rw [htm] at HL x0
    rw [HL.out]
    obtain ⟨N, hN⟩ : ∃ N, l.length = N := ⟨_, rfl⟩
    rw [hN] at hsub c2 hne hlt hW x0 ⊢
    obtain ⟨n, hn⟩ : ∃ n, N - 1 = n := ⟨_, rfl⟩
    rw [hn] at hsub hlt x0
    have hnl : (n : Int) < (N : Int) := by omega
    have hn0 : (0 : Int) ≤ (n : Int) := by omega
    have hwn : IntKind.i64.wrap (n : Int) = (n : Int) := by rw [IntKind.wrap_i64]; omega
    clear hn HL htm hN h0
    go_enter Tryd.func94, Tryd.ntmps94
    go_wp2
    go_quiet (fail)
    go_wp2
    go_ret2
    exact ⟨rfl, below_drewN HB.out _⟩
end Go.Proofs.YtjkgjnpifdafaabDoor

namespace Go.Proofs.YtjkgjnpifdafaabDoor
open Go.RowKit

set_option maxHeartbeats 1000000 in
set_option maxRecDepth 1000000 in
theorem implReadVar_in (s : ByteArray) (a : Nat) (ha : a ≤ s.size) (hs : s.size ≤ 140737488355328) (w : World) :
    Calls Tryd.prog 91 #[.string s, .int .i64 a] w fun e w' => e = .returned (rvAns a (rv (s.data.toList.drop a))) ∧ w' = w := by
  go_enter Tryd.func91, Tryd.ntmps91
  go_wp2
  go_loop [7, 8, 9] (fun n g i => ∃ (k W : Nat) (p : List UInt8), RvAt s a k p ∧ i = .int .i64 k ∧ n = .int .i64 (val p) ∧ g = .int .i64 W ∧ Hid (W = 128 ^ (k - a))) (fun _ _ i => a + 5 - (intOf i).toNat)
  case atStart => exact ⟨a, 1, [], RvAt.start s a ha, rfl, rfl, rfl, by simp [Hid]⟩
  case round =>
    obtain ⟨k, W, p, hR, rfl, rfl, rfl, HW⟩ := hrel
    have k1 := hR.lo
    have k2 := hR.hi
    have k3 := hR.five
    by_cases hk : k < s.size
    · by_cases h5 : k < a + 5
      · have hbd := hR.bounds h5 s[k].toNat
        rw [← HW.out] at hbd
        obtain ⟨b1, b2, b3, b4⟩ := hbd
        have m0 : (0 : Int) ≤ (s[k].toNat : Int) % 128 * (W : Int) := by
          have : ((s[k].toNat % 128 * W : Nat) : Int) = (s[k].toNat : Int) % 128 * (W : Int) := by simp
          omega
        have m1 : (s[k].toNat : Int) % 128 * (W : Int) ≤ 34091302912 := by
          have : ((s[k].toNat % 128 * W : Nat) : Int) = (s[k].toNat : Int) % 128 * (W : Int) := by simp
          omega
        have c0 : (s[k].toNat : Int) ≤ 255 := by have := s[k].toNat_lt; omega
        have HV : Hid (((val (p ++ [s[k]]) : Nat) : Int) = (val p : Int) + (s[k].toNat : Int) % 128 * (W : Int)) := hR.val_step HW.out s[k]
        by_cases hb : 127 < (s[k].toNat : Int)
        · go_wp2
          go_round
          case rel => exact ⟨k + 1, W * 128, p ++ [s[k]], hR.step hk h5 (by omega), by go_num, by rw [HV.out], by go_num, hR.W_step HW.out⟩
          case measure => simp [intOf]; omega
        · by_cases hz : (s[k].toNat : Int) ≤ 0
          · by_cases hak : a < k
            · go_wp2
              go_ret3
              exact ⟨rvAns_none (hR.no hk h5 (by omega) (Or.inr ⟨zero_of_toNat hz, hak⟩)), rfl⟩
            · have hv : (val p : Int) + (s[k].toNat : Int) % 128 * (W : Int) ≤ 1000000000 := by
                have : val p = 0 := by have := hR.len; have e : p = [] := List.eq_nil_of_length_eq_zero (by omega); rw [e]; rfl
                have e : s[k].toNat = 0 := by omega
                rw [this, e]; simp
              have HZ : Hid (((val (p ++ [s[k]]) : Nat) : Int) = (val p : Int)) := by
                have e : (s[k].toNat : Int) = 0 := by omega
                show _ = _
                rw [HV.out, e]; simp
              go_wp2
              go_ret3
              exact ⟨rvAns_some (hR.yes hk h5 (by omega) (by have := HV.out; omega) (by omega)) k1 HZ.out rfl, rfl⟩
          · by_cases hv : 1000000000 < (val p : Int) + (s[k].toNat : Int) % 128 * (W : Int)
            · go_wp2
              go_ret3
              exact ⟨rvAns_none (hR.no hk h5 (by omega) (Or.inl (by have := HV.out; omega))), rfl⟩
            · go_wp2
              go_ret3
              exact ⟨rvAns_some (hR.yes hk h5 (by omega) (by have := HV.out; omega) (fun h => not_zero (by omega) h.1)) k1 HV.out rfl, rfl⟩
      · go_wp2
        go_ret3
        exact ⟨rvAns_none (hR.none_end (Or.inr (by omega))), rfl⟩
    · go_wp2
      go_ret3
      exact ⟨rvAns_none (hR.none_end (Or.inl (by omega))), rfl⟩

theorem implReadVar_out (s : ByteArray) (a : Int) (ha : a < 0 ∨ (s.size : Int) < a) (w : World) :
    Calls Tryd.prog 91 #[.string s, .int .i64 a] w fun e w' => e = .returned (.tuple #[.int .i64 0, .int .i64 0, .bool false]) ∧ w' = w := by
  by_cases h0 : a < 0
  · go_enter Tryd.func91, Tryd.ntmps91
    go_wp2
    go_ret3
    exact ⟨rfl, rfl⟩
  · have h1 : (s.size : Int) < a := by omega
    go_enter Tryd.func91, Tryd.ntmps91
    go_wp2
    go_ret3
    exact ⟨rfl, rfl⟩
end Go.Proofs.YtjkgjnpifdafaabDoor

namespace Go.Proofs.YtjkgjnpifdafaabDoor
open Go.RowKit

/-- a text begins with this byte -/
def headIs (c : UInt8) (s : ByteArray) : Bool := match s.data.toList with
  | [] => false
  | h :: _ => decide (h = c)
theorem headIs_empty {c : UInt8} {s : ByteArray} (h : s.size = 0) : headIs c s = false := by
  have : s.data.toList = [] := List.eq_nil_of_length_eq_zero (by simpa using h)
  rw [headIs, this]
theorem headIs_at {c : UInt8} {s : ByteArray} (h : 0 < s.size) : headIs c s = decide (s[0] = c) := by
  rw [headIs, list_head s h]
theorem headIs_list {c : UInt8} {s : ByteArray} (h : 0 < s.size) : ((s.extract 0 1).toList == [c]) = headIs c s := by
  rw [ByteArray.toList_eq, extract_eq, headIs_at h, List.drop_zero, list_head s h]
  by_cases q : s[0] = c
  · simp [q]
  · simp [q]
theorem first_slice {P : Program} {t : TypeId} (h : P.underlying t = some .string) (s : ByteArray) (ha : 1 ≤ s.size) (w : World) :
    (Instr.slice t (.string s) none (some (.int .i64 1)) none).run P w = .ok (.string (s.extract 0 1)) w := by
  rw [run_slice_string_h w t s h .i64 1 (by omega) (by omega)]
  rfl

set_option maxRecDepth 1000000 in
theorem lightPrefix_any (c : UInt8) (s : ByteArray) (w : World) :
    Calls Tryd.prog 103 #[.string s, .string ⟨#[c]⟩] w fun e w' => e = .returned (.bool (headIs c s)) ∧ w' = w := by
  by_cases h0 : 1 ≤ s.size
  · have h1 : 1 ≤ (s.size : Int) := by omega
    have hs := first_slice (P := Tryd.prog) Tryd.underlying9 s h0
    have hh := headIs_list (c := c) (s := s) (by omega)
    obtain ⟨T, hT⟩ : ∃ T, s.extract 0 1 = T := ⟨_, rfl⟩
    rw [hT] at hs hh
    clear hT
    go_enter Tryd.func103, Tryd.ntmps103
    go_wp2
    go_ret
    refine ⟨?_, rfl⟩
    first | rw [← hh]; rfl | simp [← hh]
  · have h1 : ¬ 1 ≤ (s.size : Int) := by omega
    have hr := headIs_empty (c := c) (s := s) (by omega)
    go_enter Tryd.func103, Tryd.ntmps103
    go_wp2
    go_ret
    exact ⟨by first | rfl | (rw [hr]; rfl), rfl⟩
theorem hasPrefix_any (c : UInt8) (s : ByteArray) (w : World) :
    Calls Tryd.prog 92 #[.string s, .string ⟨#[c]⟩] w fun e w' => e = .returned (.bool (headIs c s)) ∧ w' = w := by
  go_enter Tryd.func92, Tryd.ntmps92
  go_wp2_with (go_at_call 103; refine (lightPrefix_any c s _).mono ?_; rintro e w' ⟨rfl, hw⟩; rw [hw]; clear hw w')
  go_ret
  exact ⟨rfl, rfl⟩
/-- what readPair answers: two numbers, which count where the flag is true -/
def PairGot (c : UInt8) (s : ByteArray) (e : Ending) : Prop := ∃ x y : Nat, e = .returned (.tuple #[.int .i64 x, .int .i64 y, .bool (readTwo c s).isSome]) ∧ x ≤ 1000000000 ∧ y ≤ 1000000000 ∧ ∀ a b, readTwo c s = some (a, b) → x = a ∧ y = b

set_option maxRecDepth 1000000 in
set_option maxHeartbeats 1000000 in
theorem readPair_any (c : UInt8) (s : ByteArray) (hs : s.size ≤ 1048576) (w : World) :
    Calls Tryd.prog 79 #[.string ⟨#[c]⟩, .string s] w fun e w' => PairGot c s e ∧ w' = w := by
  have CP := hid (hasPrefix_any c s)
  have hc1 : (⟨#[c]⟩ : ByteArray).size = 1 := rfl
  obtain ⟨Lt, hLt⟩ : ∃ L : ByteArray, ⟨#[c]⟩ = L := ⟨_, rfl⟩
  rw [hLt] at CP hc1 ⊢
  clear hLt
  cases hh : headIs c s with
  | false =>
    have HR : Hid (readTwo c s = none) := (show _ = _ by
      rcases Nat.eq_zero_or_pos s.size with h0 | h0
      · exact readTwo_empty h0
      · rw [headIs_at h0] at hh
        exact readTwo_head h0 (by simpa using hh))
    go_enter Tryd.func79, Tryd.ntmps79
    go_wp2_with fail
    refine (CP.out _).mono ?_
    rintro e w1 ⟨rfl, hw⟩
    rw [hw, hh]
    clear hw w1 hh CP
    go_wp2
    go_ret3
    exact ⟨⟨0, 0, by rw [HR.out]; rfl, by omega, by omega, fun a b e => by rw [HR.out] at e; cases e⟩, rfl⟩
  | true =>
    have h0 : 0 < s.size := by
      rcases Nat.eq_zero_or_pos s.size with q | q
      · rw [headIs_empty q] at hh; cases hh
      · exact q
    have he : s[0] = c := by rw [headIs_at h0] at hh; simpa using hh
    have C1 := hid (implReadVar_in s 1 (by omega) (by omega))
    go_enter Tryd.func79, Tryd.ntmps79
    go_wp2_with fail
    refine (CP.out _).mono ?_
    rintro e w1 ⟨rfl, hw⟩
    rw [hw, hh]
    clear hw w1 hh CP
    go_wp2_with fail
    refine (C1.out _).mono ?_
    rintro e w1 ⟨rfl, hw⟩
    rw [hw]
    clear hw w1 C1
    cases h1 : rv (s.data.toList.drop 1) with
    | none =>
      have HR := hid (readTwo_one (c := c) h1)
      rw [show rvAns 1 none = .tuple #[.int .i64 0, .int .i64 0, .bool false] from rfl]
      clear h1
      go_wp2
      go_ret3
      exact ⟨⟨0, 0, by rw [HR.out]; rfl, by omega, by omega, fun a b e => by rw [HR.out] at e; cases e⟩, rfl⟩
    | some p =>
      obtain ⟨a, m⟩ := p
      have hb1 := rv_bd h1
      have hm : 1 + m ≤ s.size := by
        have h9 := hb1.2.2
        rw [List.length_drop] at h9
        have : s.data.toList.length = s.size := by simp
        have := hb1.2.1
        omega
      have C2 := hid (implReadVar_in s (1 + m) hm (by omega))
      rw [show rvAns 1 (some (a, m)) = .tuple #[.int .i64 a, .int .i64 ((1 + m : Nat) : Int), .bool true] from rfl]
      go_wp2_with fail
      refine (C2.out _).mono ?_
      rintro e w1 ⟨rfl, hw⟩
      rw [hw]
      clear hw w1 C2
      cases h2 : rv (s.data.toList.drop (1 + m)) with
      | none =>
        have HR := hid (readTwo_two (c := c) h1 h2)
        rw [show rvAns (1 + m) none = .tuple #[.int .i64 0, .int .i64 0, .bool false] from rfl]
        clear h2
        go_wp2
        go_ret3
        exact ⟨⟨a, 0, by rw [HR.out]; rfl, hb1.1, by omega, fun a b e => by rw [HR.out] at e; cases e⟩, rfl⟩
      | some q =>
        obtain ⟨b, k⟩ := q
        have hb2 := rv_bd h2
        have HR := hid (readTwo_go h0 he h1 h2)
        rw [show rvAns (1 + m) (some (b, k)) = .tuple #[.int .i64 b, .int .i64 ((1 + m + k : Nat) : Int), .bool true] from rfl]
        obtain ⟨E, hE⟩ : ∃ E, 1 + m + k = E := ⟨_, rfl⟩
        rw [hE] at HR ⊢
        clear h2 hE
        by_cases hq : E = s.size
        · subst hq
          rw [if_pos rfl] at HR
          go_wp2
          go_ret3
          exact ⟨⟨a, b, by rw [HR.out]; simp, hb1.1, hb2.1, fun x y e => by rw [HR.out] at e; cases e; exact ⟨rfl, rfl⟩⟩, rfl⟩
        · rw [if_neg hq] at HR
          have hq' : ¬ (E : Int) = (s.size : Int) := by omega
          go_wp2
          go_ret3
          exact ⟨⟨a, b, by rw [HR.out]; simp; omega, hb1.1, hb2.1, fun x y e => by rw [HR.out] at e; cases e⟩, rfl⟩
end Go.Proofs.YtjkgjnpifdafaabDoor
