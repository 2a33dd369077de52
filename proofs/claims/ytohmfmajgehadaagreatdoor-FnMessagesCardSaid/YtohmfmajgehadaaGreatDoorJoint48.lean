/-
  The walk of impl.Decode.
  The walk of spec.ReadVar: what it answers.
-/
import Derived.Test.YtohmfmajgehadaaGreatDoorJoint47
import Derived.Test.YtohmfmajgehadaaGreatDoorJoint9
import Derived.Test.YtohmfmajgehadaaGreatDoorJoint1
import Derived.BigQuiet
import Derived.Lib.QuietBelow
import Derived.WalkSmall
import Derived.WalkKit
namespace Go.Proofs.YtohmfmajgehadaaGreatDoor
open Go.RowKit Go.Sort

set_option maxRecDepth 1000000 in
set_option maxHeartbeats 1000000 in
theorem implDecode_any (s : ByteArray) (hs : s.size ≤ 1048576) (w : World) : Calls Tryz.prog 14 #[.string s] w fun e w' => decDid (readMsg s) w e w' := by
  have hX := below_more (Below.refl w.heap.size w) (.cells #[.int .i64 0, .int .i64 0, .int .i64 0, .int .i64 0, .int .i64 0, .int .i64 0, .int .i64 0, .bool false, .slice none 0 0, .slice none 0 0, .string ⟨#[]⟩, .bool false] 39)
  have P0 : Hid (BlockIs (w.alloc (.cells #[.int .i64 0, .int .i64 0, .int .i64 0, .int .i64 0, .int .i64 0, .int .i64 0, .int .i64 0, .bool false, .slice none 0 0, .slice none 0 0, .string ⟨#[]⟩, .bool false] 39)) w.heap.size 39 [.int .i64 0, .int .i64 0, .int .i64 0, .int .i64 0, .int .i64 0, .int .i64 0, .int .i64 0, .bool false, .slice none 0 0, .slice none 0 0, .string ⟨#[]⟩, .bool false]) := heap_alloc_new w _
  have B0 := hid hX
  clear hX
  obtain ⟨w0, hw0⟩ : ∃ W, w.alloc (.cells #[.int .i64 0, .int .i64 0, .int .i64 0, .int .i64 0, .int .i64 0, .int .i64 0, .int .i64 0, .bool false, .slice none 0 0, .slice none 0 0, .string ⟨#[]⟩, .bool false] 39) = W := ⟨_, rfl⟩
  rw [hw0] at P0 B0
  go_enter Tryz.func14, Tryz.ntmps14
  go_wp2_with fail
  refine (wholeMsg_read s hs w0).mono ?_
  intro e w1 hd
  clear hw0
  cases hm : readMsg s with
  | none =>
    rw [hm] at hd
    obtain ⟨rfl, hb⟩ := hd
    have P1 := hid (P0.out.on hb P0.out.lt)
    have B1 := hid (below_via B0.out hb)
    have HM := hid hm
    clear hb hm P0 B0
    obtain ⟨VF, hVF⟩ : ∃ W, w1.setRow w.heap.size #[.int .i64 0, .int .i64 0, .int .i64 0, .int .i64 0, .int .i64 0, .int .i64 0, .int .i64 0, .bool false, .slice none 0 0, .slice none 0 0, .string ⟨#[]⟩, .bool false] = W := ⟨_, rfl⟩
    have PF : BlockIs VF w.heap.size 39 [.int .i64 0, .int .i64 0, .int .i64 0, .int .i64 0, .int .i64 0, .int .i64 0, .int .i64 0, .bool false, .slice none 0 0, .slice none 0 0, .string ⟨#[]⟩, .bool false] := by rw [← hVF]; exact whole_block P1.out _
    have p0 := PF.cell (j := 0) rfl
    have p1 := PF.cell (j := 1) rfl
    have p2 := PF.cell (j := 2) rfl
    have p3 := PF.cell (j := 3) rfl
    have p4 := PF.cell (j := 4) rfl
    have p5 := PF.cell (j := 5) rfl
    have p6 := PF.cell (j := 6) rfl
    have p7 := PF.cell (j := 7) rfl
    have p8 := PF.cell (j := 8) rfl
    have p9 := PF.cell (j := 9) rfl
    have p10 := PF.cell (j := 10) rfl
    have p11 := PF.cell (j := 11) rfl
    clear PF
    go_wp2_with (first | (refine wpList_store_whole msg_size P1.out rfl rfl _ _ rfl _ rfl rfl rfl (by simp [Value.oneCell']) ?_; rw [hVF]) | fail)
    refine bodyPost_ret (v := .tuple #[.agg #[.int .i64 0, .int .i64 0, .int .i64 0, .int .i64 0, .int .i64 0, .int .i64 0, .int .i64 0, .bool false, .slice none 0 0, .slice none 0 0, .string ⟨#[]⟩, .bool false], .bool false]) (by simp [results, Tryz.results14, go_sem, p0, p1, p2, p3, p4, p5, p6, p7, p8, p9, p10, p11]) rfl ?_
    rw [HM.out]
    exact ⟨rfl, by rw [← hVF]; exact below_setRow B1.out (Nat.le_refl _) _⟩
  | some d =>
    rw [hm] at hd
    obtain ⟨va, vc, vb, vd, rfl, ⟨hre, hri⟩, hb⟩ := hd
    have P1 := hid (P0.out.on hb P0.out.lt)
    have B1 := hid (below_via B0.out hb)
    have RE1 := hid (row_down hre (show w.heap.size ≤ w0.heap.size from B0.out.size))
    have RI1 := hid (row_down hri (show w.heap.size ≤ w0.heap.size from B0.out.size))
    clear hre hri
    have HM := hid hm
    clear hb hm P0 B0
    obtain ⟨VF, hVF⟩ : ∃ W, w1.setRow w.heap.size #[.int .i64 d.kind, .int .i64 d.src, .int .i64 d.dst, .int .i64 d.term, .int .i64 d.index, .int .i64 d.logTerm, .int .i64 d.commit, .bool d.ok, .slice va d.ents.length vc, .slice vb d.conf.length vd, .string d.data, .bool d.last] = W := ⟨_, rfl⟩
    have PF : BlockIs VF w.heap.size 39 [.int .i64 d.kind, .int .i64 d.src, .int .i64 d.dst, .int .i64 d.term, .int .i64 d.index, .int .i64 d.logTerm, .int .i64 d.commit, .bool d.ok, .slice va d.ents.length vc, .slice vb d.conf.length vd, .string d.data, .bool d.last] := by rw [← hVF]; exact whole_block P1.out _
    have p0 := PF.cell (j := 0) rfl
    have p1 := PF.cell (j := 1) rfl
    have p2 := PF.cell (j := 2) rfl
    have p3 := PF.cell (j := 3) rfl
    have p4 := PF.cell (j := 4) rfl
    have p5 := PF.cell (j := 5) rfl
    have p6 := PF.cell (j := 6) rfl
    have p7 := PF.cell (j := 7) rfl
    have p8 := PF.cell (j := 8) rfl
    have p9 := PF.cell (j := 9) rfl
    have p10 := PF.cell (j := 10) rfl
    have p11 := PF.cell (j := 11) rfl
    clear PF
    go_wp2_with (first | (refine wpList_store_whole msg_size P1.out rfl rfl _ _ rfl _ rfl rfl rfl (by simp [Value.oneCell']) ?_; rw [hVF]) | fail)
    refine bodyPost_ret (v := .tuple #[.agg #[.int .i64 d.kind, .int .i64 d.src, .int .i64 d.dst, .int .i64 d.term, .int .i64 d.index, .int .i64 d.logTerm, .int .i64 d.commit, .bool d.ok, .slice va d.ents.length vc, .slice vb d.conf.length vd, .string d.data, .bool d.last], .bool true]) (by simp [results, Tryz.results14, go_sem, p0, p1, p2, p3, p4, p5, p6, p7, p8, p9, p10, p11]) rfl ?_
    rw [HM.out]
    refine ⟨va, vc, vb, vd, rfl, ⟨?_, ?_⟩, by rw [← hVF]; exact below_setRow B1.out (Nat.le_refl _) _⟩
    · rw [← hVF]; exact row_ext RE1.out fun g cs h9 => whole_other h9 (fun e => by rw [← e] at h9; exact absurd (block_one h9 P1.out).1 (by decide)) _
    · rw [← hVF]; exact row_ext RI1.out fun g cs h9 => whole_other h9 (fun e => by rw [← e] at h9; exact absurd (block_one h9 P1.out).1 (by decide)) _
end Go.Proofs.YtohmfmajgehadaaGreatDoor

namespace Go.Proofs.YtohmfmajgehadaaGreatDoor
open Go.RowKit Go.Sort

set_option maxHeartbeats 1000000 in
set_option maxRecDepth 1000000 in
theorem specReadVar_in (s : ByteArray) (a : Nat) (ha : a ≤ s.size) (hs : s.size ≤ 140737488355328) (w : World) :
    Calls Tryz.prog 102 #[.string s, .int .i64 a] w fun e w' => e = .returned (rvAns a (rv (s.data.toList.drop a))) ∧ Below w.heap.size w w' := by
  have ha0 : (0 : Int) ≤ a := by omega
  have ha1 : (a : Int) ≤ s.size := by omega
  go_enter Tryz.func102, Tryz.ntmps102
  go_wp2
  go_loop [7, 8, 9] (fun n g i => ∃ (k W : Nat) (p : List UInt8), RvAt s a k p ∧ i = .int .i64 k ∧ n = .int .i64 (val p) ∧ g = .int .i64 W ∧ Hid (W = 128 ^ (k - a))) (fun _ _ i => a + 5 - (intOf i).toNat)
  case atStart => exact ⟨a, 1, [], RvAt.start s a ha, rfl, rfl, rfl, by simp [Hid]⟩
  case round =>
    obtain ⟨k, W, p, hR, rfl, rfl, rfl, HW⟩ := hrel
    have k1 := hR.lo
    have k2 := hR.hi
    have k3 := hR.five
    by_cases hk : k < s.size
    · by_cases h5 : k < a + 5
      · have hbd := hR.bounds h5 s[k].toNat
        rw [← HW.out] at hbd
        obtain ⟨b1, b2, b3, b4⟩ := hbd
        have m0 : (0 : Int) ≤ (s[k].toNat : Int) % 128 * (W : Int) := by
          have : ((s[k].toNat % 128 * W : Nat) : Int) = (s[k].toNat : Int) % 128 * (W : Int) := by simp
          omega
        have m1 : (s[k].toNat : Int) % 128 * (W : Int) ≤ 34091302912 := by
          have : ((s[k].toNat % 128 * W : Nat) : Int) = (s[k].toNat : Int) % 128 * (W : Int) := by simp
          omega
        have c0 : (s[k].toNat : Int) ≤ 255 := by have := s[k].toNat_lt; omega
        have HV : Hid (((val (p ++ [s[k]]) : Nat) : Int) = (val p : Int) + (s[k].toNat : Int) % 128 * (W : Int)) := hR.val_step HW.out s[k]
        by_cases hb : (s[k].toNat : Int) < 128
        · by_cases hv : 1000000000 < (val p : Int) + (s[k].toNat : Int) % 128 * (W : Int)
          · go_wp2
            go_quiet (fail)
            go_wp2
            go_ret3
            exact ⟨rvAns_none (hR.no hk h5 (by omega) (Or.inl (by have := HV.out; omega))), below_drewN (Below.refl _ _) _⟩
          · have hv' : decide (1000000000 < (val p : Int) + (s[k].toNat : Int) % 128 * (W : Int)) = false := by simpa using hv
            have cV : ∀ d os, Calls Tryz.prog 58 #[.int .i64 ((val p : Int) + (s[k].toNat : Int) % 128 * (W : Int))] (grow (redrawn w d) os) fun e w'' => e = .returned (.string ⟨(vb (val (p ++ [s[k]]))).toArray⟩) ∧ ∃ p : Regrown, w'' = grow (redrawn w p.d) p.os := by
              intro d os
              have := Calls.regrown_of (l01Var_any (val (p ++ [s[k]])) (by have := HV.out; omega) (grow (redrawn w d) os))
              rw [HV.out] at this
              exact this
            have hsl := slice_nat (P := Tryz.prog) Tryz.underlying9 s a (k + 1) a ((k : Int) + 1) rfl (by omega) (by omega) (by omega)
            have CV := (show Hid _ from cV)
            clear cV
            go_wp2
            refine wp_region_quiet_below (by kernel_rfl) (by kernel_rfl) ?_
            repeat (first | go_big_quiet_step (exact CV.out _ _) | quiet_step (exact CV.out _ _))
            refine wpQuiet_nil ?_
            intro _ hw'
            obtain ⟨⟨dq, osq⟩, hw''⟩ := hw'
            subst hw''
            have hbq := below_regrown w dq osq
            go_wp2
            · have hne : (!vb (val (p ++ [s[k]])) == (s.extract a (k + 1)).toList) = true := by assumption
              go_ret3
              exact ⟨rvAns_none (hR.no hk h5 (by omega) (Or.inr (hR.differs hk (by omega) hne))), hbq⟩
            · have hne : (!vb (val (p ++ [s[k]])) == (s.extract a (k + 1)).toList) = false := by assumption
              go_ret3
              exact ⟨rvAns_some (hR.yes hk h5 (by omega) (by have := HV.out; omega) (hR.meets hk (by omega) hne)) k1 HV.out rfl, hbq⟩
        · go_wp2
          go_round
          case rel => exact ⟨k + 1, W * 128, p ++ [s[k]], hR.step hk h5 (by omega), by go_num, by rw [HV.out], by go_num, hR.W_step HW.out⟩
          case measure => simp [intOf]; omega
      · go_wp2
        go_ret3
        exact ⟨rvAns_none (hR.none_end (Or.inr (by omega))), Below.refl _ _⟩
    · go_wp2
      go_ret3
      exact ⟨rvAns_none (hR.none_end (Or.inl (by omega))), Below.refl _ _⟩

theorem specReadVar_out (s : ByteArray) (a : Int) (ha : a < 0 ∨ (s.size : Int) < a) (w : World) :
    Calls Tryz.prog 102 #[.string s, .int .i64 a] w fun e w' => e = .returned (.tuple #[.int .i64 0, .int .i64 0, .bool false]) ∧ Below w.heap.size w w' := by
  by_cases h0 : a < 0
  · have h0' : ¬ 0 ≤ a := by omega
    go_enter Tryz.func102, Tryz.ntmps102
    go_wp2
    go_ret3
    exact ⟨rfl, Below.refl _ _⟩
  · have h0' : 0 ≤ a := by omega
    have h1 : ¬ a ≤ (s.size : Int) := by omega
    go_enter Tryz.func102, Tryz.ntmps102
    go_wp2
    go_ret3
    exact ⟨rfl, Below.refl _ _⟩
end Go.Proofs.YtohmfmajgehadaaGreatDoor
