/-
  The walk of spec.KeepText.
  The walks of spec.SumMore: what they answer.
-/
import Derived.Test.YtoanhjjigbjecaaGreatDoorJoint1
import Derived.Test.YtoanhjjigbjecaaGreatDoorJoint13
import Derived.Test.YtoanhjjigbjecaaGreatDoorJoint18
import Derived.Test.YtoanhjjigbjecaaGreatDoorJoint15
import Derived.Deep.LoopGhost
import Derived.Test.YtoanhjjigbjecaaGreatDoorRows
import Derived.WalkKit
namespace Go.Proofs.YtoanhjjigbjecaaGreatDoor
open Go.RowKit

set_option maxRecDepth 1000000 in
set_option maxHeartbeats 4000000 in
theorem specKeepText_any (ao bo : Option Addr) (ls : List SessionD) (li : List ItemD) (ac bc : Nat) (hl : ls.length ≤ 1048576) (hl' : li.length ≤ 1048576) (w : World) (ha : SessionsAt w ao ls) (hi : ItemsAt w bo li) :
    Calls Tryz.prog 21 #[.agg #[.slice ao ls.length ac, .slice bo li.length bc]] w fun e w' => e = .returned (keepAns ls li) ∧ Below w.heap.size w w' := by
  have hX := below_more (Below.refl w.heap.size w) (.cells #[.slice ao ls.length ac, .slice bo li.length bc] 56)
  have X0 : Hid (BlockIs (w.alloc (.cells #[.slice ao ls.length ac, .slice bo li.length bc] 56)) w.heap.size 56 [.slice ao ls.length ac, .slice bo li.length bc]) := heap_alloc_new w _
  have B0 := hid hX
  have A0 := hid (ha.on hX)
  have I0 := hid (hi.on hX)
  clear hX ha hi
  obtain ⟨w0, hw0⟩ : ∃ W, w.alloc (.cells #[.slice ao ls.length ac, .slice bo li.length bc] 56) = W := ⟨_, rfl⟩
  rw [hw0] at X0 B0 A0 I0
  have c0 := X0.out.cell (j := 0) rfl
  have c1 := X0.out.cell (j := 1) rfl
  go_enter Tryz.func21, Tryz.ntmps21
  go_wp2_with fail
  refine (specKeepOk_any ao bo ls li ac bc hl hl' _ A0.out I0.out).mono ?_
  rintro e w1 ⟨rfl, b1⟩
  cases hok : keepOk ls li with
  | false =>
    have HN : Hid (keepAns ls li = .tuple #[.string ByteArray.empty, .bool false]) := (show _ = _ by rw [keepAns, hok]; exact if_neg (by simp))
    have B1 := hid (below_via B0.out b1)
    clear b1 hok
    go_wp2
    go_ret2
    exact ⟨by rw [HN.out]; rfl, B1.out⟩
  | true =>
    have HN : Hid (keepAns ls li = .tuple #[.string (keepText ls li), .bool true]) := (show _ = _ by rw [keepAns, hok]; exact if_pos rfl)
    obtain ⟨⟨_, hfs, h3⟩, _, hfi, h8⟩ := keep_facts hok
    have X1 := hid (X0.out.on b1 X0.out.lt)
    have B1 := hid (below_via B0.out b1)
    have HA := hid (A0.out.on b1)
    have HI := hid (I0.out.on b1)
    have HFS := hid hfs
    have HFI := hid hfi
    clear b1 hok c0 c1 X0 B0 A0 I0 hw0 hl hl' hfs hfi
    obtain ⟨n, hn⟩ : ∃ n, ls.length = n := ⟨_, rfl⟩
    obtain ⟨m, hm⟩ : ∃ n, li.length = n := ⟨_, rfl⟩
    have HLN := hid hn
    have HLM := hid hm
    rw [hn] at h3
    rw [hm] at h8
    have v3 := vb_len (n := n) (by omega)
    have v8 := vb_len (n := m) (by omega)
    rw [hn, hm] at X1 ⊢
    clear hn hm
    have c0 := X1.out.cell (j := 0) rfl
    have c1 := X1.out.cell (j := 1) rfl
    have hz1 : (varB n).data.toList = vb n := varB_list n
    have cV := hid (l01Var_any n (by omega))
    have hzs : (varB n).size = (vb n).length := by show (vb n).toArray.size = _; simp
    have cV' : Hid (∀ W, Calls Tryz.prog 50 #[.int .i64 (n : Int)] W fun e w' => e = .returned (.string (varB n)) ∧ Below W.heap.size W w') := cV.out
    clear cV
    obtain ⟨T0, hT0⟩ : ∃ T, varB n = T := ⟨_, rfl⟩
    rw [hT0] at hz1 cV' hzs
    clear hT0
    go_wp2_with fail
    refine (cV'.out _).mono ?_
    rintro e w3 ⟨rfl, b3⟩
    have B3 := hid b3
    clear b3 c0 c1 cV'
    have hl0 : Hid (T0.data.toList = vb n) := hz1
    have hs0 : Hid (T0.size ≤ 5) := (show _ ≤ _ by omega)
    clear hz1 hzs
    go_wp2
    go_loopg [4, 5] n (fun g s i wr => ∃ (k : Nat) (T : ByteArray), k + g = n ∧ i = .int .i64 k ∧ s = .string T ∧ Hid (T.data.toList = vb n ++ (ls.take k).flatMap sessB) ∧ Hid (T.size ≤ 5 + 60 * k) ∧ Hid (Below w1.heap.size w1 wr))
    case atStart => exact ⟨0, T0, by omega, rfl, rfl, (show _ = _ by rw [List.take_zero, List.flatMap_nil, List.append_nil]; exact hl0.out), (show _ ≤ _ from hs0.out), (show Below _ _ _ from B3.out)⟩
    case round =>
      obtain ⟨k, T, hkg, rfl, rfl, HL, HZ, BR⟩ := hrel
      have c0 := (X1.out.on BR.out X1.out.lt).cell (j := 0) rfl
      have c1 := (X1.out.on BR.out X1.out.lt).cell (j := 1) rfl
      cases gk with
      | succ g =>
        have hlt : (k : Int) < (n : Int) := by omega
        have hltd : decide ((k : Int) < (n : Int)) = true := by simp; omega
        have h1 : k < ls.length := by rw [HLN.out]; omega
        have hne : ls ≠ [] := by intro e; rw [e] at h1; simp at h1
        obtain ⟨b, off, rfl, hc⟩ := HA.out.on BR.out hne
        obtain ⟨x0, x1, x2⟩ := hc k h1
        have hfk := HFS.out ls[k] (List.getElem_mem h1)
        have ST := hid (flat_take sessB ls k h1)
        have hln := sessB_len hfk
        have hbd := session_bounds hfk
        obtain ⟨p, hp⟩ : ∃ p, ls[k] = p := ⟨_, rfl⟩
        rw [hp] at x0 x1 x2 hfk ST hln hbd
        obtain ⟨p0, p1, p2⟩ := p
        dsimp only at x0 x1 x2 hbd
        simp only [sessB] at hln ST
        clear hc hp hne h1 hfk
        obtain ⟨n0, rfl⟩ : ∃ n : Nat, p0 = n := ⟨p0.toNat, by omega⟩
        obtain ⟨n1, rfl⟩ : ∃ n : Nat, p1 = n := ⟨p1.toNat, by omega⟩
        simp only [Int.toNat_natCast, List.length_append] at hln ST
        have hzk := HZ.out
        have D0' : ∀ W, Calls Tryz.prog 50 #[.int .i64 (n0 : Int)] W fun e w' => e = .returned (.string (varB n0)) ∧ Below W.heap.size W w' := l01Var_any n0 (by omega)
        have u0 : (varB n0).data.toList = vb n0 := varB_list _
        have z0 : (varB n0).size = (vb n0).length := by show (vb n0).toArray.size = _; simp
        obtain ⟨V0, hV0⟩ : ∃ V, varB n0 = V := ⟨_, rfl⟩
        rw [hV0] at D0' u0 z0
        have D0 := hid D0'
        clear hV0 D0'
        have D1' : ∀ W, Calls Tryz.prog 50 #[.int .i64 (n1 : Int)] W fun e w' => e = .returned (.string (varB n1)) ∧ Below W.heap.size W w' := l01Var_any n1 (by omega)
        have u1 : (varB n1).data.toList = vb n1 := varB_list _
        have z1 : (varB n1).size = (vb n1).length := by show (vb n1).toArray.size = _; simp
        obtain ⟨V1, hV1⟩ : ∃ V, varB n1 = V := ⟨_, rfl⟩
        rw [hV1] at D1' u1 z1
        have D1 := hid D1'
        clear hV1 D1'
        have D2' : ∀ W, Calls Tryz.prog 51 #[.string p2] W fun e w' => e = .returned (.string (shortB p2)) ∧ Below W.heap.size W w' := l16Short_any p2 (by omega)
        have u2 : (shortB p2).data.toList = vb p2.size ++ p2.data.toList := by simp [shortB, ByteArray.data_append, varB_list]
        have z2 : (shortB p2).size = (vb p2.size).length + p2.data.toList.length := by show (shortB p2).data.size = _; rw [← Array.length_toList, u2, List.length_append]
        obtain ⟨V2, hV2⟩ : ∃ V, shortB p2 = V := ⟨_, rfl⟩
        rw [hV2] at D2' u2 z2
        have D2 := hid D2'
        clear hV2 D2'
        obtain ⟨A0, q0, y0⟩ : ∃ A : ByteArray, T ++ V0 = A ∧ A.size = T.size + V0.size := ⟨_, rfl, ByteArray.size_append⟩
        obtain ⟨A1, q1, y1⟩ : ∃ A : ByteArray, A0 ++ V1 = A ∧ A.size = A0.size + V1.size := ⟨_, rfl, ByteArray.size_append⟩
        obtain ⟨A2, q2, y2⟩ : ∃ A : ByteArray, A1 ++ V2 = A ∧ A.size = A1.size + V2.size := ⟨_, rfl, ByteArray.size_append⟩
        have hs0 : ∀ w, (Op.stringOp .add T V0).run Tryz.prog w = .ok (.string A0) w := fun w => by rw [run_string_add_sum w _ _ (by omega), q0]
        have hs1 : ∀ w, (Op.stringOp .add A0 V1).run Tryz.prog w = .ok (.string A1) w := fun w => by rw [run_string_add_sum w _ _ (by omega), q1]
        have hs2 : ∀ w, (Op.stringOp .add A1 V2).run Tryz.prog w = .ok (.string A2) w := fun w => by rw [run_string_add_sum w _ _ (by omega), q2]
        have HLN2 : Hid (A2.data.toList = vb n ++ (ls.take (k + 1)).flatMap sessB) := (show _ = _ by rw [ST.out, ← q2, ← q1, ← q0]; simp only [ByteArray.data_append, Array.toList_append, u0, u1, u2, HL.out, List.append_assoc])
        have HZN : Hid (A2.size ≤ 5 + 60 * (k + 1)) := (show _ ≤ _ by omega)
        clear q0 q1 q2 y0 y1 y2 u0 u1 u2 z0 z1 z2 hln hbd ST hzk
        have hX := below_more (Below.refl wr.heap.size wr) (.cells #[.int .i64 (n0 : Int), .int .i64 (n1 : Int), .string p2] 86)
        have XE : Hid (BlockIs (wr.alloc (.cells #[.int .i64 (n0 : Int), .int .i64 (n1 : Int), .string p2] 86)) wr.heap.size 86 [.int .i64 (n0 : Int), .int .i64 (n1 : Int), .string p2]) := heap_alloc_new wr _
        have BA := hid (below_via BR.out hX)
        clear hX
        obtain ⟨U, hU⟩ : ∃ U, wr.alloc (.cells #[.int .i64 (n0 : Int), .int .i64 (n1 : Int), .string p2] 86) = U := ⟨_, rfl⟩
        rw [hU] at XE BA
        have HU := hid hU
        clear hU
        go_wp2
        rw [HU.out]
        refine wp_region_late_b (N := 73) (by kernel_rfl) (by kernel_rfl) rfl (by kernel_rfl) [(4, .string T), (6, .pointer (some ⟨wr.heap.size, 0, none⟩))] (by intro p hp; simp only [List.mem_cons, List.not_mem_nil, or_false] at hp; rcases hp with rfl | rfl <;> rfl) (fun W => Below U.heap.size U W) (fun j v _ _ => match j with | 0 => v = .string T | 1 => v = .pointer (some ⟨wr.heap.size, 0, none⟩) | 2 => v = .int .i64 (n0 : Int) | 3 => v = .string V0 | 4 => v = .string A0 | 5 => v = .pointer (some ⟨wr.heap.size, 1, none⟩) | 6 => v = .int .i64 (n1 : Int) | 7 => v = .string V1 | 8 => v = .string A1 | 9 => v = .pointer (some ⟨wr.heap.size, 2, none⟩) | 10 => v = .string p2 | 11 => v = .string V2 | 12 => v = .string A2 | 13 => v = .string A2 | _ => True) (fun i => i) (fun _ _ => false) (fun _ x y => Below x.heap.size x y) (fun q9 W => match q9 with | 0 => True | _ => True) (fun m k => decide ((m, k) ∈ ([] : List (Nat × Nat)))) ?_ (fun _ => 0) (by kernel_rfl) (fun _ _ => rfl) ?_ (below_drewN (Below.refl _ _) 1) (fun q9 => match q9 with | 0 => trivial | _ + 1 => trivial) ?_ ?_
        · intro i m x y hen hxy hm
          match m, hen, hm with
          | 0, hen, hm =>
            exact trivial
          | n + 1, _, _ => exact trivial
        · intro i j v u x y hij hdd hwt hxy hg
          match j, hg with
          | 0, hg => exact hg
          | 1, hg => exact hg
          | 2, hg => exact hg
          | 3, hg => exact hg
          | 4, hg => exact hg
          | 5, hg => exact hg
          | 6, hg => exact hg
          | 7, hg => exact hg
          | 8, hg => exact hg
          | 9, hg => exact hg
          | 10, hg => exact hg
          | 11, hg => exact hg
          | 12, hg => exact hg
          | 13, hg => exact hg
          | n + 14, _ => exact trivial
        · refine ⟨?_, ?_, ?_, ?_, ?_, ?_, ?_, ?_, ?_, ?_, ?_, ?_, ?_, ?_, trivial⟩
          · intro A W hC hI hg hb
            have h4 : A.eval (.tmp 4) = .string T := hb 4 _ (.head _) (late_of (by kernel_rfl))
            exact does_value (v := .string T) (w' := W) (by simp only [execOp, h4]; simp [go_sem]) ⟨rfl, hC, Below.refl _ _⟩
          · intro A W hC hI hg hb
            have h6 : A.eval (.tmp 6) = .pointer (some ⟨wr.heap.size, 0, none⟩) := hb 6 _ (.tail _ (.head _)) (late_of (by kernel_rfl))
            exact does_value (v := .pointer (some ⟨wr.heap.size, 0, none⟩)) (w' := W) (by simp only [execOp, h6]; simp [go_sem]) ⟨rfl, hC, Below.refl _ _⟩
          · intro A W hC hI hg hb
            have h29 : A.eval (.tmp 29) = .pointer (some ⟨wr.heap.size, 0, none⟩) := hg 1 29 (by decide) rfl (by simp [Op.operands]) (by kernel_rfl) (by kernel_rfl) rfl
            have hc := (XE.out.on hC XE.out.lt).cell (j := 0) rfl
            exact does_value (v := .int .i64 (n0 : Int)) (w' := W) (by simp only [execOp, h29]; simp [go_sem, hc]) ⟨rfl, hC, Below.refl _ _⟩
          · intro A W hC hI hg hb
            have h30 : A.eval (.tmp 30) = .int .i64 (n0 : Int) := hg 2 30 (by decide) rfl (by simp [Op.operands, Call.operands]) (by kernel_rfl) (by kernel_rfl) rfl
            simp [go_sem] at h30
            refine does_enter (f := 50) (args := #[.int .i64 (n0 : Int)]) (w' := W) (by simp [go_sem, h30]) ?_
            refine (D0.out W).mono ?_
            rintro e w5 ⟨rfl, b5⟩
            exact ⟨_, rfl, rfl, below_via hC b5, b5⟩
          · intro A W hC hI hg hb
            have h28 : A.eval (.tmp 28) = .string T := hg 0 28 (by decide) rfl (by simp [Op.operands]) (by kernel_rfl) (by kernel_rfl) rfl
            have h31 : A.eval (.tmp 31) = .string V0 := hg 3 31 (by decide) rfl (by simp [Op.operands]) (by kernel_rfl) (by kernel_rfl) rfl
            exact does_value (v := .string A0) (w' := W) (by simp only [execOp, h28, h31]; simp [go_sem, hs0]) ⟨rfl, hC, Below.refl _ _⟩
          · intro A W hC hI hg hb
            have h6 : A.eval (.tmp 6) = .pointer (some ⟨wr.heap.size, 0, none⟩) := hb 6 _ (.tail _ (.head _)) (late_of (by kernel_rfl))
            exact does_value (v := .pointer (some ⟨wr.heap.size, 1, none⟩)) (w' := W) (by simp only [execOp, h6]; simp [go_sem]) ⟨rfl, hC, Below.refl _ _⟩
          · intro A W hC hI hg hb
            have h33 : A.eval (.tmp 33) = .pointer (some ⟨wr.heap.size, 1, none⟩) := hg 5 33 (by decide) rfl (by simp [Op.operands]) (by kernel_rfl) (by kernel_rfl) rfl
            have hc := (XE.out.on hC XE.out.lt).cell (j := 1) rfl
            exact does_value (v := .int .i64 (n1 : Int)) (w' := W) (by simp only [execOp, h33]; simp [go_sem, hc]) ⟨rfl, hC, Below.refl _ _⟩
          · intro A W hC hI hg hb
            have h34 : A.eval (.tmp 34) = .int .i64 (n1 : Int) := hg 6 34 (by decide) rfl (by simp [Op.operands, Call.operands]) (by kernel_rfl) (by kernel_rfl) rfl
            simp [go_sem] at h34
            refine does_enter (f := 50) (args := #[.int .i64 (n1 : Int)]) (w' := W) (by simp [go_sem, h34]) ?_
            refine (D1.out W).mono ?_
            rintro e w5 ⟨rfl, b5⟩
            exact ⟨_, rfl, rfl, below_via hC b5, b5⟩
          · intro A W hC hI hg hb
            have h32 : A.eval (.tmp 32) = .string A0 := hg 4 32 (by decide) rfl (by simp [Op.operands]) (by kernel_rfl) (by kernel_rfl) rfl
            have h35 : A.eval (.tmp 35) = .string V1 := hg 7 35 (by decide) rfl (by simp [Op.operands]) (by kernel_rfl) (by kernel_rfl) rfl
            exact does_value (v := .string A1) (w' := W) (by simp only [execOp, h32, h35]; simp [go_sem, hs1]) ⟨rfl, hC, Below.refl _ _⟩
          · intro A W hC hI hg hb
            have h6 : A.eval (.tmp 6) = .pointer (some ⟨wr.heap.size, 0, none⟩) := hb 6 _ (.tail _ (.head _)) (late_of (by kernel_rfl))
            exact does_value (v := .pointer (some ⟨wr.heap.size, 2, none⟩)) (w' := W) (by simp only [execOp, h6]; simp [go_sem]) ⟨rfl, hC, Below.refl _ _⟩
          · intro A W hC hI hg hb
            have h37 : A.eval (.tmp 37) = .pointer (some ⟨wr.heap.size, 2, none⟩) := hg 9 37 (by decide) rfl (by simp [Op.operands]) (by kernel_rfl) (by kernel_rfl) rfl
            have hc := (XE.out.on hC XE.out.lt).cell (j := 2) rfl
            exact does_value (v := .string p2) (w' := W) (by simp only [execOp, h37]; simp [go_sem, hc]) ⟨rfl, hC, Below.refl _ _⟩
          · intro A W hC hI hg hb
            have h38 : A.eval (.tmp 38) = .string p2 := hg 10 38 (by decide) rfl (by simp [Op.operands, Call.operands]) (by kernel_rfl) (by kernel_rfl) rfl
            simp [go_sem] at h38
            refine does_enter (f := 51) (args := #[.string p2]) (w' := W) (by simp [go_sem, h38]) ?_
            refine (D2.out W).mono ?_
            rintro e w5 ⟨rfl, b5⟩
            exact ⟨_, rfl, rfl, below_via hC b5, b5⟩
          · intro A W hC hI hg hb
            have h36 : A.eval (.tmp 36) = .string A1 := hg 8 36 (by decide) rfl (by simp [Op.operands]) (by kernel_rfl) (by kernel_rfl) rfl
            have h39 : A.eval (.tmp 39) = .string V2 := hg 11 39 (by decide) rfl (by simp [Op.operands]) (by kernel_rfl) (by kernel_rfl) rfl
            exact does_value (v := .string A2) (w' := W) (by simp only [execOp, h36, h39]; simp [go_sem, hs2]) ⟨rfl, hC, Below.refl _ _⟩
          · intro A W hC hI hg hb
            have h40 : A.eval (.tmp 40) = .string A2 := hg 12 40 (by decide) rfl (by simp [Op.operands]) (by kernel_rfl) (by kernel_rfl) rfl
            exact does_value (v := .string A2) (w' := W) (by simp only [execOp, h40]; simp [go_sem]) ⟨rfl, hC, Below.refl _ _⟩
        intro vs w5 hC _ hg
        have hv := hg 13 (by decide) (fun k => rfl)
        change vs 13 = _ at hv
        clear hg
        have BN := hid (below_via BA.out hC)
        clear hC XE BA HU c0 c1 x0 x1 x2 D0 D1 D2 hs0 hs1 hs2 HL HZ BR
        change Exit.inBlock _ _ _ (laidBy _ vs _ 14 _) w5
        simp only [laidBy, if_true, dstAt, List.getElem?_toArray, List.getElem?_cons_succ, List.getElem?_cons_zero, Option.bind_some]
        simp only [Act.put, List.setIfInBounds_toArray, List.set_cons_succ, List.set_cons_zero]
        rw [hv]
        clear hv
        go_wp2
        go_roundg g
        case measure => omega
        case rel => exact ⟨k + 1, A2, by omega, by go_num, rfl, HLN2.out, HZN.out, BN.out⟩
      | zero =>
        have hlt : ¬ (k : Int) < (n : Int) := by omega
        have hlt0 : ¬ k < n := by omega
        have hltd : decide (k < n) = false := by simp; omega
        have HE : Hid (T.data.toList = vb n ++ ls.flatMap sessB) := (show _ = _ by have := HL.out; rwa [List.take_of_length_le (by rw [HLN.out]; omega)] at this)
        have hze := HZ.out
        clear HL
        have cV : Hid (∀ W, Calls Tryz.prog 50 #[.int .i64 (m : Int)] W fun e w' => e = .returned (.string (varB m)) ∧ Below W.heap.size W w') := l01Var_any m (by omega)
        have u9 : (varB m).data.toList = vb m := varB_list _
        have z9 : (varB m).size = (vb m).length := by show (vb m).toArray.size = _; simp
        obtain ⟨V9, hV9⟩ : ∃ V, varB m = V := ⟨_, rfl⟩
        rw [hV9] at cV u9 z9
        clear hV9
        obtain ⟨A9, q9, y9⟩ : ∃ A : ByteArray, T ++ V9 = A ∧ A.size = T.size + V9.size := ⟨_, rfl, ByteArray.size_append⟩
        have hs9 : ∀ w, (Op.stringOp .add T V9).run Tryz.prog w = .ok (.string A9) w := fun w => by rw [run_string_add_sum w _ _ (by omega), q9]
        have hl9 : Hid (A9.data.toList = (vb n ++ ls.flatMap sessB) ++ vb m) := (show _ = _ by rw [← q9]; simp only [ByteArray.data_append, Array.toList_append, u9, HE.out])
        have hs90 : Hid (A9.size ≤ 190) := (show _ ≤ _ by omega)
        clear u9 z9 q9 y9 HE hze hkg
        go_wp2_with fail
        refine (cV.out _).mono ?_
        rintro e w6 ⟨rfl, b6⟩
        have B6 := hid (below_via BR.out b6)
        clear b6 BR c0 c1 cV
        go_wp2
        go_loopg [4, 7] m (fun g s i wr => ∃ (k : Nat) (T : ByteArray), k + g = m ∧ i = .int .i64 k ∧ s = .string T ∧ Hid (T.data.toList = ((vb n ++ ls.flatMap sessB) ++ vb m) ++ (li.take k).flatMap itemB) ∧ Hid (T.size ≤ 190 + 60 * k) ∧ Hid (Below w1.heap.size w1 wr))
        case atStart => exact ⟨0, A9, by omega, rfl, rfl, (show _ = _ by rw [List.take_zero, List.flatMap_nil, List.append_nil]; exact hl9.out), (show _ ≤ _ from hs90.out), (show Below _ _ _ from B6.out)⟩
        case round =>
          obtain ⟨k, T, hkg, rfl, rfl, HL, HZ, BR⟩ := hrel
          have c0 := (X1.out.on BR.out X1.out.lt).cell (j := 0) rfl
          have c1 := (X1.out.on BR.out X1.out.lt).cell (j := 1) rfl
          cases gk with
          | succ g =>
            have hlt : (k : Int) < (m : Int) := by omega
            have hltd : decide ((k : Int) < (m : Int)) = true := by simp; omega
            have h1 : k < li.length := by rw [HLM.out]; omega
            have hne : li ≠ [] := by intro e; rw [e] at h1; simp at h1
            obtain ⟨b, off, rfl, hc⟩ := HI.out.on BR.out hne
            obtain ⟨x0, x1, x2⟩ := hc k h1
            have hfk := HFI.out li[k] (List.getElem_mem h1)
            have ST := hid (flat_take itemB li k h1)
            have hln := itemB_len hfk
            have hbd := item_bounds hfk
            obtain ⟨p, hp⟩ : ∃ p, li[k] = p := ⟨_, rfl⟩
            rw [hp] at x0 x1 x2 hfk ST hln hbd
            obtain ⟨p0, p1, p2⟩ := p
            dsimp only at x0 x1 x2 hbd
            simp only [itemB] at hln ST
            clear hc hp hne h1 hfk
            obtain ⟨n2, rfl⟩ : ∃ n : Nat, p2 = n := ⟨p2.toNat, by omega⟩
            simp only [Int.toNat_natCast, List.length_append] at hln ST
            have hzk := HZ.out
            have D0' : ∀ W, Calls Tryz.prog 51 #[.string p0] W fun e w' => e = .returned (.string (shortB p0)) ∧ Below W.heap.size W w' := l16Short_any p0 (by omega)
            have u0 : (shortB p0).data.toList = vb p0.size ++ p0.data.toList := by simp [shortB, ByteArray.data_append, varB_list]
            have z0 : (shortB p0).size = (vb p0.size).length + p0.data.toList.length := by show (shortB p0).data.size = _; rw [← Array.length_toList, u0, List.length_append]
            obtain ⟨V0, hV0⟩ : ∃ V, shortB p0 = V := ⟨_, rfl⟩
            rw [hV0] at D0' u0 z0
            have D0 := hid D0'
            clear hV0 D0'
            have D1' : ∀ W, Calls Tryz.prog 51 #[.string p1] W fun e w' => e = .returned (.string (shortB p1)) ∧ Below W.heap.size W w' := l16Short_any p1 (by omega)
            have u1 : (shortB p1).data.toList = vb p1.size ++ p1.data.toList := by simp [shortB, ByteArray.data_append, varB_list]
            have z1 : (shortB p1).size = (vb p1.size).length + p1.data.toList.length := by show (shortB p1).data.size = _; rw [← Array.length_toList, u1, List.length_append]
            obtain ⟨V1, hV1⟩ : ∃ V, shortB p1 = V := ⟨_, rfl⟩
            rw [hV1] at D1' u1 z1
            have D1 := hid D1'
            clear hV1 D1'
            have D2' : ∀ W, Calls Tryz.prog 50 #[.int .i64 (n2 : Int)] W fun e w' => e = .returned (.string (varB n2)) ∧ Below W.heap.size W w' := l01Var_any n2 (by omega)
            have u2 : (varB n2).data.toList = vb n2 := varB_list _
            have z2 : (varB n2).size = (vb n2).length := by show (vb n2).toArray.size = _; simp
            obtain ⟨V2, hV2⟩ : ∃ V, varB n2 = V := ⟨_, rfl⟩
            rw [hV2] at D2' u2 z2
            have D2 := hid D2'
            clear hV2 D2'
            obtain ⟨A0, q0, y0⟩ : ∃ A : ByteArray, T ++ V0 = A ∧ A.size = T.size + V0.size := ⟨_, rfl, ByteArray.size_append⟩
            obtain ⟨A1, q1, y1⟩ : ∃ A : ByteArray, A0 ++ V1 = A ∧ A.size = A0.size + V1.size := ⟨_, rfl, ByteArray.size_append⟩
            obtain ⟨A2, q2, y2⟩ : ∃ A : ByteArray, A1 ++ V2 = A ∧ A.size = A1.size + V2.size := ⟨_, rfl, ByteArray.size_append⟩
            have hs0 : ∀ w, (Op.stringOp .add T V0).run Tryz.prog w = .ok (.string A0) w := fun w => by rw [run_string_add_sum w _ _ (by omega), q0]
            have hs1 : ∀ w, (Op.stringOp .add A0 V1).run Tryz.prog w = .ok (.string A1) w := fun w => by rw [run_string_add_sum w _ _ (by omega), q1]
            have hs2 : ∀ w, (Op.stringOp .add A1 V2).run Tryz.prog w = .ok (.string A2) w := fun w => by rw [run_string_add_sum w _ _ (by omega), q2]
            have HLN2 : Hid (A2.data.toList = ((vb n ++ ls.flatMap sessB) ++ vb m) ++ (li.take (k + 1)).flatMap itemB) := (show _ = _ by rw [ST.out, ← q2, ← q1, ← q0]; simp only [ByteArray.data_append, Array.toList_append, u0, u1, u2, HL.out, List.append_assoc])
            have HZN : Hid (A2.size ≤ 190 + 60 * (k + 1)) := (show _ ≤ _ by omega)
            clear q0 q1 q2 y0 y1 y2 u0 u1 u2 z0 z1 z2 hln hbd ST hzk
            have hX := below_more (Below.refl wr.heap.size wr) (.cells #[.string p0, .string p1, .int .i64 (n2 : Int)] 89)
            have XE : Hid (BlockIs (wr.alloc (.cells #[.string p0, .string p1, .int .i64 (n2 : Int)] 89)) wr.heap.size 89 [.string p0, .string p1, .int .i64 (n2 : Int)]) := heap_alloc_new wr _
            have BA := hid (below_via BR.out hX)
            clear hX
            obtain ⟨U, hU⟩ : ∃ U, wr.alloc (.cells #[.string p0, .string p1, .int .i64 (n2 : Int)] 89) = U := ⟨_, rfl⟩
            rw [hU] at XE BA
            have HU := hid hU
            clear hU
            go_wp2
            rw [HU.out]
            refine wp_region_late_b (N := 73) (by kernel_rfl) (by kernel_rfl) rfl (by kernel_rfl) [(4, .string T), (8, .pointer (some ⟨wr.heap.size, 0, none⟩))] (by intro p hp; simp only [List.mem_cons, List.not_mem_nil, or_false] at hp; rcases hp with rfl | rfl <;> rfl) (fun W => Below U.heap.size U W) (fun j v _ _ => match j with | 0 => v = .string T | 1 => v = .pointer (some ⟨wr.heap.size, 0, none⟩) | 2 => v = .string p0 | 3 => v = .string V0 | 4 => v = .string A0 | 5 => v = .pointer (some ⟨wr.heap.size, 1, none⟩) | 6 => v = .string p1 | 7 => v = .string V1 | 8 => v = .string A1 | 9 => v = .pointer (some ⟨wr.heap.size, 2, none⟩) | 10 => v = .int .i64 (n2 : Int) | 11 => v = .string V2 | 12 => v = .string A2 | 13 => v = .string A2 | _ => True) (fun i => i) (fun _ _ => false) (fun _ x y => Below x.heap.size x y) (fun q9 W => match q9 with | 0 => True | _ => True) (fun m k => decide ((m, k) ∈ ([] : List (Nat × Nat)))) ?_ (fun _ => 0) (by kernel_rfl) (fun _ _ => rfl) ?_ (below_drewN (Below.refl _ _) 1) (fun q9 => match q9 with | 0 => trivial | _ + 1 => trivial) ?_ ?_
            · intro i m x y hen hxy hm
              match m, hen, hm with
              | 0, hen, hm =>
                exact trivial
              | n + 1, _, _ => exact trivial
            · intro i j v u x y hij hdd hwt hxy hg
              match j, hg with
              | 0, hg => exact hg
              | 1, hg => exact hg
              | 2, hg => exact hg
              | 3, hg => exact hg
              | 4, hg => exact hg
              | 5, hg => exact hg
              | 6, hg => exact hg
              | 7, hg => exact hg
              | 8, hg => exact hg
              | 9, hg => exact hg
              | 10, hg => exact hg
              | 11, hg => exact hg
              | 12, hg => exact hg
              | 13, hg => exact hg
              | n + 14, _ => exact trivial
            · refine ⟨?_, ?_, ?_, ?_, ?_, ?_, ?_, ?_, ?_, ?_, ?_, ?_, ?_, ?_, trivial⟩
              · intro A W hC hI hg hb
                have h4 : A.eval (.tmp 4) = .string T := hb 4 _ (.head _) (late_of (by kernel_rfl))
                exact does_value (v := .string T) (w' := W) (by simp only [execOp, h4]; simp [go_sem]) ⟨rfl, hC, Below.refl _ _⟩
              · intro A W hC hI hg hb
                have h8 : A.eval (.tmp 8) = .pointer (some ⟨wr.heap.size, 0, none⟩) := hb 8 _ (.tail _ (.head _)) (late_of (by kernel_rfl))
                exact does_value (v := .pointer (some ⟨wr.heap.size, 0, none⟩)) (w' := W) (by simp only [execOp, h8]; simp [go_sem]) ⟨rfl, hC, Below.refl _ _⟩
              · intro A W hC hI hg hb
                have h60 : A.eval (.tmp 60) = .pointer (some ⟨wr.heap.size, 0, none⟩) := hg 1 60 (by decide) rfl (by simp [Op.operands]) (by kernel_rfl) (by kernel_rfl) rfl
                have hc := (XE.out.on hC XE.out.lt).cell (j := 0) rfl
                exact does_value (v := .string p0) (w' := W) (by simp only [execOp, h60]; simp [go_sem, hc]) ⟨rfl, hC, Below.refl _ _⟩
              · intro A W hC hI hg hb
                have h61 : A.eval (.tmp 61) = .string p0 := hg 2 61 (by decide) rfl (by simp [Op.operands, Call.operands]) (by kernel_rfl) (by kernel_rfl) rfl
                simp [go_sem] at h61
                refine does_enter (f := 51) (args := #[.string p0]) (w' := W) (by simp [go_sem, h61]) ?_
                refine (D0.out W).mono ?_
                rintro e w5 ⟨rfl, b5⟩
                exact ⟨_, rfl, rfl, below_via hC b5, b5⟩
              · intro A W hC hI hg hb
                have h59 : A.eval (.tmp 59) = .string T := hg 0 59 (by decide) rfl (by simp [Op.operands]) (by kernel_rfl) (by kernel_rfl) rfl
                have h62 : A.eval (.tmp 62) = .string V0 := hg 3 62 (by decide) rfl (by simp [Op.operands]) (by kernel_rfl) (by kernel_rfl) rfl
                exact does_value (v := .string A0) (w' := W) (by simp only [execOp, h59, h62]; simp [go_sem, hs0]) ⟨rfl, hC, Below.refl _ _⟩
              · intro A W hC hI hg hb
                have h8 : A.eval (.tmp 8) = .pointer (some ⟨wr.heap.size, 0, none⟩) := hb 8 _ (.tail _ (.head _)) (late_of (by kernel_rfl))
                exact does_value (v := .pointer (some ⟨wr.heap.size, 1, none⟩)) (w' := W) (by simp only [execOp, h8]; simp [go_sem]) ⟨rfl, hC, Below.refl _ _⟩
              · intro A W hC hI hg hb
                have h64 : A.eval (.tmp 64) = .pointer (some ⟨wr.heap.size, 1, none⟩) := hg 5 64 (by decide) rfl (by simp [Op.operands]) (by kernel_rfl) (by kernel_rfl) rfl
                have hc := (XE.out.on hC XE.out.lt).cell (j := 1) rfl
                exact does_value (v := .string p1) (w' := W) (by simp only [execOp, h64]; simp [go_sem, hc]) ⟨rfl, hC, Below.refl _ _⟩
              · intro A W hC hI hg hb
                have h65 : A.eval (.tmp 65) = .string p1 := hg 6 65 (by decide) rfl (by simp [Op.operands, Call.operands]) (by kernel_rfl) (by kernel_rfl) rfl
                simp [go_sem] at h65
                refine does_enter (f := 51) (args := #[.string p1]) (w' := W) (by simp [go_sem, h65]) ?_
                refine (D1.out W).mono ?_
                rintro e w5 ⟨rfl, b5⟩
                exact ⟨_, rfl, rfl, below_via hC b5, b5⟩
              · intro A W hC hI hg hb
                have h63 : A.eval (.tmp 63) = .string A0 := hg 4 63 (by decide) rfl (by simp [Op.operands]) (by kernel_rfl) (by kernel_rfl) rfl
                have h66 : A.eval (.tmp 66) = .string V1 := hg 7 66 (by decide) rfl (by simp [Op.operands]) (by kernel_rfl) (by kernel_rfl) rfl
                exact does_value (v := .string A1) (w' := W) (by simp only [execOp, h63, h66]; simp [go_sem, hs1]) ⟨rfl, hC, Below.refl _ _⟩
              · intro A W hC hI hg hb
                have h8 : A.eval (.tmp 8) = .pointer (some ⟨wr.heap.size, 0, none⟩) := hb 8 _ (.tail _ (.head _)) (late_of (by kernel_rfl))
                exact does_value (v := .pointer (some ⟨wr.heap.size, 2, none⟩)) (w' := W) (by simp only [execOp, h8]; simp [go_sem]) ⟨rfl, hC, Below.refl _ _⟩
              · intro A W hC hI hg hb
                have h68 : A.eval (.tmp 68) = .pointer (some ⟨wr.heap.size, 2, none⟩) := hg 9 68 (by decide) rfl (by simp [Op.operands]) (by kernel_rfl) (by kernel_rfl) rfl
                have hc := (XE.out.on hC XE.out.lt).cell (j := 2) rfl
                exact does_value (v := .int .i64 (n2 : Int)) (w' := W) (by simp only [execOp, h68]; simp [go_sem, hc]) ⟨rfl, hC, Below.refl _ _⟩
              · intro A W hC hI hg hb
                have h69 : A.eval (.tmp 69) = .int .i64 (n2 : Int) := hg 10 69 (by decide) rfl (by simp [Op.operands, Call.operands]) (by kernel_rfl) (by kernel_rfl) rfl
                simp [go_sem] at h69
                refine does_enter (f := 50) (args := #[.int .i64 (n2 : Int)]) (w' := W) (by simp [go_sem, h69]) ?_
                refine (D2.out W).mono ?_
                rintro e w5 ⟨rfl, b5⟩
                exact ⟨_, rfl, rfl, below_via hC b5, b5⟩
              · intro A W hC hI hg hb
                have h67 : A.eval (.tmp 67) = .string A1 := hg 8 67 (by decide) rfl (by simp [Op.operands]) (by kernel_rfl) (by kernel_rfl) rfl
                have h70 : A.eval (.tmp 70) = .string V2 := hg 11 70 (by decide) rfl (by simp [Op.operands]) (by kernel_rfl) (by kernel_rfl) rfl
                exact does_value (v := .string A2) (w' := W) (by simp only [execOp, h67, h70]; simp [go_sem, hs2]) ⟨rfl, hC, Below.refl _ _⟩
              · intro A W hC hI hg hb
                have h71 : A.eval (.tmp 71) = .string A2 := hg 12 71 (by decide) rfl (by simp [Op.operands]) (by kernel_rfl) (by kernel_rfl) rfl
                exact does_value (v := .string A2) (w' := W) (by simp only [execOp, h71]; simp [go_sem]) ⟨rfl, hC, Below.refl _ _⟩
            intro vs w5 hC _ hg
            have hv := hg 13 (by decide) (fun k => rfl)
            change vs 13 = _ at hv
            clear hg
            have BN := hid (below_via BA.out hC)
            clear hC XE BA HU c0 c1 x0 x1 x2 D0 D1 D2 hs0 hs1 hs2 HL HZ BR
            change Exit.inBlock _ _ _ (laidBy _ vs _ 14 _) w5
            simp only [laidBy, if_true, dstAt, List.getElem?_toArray, List.getElem?_cons_succ, List.getElem?_cons_zero, Option.bind_some]
            simp only [Act.put, List.setIfInBounds_toArray, List.set_cons_succ, List.set_cons_zero]
            rw [hv]
            clear hv
            go_wp2
            go_roundg g
            case measure => omega
            case rel => exact ⟨k + 1, A2, by omega, by go_num, rfl, HLN2.out, HZN.out, BN.out⟩
          | zero =>
            have hlt : ¬ (k : Int) < (m : Int) := by omega
            have hlt0 : ¬ k < m := by omega
            have hltd : decide (k < m) = false := by simp; omega
            have HE : Hid (T.data.toList = ((vb n ++ ls.flatMap sessB) ++ vb m) ++ li.flatMap itemB) := (show _ = _ by have := HL.out; rwa [List.take_of_length_le (by rw [HLM.out]; omega)] at this)
            have hze := HZ.out
            clear HL
            have HT : Hid (T = keepText ls li) := (show _ = _ by
              apply ByteArray.ext
              apply Array.toList_inj.1
              rw [HE.out, keepText, keepB, HLN.out, HLM.out]
              simp)
            have BE := hid (below_via B1.out BR.out)
            clear HE hze hkg BR
            go_wp2
            go_ret2
            exact ⟨by rw [HN.out, ← HT.out]; rfl, BE.out⟩
end Go.Proofs.YtoanhjjigbjecaaGreatDoor

namespace Go.Proofs.YtoanhjjigbjecaaGreatDoor
open Go.RowKit

set_option maxRecDepth 1000000 in
set_option maxHeartbeats 1000000 in
theorem specSumMore_any (x : Nat) (hx : x < 4294967296) (s : ByteArray) (hs : s.size ≤ 140737488355328) (w : World) :
    Calls Tryz.prog 108 #[.int .u32 x, .string s] w fun e w' => e = .returned (.int .u32 (crc x s.data.toList)) ∧ w' = w := by
  go_enter Tryz.func108, Tryz.ntmps108
  go_wp2
  go_loopg [0, 5, 6, 7] s.size (fun g y i _ _ wr => ∃ (k : Nat), k + g = s.size ∧ i = .int .i64 k ∧ y = .int .u32 (crc x (s.data.toList.take k)) ∧ wr = w)
  case atStart => exact ⟨0, by omega, rfl, rfl, rfl⟩
  case round =>
    obtain ⟨k, hkg, rfl, rfl, rfl⟩ := hrel
    obtain ⟨c, hc⟩ : ∃ c, c = crc x (s.data.toList.take k) := ⟨_, rfl⟩
    have hcl : c < 4294967296 := by rw [hc]; exact crc_lt hx _
    cases gk with
    | zero =>
      have hlt : ¬ (k : Int) < (s.size : Int) := by omega
      have HE : Hid (c = crc x s.data.toList) := by
        show _ = _
        rw [hc, List.take_of_length_le (by simp; omega)]
      rw [← hc]
      clear hc
      go_wp2
      go_ret
      exact ⟨ret_u32 HE.out, rfl⟩
    | succ g =>
      have hlt : k < s.size := by omega
      have hlt' : (k : Int) < (s.size : Int) := by omega
      have c0 : (s[k].toNat : Int) ≤ 255 := by have := s[k].toNat_lt; omega
      have HC : Hid (crc x (s.data.toList.take (k + 1)) = crc1 c s[k]) := by show _ = _; rw [take_one s k hlt, crc_snoc, hc]
      have hxr : bits .xor .u32 (c : Int) (s[k].toNat : Int) = ((c ^^^ s[k].toNat : Nat) : Int) := u32_xor_nat c s[k].toNat hcl (by have := s[k].toNat_lt; omega)
      rw [← hc]
      clear hc
      go_wp2
      clear hxr
      obtain ⟨d, hd⟩ : ∃ d, d = c ^^^ s[k].toNat := ⟨_, rfl⟩
      have hdl : d < 4294967296 := by rw [hd]; exact xb_lt hcl _
      have HD : Hid (crc1 c s[k] = hsN 8 d) := by rw [hd]; rfl
      go_loopg [0, 6, 7] 8 (fun g2 y j _ wy => ∃ (i : Nat), i + g2 = 8 ∧ j = .int .i64 i ∧ y = .int .u32 (hsN i d) ∧ wy = wr)
      case atStart => exact ⟨0, by omega, rfl, by rw [hd]; rfl, rfl⟩
      case round =>
        obtain ⟨i, hig, rfl, rfl, rfl⟩ := hrel
        obtain ⟨e, he⟩ : ∃ e, e = hsN i d := ⟨_, rfl⟩
        have hel : e < 4294967296 := by rw [he]; exact hsN_lt i hdl
        cases gk with
        | zero =>
          have hi : ¬ (i : Int) < 8 := by omega
          have HX : Hid (e = crc x (s.data.toList.take (k + 1))) := by
            show _ = _
            have e8 : i = 8 := by omega
            rw [HC.out, HD.out, he, e8]
          rw [← he]
          clear he hd
          go_wp2
          go_roundg g
          case measure => omega
          case rel => exact ⟨k + 1, by omega, by go_num, by rw [HX.out], rfl⟩
        | succ g2 =>
          have hi : (i : Int) < 8 := by omega
          have HX : Hid (hsN (i + 1) d = half e) := by show _ = _; rw [he]; rfl
          rw [← he]
          clear he hd
          by_cases ho : e % 2 = 1
          · have ho' : ((e : Int) % 2 == 1) = true := by simp; omega
            have hxr : bits .xor .u32 ((e : Int) / 2) 3558460437 = ((e / 2 ^^^ 3558460437 : Nat) : Int) := by
              have := u32_xor_nat (e / 2) 3558460437 (by omega) (by omega)
              simpa using this
            have HH : Hid (half e = e / 2 ^^^ 3558460437) := by show _ = _; unfold half; rw [if_pos ho]
            clear ho
            go_wp2
            go_roundg g2
            case measure => omega
            case rel => exact ⟨i + 1, by omega, by go_num, by rw [HX.out, HH.out], rfl⟩
          · have ho' : ((e : Int) % 2 == 1) = false := by simp; omega
            have HH : Hid (half e = e / 2) := by show _ = _; unfold half; rw [if_neg ho]
            clear ho
            go_wp2
            go_roundg g2
            case measure => omega
            case rel => exact ⟨i + 1, by omega, by go_num, by rw [HX.out, HH.out]; go_num, rfl⟩

end Go.Proofs.YtoanhjjigbjecaaGreatDoor
