/-
  The walks of spec.l16Short and spec.CommandText: what they answer is short.
-/
import Derived.Test.YtohmfmajgehadaaGreatDoorJoint9
import Derived.Test.YtohmfmajgehadaaGreatDoorJoint10
import Derived.Test.YtohmfmajgehadaaGreatDoorJoint1
namespace Go.Proofs.YtohmfmajgehadaaGreatDoor
open Go.RowKit

theorem vbs (n : Nat) (h : n ≤ 1000000000) : (⟨(vb n).toArray⟩ : ByteArray).size ≤ 5 := by
  have := vb_len h
  show (vb n).toArray.size ≤ 5
  simpa using this

set_option maxRecDepth 1000000 in
theorem l16Short_any (s : ByteArray) (hs : s.size ≤ 1000) (w : World) :
    Calls Tryz.prog 59 #[.string s] w fun e w' => e = .returned (.string (⟨(vb s.size).toArray⟩ ++ s)) ∧ Below w.heap.size w w' := by
  have cV := hid (l01Var_any s.size (by omega))
  have hv := vbs s.size (by omega)
  obtain ⟨V, hV⟩ : ∃ V : ByteArray, ⟨(vb s.size).toArray⟩ = V := ⟨_, rfl⟩
  rw [hV] at cV hv ⊢
  clear hV
  go_enter Tryz.func59, Tryz.ntmps59
  go_wp2_with (go_at_call 58; refine (cV.out _).mono ?_; rintro e w1 ⟨rfl, b1⟩)
  go_ret
  exact ⟨rfl, b1⟩

theorem cmd_byte {W : World} {g q : Nat} (hq : q ≤ 255) (h : BlockIs W g 5 [.int .u8 (q : Int)]) : (convert 22 9 (.slice (some ⟨g, 0, none⟩) 1 1)).run Tryz.prog W = .ok (.string ⟨#[UInt8.ofNat q]⟩) W :=
  run_convert_bytes_back _ 22 9 5 ⟨g, 0, none⟩ 1 [UInt8.ofNat q] Tryz.underlying22 Tryz.underlying5 Tryz.underlying9 fun j hj => by
    obtain rfl : j = 0 := by simp at hj; omega
    have e : ((UInt8.ofNat q).toNat : Int) = (q : Int) := by rw [UInt8.toNat_ofNat']; omega
    have := h.cell (j := 0) rfl
    rw [← e] at this
    exact this

set_option maxRecDepth 1000000 in
set_option maxHeartbeats 4000000 in
theorem commandText_any (d : CmdD) (w : World) :
    Calls Tryz.prog 24 #[.agg #[.int .i64 d.op, .int .i64 d.tok, .int .i64 d.seq, .string d.key, .string d.val, .int .i64 d.ver]] w fun e w' => (∃ T b, e = .returned (.tuple #[.string T, .bool b]) ∧ T.size ≤ 100) ∧ Below w.heap.size w w' := by
  obtain ⟨op, tok, seq, key, val, ver⟩ := d
  dsimp only
  have HB := hid (below_more (Below.refl w.heap.size w) (.cells #[.int .i64 op, .int .i64 tok, .int .i64 seq, .string key, .string val, .int .i64 ver] 53))
  have hx : BlockIs (w.alloc (.cells #[.int .i64 op, .int .i64 tok, .int .i64 seq, .string key, .string val, .int .i64 ver] 53)) w.heap.size 53 [.int .i64 op, .int .i64 tok, .int .i64 seq, .string key, .string val, .int .i64 ver] := heap_alloc_new w _
  obtain ⟨W, hW⟩ : ∃ W, w.alloc (.cells #[.int .i64 op, .int .i64 tok, .int .i64 seq, .string key, .string val, .int .i64 ver] 53) = W := ⟨_, rfl⟩
  rw [hW] at HB hx
  have HX := hid hx
  have c0 := hx.cell (j := 0) rfl
  have c1 := hx.cell (j := 1) rfl
  have c2 := hx.cell (j := 2) rfl
  have c3 := hx.cell (j := 3) rfl
  have c4 := hx.cell (j := 4) rfl
  have c5 := hx.cell (j := 5) rfl
  clear hx
  go_enter Tryz.func24, Tryz.ntmps24
  go_wp2_with fail
  refine (commandOk_any ⟨op, tok, seq, key, val, ver⟩ W).mono ?_
  rintro e w2 ⟨⟨b, rfl, hsound⟩, b2⟩
  cases b with
  | false =>
    have B2 := hid (below_via HB.out b2)
    clear b2 hsound
    go_wp2
    go_ret2
    exact ⟨⟨_, _, rfl, by decide⟩, B2.out⟩
  | true =>
    obtain ⟨ho, ht, hq, hk, hv, hr⟩ := hsound rfl
    dsimp only at ho ht hq hk hv hr
    have X2 := hid (HX.out.on b2 HX.out.lt)
    have B2 := hid (below_via HB.out b2)
    clear b2 hsound c0 c1 c2 c3 c4 c5 HX HB hW
    obtain ⟨n0, rfl⟩ : ∃ n : Nat, op = n := ⟨op.toNat, by omega⟩
    obtain ⟨n1, rfl⟩ : ∃ n : Nat, tok = n := ⟨tok.toNat, by omega⟩
    obtain ⟨n2, rfl⟩ : ∃ n : Nat, seq = n := ⟨seq.toNat, by omega⟩
    obtain ⟨n5, rfl⟩ : ∃ n : Nat, ver = n := ⟨ver.toNat, by omega⟩
    have D1 := hid (l01Var_any n1 (by omega))
    have D2 := hid (l01Var_any n2 (by omega))
    have D5 := hid (l01Var_any n5 (by omega))
    have D3 := hid (l16Short_any key (by omega))
    have D4 := hid (l16Short_any val (by omega))
    have z1 := vbs n1 (by omega)
    have z2 := vbs n2 (by omega)
    have z5 := vbs n5 (by omega)
    have z3 : ((⟨(vb key.size).toArray⟩ : ByteArray) ++ key).size ≤ 13 := by rw [ByteArray.size_append]; have := vbs key.size (by omega); omega
    have z4 : ((⟨(vb val.size).toArray⟩ : ByteArray) ++ val).size ≤ 25 := by rw [ByteArray.size_append]; have := vbs val.size (by omega); omega
    have hcv := hid (fun (W : World) (g : Nat) (h : BlockIs W g 5 [.int .u8 (n0 : Int)]) => cmd_byte (q := n0) (by omega) h)
    have z0 : (⟨#[UInt8.ofNat n0]⟩ : ByteArray).size = 1 := rfl
    obtain ⟨K, hK⟩ : ∃ K : ByteArray, ⟨#[UInt8.ofNat n0]⟩ = K := ⟨_, rfl⟩
    obtain ⟨V1, hV1⟩ : ∃ V : ByteArray, ⟨(vb n1).toArray⟩ = V := ⟨_, rfl⟩
    obtain ⟨V2, hV2⟩ : ∃ V : ByteArray, ⟨(vb n2).toArray⟩ = V := ⟨_, rfl⟩
    obtain ⟨V5, hV5⟩ : ∃ V : ByteArray, ⟨(vb n5).toArray⟩ = V := ⟨_, rfl⟩
    obtain ⟨S3, hS3⟩ : ∃ V : ByteArray, ⟨(vb key.size).toArray⟩ ++ key = V := ⟨_, rfl⟩
    obtain ⟨S4, hS4⟩ : ∃ V : ByteArray, ⟨(vb val.size).toArray⟩ ++ val = V := ⟨_, rfl⟩
    rw [hK] at hcv z0
    rw [hV1] at D1 z1
    rw [hV2] at D2 z2
    rw [hV5] at D5 z5
    rw [hS3] at D3 z3
    rw [hS4] at D4 z4
    clear hK hV1 hV2 hV5 hS3 hS4
    obtain ⟨A1, q1, y1⟩ : ∃ A1 : ByteArray, K ++ V1 = A1 ∧ A1.size ≤ 6 := ⟨_, rfl, by rw [ByteArray.size_append]; omega⟩
    obtain ⟨A2, q2, y2⟩ : ∃ A2 : ByteArray, A1 ++ V2 = A2 ∧ A2.size ≤ 11 := ⟨_, rfl, by rw [ByteArray.size_append]; omega⟩
    obtain ⟨A3, q3, y3⟩ : ∃ A3 : ByteArray, A2 ++ S3 = A3 ∧ A3.size ≤ 24 := ⟨_, rfl, by rw [ByteArray.size_append]; omega⟩
    obtain ⟨A4, q4, y4⟩ : ∃ A4 : ByteArray, A3 ++ S4 = A4 ∧ A4.size ≤ 49 := ⟨_, rfl, by rw [ByteArray.size_append]; omega⟩
    obtain ⟨A5, q5, y5⟩ : ∃ A5 : ByteArray, A4 ++ V5 = A5 ∧ A5.size ≤ 54 := ⟨_, rfl, by rw [ByteArray.size_append]; omega⟩
    have hs1 : ∀ w, (Op.stringOp .add K V1).run Tryz.prog w = .ok (.string A1) w := fun w => by rw [run_string_add_sum w _ _ (by omega), q1]
    have hs2 : ∀ w, (Op.stringOp .add A1 V2).run Tryz.prog w = .ok (.string A2) w := fun w => by rw [run_string_add_sum w _ _ (by omega), q2]
    have hs3 : ∀ w, (Op.stringOp .add A2 S3).run Tryz.prog w = .ok (.string A3) w := fun w => by rw [run_string_add_sum w _ _ (by omega), q3]
    have hs4 : ∀ w, (Op.stringOp .add A3 S4).run Tryz.prog w = .ok (.string A4) w := fun w => by rw [run_string_add_sum w _ _ (by omega), q4]
    have hs5 : ∀ w, (Op.stringOp .add A4 V5).run Tryz.prog w = .ok (.string A5) w := fun w => by rw [run_string_add_sum w _ _ (by omega), q5]
    have hwr : IntKind.u8.wrap (n0 : Int) = (n0 : Int) := by rw [IntKind.wrap_u8]; omega
    clear q1 q2 q3 q4 q5 y1 y2 y3 y4 z0 z1 z2 z3 z4 z5
    go_wp2
    refine wp_region_each (N := 32) (by kernel_rfl) (by kernel_rfl) rfl (by kernel_rfl) (fun W => Below w2.heap.size w2 W) (fun j v _ W => match j with | 0 => v = .pointer (some ⟨w.heap.size, 0, none⟩) | 1 => v = .int .i64 (n0 : Int) | 2 => v = .int .u8 (n0 : Int) | 3 => ∃ g, v = .slice (some ⟨g, 0, none⟩) 1 1 ∧ BlockIs W g 5 [.int .u8 (n0 : Int)] | 4 => v = .string K | 5 => v = .pointer (some ⟨w.heap.size, 1, none⟩) | 6 => v = .int .i64 (n1 : Int) | 7 => v = .string V1 | 8 => v = .string A1 | 9 => v = .pointer (some ⟨w.heap.size, 2, none⟩) | 10 => v = .int .i64 (n2 : Int) | 11 => v = .string V2 | 12 => v = .string A2 | 13 => v = .pointer (some ⟨w.heap.size, 3, none⟩) | 14 => v = .string key | 15 => v = .string S3 | 16 => v = .string A3 | 17 => v = .pointer (some ⟨w.heap.size, 4, none⟩) | 18 => v = .string val | 19 => v = .string S4 | 20 => v = .string A4 | 21 => v = .pointer (some ⟨w.heap.size, 5, none⟩) | 22 => v = .int .i64 (n5 : Int) | 23 => v = .string V5 | 24 => v = .string A5 | 25 => v = .string A5 | 26 => v = .bool true | _ => True) (fun i => i) (fun _ _ => false) (fun _ x y => Below x.heap.size x y) (fun _ => 0) (by kernel_rfl) (fun _ _ => rfl) ?_ (below_drewN (Below.refl _ _) 1) ?_ ?_
    · intro i j v u x y hij hdd hwt hxy hg
      match j, hg with
      | 0, hg => exact hg
      | 1, hg => exact hg
      | 2, hg => exact hg
      | 3, hg =>
        obtain ⟨g, e1, h⟩ := hg
        exact ⟨g, e1, h.on hxy h.lt⟩
      | 4, hg => exact hg
      | 5, hg => exact hg
      | 6, hg => exact hg
      | 7, hg => exact hg
      | 8, hg => exact hg
      | 9, hg => exact hg
      | 10, hg => exact hg
      | 11, hg => exact hg
      | 12, hg => exact hg
      | 13, hg => exact hg
      | 14, hg => exact hg
      | 15, hg => exact hg
      | 16, hg => exact hg
      | 17, hg => exact hg
      | 18, hg => exact hg
      | 19, hg => exact hg
      | 20, hg => exact hg
      | 21, hg => exact hg
      | 22, hg => exact hg
      | 23, hg => exact hg
      | 24, hg => exact hg
      | 25, hg => exact hg
      | 26, hg => exact hg
      | n + 27, _ => exact trivial
    · refine ⟨?_, ?_, ?_, ?_, ?_, ?_, ?_, ?_, ?_, ?_, ?_, ?_, ?_, ?_, ?_, ?_, ?_, ?_, ?_, ?_, ?_, ?_, ?_, ?_, ?_, ?_, ?_, trivial⟩
      · intro A W hC hg hb
        have h1 : A.eval (.tmp 1) = .pointer (some ⟨w.heap.size, 0, none⟩) := hb 1 (base_of (by kernel_rfl))
        exact does_value (v := .pointer (some ⟨w.heap.size, 0, none⟩)) (w' := W) (by simp only [execOp, h1]; simp [go_sem]) ⟨rfl, hC, Below.refl _ _⟩
      · intro A W hC hg hb
        have h7 : A.eval (.tmp 7) = .pointer (some ⟨w.heap.size, 0, none⟩) := hg 0 7 (by decide) rfl (by simp [Op.operands]) (by kernel_rfl) rfl
        have hc := (X2.out.on hC X2.out.lt).cell (j := 0) rfl
        exact does_value (v := .int .i64 (n0 : Int)) (w' := W) (by simp only [execOp, h7]; simp [go_sem, hc]) ⟨rfl, hC, Below.refl _ _⟩
      · intro A W hC hg hb
        have h8 : A.eval (.tmp 8) = .int .i64 (n0 : Int) := hg 1 8 (by decide) rfl (by simp [Op.operands]) (by kernel_rfl) rfl
        exact does_value (v := .int .u8 (n0 : Int)) (w' := W) (by simp only [execOp, h8]; simp [go_sem, hwr]) ⟨rfl, hC, Below.refl _ _⟩
      · intro A W hC hg hb
        have h9 : A.eval (.tmp 9) = .int .u8 (n0 : Int) := hg 2 9 (by decide) rfl (by simp [Op.operands]) (by kernel_rfl) rfl
        simp [go_sem] at h9
        exact does_value (v := .slice (some ⟨W.heap.size, 0, none⟩) 1 1) (w' := W.alloc (.cells #[.int .u8 (n0 : Int)] 5)) (by simp [execOp, go_sem, h9]) ⟨⟨_, rfl, heap_alloc_new W _⟩, below_more hC _, below_more (Below.refl _ _) _⟩
      · intro A W hC hg hb
        have g3 := hg 3 10 (by decide) rfl (by simp [Op.operands]) (by kernel_rfl) rfl
        obtain ⟨g, h10, hB⟩ := g3
        have hcw := hcv.out W g hB
        exact does_value (v := .string K) (w' := W) (by simp only [execOp, h10]; simp [go_sem, hcw]) ⟨rfl, hC, Below.refl _ _⟩
      · intro A W hC hg hb
        have h1 : A.eval (.tmp 1) = .pointer (some ⟨w.heap.size, 0, none⟩) := hb 1 (base_of (by kernel_rfl))
        exact does_value (v := .pointer (some ⟨w.heap.size, 1, none⟩)) (w' := W) (by simp only [execOp, h1]; simp [go_sem]) ⟨rfl, hC, Below.refl _ _⟩
      · intro A W hC hg hb
        have h12 : A.eval (.tmp 12) = .pointer (some ⟨w.heap.size, 1, none⟩) := hg 5 12 (by decide) rfl (by simp [Op.operands]) (by kernel_rfl) rfl
        have hc := (X2.out.on hC X2.out.lt).cell (j := 1) rfl
        exact does_value (v := .int .i64 (n1 : Int)) (w' := W) (by simp only [execOp, h12]; simp [go_sem, hc]) ⟨rfl, hC, Below.refl _ _⟩
      · intro A W hC hg hb
        have h13 : A.eval (.tmp 13) = .int .i64 (n1 : Int) := hg 6 13 (by decide) rfl (by simp [Op.operands, Call.operands]) (by kernel_rfl) rfl
        simp [go_sem] at h13
        refine does_enter (f := 58) (args := #[.int .i64 (n1 : Int)]) (w' := W) (by simp [go_sem, h13]) ?_
        refine (D1.out W).mono ?_
        rintro e w3 ⟨rfl, b3⟩
        exact ⟨_, rfl, rfl, below_via hC b3, b3⟩
      · intro A W hC hg hb
        have h11 : A.eval (.tmp 11) = .string K := hg 4 11 (by decide) rfl (by simp [Op.operands]) (by kernel_rfl) rfl
        have h14 : A.eval (.tmp 14) = .string V1 := hg 7 14 (by decide) rfl (by simp [Op.operands]) (by kernel_rfl) rfl
        exact does_value (v := .string A1) (w' := W) (by simp only [execOp, h11, h14]; simp [go_sem, hs1]) ⟨rfl, hC, Below.refl _ _⟩
      · intro A W hC hg hb
        have h1 : A.eval (.tmp 1) = .pointer (some ⟨w.heap.size, 0, none⟩) := hb 1 (base_of (by kernel_rfl))
        exact does_value (v := .pointer (some ⟨w.heap.size, 2, none⟩)) (w' := W) (by simp only [execOp, h1]; simp [go_sem]) ⟨rfl, hC, Below.refl _ _⟩
      · intro A W hC hg hb
        have h16 : A.eval (.tmp 16) = .pointer (some ⟨w.heap.size, 2, none⟩) := hg 9 16 (by decide) rfl (by simp [Op.operands]) (by kernel_rfl) rfl
        have hc := (X2.out.on hC X2.out.lt).cell (j := 2) rfl
        exact does_value (v := .int .i64 (n2 : Int)) (w' := W) (by simp only [execOp, h16]; simp [go_sem, hc]) ⟨rfl, hC, Below.refl _ _⟩
      · intro A W hC hg hb
        have h17 : A.eval (.tmp 17) = .int .i64 (n2 : Int) := hg 10 17 (by decide) rfl (by simp [Op.operands, Call.operands]) (by kernel_rfl) rfl
        simp [go_sem] at h17
        refine does_enter (f := 58) (args := #[.int .i64 (n2 : Int)]) (w' := W) (by simp [go_sem, h17]) ?_
        refine (D2.out W).mono ?_
        rintro e w3 ⟨rfl, b3⟩
        exact ⟨_, rfl, rfl, below_via hC b3, b3⟩
      · intro A W hC hg hb
        have h15 : A.eval (.tmp 15) = .string A1 := hg 8 15 (by decide) rfl (by simp [Op.operands]) (by kernel_rfl) rfl
        have h18 : A.eval (.tmp 18) = .string V2 := hg 11 18 (by decide) rfl (by simp [Op.operands]) (by kernel_rfl) rfl
        exact does_value (v := .string A2) (w' := W) (by simp only [execOp, h15, h18]; simp [go_sem, hs2]) ⟨rfl, hC, Below.refl _ _⟩
      · intro A W hC hg hb
        have h1 : A.eval (.tmp 1) = .pointer (some ⟨w.heap.size, 0, none⟩) := hb 1 (base_of (by kernel_rfl))
        exact does_value (v := .pointer (some ⟨w.heap.size, 3, none⟩)) (w' := W) (by simp only [execOp, h1]; simp [go_sem]) ⟨rfl, hC, Below.refl _ _⟩
      · intro A W hC hg hb
        have h20 : A.eval (.tmp 20) = .pointer (some ⟨w.heap.size, 3, none⟩) := hg 13 20 (by decide) rfl (by simp [Op.operands]) (by kernel_rfl) rfl
        have hc := (X2.out.on hC X2.out.lt).cell (j := 3) rfl
        exact does_value (v := .string key) (w' := W) (by simp only [execOp, h20]; simp [go_sem, hc]) ⟨rfl, hC, Below.refl _ _⟩
      · intro A W hC hg hb
        have h21 : A.eval (.tmp 21) = .string key := hg 14 21 (by decide) rfl (by simp [Op.operands, Call.operands]) (by kernel_rfl) rfl
        simp [go_sem] at h21
        refine does_enter (f := 59) (args := #[.string key]) (w' := W) (by simp [go_sem, h21]) ?_
        refine (D3.out W).mono ?_
        rintro e w3 ⟨rfl, b3⟩
        exact ⟨_, rfl, rfl, below_via hC b3, b3⟩
      · intro A W hC hg hb
        have h19 : A.eval (.tmp 19) = .string A2 := hg 12 19 (by decide) rfl (by simp [Op.operands]) (by kernel_rfl) rfl
        have h22 : A.eval (.tmp 22) = .string S3 := hg 15 22 (by decide) rfl (by simp [Op.operands]) (by kernel_rfl) rfl
        exact does_value (v := .string A3) (w' := W) (by simp only [execOp, h19, h22]; simp [go_sem, hs3]) ⟨rfl, hC, Below.refl _ _⟩
      · intro A W hC hg hb
        have h1 : A.eval (.tmp 1) = .pointer (some ⟨w.heap.size, 0, none⟩) := hb 1 (base_of (by kernel_rfl))
        exact does_value (v := .pointer (some ⟨w.heap.size, 4, none⟩)) (w' := W) (by simp only [execOp, h1]; simp [go_sem]) ⟨rfl, hC, Below.refl _ _⟩
      · intro A W hC hg hb
        have h24 : A.eval (.tmp 24) = .pointer (some ⟨w.heap.size, 4, none⟩) := hg 17 24 (by decide) rfl (by simp [Op.operands]) (by kernel_rfl) rfl
        have hc := (X2.out.on hC X2.out.lt).cell (j := 4) rfl
        exact does_value (v := .string val) (w' := W) (by simp only [execOp, h24]; simp [go_sem, hc]) ⟨rfl, hC, Below.refl _ _⟩
      · intro A W hC hg hb
        have h25 : A.eval (.tmp 25) = .string val := hg 18 25 (by decide) rfl (by simp [Op.operands, Call.operands]) (by kernel_rfl) rfl
        simp [go_sem] at h25
        refine does_enter (f := 59) (args := #[.string val]) (w' := W) (by simp [go_sem, h25]) ?_
        refine (D4.out W).mono ?_
        rintro e w3 ⟨rfl, b3⟩
        exact ⟨_, rfl, rfl, below_via hC b3, b3⟩
      · intro A W hC hg hb
        have h23 : A.eval (.tmp 23) = .string A3 := hg 16 23 (by decide) rfl (by simp [Op.operands]) (by kernel_rfl) rfl
        have h26 : A.eval (.tmp 26) = .string S4 := hg 19 26 (by decide) rfl (by simp [Op.operands]) (by kernel_rfl) rfl
        exact does_value (v := .string A4) (w' := W) (by simp only [execOp, h23, h26]; simp [go_sem, hs4]) ⟨rfl, hC, Below.refl _ _⟩
      · intro A W hC hg hb
        have h1 : A.eval (.tmp 1) = .pointer (some ⟨w.heap.size, 0, none⟩) := hb 1 (base_of (by kernel_rfl))
        exact does_value (v := .pointer (some ⟨w.heap.size, 5, none⟩)) (w' := W) (by simp only [execOp, h1]; simp [go_sem]) ⟨rfl, hC, Below.refl _ _⟩
      · intro A W hC hg hb
        have h28 : A.eval (.tmp 28) = .pointer (some ⟨w.heap.size, 5, none⟩) := hg 21 28 (by decide) rfl (by simp [Op.operands]) (by kernel_rfl) rfl
        have hc := (X2.out.on hC X2.out.lt).cell (j := 5) rfl
        exact does_value (v := .int .i64 (n5 : Int)) (w' := W) (by simp only [execOp, h28]; simp [go_sem, hc]) ⟨rfl, hC, Below.refl _ _⟩
      · intro A W hC hg hb
        have h29 : A.eval (.tmp 29) = .int .i64 (n5 : Int) := hg 22 29 (by decide) rfl (by simp [Op.operands, Call.operands]) (by kernel_rfl) rfl
        simp [go_sem] at h29
        refine does_enter (f := 58) (args := #[.int .i64 (n5 : Int)]) (w' := W) (by simp [go_sem, h29]) ?_
        refine (D5.out W).mono ?_
        rintro e w3 ⟨rfl, b3⟩
        exact ⟨_, rfl, rfl, below_via hC b3, b3⟩
      · intro A W hC hg hb
        have h27 : A.eval (.tmp 27) = .string A4 := hg 20 27 (by decide) rfl (by simp [Op.operands]) (by kernel_rfl) rfl
        have h30 : A.eval (.tmp 30) = .string V5 := hg 23 30 (by decide) rfl (by simp [Op.operands]) (by kernel_rfl) rfl
        exact does_value (v := .string A5) (w' := W) (by simp only [execOp, h27, h30]; simp [go_sem, hs5]) ⟨rfl, hC, Below.refl _ _⟩
      · intro A W hC hg hb
        have h31 : A.eval (.tmp 31) = .string A5 := hg 24 31 (by decide) rfl (by simp [Op.operands]) (by kernel_rfl) rfl
        exact does_value (v := .string A5) (w' := W) (by simp only [execOp, h31]; simp [go_sem]) ⟨rfl, hC, Below.refl _ _⟩
      · intro A W hC hg hb
        exact does_value (v := .bool true) (w' := W) (by simp only [execOp]; simp [go_sem]) ⟨rfl, hC, Below.refl _ _⟩
    · intro vs W' hC hg
      have hok := hg 25 (by decide) (fun k => rfl)
      have hok2 := hg 26 (by decide) (fun k => rfl)
      change vs 25 = _ at hok
      change vs 26 = _ at hok2
      clear hg
      have BL := hid (below_via B2.out hC)
      change Exit.then _ _ _ (laidBy _ vs _ 27 _) W'
      simp only [laidBy, if_true, dstAt, List.getElem?_toArray, List.getElem?_cons_succ, List.getElem?_cons_zero, Option.bind_some]
      simp only [Act.put, List.setIfInBounds_toArray, List.set_cons_succ, List.set_cons_zero]
      rw [hok, hok2]
      clear hok hok2 hC
      go_wp2
      go_ret2
      exact ⟨⟨_, _, rfl, by omega⟩, BL.out⟩
end Go.Proofs.YtohmfmajgehadaaGreatDoor
