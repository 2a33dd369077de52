/-
  The walks of impl.textWriter's methods session and item.
-/
import Derived.Test.YtihgkocfgjihhaaGreatDoorJoint12
import Derived.Test.YtihgkocfgjihhaaGreatDoorJoint1
namespace Go.Proofs.YtihgkocfgjihhaaGreatDoor
open Go.RowKit

set_option maxRecDepth 1000000 in
set_option maxHeartbeats 1000000 in
theorem wrSession_on (B b : Nat) (l : List UInt8) (d : SessionD) (hd : sessionFine d = true) (w : World) (h : WrIs w B b l) (hB : B ≤ w.heap.size) (hl : l.length ≤ 100000) :
    Calls Tryz.prog 68 #[.pointer (some ⟨b, 0, none⟩), .agg #[.int .i64 d.token, .int .i64 d.last, .string d.reply]] w fun e w' => e = .returned (.tuple #[]) ∧ WrIs w' B b (l ++ sessB d) ∧ Below B w w' := by
  have hbd := session_bounds hd
  have hln := sessB_len hd
  clear hd
  obtain ⟨token, last, reply⟩ := d
  dsimp only at hbd ⊢
  simp only [sessB, List.length_append] at hln ⊢
  obtain ⟨n_token, rfl⟩ : ∃ n : Nat, token = n := ⟨token.toNat, by omega⟩
  obtain ⟨n_last, rfl⟩ : ∃ n : Nat, last = n := ⟨last.toNat, by omega⟩
  simp only [Int.toNat_natCast] at hln ⊢
  have hblt : b < w.heap.size := LibA.IsBuffer.lt h
  have hX := below_more (Below.refl w.heap.size w) (.cells #[.int .i64 (n_token : Int), .int .i64 (n_last : Int), .string reply] 121)
  have X0 : Hid (BlockIs (w.alloc (.cells #[.int .i64 (n_token : Int), .int .i64 (n_last : Int), .string reply] 121)) w.heap.size 121 [.int .i64 (n_token : Int), .int .i64 (n_last : Int), .string reply]) := heap_alloc_new w _
  have W0 := hid (h.on hX)
  have B0 := hid (hX.mono hB)
  have S0 : Hid (B ≤ (w.alloc (.cells #[.int .i64 (n_token : Int), .int .i64 (n_last : Int), .string reply] 121)).heap.size) := Nat.le_trans hB hX.size
  clear hX h
  obtain ⟨w0, hw0⟩ : ∃ W, w.alloc (.cells #[.int .i64 (n_token : Int), .int .i64 (n_last : Int), .string reply] 121) = W := ⟨_, rfl⟩
  rw [hw0] at X0 W0 B0 S0
  have c0 := X0.out.cell (j := 0) rfl
  go_enter Tryz.func68, Tryz.ntmps68
  go_wp2_with fail
  refine (wrNumber_on B b (l) n_token (by omega) _ W0.out S0.out (by first | omega | (simp only [List.length_append]; omega))).mono ?_
  rintro e w1 ⟨rfl, hw, b1, k1⟩
  have W1 := hid hw
  have B1 := hid (B0.out.trans b1)
  have S1 : Hid (B ≤ w1.heap.size) := Nat.le_trans S0.out b1.size
  have X1 := hid (blk_others X0.out k1 (by decide) (by omega))
  have c := X1.out.cell (j := 1) rfl
  clear hw b1 k1 W0 B0 S0 X0 c0 hw0
  go_wp2_with fail
  refine (wrNumber_on B b (l ++ vb n_token) n_last (by omega) _ W1.out S1.out (by first | omega | (simp only [List.length_append]; omega))).mono ?_
  rintro e w2 ⟨rfl, hw, b2, k2⟩
  have W2 := hid hw
  have B2 := hid (B1.out.trans b2)
  have S2 : Hid (B ≤ w2.heap.size) := Nat.le_trans S1.out b2.size
  have X2 := hid (blk_others X1.out k2 (by decide) (by omega))
  have c := X2.out.cell (j := 2) rfl
  clear hw b2 k2 W1 B1 S1 X1 
  go_wp2_with fail
  refine (wrShort_on B b ((l ++ vb n_token) ++ vb n_last) reply (by omega) _ W2.out S2.out (by first | omega | (simp only [List.length_append]; omega))).mono ?_
  rintro e w3 ⟨rfl, hw, b3, k3⟩
  have W3 := hid hw
  have B3 := hid (B2.out.trans b3)
  have S3 : Hid (B ≤ w3.heap.size) := Nat.le_trans S2.out b3.size
  have X3 := hid (blk_others X2.out k3 (by decide) (by omega))
  clear hw b3 k3 W2 B2 S2 X2 
  go_wp2
  go_end0
  exact ⟨rfl, by have := W3.out; simpa only [List.append_assoc] using this, B3.out⟩

set_option maxRecDepth 1000000 in
set_option maxHeartbeats 1000000 in
theorem wrItem_on (B b : Nat) (l : List UInt8) (d : ItemD) (hd : itemFine d = true) (w : World) (h : WrIs w B b l) (hB : B ≤ w.heap.size) (hl : l.length ≤ 100000) :
    Calls Tryz.prog 69 #[.pointer (some ⟨b, 0, none⟩), .agg #[.string d.key, .string d.val, .int .i64 d.ver]] w fun e w' => e = .returned (.tuple #[]) ∧ WrIs w' B b (l ++ itemB d) ∧ Below B w w' := by
  have hbd := item_bounds hd
  have hln := itemB_len hd
  clear hd
  obtain ⟨key, val, ver⟩ := d
  dsimp only at hbd ⊢
  simp only [itemB, List.length_append] at hln ⊢
  obtain ⟨n_ver, rfl⟩ : ∃ n : Nat, ver = n := ⟨ver.toNat, by omega⟩
  simp only [Int.toNat_natCast] at hln ⊢
  have hblt : b < w.heap.size := LibA.IsBuffer.lt h
  have hX := below_more (Below.refl w.heap.size w) (.cells #[.string key, .string val, .int .i64 (n_ver : Int)] 124)
  have X0 : Hid (BlockIs (w.alloc (.cells #[.string key, .string val, .int .i64 (n_ver : Int)] 124)) w.heap.size 124 [.string key, .string val, .int .i64 (n_ver : Int)]) := heap_alloc_new w _
  have W0 := hid (h.on hX)
  have B0 := hid (hX.mono hB)
  have S0 : Hid (B ≤ (w.alloc (.cells #[.string key, .string val, .int .i64 (n_ver : Int)] 124)).heap.size) := Nat.le_trans hB hX.size
  clear hX h
  obtain ⟨w0, hw0⟩ : ∃ W, w.alloc (.cells #[.string key, .string val, .int .i64 (n_ver : Int)] 124) = W := ⟨_, rfl⟩
  rw [hw0] at X0 W0 B0 S0
  have c0 := X0.out.cell (j := 0) rfl
  go_enter Tryz.func69, Tryz.ntmps69
  go_wp2_with fail
  refine (wrShort_on B b (l) key (by omega) _ W0.out S0.out (by first | omega | (simp only [List.length_append]; omega))).mono ?_
  rintro e w1 ⟨rfl, hw, b1, k1⟩
  have W1 := hid hw
  have B1 := hid (B0.out.trans b1)
  have S1 : Hid (B ≤ w1.heap.size) := Nat.le_trans S0.out b1.size
  have X1 := hid (blk_others X0.out k1 (by decide) (by omega))
  have c := X1.out.cell (j := 1) rfl
  clear hw b1 k1 W0 B0 S0 X0 c0 hw0
  go_wp2_with fail
  refine (wrShort_on B b (l ++ (vb key.size ++ key.data.toList)) val (by omega) _ W1.out S1.out (by first | omega | (simp only [List.length_append]; omega))).mono ?_
  rintro e w2 ⟨rfl, hw, b2, k2⟩
  have W2 := hid hw
  have B2 := hid (B1.out.trans b2)
  have S2 : Hid (B ≤ w2.heap.size) := Nat.le_trans S1.out b2.size
  have X2 := hid (blk_others X1.out k2 (by decide) (by omega))
  have c := X2.out.cell (j := 2) rfl
  clear hw b2 k2 W1 B1 S1 X1 
  go_wp2_with fail
  refine (wrNumber_on B b ((l ++ (vb key.size ++ key.data.toList)) ++ (vb val.size ++ val.data.toList)) n_ver (by omega) _ W2.out S2.out (by first | omega | (simp only [List.length_append]; omega))).mono ?_
  rintro e w3 ⟨rfl, hw, b3, k3⟩
  have W3 := hid hw
  have B3 := hid (B2.out.trans b3)
  have S3 : Hid (B ≤ w3.heap.size) := Nat.le_trans S2.out b3.size
  have X3 := hid (blk_others X2.out k3 (by decide) (by omega))
  clear hw b3 k3 W2 B2 S2 X2 
  go_wp2
  go_end0
  exact ⟨rfl, by have := W3.out; simpa only [List.append_assoc] using this, B3.out⟩

end Go.Proofs.YtihgkocfgjihhaaGreatDoor
