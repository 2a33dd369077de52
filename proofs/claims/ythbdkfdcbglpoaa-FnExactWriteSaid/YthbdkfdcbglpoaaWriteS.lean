/-
  The walk of spec.Write.
-/
import Derived.Test.YthbdkfdcbglpoaaStrCopyS
import Derived.Test.YthbdkfdcbglpoaaStrOkS
namespace Go.Proofs.Ythbdkfdcbglpoaa
open Go.RowKit

set_option maxRecDepth 1000000 in
set_option maxHeartbeats 4000000 in
theorem specWrite_any (d : StrD) (ao : Option Addr) (cap : Nat) (hs : d.Small) (x : ByteArray) (_hx : x.size ≤ 1048576) (w : World) (ha : LatesAt w ao d.late) :
    Calls Try.prog 18 #[.agg #[.int .i64 d.st, .int .i64 d.iss, .int .i64 d.una, .int .i64 d.rcv, .string d.wait, .int .i64 d.sent, .int .i64 d.fin, .bool d.pf, .string d.inn, .slice ao d.late.length cap, .bool d.owe, .int .i64 d.due, .int .i64 d.times], .string x] w fun e w' => StrDid2 w (writeD d x) (mayWrite d x) e w' := by
  have hb1 := below_more (below_more (Below.refl w.heap.size w) (.cells #[.int .i64 d.st, .int .i64 d.iss, .int .i64 d.una, .int .i64 d.rcv, .string d.wait, .int .i64 d.sent, .int .i64 d.fin, .bool d.pf, .string d.inn, .slice ao d.late.length cap, .bool d.owe, .int .i64 d.due, .int .i64 d.times] 24)) (.cells #[.int .i64 0, .int .i64 0, .int .i64 0, .int .i64 0, .string ⟨#[]⟩, .int .i64 0, .int .i64 0, .bool false, .string ⟨#[]⟩, .slice none 0 0, .bool false, .int .i64 0, .int .i64 0] 24)
  have hy0 : BlockIs ((w.alloc (.cells #[.int .i64 d.st, .int .i64 d.iss, .int .i64 d.una, .int .i64 d.rcv, .string d.wait, .int .i64 d.sent, .int .i64 d.fin, .bool d.pf, .string d.inn, .slice ao d.late.length cap, .bool d.owe, .int .i64 d.due, .int .i64 d.times] 24)).alloc (.cells #[.int .i64 0, .int .i64 0, .int .i64 0, .int .i64 0, .string ⟨#[]⟩, .int .i64 0, .int .i64 0, .bool false, .string ⟨#[]⟩, .slice none 0 0, .bool false, .int .i64 0, .int .i64 0] 24)) w.heap.size 24 [.int .i64 d.st, .int .i64 d.iss, .int .i64 d.una, .int .i64 d.rcv, .string d.wait, .int .i64 d.sent, .int .i64 d.fin, .bool d.pf, .string d.inn, .slice ao d.late.length cap, .bool d.owe, .int .i64 d.due, .int .i64 d.times] := by
    show ((w.heap.push _).push _)[w.heap.size]? = some _
    rw [Array.getElem?_push, if_neg (by simp), Array.getElem?_push, if_pos rfl]
  have hy1 : BlockIs ((w.alloc (.cells #[.int .i64 d.st, .int .i64 d.iss, .int .i64 d.una, .int .i64 d.rcv, .string d.wait, .int .i64 d.sent, .int .i64 d.fin, .bool d.pf, .string d.inn, .slice ao d.late.length cap, .bool d.owe, .int .i64 d.due, .int .i64 d.times] 24)).alloc (.cells #[.int .i64 0, .int .i64 0, .int .i64 0, .int .i64 0, .string ⟨#[]⟩, .int .i64 0, .int .i64 0, .bool false, .string ⟨#[]⟩, .slice none 0 0, .bool false, .int .i64 0, .int .i64 0] 24)) (w.heap.size + 1) 24 [.int .i64 0, .int .i64 0, .int .i64 0, .int .i64 0, .string ⟨#[]⟩, .int .i64 0, .int .i64 0, .bool false, .string ⟨#[]⟩, .slice none 0 0, .bool false, .int .i64 0, .int .i64 0] := by
    show ((w.heap.push _).push _)[w.heap.size + 1]? = some _
    rw [Array.getElem?_push, if_pos (by simp)]
  obtain ⟨W0, hW0⟩ : ∃ W0, (w.alloc (.cells #[.int .i64 d.st, .int .i64 d.iss, .int .i64 d.una, .int .i64 d.rcv, .string d.wait, .int .i64 d.sent, .int .i64 d.fin, .bool d.pf, .string d.inn, .slice ao d.late.length cap, .bool d.owe, .int .i64 d.due, .int .i64 d.times] 24)).alloc (.cells #[.int .i64 0, .int .i64 0, .int .i64 0, .int .i64 0, .string ⟨#[]⟩, .int .i64 0, .int .i64 0, .bool false, .string ⟨#[]⟩, .slice none 0 0, .bool false, .int .i64 0, .int .i64 0] 24) = W0 := ⟨_, rfl⟩
  rw [hW0] at hb1 hy0 hy1
  have HA := hid ha
  have HS := hid hs
  have X0 := hid hy0
  have Y0 := hid hy1
  have B0 := hid hb1
  have hlt1 := hy1.lt
  have hlt0 := hb1.size
  have C := hid (specCopy_any d ao cap hs.late _ (ha.on hb1))
  unfold CopyDid at C
  unfold StrDid2
  obtain ⟨s1, s2, s3, s4⟩ := hs
  clear ha hb1 hy0 hy1 s4
  go_enter Try.func18, Try.ntmps18
  go_wp2_with (first | (refine wpList_load_str X0.out rfl rfl _ rfl rfl ?_) | fail)
  refine Calls.mono C.out ?_
  rintro e w1 ⟨va, vc, rfl, hr1, b1⟩
  have hsz1 := b1.size
  have OV := hid (str_over w1 #[.int .i64 0, .int .i64 0, .int .i64 0, .int .i64 0, .string ⟨#[]⟩, .int .i64 0, .int .i64 0, .bool false, .string ⟨#[]⟩, .slice none 0 0, .bool false, .int .i64 0, .int .i64 0] #[.int .i64 d.st, .int .i64 d.iss, .int .i64 d.una, .int .i64 d.rcv, .string d.wait, .int .i64 d.sent, .int .i64 d.fin, .bool d.pf, .string d.inn, .slice va d.late.length vc, .bool d.owe, .int .i64 d.due, .int .i64 d.times] 24)
  have KZ := hid (show BlockIs (w1.alloc (.cells #[.int .i64 0, .int .i64 0, .int .i64 0, .int .i64 0, .string ⟨#[]⟩, .int .i64 0, .int .i64 0, .bool false, .string ⟨#[]⟩, .slice none 0 0, .bool false, .int .i64 0, .int .i64 0] 24)) w1.heap.size 24 [.int .i64 0, .int .i64 0, .int .i64 0, .int .i64 0, .string ⟨#[]⟩, .int .i64 0, .int .i64 0, .bool false, .string ⟨#[]⟩, .slice none 0 0, .bool false, .int .i64 0, .int .i64 0] from heap_alloc_new w1 _)
  have hb2 := below_more (Below.refl w1.heap.size w1) (.cells #[.int .i64 d.st, .int .i64 d.iss, .int .i64 d.una, .int .i64 d.rcv, .string d.wait, .int .i64 d.sent, .int .i64 d.fin, .bool d.pf, .string d.inn, .slice va d.late.length vc, .bool d.owe, .int .i64 d.due, .int .i64 d.times] 24)
  have K2 := hid (show BlockIs (w1.alloc (.cells #[.int .i64 d.st, .int .i64 d.iss, .int .i64 d.una, .int .i64 d.rcv, .string d.wait, .int .i64 d.sent, .int .i64 d.fin, .bool d.pf, .string d.inn, .slice va d.late.length vc, .bool d.owe, .int .i64 d.due, .int .i64 d.times] 24)) w1.heap.size 24 [.int .i64 d.st, .int .i64 d.iss, .int .i64 d.una, .int .i64 d.rcv, .string d.wait, .int .i64 d.sent, .int .i64 d.fin, .bool d.pf, .string d.inn, .slice va d.late.length vc, .bool d.owe, .int .i64 d.due, .int .i64 d.times] from heap_alloc_new w1 _)
  have X1 := X0.out.on b1 X0.out.lt
  have Y1 := Y0.out.on b1 Y0.out.lt
  have X2 := hid (X1.on hb2 X1.lt)
  have Y2 := hid (Y1.on hb2 Y1.lt)
  have R2 := hid (hr1.on hb2)
  have B2 := hid (below_via (below_via B0.out b1) hb2)
  obtain ⟨W2, hW2⟩ : ∃ W2, w1.alloc (.cells #[.int .i64 d.st, .int .i64 d.iss, .int .i64 d.una, .int .i64 d.rcv, .string d.wait, .int .i64 d.sent, .int .i64 d.fin, .bool d.pf, .string d.inn, .slice va d.late.length vc, .bool d.owe, .int .i64 d.due, .int .i64 d.times] 24) = W2 := ⟨_, rfl⟩
  rw [hW2] at OV K2 X2 Y2 R2 B2
  clear hb2 X1 Y1 hr1 b1 C X0 Y0 B0
  obtain ⟨G2, hG2⟩ : ∃ G, w1.heap.size = G := ⟨_, rfl⟩
  have hG2l : w.heap.size + 1 < G2 := by omega
  go_wp2_with (first | (refine wpList_store_str KZ.out rfl rfl _ _ rfl _ rfl rfl rfl (strCells_all d _ _) ?_; rw [OV.out]) | (refine wpList_load_str X2.out rfl rfl _ rfl rfl ?_) | fail)
  refine Calls.mono (specStreamOk_any d ao cap HS.out _ (HA.out.on B2.out)) ?_
  rintro e w3 ⟨rfl, b3⟩
  rw [hG2] at K2 KZ
  have X3 := hid (X2.out.on b3 X2.out.lt)
  have Y3 := hid (Y2.out.on b3 Y2.out.lt)
  have K3 := hid (K2.out.on b3 K2.out.lt)
  have R3 := hid (R2.out.on b3)
  have B3 := hid (below_via B2.out b3)
  clear b3 X2 Y2 K2 R2 B2 KZ OV hG2
  cases hk : strOk d with
  | false =>
    have HO : Hid ((mayWrite d x) = false) := by show _ = _; simp [mayWrite, hk]
    have HD : Hid ((writeD d x) = d) := by show _ = _; rw [writeD, HO.out]; rfl
    clear hk
    obtain ⟨U, hU⟩ : ∃ U, w3.setRow (w.heap.size + 1) #[.int .i64 d.st, .int .i64 d.iss, .int .i64 d.una, .int .i64 d.rcv, .string d.wait, .int .i64 d.sent, .int .i64 d.fin, .bool d.pf, .string d.inn, .slice va d.late.length vc, .bool d.owe, .int .i64 d.due, .int .i64 d.times] = U := ⟨_, rfl⟩
    have Y9 : BlockIs U (w.heap.size + 1) 24 [.int .i64 d.st, .int .i64 d.iss, .int .i64 d.una, .int .i64 d.rcv, .string d.wait, .int .i64 d.sent, .int .i64 d.fin, .bool d.pf, .string d.inn, .slice va d.late.length vc, .bool d.owe, .int .i64 d.due, .int .i64 d.times] := by rw [← hU]; exact store_block Y3.out _
    have B9 : Hid (Below w.heap.size w U) := by rw [← hU]; exact below_setRow B3.out (by omega) _
    have R9 : Hid (OwnsL U W0.heap.size d.late va vc) := by rw [← hU]; exact R3.out.setRow Y3.out (by decide) _
    have r0 := Y9.cell (j := 0) rfl
    have r1 := Y9.cell (j := 1) rfl
    have r2 := Y9.cell (j := 2) rfl
    have r3 := Y9.cell (j := 3) rfl
    have r4 := Y9.cell (j := 4) rfl
    have r5 := Y9.cell (j := 5) rfl
    have r6 := Y9.cell (j := 6) rfl
    have r7 := Y9.cell (j := 7) rfl
    have r8 := Y9.cell (j := 8) rfl
    have r9 := Y9.cell (j := 9) rfl
    have r10 := Y9.cell (j := 10) rfl
    have r11 := Y9.cell (j := 11) rfl
    have r12 := Y9.cell (j := 12) rfl
    clear Y9
    go_wp2_with (first | (refine wpList_load_str K3.out rfl rfl _ rfl rfl ?_) | (refine wpList_store_str Y3.out rfl rfl _ _ rfl _ rfl rfl rfl (strCells_all d _ _) ?_; rw [hU]) | fail)
    rw [HD.out, HO.out]
    refine bodyPost_ret (v := .tuple #[.agg #[.int .i64 d.st, .int .i64 d.iss, .int .i64 d.una, .int .i64 d.rcv, .string d.wait, .int .i64 d.sent, .int .i64 d.fin, .bool d.pf, .string d.inn, .slice va d.late.length vc, .bool d.owe, .int .i64 d.due, .int .i64 d.times], .bool false]) (by simp [results, Try.results18, go_sem, r0, r1, r2, r3, r4, r5, r6, r7, r8, r9, r10, r11, r12]) rfl ⟨va, vc, rfl, R9.out.own.2, R9.out.own.1.down (by omega) (Nat.le_refl _), B9.out⟩
  | true =>
    have c6 := X3.out.cell (j := 6) rfl
    have c4 := X3.out.cell (j := 4) rfl
    by_cases hf : d.fin = 0
    rotate_left
    · have hfb : (d.fin == 0) = false := by rw [beq_eq_false_iff_ne]; exact hf
      have HO : Hid ((mayWrite d x) = false) := by show _ = _; simp [mayWrite, hf]
      have HD : Hid ((writeD d x) = d) := by show _ = _; rw [writeD, HO.out]; rfl
      obtain ⟨U, hU⟩ : ∃ U, w3.setRow (w.heap.size + 1) #[.int .i64 d.st, .int .i64 d.iss, .int .i64 d.una, .int .i64 d.rcv, .string d.wait, .int .i64 d.sent, .int .i64 d.fin, .bool d.pf, .string d.inn, .slice va d.late.length vc, .bool d.owe, .int .i64 d.due, .int .i64 d.times] = U := ⟨_, rfl⟩
      have Y9 : BlockIs U (w.heap.size + 1) 24 [.int .i64 d.st, .int .i64 d.iss, .int .i64 d.una, .int .i64 d.rcv, .string d.wait, .int .i64 d.sent, .int .i64 d.fin, .bool d.pf, .string d.inn, .slice va d.late.length vc, .bool d.owe, .int .i64 d.due, .int .i64 d.times] := by rw [← hU]; exact store_block Y3.out _
      have B9 : Hid (Below w.heap.size w U) := by rw [← hU]; exact below_setRow B3.out (by omega) _
      have R9 : Hid (OwnsL U W0.heap.size d.late va vc) := by rw [← hU]; exact R3.out.setRow Y3.out (by decide) _
      have r0 := Y9.cell (j := 0) rfl
      have r1 := Y9.cell (j := 1) rfl
      have r2 := Y9.cell (j := 2) rfl
      have r3 := Y9.cell (j := 3) rfl
      have r4 := Y9.cell (j := 4) rfl
      have r5 := Y9.cell (j := 5) rfl
      have r6 := Y9.cell (j := 6) rfl
      have r7 := Y9.cell (j := 7) rfl
      have r8 := Y9.cell (j := 8) rfl
      have r9 := Y9.cell (j := 9) rfl
      have r10 := Y9.cell (j := 10) rfl
      have r11 := Y9.cell (j := 11) rfl
      have r12 := Y9.cell (j := 12) rfl
      clear Y9
      go_wp2_with (first | (refine wpList_load_str K3.out rfl rfl _ rfl rfl ?_) | (refine wpList_store_str Y3.out rfl rfl _ _ rfl _ rfl rfl rfl (strCells_all d _ _) ?_; rw [hU]) | fail)
      rw [HD.out, HO.out]
      refine bodyPost_ret (v := .tuple #[.agg #[.int .i64 d.st, .int .i64 d.iss, .int .i64 d.una, .int .i64 d.rcv, .string d.wait, .int .i64 d.sent, .int .i64 d.fin, .bool d.pf, .string d.inn, .slice va d.late.length vc, .bool d.owe, .int .i64 d.due, .int .i64 d.times], .bool false]) (by simp [results, Try.results18, go_sem, r0, r1, r2, r3, r4, r5, r6, r7, r8, r9, r10, r11, r12]) rfl ⟨va, vc, rfl, R9.out.own.2, R9.out.own.1.down (by omega) (Nat.le_refl _), B9.out⟩
    have hfb : (d.fin == 0) = true := by rw [beq_iff_eq]; exact hf
    have hfn : (d.fin != 0) = false := by rw [bne, hfb]; rfl
    have hsum : ¬ ((x.size : Int) > 200 - d.wait.size) ↔ x.size + d.wait.size ≤ 200 := by omega
    by_cases hq : x.size + d.wait.size ≤ 200
    rotate_left
    · have hqi : (200 : Int) - d.wait.size < x.size := by omega
      have hqd : decide ((200 : Int) - d.wait.size < x.size) = true := decide_eq_true hqi
      have HO : Hid (mayWrite d x = false) := by show _ = _; simp [mayWrite, hq]
      have HD : Hid (writeD d x = d) := by show _ = _; rw [writeD, HO.out]; rfl
      clear hf hsum
      obtain ⟨U, hU⟩ : ∃ U, w3.setRow (w.heap.size + 1) #[.int .i64 d.st, .int .i64 d.iss, .int .i64 d.una, .int .i64 d.rcv, .string d.wait, .int .i64 d.sent, .int .i64 d.fin, .bool d.pf, .string d.inn, .slice va d.late.length vc, .bool d.owe, .int .i64 d.due, .int .i64 d.times] = U := ⟨_, rfl⟩
      have Y9 : BlockIs U (w.heap.size + 1) 24 [.int .i64 d.st, .int .i64 d.iss, .int .i64 d.una, .int .i64 d.rcv, .string d.wait, .int .i64 d.sent, .int .i64 d.fin, .bool d.pf, .string d.inn, .slice va d.late.length vc, .bool d.owe, .int .i64 d.due, .int .i64 d.times] := by rw [← hU]; exact store_block Y3.out _
      have B9 : Hid (Below w.heap.size w U) := by rw [← hU]; exact below_setRow B3.out (by omega) _
      have R9 : Hid (OwnsL U W0.heap.size d.late va vc) := by rw [← hU]; exact R3.out.setRow Y3.out (by decide) _
      have r0 := Y9.cell (j := 0) rfl
      have r1 := Y9.cell (j := 1) rfl
      have r2 := Y9.cell (j := 2) rfl
      have r3 := Y9.cell (j := 3) rfl
      have r4 := Y9.cell (j := 4) rfl
      have r5 := Y9.cell (j := 5) rfl
      have r6 := Y9.cell (j := 6) rfl
      have r7 := Y9.cell (j := 7) rfl
      have r8 := Y9.cell (j := 8) rfl
      have r9 := Y9.cell (j := 9) rfl
      have r10 := Y9.cell (j := 10) rfl
      have r11 := Y9.cell (j := 11) rfl
      have r12 := Y9.cell (j := 12) rfl
      clear Y9
      go_wp2_with (first | (refine wpList_load_str K3.out rfl rfl _ rfl rfl ?_) | (refine wpList_store_str Y3.out rfl rfl _ _ rfl _ rfl rfl rfl (strCells_all d _ _) ?_; rw [hU]) | fail)
      rw [HD.out, HO.out]
      refine bodyPost_ret (v := .tuple #[.agg #[.int .i64 d.st, .int .i64 d.iss, .int .i64 d.una, .int .i64 d.rcv, .string d.wait, .int .i64 d.sent, .int .i64 d.fin, .bool d.pf, .string d.inn, .slice va d.late.length vc, .bool d.owe, .int .i64 d.due, .int .i64 d.times], .bool false]) (by simp [results, Try.results18, go_sem, r0, r1, r2, r3, r4, r5, r6, r7, r8, r9, r10, r11, r12]) rfl ⟨va, vc, rfl, R9.out.own.2, R9.out.own.1.down (by omega) (Nat.le_refl _), B9.out⟩
    have hqi : ¬ (200 : Int) - d.wait.size < x.size := by omega
    have HO : Hid ((mayWrite d x) = true) := by show _ = _; simp [mayWrite, hk, hf, hq]
    have HD : Hid ((writeD d x) = { d with wait := d.wait ++ x }) := by show _ = _; rw [writeD, HO.out]; rfl
    clear hf hk hsum
    have k4 := K3.out.cell (j := 4) rfl
    have j4 := K3.out.thaw 4
    obtain ⟨V, hV⟩ : ∃ V, w3.setCell ⟨G2, 4, none⟩ (.string (d.wait ++ x)) = V := ⟨_, rfl⟩
    have K5 : Hid (BlockIs V G2 24 [.int .i64 d.st, .int .i64 d.iss, .int .i64 d.una, .int .i64 d.rcv, .string (d.wait ++ x), .int .i64 d.sent, .int .i64 d.fin, .bool d.pf, .string d.inn, .slice va d.late.length vc, .bool d.owe, .int .i64 d.due, .int .i64 d.times]) := by rw [← hV]; exact K3.out.set 4 _
    have Y5 : Hid (BlockIs V (w.heap.size + 1) 24 [.int .i64 0, .int .i64 0, .int .i64 0, .int .i64 0, .string ⟨#[]⟩, .int .i64 0, .int .i64 0, .bool false, .string ⟨#[]⟩, .slice none 0 0, .bool false, .int .i64 0, .int .i64 0]) := by rw [← hV]; exact Y3.out.far (by omega) _
    have R5 : Hid (OwnsL V W0.heap.size d.late va vc) := by rw [← hV]; exact R3.out.setCell K3.out (by decide) 4 _
    have B5 : Hid (Below w.heap.size w V) := by rw [← hV]; exact B3.out.setCell (by show _ ≤ G2; omega) _
    obtain ⟨U, hU⟩ : ∃ U, V.setRow (w.heap.size + 1) #[.int .i64 d.st, .int .i64 d.iss, .int .i64 d.una, .int .i64 d.rcv, .string (d.wait ++ x), .int .i64 d.sent, .int .i64 d.fin, .bool d.pf, .string d.inn, .slice va d.late.length vc, .bool d.owe, .int .i64 d.due, .int .i64 d.times] = U := ⟨_, rfl⟩
    have Y9 : BlockIs U (w.heap.size + 1) 24 [.int .i64 d.st, .int .i64 d.iss, .int .i64 d.una, .int .i64 d.rcv, .string (d.wait ++ x), .int .i64 d.sent, .int .i64 d.fin, .bool d.pf, .string d.inn, .slice va d.late.length vc, .bool d.owe, .int .i64 d.due, .int .i64 d.times] := by rw [← hU]; exact store_block Y5.out _
    have B9 : Hid (Below w.heap.size w U) := by rw [← hU]; exact below_setRow B5.out (by omega) _
    have R9 : Hid (OwnsL U W0.heap.size d.late va vc) := by rw [← hU]; exact R5.out.setRow Y5.out (by decide) _
    have r0 := Y9.cell (j := 0) rfl
    have r1 := Y9.cell (j := 1) rfl
    have r2 := Y9.cell (j := 2) rfl
    have r3 := Y9.cell (j := 3) rfl
    have r4 := Y9.cell (j := 4) rfl
    have r5 := Y9.cell (j := 5) rfl
    have r6 := Y9.cell (j := 6) rfl
    have r7 := Y9.cell (j := 7) rfl
    have r8 := Y9.cell (j := 8) rfl
    have r9 := Y9.cell (j := 9) rfl
    have r10 := Y9.cell (j := 10) rfl
    have r11 := Y9.cell (j := 11) rfl
    have r12 := Y9.cell (j := 12) rfl
    clear Y9
    go_wp2_with (first | (refine wpList_load_str K5.out rfl rfl _ rfl rfl ?_) | (refine wpList_store_str Y5.out rfl rfl _ _ rfl _ rfl rfl rfl (strCells_all { d with wait := d.wait ++ x } _ _) ?_; rw [hU]) | fail)
    rw [HD.out, HO.out]
    refine bodyPost_ret (v := .tuple #[.agg #[.int .i64 d.st, .int .i64 d.iss, .int .i64 d.una, .int .i64 d.rcv, .string (d.wait ++ x), .int .i64 d.sent, .int .i64 d.fin, .bool d.pf, .string d.inn, .slice va d.late.length vc, .bool d.owe, .int .i64 d.due, .int .i64 d.times], .bool true]) (by simp [results, Try.results18, go_sem, r0, r1, r2, r3, r4, r5, r6, r7, r8, r9, r10, r11, r12]) rfl ⟨va, vc, rfl, R9.out.own.2, R9.out.own.1.down (by omega) (Nat.le_refl _), B9.out⟩
end Go.Proofs.Ythbdkfdcbglpoaa
