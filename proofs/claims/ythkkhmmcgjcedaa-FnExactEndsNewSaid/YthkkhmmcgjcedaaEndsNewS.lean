/-
  The walk of spec.EndsNew: what it answers.
-/
import Derived.Test.YthkkhmmcgjcedaaEndsDid
import Derived.Test.YthkkhmmcgjcedaaStrNewS
import Derived.Deep.DeepCutAuto
namespace Go.Proofs.Ythkkhmmcgjcedaa
open Go.RowKit

set_option maxRecDepth 1000000 in
set_option maxHeartbeats 4000000 in
theorem specEndsNew_any (a b : Int) (w : World) : Calls Try.prog 8 #[.int .i64 a, .int .i64 b] w fun e w' => EndsDid (within a 0 65535 && within b 0 65535) (newD a true) (newD b false) w e w' := by
  have C1 := hid (fun w => specStreamNew_any a true w)
  have C2 := hid (fun w => specStreamNew_any b false w)
  have l1 := newD_none a true
  have l2 := newD_none b false
  obtain ⟨x, hx⟩ : ∃ x, newD a true = x := ⟨_, rfl⟩
  obtain ⟨y, hy⟩ : ∃ y, newD b false = y := ⟨_, rfl⟩
  obtain ⟨ka, hka⟩ : ∃ k, within a 0 65535 = k := ⟨_, rfl⟩
  obtain ⟨kb, hkb⟩ : ∃ k, within b 0 65535 = k := ⟨_, rfl⟩
  rw [hx] at l1 C1
  rw [hy] at l2 C2
  rw [hka] at C1
  rw [hkb] at C2
  rw [hx, hy, hka, hkb]
  clear hx hy hka hkb
  unfold strCells at C1 C2
  rw [l1] at C1
  rw [l2] at C2
  clear l1 l2
  have hb0 := below_more (Below.refl w.heap.size w) (.cells #[.slice none 0 0, .slice none 0 0, .slice none 0 0, .slice none 0 0, .int .i64 0] 33)
  have hy0 : BlockIs (w.alloc (.cells #[.slice none 0 0, .slice none 0 0, .slice none 0 0, .slice none 0 0, .int .i64 0] 33)) w.heap.size 33 [.slice none 0 0, .slice none 0 0, .slice none 0 0, .slice none 0 0, .int .i64 0] := heap_alloc_new w _
  obtain ⟨W0, hW0⟩ : ∃ W, w.alloc (.cells #[.slice none 0 0, .slice none 0 0, .slice none 0 0, .slice none 0 0, .int .i64 0] 33) = W := ⟨_, rfl⟩
  rw [hW0] at hb0 hy0
  have B0 := hid hb0
  have R0 := hid hy0
  clear hb0 hy0
  go_enter Try.func8, Try.ntmps8
  go_wp2_with fail
  refine Calls.mono (C1.out _) ?_
  rintro e w1 ⟨rfl, b1⟩
  have OV1 := hid (str_over w1 #[.int .i64 0, .int .i64 0, .int .i64 0, .int .i64 0, .string ⟨#[]⟩, .int .i64 0, .int .i64 0, .bool false, .string ⟨#[]⟩, .slice none 0 0, .bool false, .int .i64 0, .int .i64 0] #[.int .i64 x.st, .int .i64 x.iss, .int .i64 x.una, .int .i64 x.rcv, .string x.wait, .int .i64 x.sent, .int .i64 x.fin, .bool x.pf, .string x.inn, .slice none 0 0, .bool x.owe, .int .i64 x.due, .int .i64 x.times] 42)
  have KZ1 := hid (show BlockIs (w1.alloc (.cells #[.int .i64 0, .int .i64 0, .int .i64 0, .int .i64 0, .string ⟨#[]⟩, .int .i64 0, .int .i64 0, .bool false, .string ⟨#[]⟩, .slice none 0 0, .bool false, .int .i64 0, .int .i64 0] 42)) w1.heap.size 42 [.int .i64 0, .int .i64 0, .int .i64 0, .int .i64 0, .string ⟨#[]⟩, .int .i64 0, .int .i64 0, .bool false, .string ⟨#[]⟩, .slice none 0 0, .bool false, .int .i64 0, .int .i64 0] from heap_alloc_new w1 _)
  have bn := below_more (Below.refl w1.heap.size w1) (.cells #[.int .i64 x.st, .int .i64 x.iss, .int .i64 x.una, .int .i64 x.rcv, .string x.wait, .int .i64 x.sent, .int .i64 x.fin, .bool x.pf, .string x.inn, .slice none 0 0, .bool x.owe, .int .i64 x.due, .int .i64 x.times] 42)
  have K1 := hid (show BlockIs (w1.alloc (.cells #[.int .i64 x.st, .int .i64 x.iss, .int .i64 x.una, .int .i64 x.rcv, .string x.wait, .int .i64 x.sent, .int .i64 x.fin, .bool x.pf, .string x.inn, .slice none 0 0, .bool x.owe, .int .i64 x.due, .int .i64 x.times] 42)) w1.heap.size 42 [.int .i64 x.st, .int .i64 x.iss, .int .i64 x.una, .int .i64 x.rcv, .string x.wait, .int .i64 x.sent, .int .i64 x.fin, .bool x.pf, .string x.inn, .slice none 0 0, .bool x.owe, .int .i64 x.due, .int .i64 x.times] from heap_alloc_new w1 _)
  have B1 := hid (below_via (below_via B0.out b1) bn)
  have R1 := hid ((R0.out.on b1 R0.out.lt).on bn (R0.out.on b1 R0.out.lt).lt)
  obtain ⟨W1, hW1⟩ : ∃ W, w1.alloc (.cells #[.int .i64 x.st, .int .i64 x.iss, .int .i64 x.una, .int .i64 x.rcv, .string x.wait, .int .i64 x.sent, .int .i64 x.fin, .bool x.pf, .string x.inn, .slice none 0 0, .bool x.owe, .int .i64 x.due, .int .i64 x.times] 42) = W := ⟨_, rfl⟩
  rw [hW1] at OV1 K1 B1 R1
  have hs1 : w.heap.size ≤ w1.heap.size := (below_via B0.out b1).size
  clear b1 bn B0 R0 C1
  go_wp2_with (first | (refine wpList_store_str KZ1.out rfl rfl _ _ rfl _ rfl rfl rfl (by simp [Value.oneCell']) ?_; rw [OV1.out]) | fail)
  refine Calls.mono (C2.out _) ?_
  rintro e w2 ⟨rfl, b2⟩
  have OV2 := hid (str_over w2 #[.int .i64 0, .int .i64 0, .int .i64 0, .int .i64 0, .string ⟨#[]⟩, .int .i64 0, .int .i64 0, .bool false, .string ⟨#[]⟩, .slice none 0 0, .bool false, .int .i64 0, .int .i64 0] #[.int .i64 y.st, .int .i64 y.iss, .int .i64 y.una, .int .i64 y.rcv, .string y.wait, .int .i64 y.sent, .int .i64 y.fin, .bool y.pf, .string y.inn, .slice none 0 0, .bool y.owe, .int .i64 y.due, .int .i64 y.times] 42)
  have KZ2 := hid (show BlockIs (w2.alloc (.cells #[.int .i64 0, .int .i64 0, .int .i64 0, .int .i64 0, .string ⟨#[]⟩, .int .i64 0, .int .i64 0, .bool false, .string ⟨#[]⟩, .slice none 0 0, .bool false, .int .i64 0, .int .i64 0] 42)) w2.heap.size 42 [.int .i64 0, .int .i64 0, .int .i64 0, .int .i64 0, .string ⟨#[]⟩, .int .i64 0, .int .i64 0, .bool false, .string ⟨#[]⟩, .slice none 0 0, .bool false, .int .i64 0, .int .i64 0] from heap_alloc_new w2 _)
  have bn := below_more (Below.refl w2.heap.size w2) (.cells #[.int .i64 y.st, .int .i64 y.iss, .int .i64 y.una, .int .i64 y.rcv, .string y.wait, .int .i64 y.sent, .int .i64 y.fin, .bool y.pf, .string y.inn, .slice none 0 0, .bool y.owe, .int .i64 y.due, .int .i64 y.times] 42)
  have K2 := hid (show BlockIs (w2.alloc (.cells #[.int .i64 y.st, .int .i64 y.iss, .int .i64 y.una, .int .i64 y.rcv, .string y.wait, .int .i64 y.sent, .int .i64 y.fin, .bool y.pf, .string y.inn, .slice none 0 0, .bool y.owe, .int .i64 y.due, .int .i64 y.times] 42)) w2.heap.size 42 [.int .i64 y.st, .int .i64 y.iss, .int .i64 y.una, .int .i64 y.rcv, .string y.wait, .int .i64 y.sent, .int .i64 y.fin, .bool y.pf, .string y.inn, .slice none 0 0, .bool y.owe, .int .i64 y.due, .int .i64 y.times] from heap_alloc_new w2 _)
  have B2 := hid (below_via (below_via B1.out b2) bn)
  have R2 := hid ((R1.out.on b2 R1.out.lt).on bn (R1.out.on b2 R1.out.lt).lt)
  have K12 := hid ((K1.out.on b2 K1.out.lt).on bn (K1.out.on b2 K1.out.lt).lt)
  obtain ⟨W2, hW2⟩ : ∃ W, w2.alloc (.cells #[.int .i64 y.st, .int .i64 y.iss, .int .i64 y.una, .int .i64 y.rcv, .string y.wait, .int .i64 y.sent, .int .i64 y.fin, .bool y.pf, .string y.inn, .slice none 0 0, .bool y.owe, .int .i64 y.due, .int .i64 y.times] 42) = W := ⟨_, rfl⟩
  rw [hW2] at OV2 K2 B2 R2 K12
  have hs2 : w1.heap.size < w2.heap.size := Nat.lt_of_lt_of_le K1.out.lt b2.size
  skip
  clear b2 bn B1 R1 K1 C2 KZ1 OV1 hW1
  cases ka with
  | false =>
    have r0 := R2.out.cell (j := 0) rfl
    have r1 := R2.out.cell (j := 1) rfl
    have r2 := R2.out.cell (j := 2) rfl
    have r3 := R2.out.cell (j := 3) rfl
    have r4 := R2.out.cell (j := 4) rfl
    have f0 := R2.out.thaw 0
    have f1 := R2.out.thaw 1
    have f2 := R2.out.thaw 2
    have f3 := R2.out.thaw 3
    have f4 := R2.out.thaw 4
    obtain ⟨U, hU⟩ : ∃ U, (((((W2.setCell ⟨w.heap.size, 0, none⟩ (.slice none 0 0)).setCell ⟨w.heap.size, 1, none⟩ (.slice none 0 0)).setCell ⟨w.heap.size, 2, none⟩ (.slice none 0 0)).setCell ⟨w.heap.size, 3, none⟩ (.slice none 0 0)).setCell ⟨w.heap.size, 4, none⟩ (.int .i64 0)) = U := ⟨_, rfl⟩
    have RU : BlockIs U w.heap.size 33 [.slice none 0 0, .slice none 0 0, .slice none 0 0, .slice none 0 0, .int .i64 0] := by rw [← hU]; exact (((((R2.out).set 0 _).set 1 _).set 2 _).set 3 _).set 4 _
    have BU : Hid (Below w.heap.size w U) := by rw [← hU]; exact (((((B2.out).setCell (Nat.le_refl _) _).setCell (Nat.le_refl _) _).setCell (Nat.le_refl _) _).setCell (Nat.le_refl _) _).setCell (Nat.le_refl _) _
    have u0 := RU.cell (j := 0) rfl
    have u1 := RU.cell (j := 1) rfl
    have u2 := RU.cell (j := 2) rfl
    have u3 := RU.cell (j := 3) rfl
    have u4 := RU.cell (j := 4) rfl
    clear RU
    go_wp2_with (first | (refine wpList_store_str KZ2.out rfl rfl _ _ rfl _ rfl rfl rfl (by simp [Value.oneCell']) ?_; rw [OV2.out]) | fail)
    refine bodyPost_ret (v := .tuple #[.agg #[.slice none 0 0, .slice none 0 0, .slice none 0 0, .slice none 0 0, .int .i64 0], .bool false]) (by simp [results, Try.results8, go_sem, u0, u1, u2, u3, u4]) rfl ?_
    exact ⟨BU.out, Or.inl ⟨rfl, rfl⟩⟩
  | true =>
    cases kb with
    | false =>
      have r0 := R2.out.cell (j := 0) rfl
      have r1 := R2.out.cell (j := 1) rfl
      have r2 := R2.out.cell (j := 2) rfl
      have r3 := R2.out.cell (j := 3) rfl
      have r4 := R2.out.cell (j := 4) rfl
      have f0 := R2.out.thaw 0
      have f1 := R2.out.thaw 1
      have f2 := R2.out.thaw 2
      have f3 := R2.out.thaw 3
      have f4 := R2.out.thaw 4
      obtain ⟨U, hU⟩ : ∃ U, (((((W2.setCell ⟨w.heap.size, 0, none⟩ (.slice none 0 0)).setCell ⟨w.heap.size, 1, none⟩ (.slice none 0 0)).setCell ⟨w.heap.size, 2, none⟩ (.slice none 0 0)).setCell ⟨w.heap.size, 3, none⟩ (.slice none 0 0)).setCell ⟨w.heap.size, 4, none⟩ (.int .i64 0)) = U := ⟨_, rfl⟩
      have RU : BlockIs U w.heap.size 33 [.slice none 0 0, .slice none 0 0, .slice none 0 0, .slice none 0 0, .int .i64 0] := by rw [← hU]; exact (((((R2.out).set 0 _).set 1 _).set 2 _).set 3 _).set 4 _
      have BU : Hid (Below w.heap.size w U) := by rw [← hU]; exact (((((B2.out).setCell (Nat.le_refl _) _).setCell (Nat.le_refl _) _).setCell (Nat.le_refl _) _).setCell (Nat.le_refl _) _).setCell (Nat.le_refl _) _
      have u0 := RU.cell (j := 0) rfl
      have u1 := RU.cell (j := 1) rfl
      have u2 := RU.cell (j := 2) rfl
      have u3 := RU.cell (j := 3) rfl
      have u4 := RU.cell (j := 4) rfl
      clear RU
      go_wp2_with (first | (refine wpList_store_str KZ2.out rfl rfl _ _ rfl _ rfl rfl rfl (by simp [Value.oneCell']) ?_; rw [OV2.out]) | fail)
      refine bodyPost_ret (v := .tuple #[.agg #[.slice none 0 0, .slice none 0 0, .slice none 0 0, .slice none 0 0, .int .i64 0], .bool false]) (by simp [results, Try.results8, go_sem, u0, u1, u2, u3, u4]) rfl ?_
      exact ⟨BU.out, Or.inl ⟨rfl, rfl⟩⟩
    | true =>
      obtain ⟨n, hn⟩ : ∃ n, W2.heap.size = n := ⟨_, rfl⟩
      have hwn : w.heap.size < n := by rw [← hn]; exact R2.out.lt
      obtain ⟨V1, hV1⟩ : ∃ V, W2.alloc (.cells #[.int .i64 x.st, .int .i64 x.iss, .int .i64 x.una, .int .i64 x.rcv, .string x.wait, .int .i64 x.sent, .int .i64 x.fin, .bool x.pf, .string x.inn, .slice none 0 0, .bool x.owe, .int .i64 x.due, .int .i64 x.times, .int .i64 y.st, .int .i64 y.iss, .int .i64 y.una, .int .i64 y.rcv, .string y.wait, .int .i64 y.sent, .int .i64 y.fin, .bool y.pf, .string y.inn, .slice none 0 0, .bool y.owe, .int .i64 y.due, .int .i64 y.times] 42) = V := ⟨_, rfl⟩
      have b1 := below_more (Below.refl W2.heap.size W2) (.cells #[.int .i64 x.st, .int .i64 x.iss, .int .i64 x.una, .int .i64 x.rcv, .string x.wait, .int .i64 x.sent, .int .i64 x.fin, .bool x.pf, .string x.inn, .slice none 0 0, .bool x.owe, .int .i64 x.due, .int .i64 x.times, .int .i64 y.st, .int .i64 y.iss, .int .i64 y.una, .int .i64 y.rcv, .string y.wait, .int .i64 y.sent, .int .i64 y.fin, .bool y.pf, .string y.inn, .slice none 0 0, .bool y.owe, .int .i64 y.due, .int .i64 y.times] 42)
      have p1 : BlockIs (W2.alloc (.cells #[.int .i64 x.st, .int .i64 x.iss, .int .i64 x.una, .int .i64 x.rcv, .string x.wait, .int .i64 x.sent, .int .i64 x.fin, .bool x.pf, .string x.inn, .slice none 0 0, .bool x.owe, .int .i64 x.due, .int .i64 x.times, .int .i64 y.st, .int .i64 y.iss, .int .i64 y.una, .int .i64 y.rcv, .string y.wait, .int .i64 y.sent, .int .i64 y.fin, .bool y.pf, .string y.inn, .slice none 0 0, .bool y.owe, .int .i64 y.due, .int .i64 y.times] 42)) W2.heap.size 42 [.int .i64 x.st, .int .i64 x.iss, .int .i64 x.una, .int .i64 x.rcv, .string x.wait, .int .i64 x.sent, .int .i64 x.fin, .bool x.pf, .string x.inn, .slice none 0 0, .bool x.owe, .int .i64 x.due, .int .i64 x.times, .int .i64 y.st, .int .i64 y.iss, .int .i64 y.una, .int .i64 y.rcv, .string y.wait, .int .i64 y.sent, .int .i64 y.fin, .bool y.pf, .string y.inn, .slice none 0 0, .bool y.owe, .int .i64 y.due, .int .i64 y.times] := heap_alloc_new W2 _
      have z1 : (W2.alloc (.cells #[.int .i64 x.st, .int .i64 x.iss, .int .i64 x.una, .int .i64 x.rcv, .string x.wait, .int .i64 x.sent, .int .i64 x.fin, .bool x.pf, .string x.inn, .slice none 0 0, .bool x.owe, .int .i64 x.due, .int .i64 x.times, .int .i64 y.st, .int .i64 y.iss, .int .i64 y.una, .int .i64 y.rcv, .string y.wait, .int .i64 y.sent, .int .i64 y.fin, .bool y.pf, .string y.inn, .slice none 0 0, .bool y.owe, .int .i64 y.due, .int .i64 y.times] 42)).heap.size = W2.heap.size + 1 := alloc_one _ _
      rw [hV1] at b1 p1 z1
      obtain ⟨V2, hV2⟩ : ∃ V, V1.alloc (.cells #[] 65) = V := ⟨_, rfl⟩
      have b2 := below_via b1 (below_more (Below.refl V1.heap.size V1) (.cells #[] 65))
      have c2 := below_more (Below.refl V1.heap.size V1) (.cells #[] 65)
      have z2 : (V1.alloc (.cells #[] 65)).heap.size = V1.heap.size + 1 := alloc_one _ _
      rw [hV2] at b2 c2 z2
      obtain ⟨V3, hV3⟩ : ∃ V, V2.alloc (.cells #[] 65) = V := ⟨_, rfl⟩
      have b3 := below_via b2 (below_more (Below.refl V2.heap.size V2) (.cells #[] 65))
      have c3 := below_more (Below.refl V2.heap.size V2) (.cells #[] 65)
      have z3 : (V2.alloc (.cells #[] 65)).heap.size = V2.heap.size + 1 := alloc_one _ _
      rw [hV3] at b3 c3 z3
      obtain ⟨V4, hV4⟩ : ∃ V, V3.alloc (.cells #[.slice (some ⟨V1.heap.size, 0, none⟩) 0 0, .slice (some ⟨V2.heap.size, 0, none⟩) 0 0] 45) = V := ⟨_, rfl⟩
      have b4 := below_via b3 (below_more (Below.refl V3.heap.size V3) (.cells #[.slice (some ⟨V1.heap.size, 0, none⟩) 0 0, .slice (some ⟨V2.heap.size, 0, none⟩) 0 0] 45))
      have c4 := below_more (Below.refl V3.heap.size V3) (.cells #[.slice (some ⟨V1.heap.size, 0, none⟩) 0 0, .slice (some ⟨V2.heap.size, 0, none⟩) 0 0] 45)
      have z4 : (V3.alloc (.cells #[.slice (some ⟨V1.heap.size, 0, none⟩) 0 0, .slice (some ⟨V2.heap.size, 0, none⟩) 0 0] 45)).heap.size = V3.heap.size + 1 := alloc_one _ _
      have p4 : BlockIs (V3.alloc (.cells #[.slice (some ⟨V1.heap.size, 0, none⟩) 0 0, .slice (some ⟨V2.heap.size, 0, none⟩) 0 0] 45)) V3.heap.size 45 [.slice (some ⟨V1.heap.size, 0, none⟩) 0 0, .slice (some ⟨V2.heap.size, 0, none⟩) 0 0] := heap_alloc_new V3 _
      rw [hV4] at p4
      rw [hV4] at b4 c4 z4
      obtain ⟨V5, hV5⟩ : ∃ V, V4.alloc (.cells #[.int .i64 0, .int .i64 0] 3) = V := ⟨_, rfl⟩
      have b5 := below_via b4 (below_more (Below.refl V4.heap.size V4) (.cells #[.int .i64 0, .int .i64 0] 3))
      have c5 := below_more (Below.refl V4.heap.size V4) (.cells #[.int .i64 0, .int .i64 0] 3)
      have z5 : (V4.alloc (.cells #[.int .i64 0, .int .i64 0] 3)).heap.size = V4.heap.size + 1 := alloc_one _ _
      have p5 : BlockIs (V4.alloc (.cells #[.int .i64 0, .int .i64 0] 3)) V4.heap.size 3 [.int .i64 0, .int .i64 0] := heap_alloc_new V4 _
      rw [hV5] at p5
      rw [hV5] at b5 c5 z5
      have P5 := ((p1.on c2 p1.lt).on c3 (p1.on c2 p1.lt).lt).on (below_via c4 c5) ((p1.on c2 p1.lt).on c3 (p1.on c2 p1.lt).lt).lt
      have Q5 := p4.on c5 p4.lt
      have R5 := R2.out.on b5 R2.out.lt
      have B5 := below_via B2.out b5
      have hz3 : w.heap.size < V3.heap.size ∧ V3.heap.size < V4.heap.size ∧ V4.heap.size < V5.heap.size ∧ W2.heap.size < V5.heap.size := by omega
      obtain ⟨hz31, hz32, hz33, hz34⟩ := hz3
      clear b1 b2 b3 b4 b5 c2 c3 c4 c5 z1 z2 z3 z4 z5 p1 p4
      have r0 := R5.cell (j := 0) rfl
      have r1 := R5.cell (j := 1) rfl
      have r2 := R5.cell (j := 2) rfl
      have r3 := R5.cell (j := 3) rfl
      have r4 := R5.cell (j := 4) rfl
      have f0 := R5.thaw 0
      have f1 := R5.thaw 1
      have f2 := R5.thaw 2
      have f3 := R5.thaw 3
      have f4 := R5.thaw 4
      have hwn2 : w.heap.size < W2.heap.size := by omega
      obtain ⟨U, hU⟩ : ∃ U, (((((V5.setCell ⟨w.heap.size, 0, none⟩ (.slice (some ⟨W2.heap.size, 0, none⟩) 2 2)).setCell ⟨w.heap.size, 1, none⟩ (.slice (some ⟨V3.heap.size, 0, none⟩) 2 2)).setCell ⟨w.heap.size, 2, none⟩ (.slice (some ⟨V4.heap.size, 0, none⟩) 2 2)).setCell ⟨w.heap.size, 3, none⟩ (.slice none 0 0)).setCell ⟨w.heap.size, 4, none⟩ (.int .i64 0)) = U := ⟨_, rfl⟩
      have RU : BlockIs U w.heap.size 33 [.slice (some ⟨W2.heap.size, 0, none⟩) 2 2, .slice (some ⟨V3.heap.size, 0, none⟩) 2 2, .slice (some ⟨V4.heap.size, 0, none⟩) 2 2, .slice none 0 0, .int .i64 0] := by rw [← hU]; exact (((((R5).set 0 _).set 1 _).set 2 _).set 3 _).set 4 _
      have BU : Hid (Below w.heap.size w U) := by rw [← hU]; exact (((((B5).setCell (Nat.le_refl _) _).setCell (Nat.le_refl _) _).setCell (Nat.le_refl _) _).setCell (Nat.le_refl _) _).setCell (Nat.le_refl _) _
      have PU : Hid (BlockIs U (W2.heap.size) 42 [.int .i64 x.st, .int .i64 x.iss, .int .i64 x.una, .int .i64 x.rcv, .string x.wait, .int .i64 x.sent, .int .i64 x.fin, .bool x.pf, .string x.inn, .slice none 0 0, .bool x.owe, .int .i64 x.due, .int .i64 x.times, .int .i64 y.st, .int .i64 y.iss, .int .i64 y.una, .int .i64 y.rcv, .string y.wait, .int .i64 y.sent, .int .i64 y.fin, .bool y.pf, .string y.inn, .slice none 0 0, .bool y.owe, .int .i64 y.due, .int .i64 y.times]) := by rw [← hU]; exact (((((P5).far (by omega) _).far (by omega) _).far (by omega) _).far (by omega) _).far (by omega) _
      have QU : Hid (BlockIs U (V3.heap.size) 45 [.slice (some ⟨V1.heap.size, 0, none⟩) 0 0, .slice (some ⟨V2.heap.size, 0, none⟩) 0 0]) := by rw [← hU]; exact (((((Q5).far (by omega) _).far (by omega) _).far (by omega) _).far (by omega) _).far (by omega) _
      have IU : Hid (BlockIs U (V4.heap.size) 3 [.int .i64 0, .int .i64 0]) := by rw [← hU]; exact (((((p5).far (by omega) _).far (by omega) _).far (by omega) _).far (by omega) _).far (by omega) _
      have u0 := RU.cell (j := 0) rfl
      have u1 := RU.cell (j := 1) rfl
      have u2 := RU.cell (j := 2) rfl
      have u3 := RU.cell (j := 3) rfl
      have u4 := RU.cell (j := 4) rfl
      clear RU
      have hUs : V5.heap.size = U.heap.size := by rw [← hU]; simp [World.size_setCell]
      clear P5 Q5 p5 R5 B5 hn
      go_wp2_with (first | (refine wpList_store_str KZ2.out rfl rfl _ _ rfl _ rfl rfl rfl (by simp [Value.oneCell']) ?_; rw [OV2.out]) | (refine wpList_load_str K12.out rfl rfl _ rfl rfl ?_) | (refine wpList_load_str K2.out rfl rfl _ rfl rfl ?_) | fail)
      refine bodyPost_ret (v := .tuple #[.agg #[.slice (some ⟨W2.heap.size, 0, none⟩) 2 2, .slice (some ⟨V3.heap.size, 0, none⟩) 2 2, .slice (some ⟨V4.heap.size, 0, none⟩) 2 2, .slice none 0 0, .int .i64 0], .bool true]) (by simp [results, Try.results8, go_sem, u0, u1, u2, u3, u4]) rfl ?_
      exact ⟨BU.out, Or.inr ⟨rfl, _, _, _, rfl, ⟨by omega, by omega, PU.out⟩, ⟨by omega, by omega, _, _, _, _, QU.out⟩, by omega, by omega, IU.out⟩⟩
end Go.Proofs.Ythkkhmmcgjcedaa
