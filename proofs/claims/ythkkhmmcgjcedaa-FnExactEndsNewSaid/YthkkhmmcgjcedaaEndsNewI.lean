/-
  The walk of impl.EndsNew: what it answers.
-/
import Derived.Test.YthkkhmmcgjcedaaEndsDid
import Derived.Test.YthkkhmmcgjcedaaStrNewE
import Derived.Test.YthkkhmmcgjcedaaAnyChain
import Derived.Laws.MakeOwn
import Derived.WalkKit
import Derived.Deep.DeepCutAuto
namespace Go.Proofs.Ythkkhmmcgjcedaa
open Go.RowKit

theorem made_two (z : Value) (hz : z.cells = #[z]) : madeCells z.cells 2 = #[z, z] := by
  rw [hz]
  apply Array.ext'
  simp [madeCells, List.range_succ, Nat.mod_one]
theorem ends_infoB : (Try.prog.info? 45).map (fun i => (i.zero, i.size, i.bytes)) = some (some (.slice none 0 0), 1, 24) := by kernel_rfl
theorem ends_infoI : (Try.prog.info? 3).map (fun i => (i.zero, i.size, i.bytes)) = some (some (.int .i64 0), 1, 8) := by kernel_rfl
theorem mk_two_bits (W : World) : (Instr.makeSlice 29 (.int .i64 2) (.int .i64 2)).run Try.prog W = .ok (.slice (some ⟨W.heap.size, 0, none⟩) 2 2) (W.alloc (.cells #[.slice none 0 0, .slice none 0 0] 45)) := by
  obtain ⟨i0, hi, hz0, hz1, hz2⟩ := info_parts ends_infoB
  have h := run_makeSlice (P := Try.prog) W 29 45 i0 _ Try.underlying29 hi hz0 .i64 .i64 2 2 (by omega) (by omega) (by rw [hz1]; decide) (by rw [hz2]; decide) (by decide)
  have e : madeCells (Value.slice none 0 0).cells (Int.toNat 2 * 1) = #[.slice none 0 0, .slice none 0 0] := made_two _ rfl
  rw [hz1, e] at h
  exact h
theorem mk_two_ints (W : World) : (Instr.makeSlice 30 (.int .i64 2) (.int .i64 2)).run Try.prog W = .ok (.slice (some ⟨W.heap.size, 0, none⟩) 2 2) (W.alloc (.cells #[.int .i64 0, .int .i64 0] 3)) := by
  obtain ⟨i0, hi, hz0, hz1, hz2⟩ := info_parts ends_infoI
  have h := run_makeSlice (P := Try.prog) W 30 3 i0 _ Try.underlying30 hi hz0 .i64 .i64 2 2 (by omega) (by omega) (by rw [hz1]; decide) (by rw [hz2]; decide) (by decide)
  have e : madeCells (Value.int .i64 0).cells (Int.toNat 2 * 1) = #[.int .i64 0, .int .i64 0] := made_two _ rfl
  rw [hz1, e] at h
  exact h
/-- all others but one come ahead of it -/
theorem only_after {ops : Array Oper} {k m i : Nat} (h : ((List.range ops.size).all fun q => decide (q = k) || decide (q = m) || reachB ops 8 k q) = true) (hi : i < ops.size) (hne : i ≠ k) (hw : reachB ops 8 k i = false) : i = m := by
  rw [List.all_eq_true] at h
  have := h i (List.mem_range.2 hi)
  simpa [hne, hw] using this
set_option maxRecDepth 1000000 in
set_option maxHeartbeats 4000000 in
theorem implEndsNew_any (a b : Int) (w : World) : Calls Try.prog 9 #[.int .i64 a, .int .i64 b] w fun e w' => EndsDid (within a 0 65535 && within b 0 65535) (newD a true) (newD b false) w e w' := by
  have C1 := hid (fun w => implStreamNew_any a true w)
  have C2 := hid (fun w => implStreamNew_any b false w)
  have l1 := newD_none a true
  have l2 := newD_none b false
  obtain ⟨x, hx⟩ : ∃ x, newD a true = x := ⟨_, rfl⟩
  obtain ⟨y, hy⟩ : ∃ y, newD b false = y := ⟨_, rfl⟩
  obtain ⟨ka, hka⟩ : ∃ k, within a 0 65535 = k := ⟨_, rfl⟩
  obtain ⟨kb, hkb⟩ : ∃ k, within b 0 65535 = k := ⟨_, rfl⟩
  rw [hx] at l1 C1
  rw [hy] at l2 C2
  rw [hka] at C1
  rw [hkb] at C2
  rw [hx, hy, hka, hkb]
  clear hx hy hka hkb
  unfold strCells at C1 C2
  rw [l1] at C1
  rw [l2] at C2
  clear l1 l2
  have hb0 := below_more (Below.refl w.heap.size w) (.cells #[.slice none 0 0, .slice none 0 0, .slice none 0 0, .slice none 0 0, .int .i64 0] 33)
  have hy0 : BlockIs (w.alloc (.cells #[.slice none 0 0, .slice none 0 0, .slice none 0 0, .slice none 0 0, .int .i64 0] 33)) w.heap.size 33 [.slice none 0 0, .slice none 0 0, .slice none 0 0, .slice none 0 0, .int .i64 0] := heap_alloc_new w _
  obtain ⟨W0, hW0⟩ : ∃ W, w.alloc (.cells #[.slice none 0 0, .slice none 0 0, .slice none 0 0, .slice none 0 0, .int .i64 0] 33) = W := ⟨_, rfl⟩
  rw [hW0] at hb0 hy0
  have B0 := hid hb0
  have R0 := hid hy0
  clear hb0 hy0
  go_enter Try.func9, Try.ntmps9
  go_wp2_with fail
  refine Calls.mono (C1.out _) ?_
  rintro e w1 ⟨rfl, b1⟩
  have OV1 := hid (str_over w1 #[.int .i64 0, .int .i64 0, .int .i64 0, .int .i64 0, .string ⟨#[]⟩, .int .i64 0, .int .i64 0, .bool false, .string ⟨#[]⟩, .slice none 0 0, .bool false, .int .i64 0, .int .i64 0] #[.int .i64 x.st, .int .i64 x.iss, .int .i64 x.una, .int .i64 x.rcv, .string x.wait, .int .i64 x.sent, .int .i64 x.fin, .bool x.pf, .string x.inn, .slice none 0 0, .bool x.owe, .int .i64 x.due, .int .i64 x.times] 42)
  have KZ1 := hid (show BlockIs (w1.alloc (.cells #[.int .i64 0, .int .i64 0, .int .i64 0, .int .i64 0, .string ⟨#[]⟩, .int .i64 0, .int .i64 0, .bool false, .string ⟨#[]⟩, .slice none 0 0, .bool false, .int .i64 0, .int .i64 0] 42)) w1.heap.size 42 [.int .i64 0, .int .i64 0, .int .i64 0, .int .i64 0, .string ⟨#[]⟩, .int .i64 0, .int .i64 0, .bool false, .string ⟨#[]⟩, .slice none 0 0, .bool false, .int .i64 0, .int .i64 0] from heap_alloc_new w1 _)
  have bn := below_more (Below.refl w1.heap.size w1) (.cells #[.int .i64 x.st, .int .i64 x.iss, .int .i64 x.una, .int .i64 x.rcv, .string x.wait, .int .i64 x.sent, .int .i64 x.fin, .bool x.pf, .string x.inn, .slice none 0 0, .bool x.owe, .int .i64 x.due, .int .i64 x.times] 42)
  have K1 := hid (show BlockIs (w1.alloc (.cells #[.int .i64 x.st, .int .i64 x.iss, .int .i64 x.una, .int .i64 x.rcv, .string x.wait, .int .i64 x.sent, .int .i64 x.fin, .bool x.pf, .string x.inn, .slice none 0 0, .bool x.owe, .int .i64 x.due, .int .i64 x.times] 42)) w1.heap.size 42 [.int .i64 x.st, .int .i64 x.iss, .int .i64 x.una, .int .i64 x.rcv, .string x.wait, .int .i64 x.sent, .int .i64 x.fin, .bool x.pf, .string x.inn, .slice none 0 0, .bool x.owe, .int .i64 x.due, .int .i64 x.times] from heap_alloc_new w1 _)
  have B1 := hid (below_via (below_via B0.out b1) bn)
  have R1 := hid ((R0.out.on b1 R0.out.lt).on bn (R0.out.on b1 R0.out.lt).lt)
  obtain ⟨W1, hW1⟩ : ∃ W, w1.alloc (.cells #[.int .i64 x.st, .int .i64 x.iss, .int .i64 x.una, .int .i64 x.rcv, .string x.wait, .int .i64 x.sent, .int .i64 x.fin, .bool x.pf, .string x.inn, .slice none 0 0, .bool x.owe, .int .i64 x.due, .int .i64 x.times] 42) = W := ⟨_, rfl⟩
  rw [hW1] at OV1 K1 B1 R1
  have hs1 : w.heap.size ≤ w1.heap.size := (below_via B0.out b1).size
  clear b1 bn B0 R0 C1
  go_wp2_with (first | (refine wpList_store_str KZ1.out rfl rfl _ _ rfl _ rfl rfl rfl (by simp [Value.oneCell']) ?_; rw [OV1.out]) | fail)
  refine Calls.mono (C2.out _) ?_
  rintro e w2 ⟨rfl, b2⟩
  have OV2 := hid (str_over w2 #[.int .i64 0, .int .i64 0, .int .i64 0, .int .i64 0, .string ⟨#[]⟩, .int .i64 0, .int .i64 0, .bool false, .string ⟨#[]⟩, .slice none 0 0, .bool false, .int .i64 0, .int .i64 0] #[.int .i64 y.st, .int .i64 y.iss, .int .i64 y.una, .int .i64 y.rcv, .string y.wait, .int .i64 y.sent, .int .i64 y.fin, .bool y.pf, .string y.inn, .slice none 0 0, .bool y.owe, .int .i64 y.due, .int .i64 y.times] 42)
  have KZ2 := hid (show BlockIs (w2.alloc (.cells #[.int .i64 0, .int .i64 0, .int .i64 0, .int .i64 0, .string ⟨#[]⟩, .int .i64 0, .int .i64 0, .bool false, .string ⟨#[]⟩, .slice none 0 0, .bool false, .int .i64 0, .int .i64 0] 42)) w2.heap.size 42 [.int .i64 0, .int .i64 0, .int .i64 0, .int .i64 0, .string ⟨#[]⟩, .int .i64 0, .int .i64 0, .bool false, .string ⟨#[]⟩, .slice none 0 0, .bool false, .int .i64 0, .int .i64 0] from heap_alloc_new w2 _)
  have bn := below_more (Below.refl w2.heap.size w2) (.cells #[.int .i64 y.st, .int .i64 y.iss, .int .i64 y.una, .int .i64 y.rcv, .string y.wait, .int .i64 y.sent, .int .i64 y.fin, .bool y.pf, .string y.inn, .slice none 0 0, .bool y.owe, .int .i64 y.due, .int .i64 y.times] 42)
  have K2 := hid (show BlockIs (w2.alloc (.cells #[.int .i64 y.st, .int .i64 y.iss, .int .i64 y.una, .int .i64 y.rcv, .string y.wait, .int .i64 y.sent, .int .i64 y.fin, .bool y.pf, .string y.inn, .slice none 0 0, .bool y.owe, .int .i64 y.due, .int .i64 y.times] 42)) w2.heap.size 42 [.int .i64 y.st, .int .i64 y.iss, .int .i64 y.una, .int .i64 y.rcv, .string y.wait, .int .i64 y.sent, .int .i64 y.fin, .bool y.pf, .string y.inn, .slice none 0 0, .bool y.owe, .int .i64 y.due, .int .i64 y.times] from heap_alloc_new w2 _)
  have B2 := hid (below_via (below_via B1.out b2) bn)
  have R2 := hid ((R1.out.on b2 R1.out.lt).on bn (R1.out.on b2 R1.out.lt).lt)
  have K12 := hid ((K1.out.on b2 K1.out.lt).on bn (K1.out.on b2 K1.out.lt).lt)
  obtain ⟨W2, hW2⟩ : ∃ W, w2.alloc (.cells #[.int .i64 y.st, .int .i64 y.iss, .int .i64 y.una, .int .i64 y.rcv, .string y.wait, .int .i64 y.sent, .int .i64 y.fin, .bool y.pf, .string y.inn, .slice none 0 0, .bool y.owe, .int .i64 y.due, .int .i64 y.times] 42) = W := ⟨_, rfl⟩
  rw [hW2] at OV2 K2 B2 R2 K12
  have hs2 : w1.heap.size < w2.heap.size := Nat.lt_of_lt_of_le K1.out.lt b2.size
  skip
  clear b2 bn B1 R1 K1 C2 KZ1 OV1 hW1
  cases ka with
  | false =>
    have r0 := R2.out.cell (j := 0) rfl
    have r1 := R2.out.cell (j := 1) rfl
    have r2 := R2.out.cell (j := 2) rfl
    have r3 := R2.out.cell (j := 3) rfl
    have r4 := R2.out.cell (j := 4) rfl
    have f0 := R2.out.thaw 0
    have f1 := R2.out.thaw 1
    have f2 := R2.out.thaw 2
    have f3 := R2.out.thaw 3
    have f4 := R2.out.thaw 4
    obtain ⟨U, hU⟩ : ∃ U, (((((W2.setCell ⟨w.heap.size, 0, none⟩ (.slice none 0 0)).setCell ⟨w.heap.size, 1, none⟩ (.slice none 0 0)).setCell ⟨w.heap.size, 2, none⟩ (.slice none 0 0)).setCell ⟨w.heap.size, 3, none⟩ (.slice none 0 0)).setCell ⟨w.heap.size, 4, none⟩ (.int .i64 0)) = U := ⟨_, rfl⟩
    have RU : BlockIs U w.heap.size 33 [.slice none 0 0, .slice none 0 0, .slice none 0 0, .slice none 0 0, .int .i64 0] := by rw [← hU]; exact (((((R2.out).set 0 _).set 1 _).set 2 _).set 3 _).set 4 _
    have BU : Hid (Below w.heap.size w U) := by rw [← hU]; exact (((((B2.out).setCell (Nat.le_refl _) _).setCell (Nat.le_refl _) _).setCell (Nat.le_refl _) _).setCell (Nat.le_refl _) _).setCell (Nat.le_refl _) _
    have u0 := RU.cell (j := 0) rfl
    have u1 := RU.cell (j := 1) rfl
    have u2 := RU.cell (j := 2) rfl
    have u3 := RU.cell (j := 3) rfl
    have u4 := RU.cell (j := 4) rfl
    clear RU
    go_wp2_with (first | (refine wpList_store_str KZ2.out rfl rfl _ _ rfl _ rfl rfl rfl (by simp [Value.oneCell']) ?_; rw [OV2.out]) | fail)
    refine bodyPost_ret (v := .tuple #[.agg #[.slice none 0 0, .slice none 0 0, .slice none 0 0, .slice none 0 0, .int .i64 0], .bool false]) (by simp [results, Try.results9, go_sem, u0, u1, u2, u3, u4]) rfl ?_
    exact ⟨BU.out, Or.inl ⟨rfl, rfl⟩⟩
  | true =>
    cases kb with
    | false =>
      have r0 := R2.out.cell (j := 0) rfl
      have r1 := R2.out.cell (j := 1) rfl
      have r2 := R2.out.cell (j := 2) rfl
      have r3 := R2.out.cell (j := 3) rfl
      have r4 := R2.out.cell (j := 4) rfl
      have f0 := R2.out.thaw 0
      have f1 := R2.out.thaw 1
      have f2 := R2.out.thaw 2
      have f3 := R2.out.thaw 3
      have f4 := R2.out.thaw 4
      obtain ⟨U, hU⟩ : ∃ U, (((((W2.setCell ⟨w.heap.size, 0, none⟩ (.slice none 0 0)).setCell ⟨w.heap.size, 1, none⟩ (.slice none 0 0)).setCell ⟨w.heap.size, 2, none⟩ (.slice none 0 0)).setCell ⟨w.heap.size, 3, none⟩ (.slice none 0 0)).setCell ⟨w.heap.size, 4, none⟩ (.int .i64 0)) = U := ⟨_, rfl⟩
      have RU : BlockIs U w.heap.size 33 [.slice none 0 0, .slice none 0 0, .slice none 0 0, .slice none 0 0, .int .i64 0] := by rw [← hU]; exact (((((R2.out).set 0 _).set 1 _).set 2 _).set 3 _).set 4 _
      have BU : Hid (Below w.heap.size w U) := by rw [← hU]; exact (((((B2.out).setCell (Nat.le_refl _) _).setCell (Nat.le_refl _) _).setCell (Nat.le_refl _) _).setCell (Nat.le_refl _) _).setCell (Nat.le_refl _) _
      have u0 := RU.cell (j := 0) rfl
      have u1 := RU.cell (j := 1) rfl
      have u2 := RU.cell (j := 2) rfl
      have u3 := RU.cell (j := 3) rfl
      have u4 := RU.cell (j := 4) rfl
      clear RU
      go_wp2_with (first | (refine wpList_store_str KZ2.out rfl rfl _ _ rfl _ rfl rfl rfl (by simp [Value.oneCell']) ?_; rw [OV2.out]) | fail)
      refine bodyPost_ret (v := .tuple #[.agg #[.slice none 0 0, .slice none 0 0, .slice none 0 0, .slice none 0 0, .int .i64 0], .bool false]) (by simp [results, Try.results9, go_sem, u0, u1, u2, u3, u4]) rfl ?_
      exact ⟨BU.out, Or.inl ⟨rfl, rfl⟩⟩
    | true =>
      obtain ⟨n, hn⟩ : ∃ n, W2.heap.size = n := ⟨_, rfl⟩
      have hwn : w.heap.size < n := by rw [← hn]; exact R2.out.lt
      obtain ⟨N, hN⟩ : ∃ N, W2.heap.size = N := ⟨_, rfl⟩
      have LT : Hid (N ≤ W2.heap.size) := (by show _ ≤ _; omega)
      have LT2 : Hid (W2.heap.size ≤ N) := (by show _ ≤ _; omega)
      clear hn hN
      have hwN : w.heap.size < N := Nat.lt_of_lt_of_le R2.out.lt LT2.out
      go_upto_region 5 with (first | (refine wpList_store_str KZ2.out rfl rfl _ _ rfl _ rfl rfl rfl (by simp [Value.oneCell']) ?_; rw [OV2.out]) | fail)
      go_cut [5] (fun c wx => c = .bool true ∧ ∃ (p q r : Nat) (V1 : World), Hid (Below N W2 V1 ∧ (N ≤ p ∧ BlockIs V1 p 42 [.int .i64 x.st, .int .i64 x.iss, .int .i64 x.una, .int .i64 x.rcv, .string x.wait, .int .i64 x.sent, .int .i64 x.fin, .bool x.pf, .string x.inn, .slice none 0 0, .bool x.owe, .int .i64 x.due, .int .i64 x.times, .int .i64 y.st, .int .i64 y.iss, .int .i64 y.una, .int .i64 y.rcv, .string y.wait, .int .i64 y.sent, .int .i64 y.fin, .bool y.pf, .string y.inn, .slice none 0 0, .bool y.owe, .int .i64 y.due, .int .i64 y.times]) ∧ (N ≤ q ∧ BlockIs V1 q 45 [.slice none 0 0, .slice none 0 0]) ∧ (N ≤ r ∧ BlockIs V1 r 3 [.int .i64 0, .int .i64 0]) ∧ wx = (((((V1.setCell ⟨w.heap.size, 0, none⟩ (.slice (some ⟨p, 0, none⟩) 2 2)).setCell ⟨w.heap.size, 1, none⟩ (.slice (some ⟨q, 0, none⟩) 2 2)).setCell ⟨w.heap.size, 2, none⟩ (.slice (some ⟨r, 0, none⟩) 2 2)).setCell ⟨w.heap.size, 3, none⟩ (.slice none 0 0)).setCell ⟨w.heap.size, 4, none⟩ (.int .i64 0))))
      case first =>
        refine wp_region_chain_b (N := 33) (by kernel_rfl) (by kernel_rfl) rfl (by kernel_rfl) [(4, .pointer (some ⟨w.heap.size, 0, none⟩)), (6, .pointer (some ⟨w1.heap.size, 0, none⟩)), (8, .pointer (some ⟨w2.heap.size, 0, none⟩))] (by intro p hp; simp only [List.mem_cons, List.not_mem_nil, or_false] at hp; rcases hp with rfl | rfl | rfl <;> rfl) (fun _ => True) (fun j v _ W => match j with | 0 => v = .agg #[.int .i64 x.st, .int .i64 x.iss, .int .i64 x.una, .int .i64 x.rcv, .string x.wait, .int .i64 x.sent, .int .i64 x.fin, .bool x.pf, .string x.inn, .slice none 0 0, .bool x.owe, .int .i64 x.due, .int .i64 x.times] | 1 => v = .agg #[.int .i64 y.st, .int .i64 y.iss, .int .i64 y.una, .int .i64 y.rcv, .string y.wait, .int .i64 y.sent, .int .i64 y.fin, .bool y.pf, .string y.inn, .slice none 0 0, .bool y.owe, .int .i64 y.due, .int .i64 y.times] | 2 => ∃ p : Nat, v = .slice (some ⟨p, 0, none⟩) 2 2 ∧ N ≤ p ∧ BlockIs W p 42 [.int .i64 x.st, .int .i64 x.iss, .int .i64 x.una, .int .i64 x.rcv, .string x.wait, .int .i64 x.sent, .int .i64 x.fin, .bool x.pf, .string x.inn, .slice none 0 0, .bool x.owe, .int .i64 x.due, .int .i64 x.times, .int .i64 y.st, .int .i64 y.iss, .int .i64 y.una, .int .i64 y.rcv, .string y.wait, .int .i64 y.sent, .int .i64 y.fin, .bool y.pf, .string y.inn, .slice none 0 0, .bool y.owe, .int .i64 y.due, .int .i64 y.times] | 3 => ∃ q : Nat, v = .slice (some ⟨q, 0, none⟩) 2 2 ∧ N ≤ q ∧ BlockIs W q 45 [.slice none 0 0, .slice none 0 0] | 4 => ∃ r : Nat, v = .slice (some ⟨r, 0, none⟩) 2 2 ∧ N ≤ r ∧ BlockIs W r 3 [.int .i64 0, .int .i64 0] | 5 => ∃ p q r : Nat, v = .agg #[.slice (some ⟨p, 0, none⟩) 2 2, .slice (some ⟨q, 0, none⟩) 2 2, .slice (some ⟨r, 0, none⟩) 2 2, .slice none 0 0, .int .i64 0] ∧ (N ≤ p ∧ BlockIs W p 42 [.int .i64 x.st, .int .i64 x.iss, .int .i64 x.una, .int .i64 x.rcv, .string x.wait, .int .i64 x.sent, .int .i64 x.fin, .bool x.pf, .string x.inn, .slice none 0 0, .bool x.owe, .int .i64 x.due, .int .i64 x.times, .int .i64 y.st, .int .i64 y.iss, .int .i64 y.una, .int .i64 y.rcv, .string y.wait, .int .i64 y.sent, .int .i64 y.fin, .bool y.pf, .string y.inn, .slice none 0 0, .bool y.owe, .int .i64 y.due, .int .i64 y.times]) ∧ (N ≤ q ∧ BlockIs W q 45 [.slice none 0 0, .slice none 0 0]) ∧ N ≤ r ∧ BlockIs W r 3 [.int .i64 0, .int .i64 0] | 6 => ∃ (p q r : Nat) (V1 : World), Below N W2 V1 ∧ (N ≤ p ∧ BlockIs V1 p 42 [.int .i64 x.st, .int .i64 x.iss, .int .i64 x.una, .int .i64 x.rcv, .string x.wait, .int .i64 x.sent, .int .i64 x.fin, .bool x.pf, .string x.inn, .slice none 0 0, .bool x.owe, .int .i64 x.due, .int .i64 x.times, .int .i64 y.st, .int .i64 y.iss, .int .i64 y.una, .int .i64 y.rcv, .string y.wait, .int .i64 y.sent, .int .i64 y.fin, .bool y.pf, .string y.inn, .slice none 0 0, .bool y.owe, .int .i64 y.due, .int .i64 y.times]) ∧ (N ≤ q ∧ BlockIs V1 q 45 [.slice none 0 0, .slice none 0 0]) ∧ (N ≤ r ∧ BlockIs V1 r 3 [.int .i64 0, .int .i64 0]) ∧ W = (((((V1.setCell ⟨w.heap.size, 0, none⟩ (.slice (some ⟨p, 0, none⟩) 2 2)).setCell ⟨w.heap.size, 1, none⟩ (.slice (some ⟨q, 0, none⟩) 2 2)).setCell ⟨w.heap.size, 2, none⟩ (.slice (some ⟨r, 0, none⟩) 2 2)).setCell ⟨w.heap.size, 3, none⟩ (.slice none 0 0)).setCell ⟨w.heap.size, 4, none⟩ (.int .i64 0)) | 7 => v = .bool true | _ => True) (fun i => i) (fun j i => decide ((j, i) ∈ ([(2, 6), (3, 6), (4, 6), (5, 6)] : List (Nat × Nat)))) (fun i X9 Y9 => (i ≠ 2 → i ≠ 3 → i ≠ 4 → i ≠ 6 → Y9 = X9) ∧ (i ≠ 6 → Below X9.heap.size X9 Y9)) (fun q9 W => match q9 with | 0 => Below N W2 W | _ => True) (fun m k => decide ((m, k) ∈ ([(0, 6)] : List (Nat × Nat)))) ?_ (fun _ => 0) (by kernel_rfl) (fun _ _ => rfl) ?_ trivial (fun q9 => match q9 with | 0 => below_drewN (Below.refl _ _) 1 | _ + 1 => trivial) ?_ ?_
        · intro i m x9 y9 hen hxy hm
          match m, hen, hm with
          | 0, hen, hm =>
            simp at hen
            exact hm.trans ((hxy.2 hen).mono (Nat.le_trans LT.out hm.size))
          | n + 1, _, _ => exact trivial
        · intro i j v u x9 y9 hsz hij hdd hwt hxy hg
          match j, hg with
          | 0, hg => exact hg
          | 1, hg => exact hg
          | 2, hg =>
            obtain ⟨p, e1, e2, e3⟩ := hg
            exact ⟨p, e1, e2, e3.on (hxy.2 (fun e => by subst e; simp at hdd)) e3.lt⟩
          | 3, hg =>
            obtain ⟨p, e1, e2, e3⟩ := hg
            exact ⟨p, e1, e2, e3.on (hxy.2 (fun e => by subst e; simp at hdd)) e3.lt⟩
          | 4, hg =>
            obtain ⟨p, e1, e2, e3⟩ := hg
            exact ⟨p, e1, e2, e3.on (hxy.2 (fun e => by subst e; simp at hdd)) e3.lt⟩
          | 5, hg =>
            obtain ⟨p, q, r, e1, ⟨e2, e3⟩, ⟨e4, e5⟩, e6, e7⟩ := hg
            exact ⟨p, q, r, e1, ⟨e2, e3.on (hxy.2 (fun e => by subst e; simp at hdd)) e3.lt⟩, ⟨e4, e5.on (hxy.2 (fun e => by subst e; simp at hdd)) e5.lt⟩, e6, e7.on (hxy.2 (fun e => by subst e; simp at hdd)) e7.lt⟩
          | 6, hg =>
            have hi7 : i = 7 := only_after (by kernel_rfl) hsz hij hwt
            have hyx : y9 = x9 := hxy.1 (by omega) (by omega) (by omega) (by omega)
            rw [hyx]
            exact hg
          | 7, hg => exact hg
          | n + 8, _ => exact trivial
        · refine ⟨?_, ?_, ?_, ?_, ?_, ?_, ?_, ?_, trivial⟩
          · intro A W hC hI hg hb
            have h6 : A.eval (.tmp 6) = .pointer (some ⟨w1.heap.size, 0, none⟩) := hb 6 _ (.tail _ (.head _)) (chain_of (by kernel_rfl))
            have hbe : Below N W2 W := hI 0 (by kernel_rfl)
            have hk := (K12.out.on (hbe.mono LT2.out) K12.out.lt)
            exact does_value (v := .agg #[.int .i64 x.st, .int .i64 x.iss, .int .i64 x.una, .int .i64 x.rcv, .string x.wait, .int .i64 x.sent, .int .i64 x.fin, .bool x.pf, .string x.inn, .slice none 0 0, .bool x.owe, .int .i64 x.due, .int .i64 x.times]) (w' := W) (by simp only [execOp, h6, load_str (cs := [.int .i64 x.st, .int .i64 x.iss, .int .i64 x.una, .int .i64 x.rcv, .string x.wait, .int .i64 x.sent, .int .i64 x.fin, .bool x.pf, .string x.inn, .slice none 0 0, .bool x.owe, .int .i64 x.due, .int .i64 x.times]) (r := []) (by rw [List.append_nil]; exact hk) rfl, Sem.run_bind, Sem.run_pure, Result.andThen_ok]) ⟨rfl, trivial, fun _ _ _ _ => rfl, fun _ => Below.refl _ _⟩
          · intro A W hC hI hg hb
            have h8 : A.eval (.tmp 8) = .pointer (some ⟨w2.heap.size, 0, none⟩) := hb 8 _ (.tail _ (.tail _ (.head _))) (chain_of (by kernel_rfl))
            have hbe : Below N W2 W := hI 0 (by kernel_rfl)
            have hk := (K2.out.on (hbe.mono LT2.out) K2.out.lt)
            exact does_value (v := .agg #[.int .i64 y.st, .int .i64 y.iss, .int .i64 y.una, .int .i64 y.rcv, .string y.wait, .int .i64 y.sent, .int .i64 y.fin, .bool y.pf, .string y.inn, .slice none 0 0, .bool y.owe, .int .i64 y.due, .int .i64 y.times]) (w' := W) (by simp only [execOp, h8, load_str (cs := [.int .i64 y.st, .int .i64 y.iss, .int .i64 y.una, .int .i64 y.rcv, .string y.wait, .int .i64 y.sent, .int .i64 y.fin, .bool y.pf, .string y.inn, .slice none 0 0, .bool y.owe, .int .i64 y.due, .int .i64 y.times]) (r := []) (by rw [List.append_nil]; exact hk) rfl, Sem.run_bind, Sem.run_pure, Result.andThen_ok]) ⟨rfl, trivial, fun _ _ _ _ => rfl, fun _ => Below.refl _ _⟩
          · intro A W hC hI hg hb
            have h27 : A.eval (.tmp 27) = .agg #[.int .i64 x.st, .int .i64 x.iss, .int .i64 x.una, .int .i64 x.rcv, .string x.wait, .int .i64 x.sent, .int .i64 x.fin, .bool x.pf, .string x.inn, .slice none 0 0, .bool x.owe, .int .i64 x.due, .int .i64 x.times] := hg 0 27 (by decide) rfl (by simp [Op.operands]) (by kernel_rfl) (by kernel_rfl) rfl
            have h28 : A.eval (.tmp 28) = .agg #[.int .i64 y.st, .int .i64 y.iss, .int .i64 y.una, .int .i64 y.rcv, .string y.wait, .int .i64 y.sent, .int .i64 y.fin, .bool y.pf, .string y.inn, .slice none 0 0, .bool y.owe, .int .i64 y.due, .int .i64 y.times] := hg 1 28 (by decide) rfl (by simp [Op.operands]) (by kernel_rfl) (by kernel_rfl) rfl
            have hbe : Below N W2 W := hI 0 (by kernel_rfl)
            have hNW : N ≤ W.heap.size := Nat.le_trans LT.out hbe.size
            simp [go_sem] at h27 h28
            have ba := below_more (Below.refl W.heap.size W) (.cells #[.int .i64 x.st, .int .i64 x.iss, .int .i64 x.una, .int .i64 x.rcv, .string x.wait, .int .i64 x.sent, .int .i64 x.fin, .bool x.pf, .string x.inn, .slice none 0 0, .bool x.owe, .int .i64 x.due, .int .i64 x.times, .int .i64 y.st, .int .i64 y.iss, .int .i64 y.una, .int .i64 y.rcv, .string y.wait, .int .i64 y.sent, .int .i64 y.fin, .bool y.pf, .string y.inn, .slice none 0 0, .bool y.owe, .int .i64 y.due, .int .i64 y.times] 42)
            exact does_value (v := .slice (some ⟨W.heap.size, 0, none⟩) 2 2) (w' := W.alloc (.cells #[.int .i64 x.st, .int .i64 x.iss, .int .i64 x.una, .int .i64 x.rcv, .string x.wait, .int .i64 x.sent, .int .i64 x.fin, .bool x.pf, .string x.inn, .slice none 0 0, .bool x.owe, .int .i64 x.due, .int .i64 x.times, .int .i64 y.st, .int .i64 y.iss, .int .i64 y.una, .int .i64 y.rcv, .string y.wait, .int .i64 y.sent, .int .i64 y.fin, .bool y.pf, .string y.inn, .slice none 0 0, .bool y.owe, .int .i64 y.due, .int .i64 y.times] 42)) (by simp [execOp, go_sem, h27, h28]) ⟨⟨_, rfl, hNW, heap_alloc_new W _⟩, trivial, fun h => absurd rfl h, fun _ => ba⟩
          · intro A W hC hI hg hb
            have hbe : Below N W2 W := hI 0 (by kernel_rfl)
            have hNW : N ≤ W.heap.size := Nat.le_trans LT.out hbe.size
            have ba := below_more (Below.refl W.heap.size W) (.cells #[.slice none 0 0, .slice none 0 0] 45)
            exact does_value (v := .slice (some ⟨W.heap.size, 0, none⟩) 2 2) (w' := W.alloc (.cells #[.slice none 0 0, .slice none 0 0] 45)) (by simp only [execOp, Act.eval]; simp [mk_two_bits]) ⟨⟨_, rfl, hNW, heap_alloc_new W _⟩, trivial, fun _ h => absurd rfl h, fun _ => ba⟩
          · intro A W hC hI hg hb
            have hbe : Below N W2 W := hI 0 (by kernel_rfl)
            have hNW : N ≤ W.heap.size := Nat.le_trans LT.out hbe.size
            have ba := below_more (Below.refl W.heap.size W) (.cells #[.int .i64 0, .int .i64 0] 3)
            exact does_value (v := .slice (some ⟨W.heap.size, 0, none⟩) 2 2) (w' := W.alloc (.cells #[.int .i64 0, .int .i64 0] 3)) (by simp only [execOp, Act.eval]; simp [mk_two_ints]) ⟨⟨_, rfl, hNW, heap_alloc_new W _⟩, trivial, fun _ _ h => absurd rfl h, fun _ => ba⟩
          · intro A W hC hI hg hb
            have g2 := hg 2 29 (by decide) rfl (by simp [Op.operands]) (by kernel_rfl) (by kernel_rfl) rfl
            have g3 := hg 3 30 (by decide) rfl (by simp [Op.operands]) (by kernel_rfl) (by kernel_rfl) rfl
            have g4 := hg 4 31 (by decide) rfl (by simp [Op.operands]) (by kernel_rfl) (by kernel_rfl) rfl
            obtain ⟨p, h29, hp⟩ := g2
            obtain ⟨q, h30, hq⟩ := g3
            obtain ⟨r, h31, hr⟩ := g4
            simp [go_sem] at h29 h30 h31
            exact does_value (v := .agg #[.slice (some ⟨p, 0, none⟩) 2 2, .slice (some ⟨q, 0, none⟩) 2 2, .slice (some ⟨r, 0, none⟩) 2 2, .slice none 0 0, .int .i64 0]) (w' := W) (by simp [execOp, go_sem, h29, h30, h31]) ⟨⟨p, q, r, rfl, hp, hq, hr⟩, trivial, fun _ _ _ _ => rfl, fun _ => Below.refl _ _⟩
          · intro A W hC hI hg hb
            have h4 : A.eval (.tmp 4) = .pointer (some ⟨w.heap.size, 0, none⟩) := hb 4 _ (.head _) (chain_of (by kernel_rfl))
            have g5 := hg 5 32 (by decide) rfl (by simp [Op.operands]) (by kernel_rfl) (by kernel_rfl) rfl
            have hbe : Below N W2 W := hI 0 (by kernel_rfl)
            obtain ⟨p, q, r, h32, hp, hq, hr⟩ := g5
            have hX := R2.out.on (hbe.mono LT2.out) R2.out.lt
            have r0 := hX.cell (j := 0) rfl
            have r1 := hX.cell (j := 1) rfl
            have r2 := hX.cell (j := 2) rfl
            have r3 := hX.cell (j := 3) rfl
            have r4 := hX.cell (j := 4) rfl
            have f0 := hX.thaw 0
            have f1 := hX.thaw 1
            have f2 := hX.thaw 2
            have f3 := hX.thaw 3
            have f4 := hX.thaw 4
            exact does_skip (w' := (((((W.setCell ⟨w.heap.size, 0, none⟩ (.slice (some ⟨p, 0, none⟩) 2 2)).setCell ⟨w.heap.size, 1, none⟩ (.slice (some ⟨q, 0, none⟩) 2 2)).setCell ⟨w.heap.size, 2, none⟩ (.slice (some ⟨r, 0, none⟩) 2 2)).setCell ⟨w.heap.size, 3, none⟩ (.slice none 0 0)).setCell ⟨w.heap.size, 4, none⟩ (.int .i64 0))) (by simp only [execOp, h4, h32]; simp [go_sem, r0, r1, r2, r3, r4, f0, f1, f2, f3, f4]) ⟨⟨p, q, r, W, hbe, hp, hq, hr, rfl⟩, trivial, fun _ _ _ h => absurd rfl h, fun h => absurd rfl h⟩
          · intro A W hC hI hg hb
            exact does_value (v := .bool true) (w' := W) (by simp [execOp, go_sem]) ⟨rfl, trivial, fun _ _ _ _ => rfl, fun _ => Below.refl _ _⟩
        · intro vs wE _ _ hg
          obtain ⟨p, q, r, V1, h1, h2, h3, h4, h5⟩ := hg 6 (by decide) (fun k => by simp)
          have h7 : vs 7 = .bool true := hg 7 (by decide) (fun k => by simp)
          clear hg
          simp only [List.size_toArray, List.length_cons, List.length_nil, Nat.zero_add, Nat.reduceAdd]
          simp only [laidBy, if_true, dstAt, List.getElem?_toArray, List.getElem?_cons_succ, List.getElem?_cons_zero, Option.bind_some]
          simp only [Act.put, List.setIfInBounds_toArray, List.set_cons_succ, List.set_cons_zero]
          rw [h7]
          go_wp2_with fail
          go_meet
          exact ⟨rfl, p, q, r, V1, ⟨h1, h2, h3, h4, (by first | exact h5 | rfl)⟩⟩
      case rest =>
        obtain ⟨rfl, p, q, r, V1, HC⟩ := hcut
        obtain ⟨h1, ⟨p1, p2⟩, ⟨q1, q2⟩, ⟨r1, r2⟩, hwx⟩ := HC.out
        have R5 := R2.out.on (h1.mono LT2.out) R2.out.lt
        have B5 := B2.out.trans (h1.mono (by omega))
        have l1 := p2.lt
        have l2 := q2.lt
        have l3 := r2.lt
        obtain ⟨U, hU⟩ : ∃ U, (((((V1.setCell ⟨w.heap.size, 0, none⟩ (.slice (some ⟨p, 0, none⟩) 2 2)).setCell ⟨w.heap.size, 1, none⟩ (.slice (some ⟨q, 0, none⟩) 2 2)).setCell ⟨w.heap.size, 2, none⟩ (.slice (some ⟨r, 0, none⟩) 2 2)).setCell ⟨w.heap.size, 3, none⟩ (.slice none 0 0)).setCell ⟨w.heap.size, 4, none⟩ (.int .i64 0)) = U := ⟨_, rfl⟩
        have RU : BlockIs U w.heap.size 33 [.slice (some ⟨p, 0, none⟩) 2 2, .slice (some ⟨q, 0, none⟩) 2 2, .slice (some ⟨r, 0, none⟩) 2 2, .slice none 0 0, .int .i64 0] := by rw [← hU]; exact (((((R5).set 0 _).set 1 _).set 2 _).set 3 _).set 4 _
        have BU : Hid (Below w.heap.size w U) := by rw [← hU]; exact (((((B5).setCell (Nat.le_refl _) _).setCell (Nat.le_refl _) _).setCell (Nat.le_refl _) _).setCell (Nat.le_refl _) _).setCell (Nat.le_refl _) _
        have PU : Hid (BlockIs U (p) 42 [.int .i64 x.st, .int .i64 x.iss, .int .i64 x.una, .int .i64 x.rcv, .string x.wait, .int .i64 x.sent, .int .i64 x.fin, .bool x.pf, .string x.inn, .slice none 0 0, .bool x.owe, .int .i64 x.due, .int .i64 x.times, .int .i64 y.st, .int .i64 y.iss, .int .i64 y.una, .int .i64 y.rcv, .string y.wait, .int .i64 y.sent, .int .i64 y.fin, .bool y.pf, .string y.inn, .slice none 0 0, .bool y.owe, .int .i64 y.due, .int .i64 y.times]) := by rw [← hU]; exact (((((p2).far (by omega) _).far (by omega) _).far (by omega) _).far (by omega) _).far (by omega) _
        have QU : Hid (BlockIs U (q) 45 [.slice none 0 0, .slice none 0 0]) := by rw [← hU]; exact (((((q2).far (by omega) _).far (by omega) _).far (by omega) _).far (by omega) _).far (by omega) _
        have IU : Hid (BlockIs U (r) 3 [.int .i64 0, .int .i64 0]) := by rw [← hU]; exact (((((r2).far (by omega) _).far (by omega) _).far (by omega) _).far (by omega) _).far (by omega) _
        have u0 := RU.cell (j := 0) rfl
        have u1 := RU.cell (j := 1) rfl
        have u2 := RU.cell (j := 2) rfl
        have u3 := RU.cell (j := 3) rfl
        have u4 := RU.cell (j := 4) rfl
        clear RU
        have hUs : V1.heap.size = U.heap.size := by rw [← hU]; simp [World.size_setCell]
        rw [hU] at hwx
        rw [hwx]
        clear hwx HC h1 p2 q2 r2 R5 B5 wc
        go_wp2_with fail
        refine bodyPost_ret (v := .tuple #[.agg #[.slice (some ⟨p, 0, none⟩) 2 2, .slice (some ⟨q, 0, none⟩) 2 2, .slice (some ⟨r, 0, none⟩) 2 2, .slice none 0 0, .int .i64 0], .bool true]) (by simp [results, Try.results9, go_sem, u0, u1, u2, u3, u4]) rfl ?_
        exact ⟨BU.out, Or.inr ⟨rfl, _, _, _, rfl, ⟨by omega, by omega, PU.out⟩, ⟨by omega, by omega, _, _, _, _, QU.out⟩, by omega, by omega, IU.out⟩⟩
end Go.Proofs.Ythkkhmmcgjcedaa
