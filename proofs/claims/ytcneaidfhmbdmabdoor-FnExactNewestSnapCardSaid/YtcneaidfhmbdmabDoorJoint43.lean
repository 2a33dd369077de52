/-
  The walk of impl.ReadSnap: what it answers, in memory of its own; a reader's panic is caught.
  The walk of impl.snapIn.
-/
import Derived.Test.YtcneaidfhmbdmabDoorJoint42
import Derived.Test.YtcneaidfhmbdmabDoorJoint1
import Derived.Test.YtcneaidfhmbdmabDoorJoint35
namespace Go.Proofs.YtcneaidfhmbdmabDoor
open Go.RowKit Go.Sort

/-- behind the closure, where a reader panicked -/
theorem door_closed {n p q : Nat} {w wj w'' : World} {cs : List Value} {x : Value} (hw : w'' = (((((wj.alloc (.cells #[] 95)).setCell ⟨p, 0, none⟩ (.int .i64 0)).setCell ⟨p, 1, none⟩ (.int .i64 0)).setCell ⟨p, 2, none⟩ (.slice none 0 0)).setCell ⟨p, 3, none⟩ (.string ByteArray.empty)).setCell ⟨q, 0, none⟩ (.bool false))
    (hp : BlockIs wj p 28 cs) (hl : cs.length = 4) (hq : BlockIs wj q 4 [x]) (hpq : p ≠ q) (hB : Below n w wj) (hn : n ≤ p) (hnq : n ≤ q) :
    BlockIs w'' p 28 [.int .i64 0, .int .i64 0, .slice none 0 0, .string ByteArray.empty] ∧ BlockIs w'' q 4 [.bool false] ∧ Below n w w'' := by
  obtain ⟨c0, c1, c2, c3, rfl⟩ : ∃ c0 c1 c2 c3, cs = [c0, c1, c2, c3] := by
    match cs, hl with
    | [c0, c1, c2, c3], _ => exact ⟨c0, c1, c2, c3, rfl⟩
  have hX := below_more (Below.refl wj.heap.size wj) (.cells #[] 95)
  have hp1 := hp.on hX hp.lt
  have hq1 := hq.on hX hq.lt
  have hlt := hp.lt
  subst hw
  refine ⟨((((hp1.set 0 _).set 1 _).set 2 _).set 3 _).far (fun e => hpq e.symm) _, ((((hq1.far hpq _).far hpq _).far hpq _).far hpq _).set 0 _, ?_⟩
  have h1 : Below n w (wj.alloc (.cells #[] 95)) := hB.trans (hX.mono (by omega))
  exact ((((h1.setCell hn _).setCell hn _).setCell hn _).setCell hn _).setCell hnq _

/-- behind the closure, where all was read -/
theorem door_open {n p q m : Nat} {w wj w'' : World} {cs : List Value} {x v : Value} {zs : List Value} (hw : w'' = wj.alloc (.cells #[] 95)) (hp : BlockIs wj p 28 cs) (hq : BlockIs wj q 4 [x]) (ho : wj.ownsRow n 3 1 v m zs) (hB : Below n w wj) (hn : n ≤ w.heap.size) :
    BlockIs w'' p 28 cs ∧ BlockIs w'' q 4 [x] ∧ w''.ownsRow n 3 1 v m zs ∧ Below n w w'' := by
  have hX := below_more (Below.refl wj.heap.size wj) (.cells #[] 95)
  subst hw
  exact ⟨hp.on hX hp.lt, hq.on hX hq.lt, kept_conf ho hX, hB.trans (hX.mono (Nat.le_trans hn hB.size))⟩

set_option maxRecDepth 1000000 in
set_option maxHeartbeats 8000000 in
theorem implReadSnap_any (s : ByteArray) (hs : s.size ≤ 1048576) (w : World) (ht : Steps w) : Calls Tryd.prog 51 #[.string s] w fun e w' => snapDid (readSnap s) w e w' := by
  have hmf : ∀ (fn : Fn) (first cap : Array Value) (w : World), (Instr.makeFunc fn first cap).run Tryd.prog w = .ok (.func fn first cap) w := fun _ _ _ _ => rfl
  have HT := hid ht
  have h3 := three_blocks w (.cells #[.int .i64 0, .int .i64 0, .slice none 0 0, .string ⟨#[]⟩] 28) (.cells #[.bool false] 4) (.cells #[.string s, .int .i64 0] 99)
  have P0 : Hid (BlockIs _ w.heap.size 28 [.int .i64 0, .int .i64 0, .slice none 0 0, .string ⟨#[]⟩]) := h3.2.2.1
  have Q0 : Hid (BlockIs _ (w.heap.size + 1) 4 [.bool false]) := h3.2.2.2.1
  have R0 : Hid (RdIs _ (w.heap.size + 1 + 1) s 0) := h3.2.2.2.2
  have B0 := hid h3.1
  clear h3 ht
  obtain ⟨W, hW⟩ : ∃ W, ((w.alloc (.cells #[.int .i64 0, .int .i64 0, .slice none 0 0, .string ⟨#[]⟩] 28)).alloc (.cells #[.bool false] 4)).alloc (.cells #[.string s, .int .i64 0] 99) = W := ⟨_, rfl⟩
  rw [hW] at P0 Q0 R0 B0
  by_cases hu : Uns s ∧ s.size ≤ 20000
  rotate_left
  · have hno := rs_sealed hu
    go_enter_defers Tryd.func51, Tryd.ntmps51
    go_wp2_with fail
    refine (unseal_no (w.heap.size + 1 + 1) s 0 hs hu _ R0.out (steps_on HT.out B0.out)).mono ?_
    rintro e w1 ⟨rfl, hg⟩
    have P1 := hid (blk_grown P0.out hg (by omega))
    have Q1 := hid (blk_grown Q0.out hg (by omega))
    have B1 := hid (below_grown B0.out hg (by omega) B0.out.size)
    clear hg P0 Q0 B0 R0
    clear hW W
    have HR : Hid (readSnap s = none) := hno
    go_wp2
    refine leaves_cons (f := 67) (args := #[.pointer (some ⟨w.heap.size, 0, none⟩), .pointer (some ⟨w.heap.size + 1, 0, none⟩)]) (by simp) (by simp [go_sem]) ?_
    refine (catch_panicking w.heap.size (w.heap.size + 1) _ _ _ P1.out rfl Q1.out (by omega)).mono ?_
    rintro e u' w'' ⟨rfl, rfl, hw⟩
    have D := door_closed hw P1.out rfl Q1.out (by omega) B1.out (by omega) (by omega)
    clear hw
    have c0 := D.1.cell (j := 0) rfl
    have c1 := D.1.cell (j := 1) rfl
    have c2 := D.1.cell (j := 2) rfl
    have c3 := D.1.cell (j := 3) rfl
    have cq := D.2.1.cell (j := 0) rfl
    simp [Leaves, settle, results, Tryd.results51, go_sem, c0, c1, c2, c3, cq]
    rw [HR.out]
    exact ⟨rfl, D.2.2⟩
  have HRS := hid (readSnap_sealed hu)
  have hts : (s.extract 0 (s.size - 4)).size ≤ 20000 := by rw [ByteArray.size_extract]; omega
  go_enter_defers Tryd.func51, Tryd.ntmps51
  go_wp2_with fail
  refine (unseal_yes (w.heap.size + 1 + 1) s 0 hu.1 hu.2 _ R0.out (steps_on HT.out B0.out)).mono ?_
  rintro e w1 ⟨rfl, hr, hg⟩
  have P1 := hid (blk_grown P0.out hg (by omega))
  have Q1 := hid (blk_grown Q0.out hg (by omega))
  have B1 := hid (below_grown B0.out hg (by omega) B0.out.size)
  have R1 := hid hr
  clear hg hr P0 Q0 B0 R0
  clear hW W hu hs
  obtain ⟨t, ht⟩ : ∃ t, s.extract 0 (s.size - 4) = t := ⟨_, rfl⟩
  rw [ht] at R1 HRS hts
  clear ht
  have hts2 : t.size ≤ 1048576 := by omega
  cases h1 : rv (t.data.toList.drop 0) with
  | none =>
    go_wp2_with fail
    refine (number_no (w.heap.size + 1 + 1) t 0 1000000 hts2 (Nat.zero_le _) (by rw [h1]; intro _ _ e; cases e) _ R1.out).mono ?_
    rintro e w2 ⟨rfl, hg⟩
    have P2 := hid (blk_grown P1.out hg (by omega))
    have Q2 := hid (blk_grown Q1.out hg (by omega))
    have B2 := hid (below_grown B1.out hg (by omega) B1.out.size)
    clear hg P1 Q1 B1 R1
    have HR : Hid (readSnap s = none) := (show _ = _ by rw [HRS.out, rsi1 h1])
    go_wp2
    refine leaves_cons (f := 67) (args := #[.pointer (some ⟨w.heap.size, 0, none⟩), .pointer (some ⟨w.heap.size + 1, 0, none⟩)]) (by simp) (by simp [go_sem]) ?_
    refine (catch_panicking w.heap.size (w.heap.size + 1) _ _ _ P2.out rfl Q2.out (by omega)).mono ?_
    rintro e u' w'' ⟨rfl, rfl, hw⟩
    have D := door_closed hw P2.out rfl Q2.out (by omega) B2.out (by omega) (by omega)
    clear hw
    have c0 := D.1.cell (j := 0) rfl
    have c1 := D.1.cell (j := 1) rfl
    have c2 := D.1.cell (j := 2) rfl
    have c3 := D.1.cell (j := 3) rfl
    have cq := D.2.1.cell (j := 0) rfl
    simp [Leaves, settle, results, Tryd.results51, go_sem, c0, c1, c2, c3, cq]
    rw [HR.out]
    exact ⟨rfl, D.2.2⟩
  | some p1 =>
    obtain ⟨ix, k1⟩ := p1
    have f1 := rv_fits (Nat.zero_le _) h1
    by_cases hi : (ix : Int) ≤ 1000000
    rotate_left
    · go_wp2_with fail
      refine (number_no (w.heap.size + 1 + 1) t 0 1000000 hts2 (Nat.zero_le _) (by rw [h1]; intro n c e; cases e; omega) _ R1.out).mono ?_
      rintro e w2 ⟨rfl, hg⟩
      have P2 := hid (blk_grown P1.out hg (by omega))
      have Q2 := hid (blk_grown Q1.out hg (by omega))
      have B2 := hid (below_grown B1.out hg (by omega) B1.out.size)
      clear hg P1 Q1 B1 R1
      have HR : Hid (readSnap s = none) := (show _ = _ by rw [HRS.out, rsi2 h1 (by omega)])
      go_wp2
      refine leaves_cons (f := 67) (args := #[.pointer (some ⟨w.heap.size, 0, none⟩), .pointer (some ⟨w.heap.size + 1, 0, none⟩)]) (by simp) (by simp [go_sem]) ?_
      refine (catch_panicking w.heap.size (w.heap.size + 1) _ _ _ P2.out rfl Q2.out (by omega)).mono ?_
      rintro e u' w'' ⟨rfl, rfl, hw⟩
      have D := door_closed hw P2.out rfl Q2.out (by omega) B2.out (by omega) (by omega)
      clear hw
      have c0 := D.1.cell (j := 0) rfl
      have c1 := D.1.cell (j := 1) rfl
      have c2 := D.1.cell (j := 2) rfl
      have c3 := D.1.cell (j := 3) rfl
      have cq := D.2.1.cell (j := 0) rfl
      simp [Leaves, settle, results, Tryd.results51, go_sem, c0, c1, c2, c3, cq]
      rw [HR.out]
      exact ⟨rfl, D.2.2⟩
    go_wp2_with fail
    refine (number_yes (w.heap.size + 1 + 1) t 0 ix k1 1000000 hts2 (Nat.zero_le _) h1 hi _ R1.out).mono ?_
    rintro e w2 ⟨rfl, hr, hg⟩
    have P2 := hid (blk_grown P1.out hg (by omega))
    have Q2 := hid (blk_grown Q1.out hg (by omega))
    have B2 := hid (below_grown B1.out hg (by omega) B1.out.size)
    have R2 := hid hr
    clear hg hr P1 Q1 B1 R1
    rw [Nat.zero_add] at R2
    have c := P2.out.cell (j := 0) rfl
    have f := P2.out.thaw 0
    have P3 := hid (P2.out.set 0 (.int .i64 (ix : Int)))
    have Q3 := hid (Q2.out.far (b := w.heap.size) (j := 0) (by omega) (.int .i64 (ix : Int)))
    have B3 := hid (B2.out.setCell (p := ⟨w.heap.size, 0, none⟩) (Nat.le_refl _) (.int .i64 (ix : Int)))
    have R3 : Hid (RdIs (w2.setCell ⟨w.heap.size, 0, none⟩ (.int .i64 (ix : Int))) (w.heap.size + 1 + 1) t k1) := R2.out.far (b := w.heap.size) (j := 0) (by omega) (.int .i64 (ix : Int))
    clear P2 Q2 B2 R2
    cases h2 : rv (t.data.toList.drop k1) with
    | none =>
      go_wp2_with fail
      refine (number_no (w.heap.size + 1 + 1) t k1 100000 hts2 (by omega) (by rw [h2]; intro _ _ e; cases e) _ R3.out).mono ?_
      rintro e w4 ⟨rfl, hg⟩
      have P4 := hid (blk_grown P3.out hg (by omega))
      have Q4 := hid (blk_grown Q3.out hg (by omega))
      have B4 := hid (below_grown B3.out hg (by omega) B3.out.size)
      clear hg P3 Q3 B3 R3
      clear c f
      have HR : Hid (readSnap s = none) := (show _ = _ by rw [HRS.out, rsi3 h1 (by omega) h2])
      go_wp2
      refine leaves_cons (f := 67) (args := #[.pointer (some ⟨w.heap.size, 0, none⟩), .pointer (some ⟨w.heap.size + 1, 0, none⟩)]) (by simp) (by simp [go_sem]) ?_
      refine (catch_panicking w.heap.size (w.heap.size + 1) _ _ _ P4.out rfl Q4.out (by omega)).mono ?_
      rintro e u' w'' ⟨rfl, rfl, hw⟩
      have D := door_closed hw P4.out rfl Q4.out (by omega) B4.out (by omega) (by omega)
      clear hw
      have c0 := D.1.cell (j := 0) rfl
      have c1 := D.1.cell (j := 1) rfl
      have c2 := D.1.cell (j := 2) rfl
      have c3 := D.1.cell (j := 3) rfl
      have cq := D.2.1.cell (j := 0) rfl
      simp [Leaves, settle, results, Tryd.results51, go_sem, c0, c1, c2, c3, cq]
      rw [HR.out]
      exact ⟨rfl, D.2.2⟩
    | some p2 =>
      obtain ⟨tm, k2⟩ := p2
      have f2 := rv_fits (show k1 ≤ t.size by omega) h2
      by_cases hm : (tm : Int) ≤ 100000
      rotate_left
      · go_wp2_with fail
        refine (number_no (w.heap.size + 1 + 1) t k1 100000 hts2 (by omega) (by rw [h2]; intro n c e; cases e; omega) _ R3.out).mono ?_
        rintro e w4 ⟨rfl, hg⟩
        have P4 := hid (blk_grown P3.out hg (by omega))
        have Q4 := hid (blk_grown Q3.out hg (by omega))
        have B4 := hid (below_grown B3.out hg (by omega) B3.out.size)
        clear hg P3 Q3 B3 R3
        clear c f
        have HR : Hid (readSnap s = none) := (show _ = _ by rw [HRS.out, rsi4 h1 (by omega) h2 (by omega)])
        go_wp2
        refine leaves_cons (f := 67) (args := #[.pointer (some ⟨w.heap.size, 0, none⟩), .pointer (some ⟨w.heap.size + 1, 0, none⟩)]) (by simp) (by simp [go_sem]) ?_
        refine (catch_panicking w.heap.size (w.heap.size + 1) _ _ _ P4.out rfl Q4.out (by omega)).mono ?_
        rintro e u' w'' ⟨rfl, rfl, hw⟩
        have D := door_closed hw P4.out rfl Q4.out (by omega) B4.out (by omega) (by omega)
        clear hw
        have c0 := D.1.cell (j := 0) rfl
        have c1 := D.1.cell (j := 1) rfl
        have c2 := D.1.cell (j := 2) rfl
        have c3 := D.1.cell (j := 3) rfl
        have cq := D.2.1.cell (j := 0) rfl
        simp [Leaves, settle, results, Tryd.results51, go_sem, c0, c1, c2, c3, cq]
        rw [HR.out]
        exact ⟨rfl, D.2.2⟩
      go_wp2_with fail
      refine (number_yes (w.heap.size + 1 + 1) t k1 tm k2 100000 hts2 (by omega) h2 hm _ R3.out).mono ?_
      rintro e w4 ⟨rfl, hr, hg⟩
      have P4 := hid (blk_grown P3.out hg (by omega))
      have Q4 := hid (blk_grown Q3.out hg (by omega))
      have B4 := hid (below_grown B3.out hg (by omega) B3.out.size)
      have R4 := hid hr
      clear hg hr P3 Q3 B3 R3
      clear c f
      have HN := hid (fun z (h : readSnapB t ix tm (k1 + k2) = z) => (show readSnapIn t = z by rw [rsi5 h1 (by omega) h2 (by omega)]; exact h))
      obtain ⟨k, hk⟩ : ∃ k, k1 + k2 = k := ⟨_, rfl⟩
      rw [hk] at R4 HN
      have hkt : k ≤ t.size := by omega
      clear hk h1 h2 f1 f2 hi hm
      have c := P4.out.cell (j := 1) rfl
      have f := P4.out.thaw 1
      have P5 := hid (P4.out.set 1 (.int .i64 (tm : Int)))
      have Q5 := hid (Q4.out.far (b := w.heap.size) (j := 1) (by omega) (.int .i64 (tm : Int)))
      have B5 := hid (B4.out.setCell (p := ⟨w.heap.size, 1, none⟩) (Nat.le_refl _) (.int .i64 (tm : Int)))
      have R5 : Hid (RdIs (w4.setCell ⟨w.heap.size, 1, none⟩ (.int .i64 (tm : Int))) (w.heap.size + 1 + 1) t k) := R4.out.far (b := w.heap.size) (j := 1) (by omega) (.int .i64 (tm : Int))
      clear P4 Q4 B4 R4
      cases h3 : rs t (k : Int) with
      | none =>
        go_wp2_with fail
        refine (conf_none (w.heap.size + 1 + 1) t k hts2 h3 _ R5.out).mono ?_
        rintro e w6 ⟨rfl, hg⟩
        have P6 := hid (blk_grown P5.out hg (by omega))
        have Q6 := hid (blk_grown Q5.out hg (by omega))
        have B6 := hid (below_grown B5.out hg (by omega) B5.out.size)
        clear hg P5 Q5 B5 R5
        clear c f
        have HR : Hid (readSnap s = none) := (show _ = _ by rw [HRS.out]; exact HN.out _ (rsb1 h3))
        go_wp2
        refine leaves_cons (f := 67) (args := #[.pointer (some ⟨w.heap.size, 0, none⟩), .pointer (some ⟨w.heap.size + 1, 0, none⟩)]) (by simp) (by simp [go_sem]) ?_
        refine (catch_panicking w.heap.size (w.heap.size + 1) _ _ _ P6.out rfl Q6.out (by omega)).mono ?_
        rintro e u' w'' ⟨rfl, rfl, hw⟩
        have D := door_closed hw P6.out rfl Q6.out (by omega) B6.out (by omega) (by omega)
        clear hw
        have c0 := D.1.cell (j := 0) rfl
        have c1 := D.1.cell (j := 1) rfl
        have c2 := D.1.cell (j := 2) rfl
        have c3 := D.1.cell (j := 3) rfl
        have cq := D.2.1.cell (j := 0) rfl
        simp [Leaves, settle, results, Tryd.results51, go_sem, c0, c1, c2, c3, cq]
        rw [HR.out]
        exact ⟨rfl, D.2.2⟩
      | some p3 =>
        obtain ⟨x, y⟩ := p3
        cases hc : confOk (intsOf (t.extract x y).data.toList) with
        | false =>
          go_wp2_with fail
          refine (conf_no (w.heap.size + 1 + 1) t k x y hts2 h3 hc _ R5.out).mono ?_
          rintro e w6 ⟨rfl, hg⟩
          have P6 := hid (blk_grown P5.out hg (by omega))
          have Q6 := hid (blk_grown Q5.out hg (by omega))
          have B6 := hid (below_grown B5.out hg (by omega) B5.out.size)
          clear hg P5 Q5 B5 R5
          clear c f
          have HR : Hid (readSnap s = none) := (show _ = _ by rw [HRS.out]; exact HN.out _ (rsb2 h3 hc))
          go_wp2
          refine leaves_cons (f := 67) (args := #[.pointer (some ⟨w.heap.size, 0, none⟩), .pointer (some ⟨w.heap.size + 1, 0, none⟩)]) (by simp) (by simp [go_sem]) ?_
          refine (catch_panicking w.heap.size (w.heap.size + 1) _ _ _ P6.out rfl Q6.out (by omega)).mono ?_
          rintro e u' w'' ⟨rfl, rfl, hw⟩
          have D := door_closed hw P6.out rfl Q6.out (by omega) B6.out (by omega) (by omega)
          clear hw
          have c0 := D.1.cell (j := 0) rfl
          have c1 := D.1.cell (j := 1) rfl
          have c2 := D.1.cell (j := 2) rfl
          have c3 := D.1.cell (j := 3) rfl
          have cq := D.2.1.cell (j := 0) rfl
          simp [Leaves, settle, results, Tryd.results51, go_sem, c0, c1, c2, c3, cq]
          rw [HR.out]
          exact ⟨rfl, D.2.2⟩
        | true =>
          go_wp2_with fail
          refine (conf_yes (w.heap.size + 1 + 1) t k x y hts2 h3 hc _ R5.out).mono ?_
          rintro e w6 ⟨v, rfl, ho, hr, hg⟩
          have hsz : w.heap.size ≤ w6.heap.size := Nat.le_trans B5.out.size hg.size
          have O6 := hid (row_down ho B5.out.size)
          clear ho
          obtain ⟨va, vc, rfl⟩ := row_shape O6.out
          have P6 := hid (blk_grown P5.out hg (by omega))
          have Q6 := hid (blk_grown Q5.out hg (by omega))
          have B6 := hid (below_grown B5.out hg (by omega) B5.out.size)
          have R6 := hid hr
          clear hg hr P5 Q5 B5 R5 c f
          have hyt := (short_read (s := t) (k := k) hkt (by omega)).2 x y h3
          obtain ⟨zs, hzs⟩ : ∃ zs, intsOf (t.extract x y).data.toList = zs := ⟨_, rfl⟩
          have HN2 := hid (fun z (h : readSnapC t ix tm zs y = z) => HN.out z ((rsb3 h3 hc).trans (by rw [hzs]; exact h)))
          rw [hzs] at O6 ⊢
          obtain ⟨nz, hnz⟩ : ∃ n, zs.length = n := ⟨_, rfl⟩
          rw [hnz] at O6 ⊢
          have HNZ := hid hnz
          have hy : y ≤ t.size := hyt.2.2.2.1
          clear hyt hzs h3 hc HN hnz
          have c := P6.out.cell (j := 2) rfl
          have f := P6.out.thaw 2
          have P7 := hid (P6.out.set 2 (.slice va nz vc))
          have Q7 := hid (Q6.out.far (b := w.heap.size) (j := 2) (by omega) (.slice va nz vc))
          have B7 := hid (B6.out.setCell (p := ⟨w.heap.size, 2, none⟩) (Nat.le_refl _) (.slice va nz vc))
          have R7 : Hid (RdIs (w6.setCell ⟨w.heap.size, 2, none⟩ (.slice va nz vc)) (w.heap.size + 1 + 1) t y) := R6.out.far (b := w.heap.size) (j := 2) (by omega) (.slice va nz vc)
          have O7 := hid (own_put O6.out P6.out (by decide) (j := 2) (u := .slice va nz vc))
          clear P6 Q6 B6 R6 O6
          cases h4 : rs t (y : Int) with
          | none =>
            go_wp2_with fail
            refine (short_no (w.heap.size + 1 + 1) t y hts2 h4 _ R7.out).mono ?_
            rintro e w8 ⟨rfl, hg⟩
            have P8 := hid (blk_grown P7.out hg (by omega))
            have Q8 := hid (blk_grown Q7.out hg (by omega))
            have B8 := hid (below_grown B7.out hg (by omega) B7.out.size)
            clear hg P7 Q7 B7 R7
            clear c f O7
            have HR : Hid (readSnap s = none) := (show _ = _ by rw [HRS.out]; exact HN2.out _ (rsc1 h4))
            go_wp2
            refine leaves_cons (f := 67) (args := #[.pointer (some ⟨w.heap.size, 0, none⟩), .pointer (some ⟨w.heap.size + 1, 0, none⟩)]) (by simp) (by simp [go_sem]) ?_
            refine (catch_panicking w.heap.size (w.heap.size + 1) _ _ _ P8.out rfl Q8.out (by omega)).mono ?_
            rintro e u' w'' ⟨rfl, rfl, hw⟩
            have D := door_closed hw P8.out rfl Q8.out (by omega) B8.out (by omega) (by omega)
            clear hw
            have c0 := D.1.cell (j := 0) rfl
            have c1 := D.1.cell (j := 1) rfl
            have c2 := D.1.cell (j := 2) rfl
            have c3 := D.1.cell (j := 3) rfl
            have cq := D.2.1.cell (j := 0) rfl
            simp [Leaves, settle, results, Tryd.results51, go_sem, c0, c1, c2, c3, cq]
            rw [HR.out]
            exact ⟨rfl, D.2.2⟩
          | some p4 =>
            obtain ⟨x', y'⟩ := p4
            go_wp2_with fail
            refine (short_yes (w.heap.size + 1 + 1) t y x' y' hts2 h4 _ R7.out).mono ?_
            rintro e w8 ⟨rfl, hr, hg⟩
            have O8 := hid (own_grown O7.out hg R7.out (by decide))
            have P8 := hid (blk_grown P7.out hg (by omega))
            have Q8 := hid (blk_grown Q7.out hg (by omega))
            have B8 := hid (below_grown B7.out hg (by omega) B7.out.size)
            have R8 := hid hr
            clear hg hr P7 Q7 B7 R7 O7 c f
            have HN3 := hid (fun z (h : (if y' = t.size then some (SnapD.mk ix tm zs (t.extract x' y')) else none) = z) => HN2.out z ((rsc2 h4).trans h))
            obtain ⟨bd, hbd⟩ : ∃ bd, t.extract x' y' = bd := ⟨_, rfl⟩
            rw [hbd] at HN3 ⊢
            clear hbd h4 HN2
            have c := P8.out.cell (j := 3) rfl
            have f := P8.out.thaw 3
            have P9 := hid (P8.out.set 3 (.string bd))
            have Q9 := hid (Q8.out.far (b := w.heap.size) (j := 3) (by omega) (.string bd))
            have B9 := hid (B8.out.setCell (p := ⟨w.heap.size, 3, none⟩) (Nat.le_refl _) (.string bd))
            have R9 : Hid (RdIs (w8.setCell ⟨w.heap.size, 3, none⟩ (.string bd)) (w.heap.size + 1 + 1) t y') := R8.out.far (b := w.heap.size) (j := 3) (by omega) (.string bd)
            have O9 := hid (own_put O8.out P8.out (by decide) (j := 3) (u := .string bd))
            clear P8 Q8 B8 R8 O8
            by_cases hy' : y' = t.size
            rotate_left
            · go_wp2_with fail
              refine (end_no (w.heap.size + 1 + 1) t y' hy' _ R9.out).mono ?_
              rintro e w10 ⟨rfl, hg0⟩
              have hg := grown_none hg0 (w.heap.size + 1 + 1)
              clear hg0
              have P10 := hid (blk_grown P9.out hg (by omega))
              have Q10 := hid (blk_grown Q9.out hg (by omega))
              have B10 := hid (below_grown B9.out hg (by omega) B9.out.size)
              clear hg P9 Q9 B9 R9 c f O9
              have HR : Hid (readSnap s = none) := (show _ = _ by rw [HRS.out]; exact HN3.out _ (if_neg hy'))
              go_wp2
              refine leaves_cons (f := 67) (args := #[.pointer (some ⟨w.heap.size, 0, none⟩), .pointer (some ⟨w.heap.size + 1, 0, none⟩)]) (by simp) (by simp [go_sem]) ?_
              refine (catch_panicking w.heap.size (w.heap.size + 1) _ _ _ P10.out rfl Q10.out (by omega)).mono ?_
              rintro e u' w'' ⟨rfl, rfl, hw⟩
              have D := door_closed hw P10.out rfl Q10.out (by omega) B10.out (by omega) (by omega)
              clear hw
              have c0 := D.1.cell (j := 0) rfl
              have c1 := D.1.cell (j := 1) rfl
              have c2 := D.1.cell (j := 2) rfl
              have c3 := D.1.cell (j := 3) rfl
              have cq := D.2.1.cell (j := 0) rfl
              simp [Leaves, settle, results, Tryd.results51, go_sem, c0, c1, c2, c3, cq]
              rw [HR.out]
              exact ⟨rfl, D.2.2⟩
            have HR : Hid (readSnap s = some (SnapD.mk ix tm zs bd)) := (show _ = _ by rw [HRS.out]; exact HN3.out _ (if_pos hy'))
            go_wp2_with fail
            refine (end_yes (w.heap.size + 1 + 1) t y' hy' _ R9.out).mono ?_
            rintro e w10 ⟨rfl, hg0⟩
            have hg := grown_none hg0 (w.heap.size + 1 + 1)
            clear hg0
            have O10 := hid (own_grown O9.out hg R9.out (by decide))
            have P10 := hid (blk_grown P9.out hg (by omega))
            have Q10 := hid (blk_grown Q9.out hg (by omega))
            have B10 := hid (below_grown B9.out hg (by omega) B9.out.size)
            clear hg P9 Q9 B9 R9 c f O9 HN3
            have c0 := P10.out.cell (j := 0) rfl
            have c1 := P10.out.cell (j := 1) rfl
            have c2 := P10.out.cell (j := 2) rfl
            have c3 := P10.out.cell (j := 3) rfl
            have f0 := P10.out.thaw 0
            have f1 := P10.out.thaw 1
            have f2 := P10.out.thaw 2
            have f3 := P10.out.thaw 3
            have cq := Q10.out.cell (j := 0) rfl
            have fq := Q10.out.thaw 0
            have hsame : Hid (BlockIs ((((w10.setCell ⟨w.heap.size, 0, none⟩ (.int .i64 (ix : Int))).setCell ⟨w.heap.size, 1, none⟩ (.int .i64 (tm : Int))).setCell ⟨w.heap.size, 2, none⟩ (.slice va nz vc)).setCell ⟨w.heap.size, 3, none⟩ (.string bd)) w.heap.size 28 [.int .i64 (ix : Int), .int .i64 (tm : Int), .slice va nz vc, .string bd]) := (((P10.out.set 0 _).set 1 _).set 2 _).set 3 _
            have PL := hid (hsame.out.far (b := w.heap.size + 1) (j := 0) (by omega) (.bool true))
            have QL := hid ((((((Q10.out.far (b := w.heap.size) (j := 0) (by omega) (.int .i64 (ix : Int))).far (b := w.heap.size) (j := 1) (by omega) (.int .i64 (tm : Int))).far (b := w.heap.size) (j := 2) (by omega) (.slice va nz vc)).far (b := w.heap.size) (j := 3) (by omega) (.string bd)).set 0 (.bool true)))
            have BL := hid (((((B10.out.setCell (p := ⟨w.heap.size, 0, none⟩) (Nat.le_refl _) (.int .i64 (ix : Int))).setCell (p := ⟨w.heap.size, 1, none⟩) (Nat.le_refl _) (.int .i64 (tm : Int))).setCell (p := ⟨w.heap.size, 2, none⟩) (Nat.le_refl _) (.slice va nz vc)).setCell (p := ⟨w.heap.size, 3, none⟩) (Nat.le_refl _) (.string bd)).setCell (p := ⟨w.heap.size + 1, 0, none⟩) (Nat.le_succ _) (.bool true))
            have OL := hid (own_put (own_put (own_put (own_put (own_put O10.out P10.out (by decide) (j := 0) (u := .int .i64 (ix : Int))) (P10.out.set 0 (.int .i64 (ix : Int))) (by decide) (j := 1) (u := .int .i64 (tm : Int))) ((P10.out.set 0 (.int .i64 (ix : Int))).set 1 (.int .i64 (tm : Int))) (by decide) (j := 2) (u := .slice va nz vc)) (((P10.out.set 0 (.int .i64 (ix : Int))).set 1 (.int .i64 (tm : Int))).set 2 (.slice va nz vc)) (by decide) (j := 3) (u := .string bd)) (((((Q10.out.far (b := w.heap.size) (j := 0) (by omega) (.int .i64 (ix : Int))).far (b := w.heap.size) (j := 1) (by omega) (.int .i64 (tm : Int))).far (b := w.heap.size) (j := 2) (by omega) (.slice va nz vc)).far (b := w.heap.size) (j := 3) (by omega) (.string bd))) (by decide) (j := 0) (u := .bool true))
            go_wp2
            refine leaves_cons (f := 67) (args := #[.pointer (some ⟨w.heap.size, 0, none⟩), .pointer (some ⟨w.heap.size + 1, 0, none⟩)]) (by simp) (by simp [go_sem]) ?_
            refine (catch_idle w.heap.size (w.heap.size + 1) _).mono ?_
            rintro e u' w'' ⟨rfl, rfl, hw⟩
            have D := door_open hw PL.out QL.out OL.out BL.out (Nat.le_refl _)
            clear hw PL QL OL BL hsame c0 c1 c2 c3 f0 f1 f2 f3 cq fq
            have c0 := D.1.cell (j := 0) rfl
            have c1 := D.1.cell (j := 1) rfl
            have c2 := D.1.cell (j := 2) rfl
            have c3 := D.1.cell (j := 3) rfl
            have cq := D.2.1.cell (j := 0) rfl
            simp [Leaves, settle, results, Tryd.results51, go_sem, c0, c1, c2, c3, cq]
            rw [HR.out]
            refine ⟨_, rfl, ?_, D.2.2.2⟩
            show World.ownsRow _ _ _ _ _ zs.length _
            rw [HNZ.out]
            exact D.2.2.1
end Go.Proofs.YtcneaidfhmbdmabDoor

namespace Go.Proofs.YtcneaidfhmbdmabDoor
open Go.RowKit

set_option maxRecDepth 1000000 in
set_option maxHeartbeats 4000000 in
theorem snapIn_any (f : FileD) (hs : f.text.size ≤ 1048576) (w : World) (ht : Steps w) :
    Calls Tryd.prog 25 #[.agg #[.string f.name, .string f.text, .int .i64 f.kept]] w fun e w' => SnapSome (fileSnap f) w e w' := by
  have HT := hid ht
  have h2 := two_blocks w (.cells #[.string f.name, .string f.text, .int .i64 f.kept] 48) (.cells #[.int .i64 0, .int .i64 0, .slice none 0 0, .string ⟨#[]⟩] 28)
  have F0 : Hid (BlockIs _ w.heap.size 48 [.string f.name, .string f.text, .int .i64 f.kept]) := h2.2.2.1
  have P0 : Hid (BlockIs _ (w.heap.size + 1) 28 [.int .i64 0, .int .i64 0, .slice none 0 0, .string ⟨#[]⟩]) := h2.2.2.2
  have B0 := hid h2.1
  clear h2 ht
  obtain ⟨W, hW⟩ : ∃ W, (w.alloc (.cells #[.string f.name, .string f.text, .int .i64 f.kept] 48)).alloc (.cells #[.int .i64 0, .int .i64 0, .slice none 0 0, .string ⟨#[]⟩] 28) = W := ⟨_, rfl⟩
  rw [hW] at F0 P0 B0
  have c0 := F0.out.cell (j := 0) rfl
  go_enter Tryd.func25, Tryd.ntmps25
  go_wp2_with fail
  refine (indexIn_any f.name _).mono ?_
  rintro e w1 ⟨⟨x, rfl, hx⟩, b1⟩
  have F1 := hid (F0.out.on b1 F0.out.lt)
  have P1 := hid (P0.out.on b1 P0.out.lt)
  have B1 := hid (below_via B0.out b1)
  clear b1 F0 P0 B0 hW c0
  have p0 := P1.out.cell (j := 0) rfl
  have p1 := P1.out.cell (j := 1) rfl
  have p2 := P1.out.cell (j := 2) rfl
  have p3 := P1.out.cell (j := 3) rfl
  have e0 := P1.out.thaw 0
  have e1 := P1.out.thaw 1
  have e2 := P1.out.thaw 2
  have e3 := P1.out.thaw 3
  cases hn : nameNum 115 1000000 f.name with
  | none =>
    have HF := hid (fileSnap_name hn)
    have BL := hid ((((B1.out.setCell (p := ⟨w.heap.size + 1, 0, none⟩) (Nat.le_succ _) (.int .i64 0)).setCell (p := ⟨w.heap.size + 1, 1, none⟩) (Nat.le_succ _) (.int .i64 0)).setCell (p := ⟨w.heap.size + 1, 2, none⟩) (Nat.le_succ _) (.slice none 0 0)).setCell (p := ⟨w.heap.size + 1, 3, none⟩) (Nat.le_succ _) (.string ⟨#[]⟩))
    rw [show (none : Option Nat).isSome = false from rfl]
    clear hn hx
    go_wp2
    refine bodyPost_ret (v := .tuple #[.agg #[.int .i64 0, .int .i64 0, .slice none 0 0, .string ⟨#[]⟩], .bool false]) (by simp [results, Tryd.results25, go_sem, p0, p1, p2, p3]) rfl ?_
    rw [HF.out]
    exact ⟨0, 0, none, [], 0, ⟨#[]⟩, rfl, own_nil _ _, BL.out, fun d q => by cases q⟩
  | some n =>
    have hxn := hx n hn
    subst hxn
    rw [show (some n : Option Nat).isSome = true from rfl]
    have g1 := F1.out.cell (j := 1) rfl
    clear hx p0 p1 p2 p3 e0 e1 e2 e3
    go_wp2_with fail
    refine ((implReadSnap_any f.text hs _ (steps_on HT.out B1.out)).mono (fun e w' h => snapDid_parts h)).mono ?_
    rintro e w2 ⟨a2, c2, rfl, o2, b2⟩
    have P2 := hid (P1.out.on b2 P1.out.lt)
    have O2 := hid (row_down o2 B1.out.size)
    have B2 := hid (below_via B1.out b2)
    have hPl := P2.out.lt
    clear o2 b2 P1 B1 F1 g1
    have HF := hid (fileSnap_pick hn)
    obtain ⟨o, ho⟩ : ∃ o, readSnap f.text = o := ⟨_, rfl⟩
    rw [ho] at HF
    rw [ho] at O2 ⊢
    clear ho hn
    have hx3 : BlockIs (w2.alloc (.cells #[.int .i64 (snapIx o), .int .i64 (snapTm o), .slice a2 (snapZs o).length c2, .string (snapBd o)] 28)) w2.heap.size 28 [.int .i64 (snapIx o), .int .i64 (snapTm o), .slice a2 (snapZs o).length c2, .string (snapBd o)] := heap_alloc_new w2 _
    have bx := below_more (Below.refl w2.heap.size w2) (.cells #[.int .i64 (snapIx o), .int .i64 (snapTm o), .slice a2 (snapZs o).length c2, .string (snapBd o)] 28)
    have X3 := hid hx3
    have P3 := hid (P2.out.on bx P2.out.lt)
    have O3 := hid (kept_conf O2.out bx)
    have B3 := hid (below_via B2.out bx)
    clear hx3 bx P2 O2 B2
    obtain ⟨ix, hix⟩ : ∃ x, snapIx o = x := ⟨_, rfl⟩
    obtain ⟨tm, htm⟩ : ∃ x, snapTm o = x := ⟨_, rfl⟩
    obtain ⟨zs, hzs⟩ : ∃ x, snapZs o = x := ⟨_, rfl⟩
    obtain ⟨bd, hbd⟩ : ∃ x, snapBd o = x := ⟨_, rfl⟩
    rw [hix, htm, hzs, hbd] at X3 P3 O3 B3 ⊢
    have HP : Hid (∀ d, o = some d → ix = d.ix ∧ tm = d.tm ∧ zs = d.conf ∧ bd = d.body) := fun d q => by subst q; exact ⟨hix.symm, htm.symm, hzs.symm, hbd.symm⟩
    clear hix htm hzs hbd
    obtain ⟨g, hg⟩ : ∃ g, w2.heap.size = g := ⟨_, rfl⟩
    rw [hg] at X3 hPl
    have hgl : w.heap.size + 1 ≠ g := by omega
    obtain ⟨W3, hW3⟩ : ∃ W, w2.alloc (.cells #[.int .i64 ix, .int .i64 tm, .slice a2 zs.length c2, .string bd] 28) = W := ⟨_, rfl⟩
    rw [hW3] at X3 P3 O3 B3
    have x0 := X3.out.cell (j := 0) rfl
    have x1 := X3.out.cell (j := 1) rfl
    have x2 := X3.out.cell (j := 2) rfl
    have x3 := X3.out.cell (j := 3) rfl
    have p0 := P3.out.cell (j := 0) rfl
    have p1 := P3.out.cell (j := 1) rfl
    have p2 := P3.out.cell (j := 2) rfl
    have p3 := P3.out.cell (j := 3) rfl
    have e0 := P3.out.thaw 0
    have e1 := P3.out.thaw 1
    have e2 := P3.out.thaw 2
    have e3 := P3.out.thaw 3
    have DN := hid (below_drewN B3.out 1)
    have OD : Hid (W3.drew.ownsRow w.heap.size 3 1 (.slice a2 zs.length c2) zs.length (intCells zs)) := O3.out
    have PD : Hid (BlockIs W3.drew (w.heap.size + 1) 28 [.int .i64 0, .int .i64 0, .slice none 0 0, .string ⟨#[]⟩]) := P3.out
    have BL := hid ((((DN.out.setCell (p := ⟨w.heap.size + 1, 0, none⟩) (Nat.le_succ _) (.int .i64 ix)).setCell (p := ⟨w.heap.size + 1, 1, none⟩) (Nat.le_succ _) (.int .i64 tm)).setCell (p := ⟨w.heap.size + 1, 2, none⟩) (Nat.le_succ _) (.slice a2 zs.length c2)).setCell (p := ⟨w.heap.size + 1, 3, none⟩) (Nat.le_succ _) (.string bd))
    have OL := hid (own_put (own_put (own_put (own_put OD.out PD.out (by decide) (j := 0) (u := .int .i64 ix)) (PD.out.set 0 (.int .i64 ix)) (by decide) (j := 1) (u := .int .i64 tm)) ((PD.out.set 0 (.int .i64 ix)).set 1 (.int .i64 tm)) (by decide) (j := 2) (u := .slice a2 zs.length c2)) (((PD.out.set 0 (.int .i64 ix)).set 1 (.int .i64 tm)).set 2 (.slice a2 zs.length c2)) (by decide) (j := 3) (u := .string bd))
    clear X3 P3 O3 B3 DN OD PD HT
    cases o with
    | none =>
      have HF2 : Hid (fileSnap f = none) := HF.out
      rw [show (none : Option SnapD).isSome = false from rfl]
      clear HF HP
      go_wp2
      go_region
      all_goals
        go_wp2
        refine bodyPost_ret (v := .tuple #[.agg #[.int .i64 ix, .int .i64 tm, .slice a2 zs.length c2, .string bd], .bool false]) (by simp [results, Tryd.results25, go_sem, p0, p1, p2, p3]) rfl ?_
        rw [HF2.out]
        exact ⟨ix, tm, a2, zs, c2, bd, rfl, OL.out, BL.out, fun d q => by cases q⟩
    | some s =>
      rw [show (some s : Option SnapD).isSome = true from rfl]
      have hixs := (HP.out s rfl).1
      by_cases heq : ix = (n : Int)
      · have HF2 : Hid (fileSnap f = some s) := HF.out.trans (pick_yes (by omega))
        have heqd : (ix == (n : Int)) = true := by simpa using heq
        clear HF hixs heq
        go_wp2
        go_region
        all_goals
          go_wp2
          refine bodyPost_ret (v := .tuple #[.agg #[.int .i64 ix, .int .i64 tm, .slice a2 zs.length c2, .string bd], .bool true]) (by simp [results, Tryd.results25, go_sem, p0, p1, p2, p3]) rfl ?_
          rw [HF2.out]
          exact ⟨ix, tm, a2, zs, c2, bd, rfl, OL.out, BL.out, HP.out⟩
      · have HF2 : Hid (fileSnap f = none) := HF.out.trans (pick_no (by omega))
        have heqd : (ix == (n : Int)) = false := by simpa using heq
        clear HF hixs
        go_wp2
        go_region
        all_goals
          go_wp2
          refine bodyPost_ret (v := .tuple #[.agg #[.int .i64 ix, .int .i64 tm, .slice a2 zs.length c2, .string bd], .bool false]) (by simp [results, Tryd.results25, go_sem, p0, p1, p2, p3]) rfl ?_
          rw [HF2.out]
          exact ⟨ix, tm, a2, zs, c2, bd, rfl, OL.out, BL.out, fun d q => by cases q⟩
end Go.Proofs.YtcneaidfhmbdmabDoor
