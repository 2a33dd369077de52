/-
  The walk of impl.textReader's method entry.
  The walk of impl.textReader's method confOrNone.
-/
import Derived.Test.YtohmfmajgehadaaGreatDoorJoint1
import Derived.Test.YtohmfmajgehadaaGreatDoorJoint40
import Derived.Test.YtohmfmajgehadaaGreatDoorJoint43
import Derived.Test.YtohmfmajgehadaaGreatDoorJoint30
namespace Go.Proofs.YtohmfmajgehadaaGreatDoor
open Go.RowKit Go.Sort

def sentDid (o : Option (EntD × Nat)) (s : ByteArray) (b : Nat) (w : World) (e : Ending) (w' : World) : Prop := match o with
  | none => e = .panicked [misreadP] ∧ w.grownBy w' (some b)
  | some (d, k) => e = .returned (.agg #[.int .i64 d.term, .int .i64 d.kind, .string d.data]) ∧ RdIs w' b s k ∧ w.grownBy w' (some b)
set_option maxRecDepth 1000000 in
set_option maxHeartbeats 1000000 in
theorem entry_at (b : Nat) (s : ByteArray) (k : Nat) (hs : s.size ≤ 1048576) (hk : k ≤ s.size) (w : World) (hr : RdIs w b s k) :
    Calls Tryz.prog 91 #[.pointer (some ⟨b, 0, none⟩)] w fun e w' => sentDid (sentAt s k) s b w e w' := by
  have hX := below_more (Below.refl w.heap.size w) (.cells #[.int .i64 0, .int .i64 0, .string ⟨#[]⟩] 57)
  have hb := BlockIs.lt hr
  have P0 : Hid (BlockIs (w.alloc (.cells #[.int .i64 0, .int .i64 0, .string ⟨#[]⟩] 57)) w.heap.size 57 [.int .i64 0, .int .i64 0, .string ⟨#[]⟩]) := heap_alloc_new w _
  have R0 : Hid (RdIs _ b s k) := BlockIs.on hr hX hb
  have G0 := hid (grown_of_below hX (some b))
  clear hX hr
  obtain ⟨w0, hw0⟩ : ∃ W, w.alloc (.cells #[.int .i64 0, .int .i64 0, .string ⟨#[]⟩] 57) = W := ⟨_, rfl⟩
  rw [hw0] at P0 R0 G0
  go_enter Tryz.func91, Tryz.ntmps91
  go_wp2_with fail
  refine (short_at b s k hs _ R0.out).mono ?_
  intro e w1 hd
  clear hw0
  cases h0 : txtAt s k with
  | none =>
    rw [h0] at hd
    obtain ⟨rfl, hg⟩ := hd
    have HR : Hid (sentAt s k = none) := (show _ = _ by simp [sentAt, h0])
    clear h0
    go_wp2
    rw [HR.out]
    exact And.intro rfl (And.intro rfl (G0.out.trans hg))
  | some p =>
    obtain ⟨t, k1⟩ := p
    rw [h0] at hd
    obtain ⟨rfl, hr, hg⟩ := hd
    have ht := (txtAt_fits hk h0).1
    have P1 := hid (blk_grown P0.out hg (by omega))
    have R1 := hid hr
    have G1 := hid (G0.out.trans hg)
    clear hr hg R0 P0 G0
    go_wp2_with fail
    refine (implReadEntry_any t (by omega) _).mono ?_
    rintro e w2 ⟨rfl, b2⟩
    have P2 := hid (P1.out.on b2 P1.out.lt)
    have R2 := hid (BlockIs.on R1.out b2 (BlockIs.lt R1.out))
    have G2 := hid (G1.out.trans (grown_of_below b2 (some b)))
    clear b2 P1 R1 G1
    cases h1 : readEntry t with
    | none =>
      have HR : Hid (sentAt s k = none) := (show _ = _ by simp [sentAt, h0, h1])
      clear h0 h1
      unfold reAns
      go_wp2_with fail
      refine (need_no (.pointer (some ⟨b, 0, none⟩)) _).mono ?_
      rintro e w3 ⟨rfl, hw3⟩
      rw [hw3]
      clear hw3
      go_wp2
      rw [HR.out]
      exact And.intro rfl (And.intro rfl (grown_new G2.out _))
    | some q =>
      obtain ⟨i, d⟩ := q
      unfold reAns
      by_cases hi : i = 1
      · have HR : Hid (sentAt s k = some (d, k1)) := (show _ = _ by simp [sentAt, h0, h1, hi])
        have hi1 : ((i : Int) == 1) = true := by rw [hi]; rfl
        clear h0 h1 hi
        obtain ⟨d0, d1, d2⟩ := d
        have hX := below_more (Below.refl w2.heap.size w2) (.cells #[.int .i64 d0, .int .i64 d1, .string d2] 57)
        have hx : BlockIs (w2.alloc (.cells #[.int .i64 d0, .int .i64 d1, .string d2] 57)) w2.heap.size 57 [.int .i64 d0, .int .i64 d1, .string d2] := heap_alloc_new w2 _
        have P3 := P2.out.on hX P2.out.lt
        have R3 := hid (BlockIs.on R2.out hX (BlockIs.lt R2.out))
        have G3 := hid (G2.out.trans (grown_of_below hX (some b)))
        obtain ⟨w3, hw3⟩ : ∃ W, w2.alloc (.cells #[.int .i64 d0, .int .i64 d1, .string d2] 57) = W := ⟨_, rfl⟩
        rw [hw3] at hx P3 R3 G3
        have e0 := hx.cell (j := 0) rfl
        have e1 := hx.cell (j := 1) rfl
        have e2 := hx.cell (j := 2) rfl
        have c0 := P3.cell (j := 0) rfl
        have c1 := P3.cell (j := 1) rfl
        have c2 := P3.cell (j := 2) rfl
        have f0 := P3.thaw 0
        have f1 := P3.thaw 1
        have f2 := P3.thaw 2
        have HP3 := hid P3
        clear hX hx P3
        go_wp2_with fail
        refine (need_yes (.pointer (some ⟨b, 0, none⟩)) _).mono ?_
        rintro e w4 ⟨rfl, hw4⟩
        rw [hw4]
        clear hw4
        go_wp2
        have PZ := ((HP3.out.set 0 (.int .i64 d0)).set 1 (.int .i64 d1)).set 2 (.string d2)
        have z0 := PZ.cell (j := 0) rfl
        have z1 := PZ.cell (j := 1) rfl
        have z2 := PZ.cell (j := 2) rfl
        refine bodyPost_ret (v := .agg #[.int .i64 d0, .int .i64 d1, .string d2]) (by simp [results, Tryz.results91, go_sem, z0, z1, z2]) rfl ?_
        rw [HR.out]
        exact And.intro rfl (And.intro (BlockIs.far (BlockIs.far (BlockIs.far R3.out (b := w.heap.size) (j := 0) (by omega) _) (b := w.heap.size) (j := 1) (by omega) _) (b := w.heap.size) (j := 2) (by omega) _) (grown_put (grown_put (grown_put G3.out (Nat.le_refl w.heap.size) _) (Nat.le_refl w.heap.size) _) (Nat.le_refl w.heap.size) _))
      · have HR : Hid (sentAt s k = none) := (show _ = _ by simp [sentAt, h0, h1, hi])
        have hi1 : ((i : Int) == 1) = false := by rw [beq_eq_false_iff_ne]; omega
        have hi2 : ¬ (i : Int) = 1 := by omega
        clear h0 h1 hi
        go_wp2_with fail
        refine (need_no (.pointer (some ⟨b, 0, none⟩)) _).mono ?_
        rintro e w3 ⟨rfl, hw3⟩
        rw [hw3]
        clear hw3
        go_wp2
        rw [HR.out]
        exact And.intro rfl (And.intro rfl (grown_new G2.out _))
end Go.Proofs.YtohmfmajgehadaaGreatDoor

namespace Go.Proofs.YtohmfmajgehadaaGreatDoor
open Go.RowKit Go.Sort

def confDid17 (o : Option (List Int × Nat)) (s : ByteArray) (b : Nat) (w : World) (e : Ending) (w' : World) : Prop := match o with
  | none => e = .panicked [misreadP] ∧ w.grownBy w' (some b)
  | some (zs, k) => ∃ v, e = .returned v ∧ RdIs w' b s k ∧ w.grownBy w' (some b) ∧ w'.ownsRow w.heap.size 3 1 v zs.length (intCells zs)
set_option maxRecDepth 1000000 in
set_option maxHeartbeats 1000000 in
theorem confOrNone_at (b : Nat) (s : ByteArray) (k : Nat) (hs : s.size ≤ 1048576) (_hk : k ≤ s.size) (w : World) (hr : RdIs w b s k) :
    Calls Tryz.prog 92 #[.pointer (some ⟨b, 0, none⟩)] w fun e w' => confDid17 (confAt17 s k) s b w e w' := by
  have R0 := hid hr
  clear hr
  go_enter Tryz.func92, Tryz.ntmps92
  go_wp2_with fail
  refine (short_at b s k hs _ R0.out).mono ?_
  intro e w1 hd
  cases h0 : txtAt s k with
  | none =>
    rw [h0] at hd
    obtain ⟨rfl, hg⟩ := hd
    have HR : Hid (confAt17 s k = none) := (show _ = _ by simp [confAt17, h0])
    clear h0
    go_wp2
    rw [HR.out]
    exact And.intro rfl (And.intro rfl hg)
  | some p =>
    obtain ⟨t, k1⟩ := p
    rw [h0] at hd
    obtain ⟨rfl, hr, hg⟩ := hd
    have R1 := hid hr
    have G1 := hid hg
    have hv := empty_txt17 t
    clear hr hg R0
    by_cases hz : t.size = 0
    · have HR : Hid (confAt17 s k = some ([], k1)) := (show _ = _ by unfold confAt17; rw [h0]; exact if_pos hz)
      rw [decide_eq_true hz] at hv
      clear h0 hz
      go_wp2
      go_ret
      rw [HR.out]
      exact ⟨_, rfl, R1.out, G1.out, rfl, Or.inl ⟨rfl, rfl⟩⟩
    · rw [decide_eq_false hz] at hv
      have hsz := G1.out.size
      go_wp2_with fail
      refine (implReadConf_any t _).mono ?_
      rintro e w2 ⟨v, rfl, ho, b2⟩
      have R2 := hid (BlockIs.on R1.out b2 (BlockIs.lt R1.out))
      have G2 := hid (G1.out.trans (grown_of_below b2 (some b)))
      have HO := hid (row_down ho hsz)
      cases hc : (readConf t).2 with
      | false =>
        have HR : Hid (confAt17 s k = none) := (show _ = _ by unfold confAt17; rw [h0]; exact (if_neg hz).trans (if_neg (by rw [hc]; decide)))
        clear h0 hz hc hv b2 ho R1 G1
        go_wp2_with fail
        refine (need_no (.pointer (some ⟨b, 0, none⟩)) _).mono ?_
        rintro e w3 ⟨rfl, hw3⟩
        rw [hw3]
        clear hw3
        go_wp2
        rw [HR.out]
        exact And.intro rfl (And.intro rfl G2.out)
      | true =>
        have HR : Hid (confAt17 s k = some ((readConf t).1, k1)) := (show _ = _ by unfold confAt17; rw [h0]; exact (if_neg hz).trans (if_pos hc))
        clear h0 hz hc hv b2 ho R1 G1
        go_wp2_with fail
        refine (need_yes (.pointer (some ⟨b, 0, none⟩)) _).mono ?_
        rintro e w3 ⟨rfl, hw3⟩
        rw [hw3]
        clear hw3
        go_wp2
        go_ret
        rw [HR.out]
        exact ⟨_, rfl, R2.out, G2.out, HO.out⟩
end Go.Proofs.YtohmfmajgehadaaGreatDoor
