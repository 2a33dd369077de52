/-
  The walk of impl.textReader's method entry.
-/
import Derived.Test.YtlplnobfkjhcdaaJoint1
import Derived.Test.YtlplnobfkjhcdaaJoint22
import Derived.Test.YtlplnobfkjhcdaaJoint31
namespace Go.Proofs.Ytlplnobfkjhcdaa
open Go.RowKit Go.Sort

def sentDid (o : Option (EntD × Nat)) (s : ByteArray) (b : Nat) (w : World) (e : Ending) (w' : World) : Prop := match o with
  | none => e = .panicked [misreadP] ∧ w.grownBy w' (some b)
  | some (d, k) => e = .returned (.agg #[.int .i64 d.term, .int .i64 d.kind, .string d.data]) ∧ RdIs w' b s k ∧ w.grownBy w' (some b)
set_option maxRecDepth 1000000 in
set_option maxHeartbeats 1000000 in
theorem entry_at (b : Nat) (s : ByteArray) (k : Nat) (hs : s.size ≤ 1048576) (hk : k ≤ s.size) (w : World) (hr : RdIs w b s k) :
    Calls Try.prog 36 #[.pointer (some ⟨b, 0, none⟩)] w fun e w' => sentDid (sentAt s k) s b w e w' := by
  have hX := below_more (Below.refl w.heap.size w) (.cells #[.int .i64 0, .int .i64 0, .string ⟨#[]⟩] 37)
  have hb := BlockIs.lt hr
  have P0 : Hid (BlockIs (w.alloc (.cells #[.int .i64 0, .int .i64 0, .string ⟨#[]⟩] 37)) w.heap.size 37 [.int .i64 0, .int .i64 0, .string ⟨#[]⟩]) := heap_alloc_new w _
  have R0 : Hid (RdIs _ b s k) := BlockIs.on hr hX hb
  have G0 := hid (grown_of_below hX (some b))
  clear hX hr
  obtain ⟨w0, hw0⟩ : ∃ W, w.alloc (.cells #[.int .i64 0, .int .i64 0, .string ⟨#[]⟩] 37) = W := ⟨_, rfl⟩
  rw [hw0] at P0 R0 G0
  go_enter Try.func36, Try.ntmps36
  go_wp2_with fail
  refine (short_at b s k hs _ R0.out).mono ?_
  intro e w1 hd
  clear hw0
  cases h0 : txtAt s k with
  | none =>
    rw [h0] at hd
    obtain ⟨rfl, hg⟩ := hd
    have HR : Hid (sentAt s k = none) := (show _ = _ by simp [sentAt, h0])
    clear h0
    go_wp2
    rw [HR.out]
    exact And.intro rfl (And.intro rfl (G0.out.trans hg))
  | some p =>
    obtain ⟨t, k1⟩ := p
    rw [h0] at hd
    obtain ⟨rfl, hr, hg⟩ := hd
    have ht := (txtAt_fits hk h0).1
    have P1 := hid (blk_grown P0.out hg (by omega))
    have R1 := hid hr
    have G1 := hid (G0.out.trans hg)
    clear hr hg R0 P0 G0
    go_wp2_with fail
    refine (implReadEntry_any t (by omega) _).mono ?_
    rintro e w2 ⟨rfl, b2⟩
    have P2 := hid (P1.out.on b2 P1.out.lt)
    have R2 := hid (BlockIs.on R1.out b2 (BlockIs.lt R1.out))
    have G2 := hid (G1.out.trans (grown_of_below b2 (some b)))
    clear b2 P1 R1 G1
    cases h1 : readEntry t with
    | none =>
      have HR : Hid (sentAt s k = none) := (show _ = _ by simp [sentAt, h0, h1])
      clear h0 h1
      unfold reAns
      go_wp2_with fail
      refine (need_no (.pointer (some ⟨b, 0, none⟩)) _).mono ?_
      rintro e w3 ⟨rfl, hw3⟩
      rw [hw3]
      clear hw3
      go_wp2
      rw [HR.out]
      exact And.intro rfl (And.intro rfl (grown_new G2.out _))
    | some q =>
      obtain ⟨i, d⟩ := q
      unfold reAns
      by_cases hi : i = 1
      · have HR : Hid (sentAt s k = some (d, k1)) := (show _ = _ by simp [sentAt, h0, h1, hi])
        have hi1 : ((i : Int) == 1) = true := by rw [hi]; rfl
        clear h0 h1 hi
        obtain ⟨d0, d1, d2⟩ := d
        have hX := below_more (Below.refl w2.heap.size w2) (.cells #[.int .i64 d0, .int .i64 d1, .string d2] 37)
        have hx : BlockIs (w2.alloc (.cells #[.int .i64 d0, .int .i64 d1, .string d2] 37)) w2.heap.size 37 [.int .i64 d0, .int .i64 d1, .string d2] := heap_alloc_new w2 _
        have P3 := P2.out.on hX P2.out.lt
        have R3 := hid (BlockIs.on R2.out hX (BlockIs.lt R2.out))
        have G3 := hid (G2.out.trans (grown_of_below hX (some b)))
        obtain ⟨w3, hw3⟩ : ∃ W, w2.alloc (.cells #[.int .i64 d0, .int .i64 d1, .string d2] 37) = W := ⟨_, rfl⟩
        rw [hw3] at hx P3 R3 G3
        have e0 := hx.cell (j := 0) rfl
        have e1 := hx.cell (j := 1) rfl
        have e2 := hx.cell (j := 2) rfl
        have c0 := P3.cell (j := 0) rfl
        have c1 := P3.cell (j := 1) rfl
        have c2 := P3.cell (j := 2) rfl
        have f0 := P3.thaw 0
        have f1 := P3.thaw 1
        have f2 := P3.thaw 2
        have HP3 := hid P3
        clear hX hx P3
        go_wp2_with fail
        refine (need_yes (.pointer (some ⟨b, 0, none⟩)) _).mono ?_
        rintro e w4 ⟨rfl, hw4⟩
        rw [hw4]
        clear hw4
        go_wp2
        have PZ := ((HP3.out.set 0 (.int .i64 d0)).set 1 (.int .i64 d1)).set 2 (.string d2)
        have z0 := PZ.cell (j := 0) rfl
        have z1 := PZ.cell (j := 1) rfl
        have z2 := PZ.cell (j := 2) rfl
        refine bodyPost_ret (v := .agg #[.int .i64 d0, .int .i64 d1, .string d2]) (by simp [results, Try.results36, go_sem, z0, z1, z2]) rfl ?_
        rw [HR.out]
        exact And.intro rfl (And.intro (BlockIs.far (BlockIs.far (BlockIs.far R3.out (b := w.heap.size) (j := 0) (by omega) _) (b := w.heap.size) (j := 1) (by omega) _) (b := w.heap.size) (j := 2) (by omega) _) (grown_put (grown_put (grown_put G3.out (Nat.le_refl w.heap.size) _) (Nat.le_refl w.heap.size) _) (Nat.le_refl w.heap.size) _))
      · have HR : Hid (sentAt s k = none) := (show _ = _ by simp [sentAt, h0, h1, hi])
        have hi1 : ((i : Int) == 1) = false := by rw [beq_eq_false_iff_ne]; omega
        have hi2 : ¬ (i : Int) = 1 := by omega
        clear h0 h1 hi
        go_wp2_with fail
        refine (need_no (.pointer (some ⟨b, 0, none⟩)) _).mono ?_
        rintro e w3 ⟨rfl, hw3⟩
        rw [hw3]
        clear hw3
        go_wp2
        rw [HR.out]
        exact And.intro rfl (And.intro rfl (grown_new G2.out _))
end Go.Proofs.Ytlplnobfkjhcdaa
