/-
  The walk of impl.textReader's method command.
-/
import Derived.Test.YtdgohbhffjinmaaOneByteI
import Derived.Test.YtdgohbhffjinmaaGrownBlk
import Derived.Test.YtdgohbhffjinmaaCommandOkI
namespace Go.Proofs.Ytdgohbhffjinmaa
open Go.RowKit Go.Sort

def cmdAtDid (o : Option (CommandD × Nat)) (s : ByteArray) (b : Nat) (w : World) (e : Ending) (w' : World) : Prop := match o with
  | none => e = .panicked [misreadP] ∧ w.grownBy w' (some b)
  | some (d, k) => e = .returned (.agg (commandEnc d).toArray) ∧ RdIs w' b s k ∧ w.grownBy w' (some b)
theorem cmdAt_fits {s : ByteArray} {k : Nat} {d : CommandD} (h : cmdAt s = some (d, k)) : k ≤ s.size := by
  unfold cmdAt at h
  cases h0 : byteAt s 0 with
  | none => rw [h0] at h; cases h
  | some p0 =>
  obtain ⟨x0, k1⟩ := p0
  have hk1 : k1 ≤ s.size := by have := byteAt_fits h0; omega
  rw [h0] at h
  simp only [Option.bind_some] at h
  cases h1 : numAt s 1000000 k1 with
  | none => rw [h1] at h; cases h
  | some p1 =>
  obtain ⟨x1, k2⟩ := p1
  have hk2 := (numAt_fits hk1 h1).2.2.2.1
  rw [h1] at h
  simp only [Option.bind_some] at h
  cases h2 : numAt s 1000000 k2 with
  | none => rw [h2] at h; cases h
  | some p2 =>
  obtain ⟨x2, k3⟩ := p2
  have hk3 := (numAt_fits hk2 h2).2.2.2.1
  rw [h2] at h
  simp only [Option.bind_some] at h
  cases h3 : txtAt s k3 with
  | none => rw [h3] at h; cases h
  | some p3 =>
  obtain ⟨x3, k4⟩ := p3
  have hk4 := (txtAt_fits hk3 h3).2.2.1
  rw [h3] at h
  simp only [Option.bind_some] at h
  cases h4 : txtAt s k4 with
  | none => rw [h4] at h; cases h
  | some p4 =>
  obtain ⟨x4, k5⟩ := p4
  have hk5 := (txtAt_fits hk4 h4).2.2.1
  rw [h4] at h
  simp only [Option.bind_some] at h
  cases h5 : numAt s 1000000000 k5 with
  | none => rw [h5] at h; cases h
  | some p5 =>
  obtain ⟨x5, k6⟩ := p5
  have hk6 := (numAt_fits hk5 h5).2.2.2.1
  rw [h5] at h
  simp only [Option.bind_some] at h
  split at h
  · cases h; exact hk6
  · cases h

set_option maxRecDepth 1000000 in
set_option maxHeartbeats 4000000 in
theorem command_at (b : Nat) (s : ByteArray) (hs : s.size ≤ 1048576) (w : World) (hr : RdIs w b s 0) :
    Calls Try.prog 22 #[.pointer (some ⟨b, 0, none⟩)] w fun e w' => cmdAtDid (cmdAt s) s b w e w' := by
  have hX := below_more (Below.refl w.heap.size w) (.cells #[.int .i64 0, .int .i64 0, .int .i64 0, .string ⟨#[]⟩, .string ⟨#[]⟩, .int .i64 0] 23)
  have hb := BlockIs.lt hr
  have P0 : Hid (BlockIs (w.alloc (.cells #[.int .i64 0, .int .i64 0, .int .i64 0, .string ⟨#[]⟩, .string ⟨#[]⟩, .int .i64 0] 23)) w.heap.size 23 [.int .i64 0, .int .i64 0, .int .i64 0, .string ⟨#[]⟩, .string ⟨#[]⟩, .int .i64 0]) := heap_alloc_new w _
  have R0 : Hid (RdIs _ b s 0) := BlockIs.on hr hX hb
  have G0 := hid (grown_of_below hX (some b))
  clear hX hr
  obtain ⟨w0, hw0⟩ : ∃ W, w.alloc (.cells #[.int .i64 0, .int .i64 0, .int .i64 0, .string ⟨#[]⟩, .string ⟨#[]⟩, .int .i64 0] 23) = W := ⟨_, rfl⟩
  rw [hw0] at P0 R0 G0
  go_enter Try.func22, Try.ntmps22
  go_wp2_with fail
  refine (oneByte_at b s 0 hs (Nat.zero_le _) _ R0.out).mono ?_
  intro e w1 hd
  clear hw0
  cases h0 : byteAt s 0 with
  | none =>
    rw [h0] at hd
    obtain ⟨rfl, hg⟩ := hd
    have HR : Hid (cmdAt s = none) := (show _ = _ by simp [cmdAt, h0])
    clear h0
    go_wp2
    rw [HR.out]
    exact And.intro rfl (And.intro rfl (G0.out.trans hg))
  | some p =>
  obtain ⟨x0, k1⟩ := p
  rw [h0] at hd
  obtain ⟨rfl, hr, hg⟩ := hd
  have hk1 : k1 ≤ s.size := by have := byteAt_fits h0; omega
  have hlt : w.heap.size < w1.heap.size := (blk_grown P0.out hg (by omega)).lt
  have hy := below_more (Below.refl w1.heap.size w1) (.cells #[.int .i64 (x0 : Int), .int .i64 0, .int .i64 0, .string ⟨#[]⟩, .string ⟨#[]⟩, .int .i64 0] 23)
  have X1 : Hid (BlockIs (w1.alloc (.cells #[.int .i64 (x0 : Int), .int .i64 0, .int .i64 0, .string ⟨#[]⟩, .string ⟨#[]⟩, .int .i64 0] 23)) w1.heap.size 23 [.int .i64 (x0 : Int), .int .i64 0, .int .i64 0, .string ⟨#[]⟩, .string ⟨#[]⟩, .int .i64 0]) := heap_alloc_new w1 _
  have P1 := hid ((blk_grown P0.out hg (by omega)).on hy hlt)
  have R1 : Hid (RdIs _ b s k1) := BlockIs.on hr hy (BlockIs.lt hr)
  have G1 := hid (grown_new (G0.out.trans hg) (.cells #[.int .i64 (x0 : Int), .int .i64 0, .int .i64 0, .string ⟨#[]⟩, .string ⟨#[]⟩, .int .i64 0] 23))
  have H0 := hid h0
  obtain ⟨q, hq⟩ : ∃ q, w1.heap.size = q := ⟨_, rfl⟩
  rw [hq] at hlt X1
  obtain ⟨v1, hv1⟩ : ∃ W, w1.alloc (.cells #[.int .i64 (x0 : Int), .int .i64 0, .int .i64 0, .string ⟨#[]⟩, .string ⟨#[]⟩, .int .i64 0] 23) = W := ⟨_, rfl⟩
  rw [hv1] at X1 P1 R1 G1
  have HV := hid hv1
  have HQ := hid hq
  clear h0 hr hg hy P0 R0 G0 hv1 hq
  go_wp2_with fail
  rw [HV.out, HQ.out]
  refine (number_at b s k1 1000000 hs hk1 _ R1.out _ rfl).mono ?_
  intro e u1 hd
  cases h1 : numAt s 1000000 k1 with
  | none =>
    rw [h1] at hd
    obtain ⟨rfl, hg⟩ := hd
    have HR : Hid (cmdAt s = none) := (show _ = _ by simp [cmdAt, h1, H0.out])
    clear h1
    go_wp2
    rw [HR.out]
    exact And.intro rfl (And.intro rfl (G1.out.trans hg))
  | some p =>
  obtain ⟨x1, k2⟩ := p
  rw [h1] at hd
  obtain ⟨rfl, hr, hg⟩ := hd
  have hk2 := (numAt_fits hk1 h1).2.2.2.1
  have H1 := hid h1
  have Xa := blk_grown X1.out hg (by omega)
  have Pa := blk_grown P1.out hg (by omega)
  have Ga := G1.out.trans hg
  have c := Xa.cell (j := 1) rfl
  have f := Xa.thaw 1
  have X2 := hid (Xa.set 1 (.int .i64 (x1 : Int)))
  have P2 := hid (Pa.far (b := q) (j := 1) (by omega) (.int .i64 (x1 : Int)))
  have R2 : Hid (RdIs _ b s k2) := BlockIs.far hr (b := q) (j := 1) (by omega) (.int .i64 (x1 : Int))
  have G2 := hid (grown_put Ga (show w.heap.size ≤ q by omega) (j := 1) (.int .i64 (x1 : Int)))
  clear h1 hr hg Xa Pa Ga P1 R1 G1 X1
  go_wp2_with fail
  refine (number_at b s k2 1000000 hs hk2 _ R2.out _ rfl).mono ?_
  intro e u2 hd
  cases h2 : numAt s 1000000 k2 with
  | none =>
    rw [h2] at hd
    obtain ⟨rfl, hg⟩ := hd
    have HR : Hid (cmdAt s = none) := (show _ = _ by simp [cmdAt, h2, H0.out, H1.out])
    clear h2
    go_wp2
    rw [HR.out]
    exact And.intro rfl (And.intro rfl (G2.out.trans hg))
  | some p =>
  obtain ⟨x2, k3⟩ := p
  rw [h2] at hd
  obtain ⟨rfl, hr, hg⟩ := hd
  have hk3 := (numAt_fits hk2 h2).2.2.2.1
  have H2 := hid h2
  have Xa := blk_grown X2.out hg (by omega)
  have Pa := blk_grown P2.out hg (by omega)
  have Ga := G2.out.trans hg
  have c := Xa.cell (j := 2) rfl
  have f := Xa.thaw 2
  have X3 := hid (Xa.set 2 (.int .i64 (x2 : Int)))
  have P3 := hid (Pa.far (b := q) (j := 2) (by omega) (.int .i64 (x2 : Int)))
  have R3 : Hid (RdIs _ b s k3) := BlockIs.far hr (b := q) (j := 2) (by omega) (.int .i64 (x2 : Int))
  have G3 := hid (grown_put Ga (show w.heap.size ≤ q by omega) (j := 2) (.int .i64 (x2 : Int)))
  clear h2 hr hg Xa Pa Ga P2 R2 G2 X2
  go_wp2_with fail
  refine (short_at b s k3 hs _ R3.out).mono ?_
  intro e u3 hd
  cases h3 : txtAt s k3 with
  | none =>
    rw [h3] at hd
    obtain ⟨rfl, hg⟩ := hd
    have HR : Hid (cmdAt s = none) := (show _ = _ by simp [cmdAt, h3, H0.out, H1.out, H2.out])
    clear h3
    go_wp2
    rw [HR.out]
    exact And.intro rfl (And.intro rfl (G3.out.trans hg))
  | some p =>
  obtain ⟨x3, k4⟩ := p
  rw [h3] at hd
  obtain ⟨rfl, hr, hg⟩ := hd
  have hk4 := (txtAt_fits hk3 h3).2.2.1
  have H3 := hid h3
  have Xa := blk_grown X3.out hg (by omega)
  have Pa := blk_grown P3.out hg (by omega)
  have Ga := G3.out.trans hg
  have c := Xa.cell (j := 3) rfl
  have f := Xa.thaw 3
  have X4 := hid (Xa.set 3 (.string x3))
  have P4 := hid (Pa.far (b := q) (j := 3) (by omega) (.string x3))
  have R4 : Hid (RdIs _ b s k4) := BlockIs.far hr (b := q) (j := 3) (by omega) (.string x3)
  have G4 := hid (grown_put Ga (show w.heap.size ≤ q by omega) (j := 3) (.string x3))
  clear h3 hr hg Xa Pa Ga P3 R3 G3 X3
  go_wp2_with fail
  refine (short_at b s k4 hs _ R4.out).mono ?_
  intro e u4 hd
  cases h4 : txtAt s k4 with
  | none =>
    rw [h4] at hd
    obtain ⟨rfl, hg⟩ := hd
    have HR : Hid (cmdAt s = none) := (show _ = _ by simp [cmdAt, h4, H0.out, H1.out, H2.out, H3.out])
    clear h4
    go_wp2
    rw [HR.out]
    exact And.intro rfl (And.intro rfl (G4.out.trans hg))
  | some p =>
  obtain ⟨x4, k5⟩ := p
  rw [h4] at hd
  obtain ⟨rfl, hr, hg⟩ := hd
  have hk5 := (txtAt_fits hk4 h4).2.2.1
  have H4 := hid h4
  have Xa := blk_grown X4.out hg (by omega)
  have Pa := blk_grown P4.out hg (by omega)
  have Ga := G4.out.trans hg
  have c := Xa.cell (j := 4) rfl
  have f := Xa.thaw 4
  have X5 := hid (Xa.set 4 (.string x4))
  have P5 := hid (Pa.far (b := q) (j := 4) (by omega) (.string x4))
  have R5 : Hid (RdIs _ b s k5) := BlockIs.far hr (b := q) (j := 4) (by omega) (.string x4)
  have G5 := hid (grown_put Ga (show w.heap.size ≤ q by omega) (j := 4) (.string x4))
  clear h4 hr hg Xa Pa Ga P4 R4 G4 X4
  go_wp2_with fail
  refine (number_at b s k5 1000000000 hs hk5 _ R5.out _ rfl).mono ?_
  intro e u5 hd
  cases h5 : numAt s 1000000000 k5 with
  | none =>
    rw [h5] at hd
    obtain ⟨rfl, hg⟩ := hd
    have HR : Hid (cmdAt s = none) := (show _ = _ by simp [cmdAt, h5, H0.out, H1.out, H2.out, H3.out, H4.out])
    clear h5
    go_wp2
    rw [HR.out]
    exact And.intro rfl (And.intro rfl (G5.out.trans hg))
  | some p =>
  obtain ⟨x5, k6⟩ := p
  rw [h5] at hd
  obtain ⟨rfl, hr, hg⟩ := hd
  have hk6 := (numAt_fits hk5 h5).2.2.2.1
  have H5 := hid h5
  have Xa := blk_grown X5.out hg (by omega)
  have Pa := blk_grown P5.out hg (by omega)
  have Ga := G5.out.trans hg
  have c := Xa.cell (j := 5) rfl
  have f := Xa.thaw 5
  have X6 := hid (Xa.set 5 (.int .i64 (x5 : Int)))
  have P6 := hid (Pa.far (b := q) (j := 5) (by omega) (.int .i64 (x5 : Int)))
  have R6 : Hid (RdIs _ b s k6) := BlockIs.far hr (b := q) (j := 5) (by omega) (.int .i64 (x5 : Int))
  have G6 := hid (grown_put Ga (show w.heap.size ≤ q by omega) (j := 5) (.int .i64 (x5 : Int)))
  clear h5 hr hg Xa Pa Ga P5 R5 G5 X5
  have y0 := X6.out.cell (j := 0) rfl
  have y1 := X6.out.cell (j := 1) rfl
  have y2 := X6.out.cell (j := 2) rfl
  have y3 := X6.out.cell (j := 3) rfl
  have y4 := X6.out.cell (j := 4) rfl
  have y5 := X6.out.cell (j := 5) rfl
  go_wp2_with fail
  refine (implCommandOk_any ⟨(x0 : Int), (x1 : Int), (x2 : Int), x3, x4, (x5 : Int)⟩ _).mono ?_
  rintro e u6 ⟨rfl, b6⟩
  have X7 := hid (X6.out.on b6 X6.out.lt)
  have P7 := hid (P6.out.on b6 P6.out.lt)
  have R7 : Hid (RdIs u6 b s k6) := BlockIs.on R6.out b6 (BlockIs.lt R6.out)
  have G7 := hid (G6.out.trans (grown_of_below b6 (some b)))
  clear b6 X6 P6 R6 G6 y0 y1 y2 y3 y4 y5 c f
  cases hok : commandOk ⟨(x0 : Int), (x1 : Int), (x2 : Int), x3, x4, (x5 : Int)⟩ with
  | false =>
    have HR : Hid (cmdAt s = none) := (show _ = _ by simp [cmdAt, H0.out, H1.out, H2.out, H3.out, H4.out, H5.out, hok])
    clear hok
    go_wp2_with fail
    refine (need_no _ _).mono ?_
    rintro e w3 ⟨rfl, hw⟩
    rw [hw]
    clear hw w3
    go_wp2
    rw [HR.out]
    exact And.intro rfl (And.intro rfl G7.out)
  | true =>
    have HR : Hid (cmdAt s = some (⟨(x0 : Int), (x1 : Int), (x2 : Int), x3, x4, (x5 : Int)⟩, k6)) := (show _ = _ by simp [cmdAt, H0.out, H1.out, H2.out, H3.out, H4.out, H5.out, hok])
    clear hok
    go_wp2_with fail
    refine (need_yes _ _).mono ?_
    rintro e w3 ⟨rfl, hw⟩
    rw [hw]
    clear hw w3
    have y0 := X7.out.cell (j := 0) rfl
    have c0 := P7.out.cell (j := 0) rfl
    have f0 := P7.out.thaw 0
    have y1 := X7.out.cell (j := 1) rfl
    have c1 := P7.out.cell (j := 1) rfl
    have f1 := P7.out.thaw 1
    have y2 := X7.out.cell (j := 2) rfl
    have c2 := P7.out.cell (j := 2) rfl
    have f2 := P7.out.thaw 2
    have y3 := X7.out.cell (j := 3) rfl
    have c3 := P7.out.cell (j := 3) rfl
    have f3 := P7.out.thaw 3
    have y4 := X7.out.cell (j := 4) rfl
    have c4 := P7.out.cell (j := 4) rfl
    have f4 := P7.out.thaw 4
    have y5 := X7.out.cell (j := 5) rfl
    have c5 := P7.out.cell (j := 5) rfl
    have f5 := P7.out.thaw 5
    go_wp2
    have PZ := ((((((P7.out.set 0 (.int .i64 (x0 : Int))).set 1 (.int .i64 (x1 : Int))).set 2 (.int .i64 (x2 : Int))).set 3 (.string x3)).set 4 (.string x4)).set 5 (.int .i64 (x5 : Int)))
    have d0 := PZ.cell (j := 0) rfl
    have d1 := PZ.cell (j := 1) rfl
    have d2 := PZ.cell (j := 2) rfl
    have d3 := PZ.cell (j := 3) rfl
    have d4 := PZ.cell (j := 4) rfl
    have d5 := PZ.cell (j := 5) rfl
    refine bodyPost_ret (v := .agg #[.int .i64 (x0 : Int), .int .i64 (x1 : Int), .int .i64 (x2 : Int), .string x3, .string x4, .int .i64 (x5 : Int)]) (by simp [results, Try.results22, go_sem, d0, d1, d2, d3, d4, d5]) rfl ?_
    rw [HR.out]
    exact And.intro rfl (And.intro ((BlockIs.far (BlockIs.far (BlockIs.far (BlockIs.far (BlockIs.far (BlockIs.far R7.out (b := w.heap.size) (j := 0) (by omega) (.int .i64 (x0 : Int))) (b := w.heap.size) (j := 1) (by omega) (.int .i64 (x1 : Int))) (b := w.heap.size) (j := 2) (by omega) (.int .i64 (x2 : Int))) (b := w.heap.size) (j := 3) (by omega) (.string x3)) (b := w.heap.size) (j := 4) (by omega) (.string x4)) (b := w.heap.size) (j := 5) (by omega) (.int .i64 (x5 : Int)))) ((grown_put (grown_put (grown_put (grown_put (grown_put (grown_put G7.out (Nat.le_refl w.heap.size) (j := 0) (.int .i64 (x0 : Int))) (Nat.le_refl w.heap.size) (j := 1) (.int .i64 (x1 : Int))) (Nat.le_refl w.heap.size) (j := 2) (.int .i64 (x2 : Int))) (Nat.le_refl w.heap.size) (j := 3) (.string x3)) (Nat.le_refl w.heap.size) (j := 4) (.string x4)) (Nat.le_refl w.heap.size) (j := 5) (.int .i64 (x5 : Int)))))
end Go.Proofs.Ytdgohbhffjinmaa
