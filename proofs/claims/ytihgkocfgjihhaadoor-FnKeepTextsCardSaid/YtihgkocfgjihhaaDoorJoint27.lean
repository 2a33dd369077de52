/-
  The walk of impl.textReader's method that reads a session.
  The walk of impl.textReader's method that reads a item.
-/
import Derived.Test.YtihgkocfgjihhaaDoorJoint26
import Derived.Test.YtihgkocfgjihhaaDoorJoint1
namespace Go.Proofs.YtihgkocfgjihhaaDoor
open Go.RowKit Go.Sort

def sessionAt (s : ByteArray) (k0 : Nat) : Option (SessionD × Nat) := (numAt s 1000000 k0).bind fun p0 => (fun (x0 : Nat) (k1 : Nat) => (numAt s 1000000 k1).bind fun p1 => (fun (x1 : Nat) (k2 : Nat) => (txtAt s k2).bind fun p2 => (fun (x2 : ByteArray) (k3 : Nat) => some (⟨(x0 : Int), (x1 : Int), x2⟩, k3)) p2.1 p2.2) p1.1 p1.2) p0.1 p0.2
def sessionAtDid (o : Option (SessionD × Nat)) (s : ByteArray) (b : Nat) (w : World) (e : Ending) (w' : World) : Prop := match o with
  | none => e = .panicked [misreadP] ∧ w.grownBy w' (some b)
  | some (d, k) => e = .returned (.agg (sessionEnc d).toArray) ∧ RdIs w' b s k ∧ w.grownBy w' (some b)
theorem sessionAt_fits {s : ByteArray} {k0 k : Nat} {d : SessionD} (hk : k0 ≤ s.size) (h : sessionAt s k0 = some (d, k)) : k ≤ s.size := by
  have hk0 := hk
  unfold sessionAt at h
  cases h0 : numAt s 1000000 k0 with
  | none => rw [h0] at h; cases h
  | some p0 =>
  obtain ⟨x0, k1⟩ := p0
  have hk1 := (numAt_fits hk0 h0).2.2.2.1
  rw [h0] at h
  simp only [Option.bind_some] at h
  cases h1 : numAt s 1000000 k1 with
  | none => rw [h1] at h; cases h
  | some p1 =>
  obtain ⟨x1, k2⟩ := p1
  have hk2 := (numAt_fits hk1 h1).2.2.2.1
  rw [h1] at h
  simp only [Option.bind_some] at h
  cases h2 : txtAt s k2 with
  | none => rw [h2] at h; cases h
  | some p2 =>
  obtain ⟨x2, k3⟩ := p2
  have hk3 := (txtAt_fits hk2 h2).2.2.1
  rw [h2] at h
  simp only [Option.bind_some] at h
  cases h
  exact hk3

set_option maxRecDepth 1000000 in
set_option maxHeartbeats 2000000 in
theorem session_at (b : Nat) (s : ByteArray) (k0 : Nat) (hs : s.size ≤ 1048576) (hk : k0 ≤ s.size) (w : World) (hr : RdIs w b s k0) :
    Calls Tryd.prog 56 #[.pointer (some ⟨b, 0, none⟩)] w fun e w' => sessionAtDid (sessionAt s k0) s b w e w' := by
  have hX := below_more (Below.refl w.heap.size w) (.cells #[.int .i64 0, .int .i64 0, .string ⟨#[]⟩] 55)
  have hb := BlockIs.lt hr
  have P0 : Hid (BlockIs (w.alloc (.cells #[.int .i64 0, .int .i64 0, .string ⟨#[]⟩] 55)) w.heap.size 55 [.int .i64 0, .int .i64 0, .string ⟨#[]⟩]) := heap_alloc_new w _
  have R0 : Hid (RdIs _ b s k0) := BlockIs.on hr hX hb
  have G0 := hid (grown_of_below hX (some b))
  clear hX hr
  obtain ⟨w0, hw0⟩ : ∃ W, w.alloc (.cells #[.int .i64 0, .int .i64 0, .string ⟨#[]⟩] 55) = W := ⟨_, rfl⟩
  rw [hw0] at P0 R0 G0
  go_enter Tryd.func56, Tryd.ntmps56
  go_wp2_with fail
  skip
  refine (number_at b s k0 1000000 hs hk _ R0.out _ rfl).mono ?_
  intro e w1 hd
  clear hw0
  cases h0 : numAt s 1000000 k0 with
  | none =>
    rw [h0] at hd
    obtain ⟨rfl, hg⟩ := hd
    have HR : Hid (sessionAt s k0 = none) := (show _ = _ by simp [sessionAt, h0])
    clear h0
    go_wp2
    rw [HR.out]
    exact And.intro rfl (And.intro rfl (G0.out.trans hg))
  | some p =>
  obtain ⟨x0, k1⟩ := p
  rw [h0] at hd
  obtain ⟨rfl, hr, hg⟩ := hd
  have hk1 : k1 ≤ s.size := (numAt_fits hk h0).2.2.2.1
  have P1 := hid (blk_grown P0.out hg (by omega))
  have R1 := hid hr
  have G1 := hid (G0.out.trans hg)
  have H0 := hid h0
  clear h0 hr hg P0 R0 G0
  go_wp2_with fail
  refine (number_at b s k1 1000000 hs hk1 _ R1.out _ rfl).mono ?_
  intro e w2 hd
  cases h1 : numAt s 1000000 k1 with
  | none =>
    rw [h1] at hd
    obtain ⟨rfl, hg⟩ := hd
    have HR : Hid (sessionAt s k0 = none) := (show _ = _ by simp [sessionAt, h1, H0.out])
    clear h1
    go_wp2
    rw [HR.out]
    exact And.intro rfl (And.intro rfl (G1.out.trans hg))
  | some p =>
  obtain ⟨x1, k2⟩ := p
  rw [h1] at hd
  obtain ⟨rfl, hr, hg⟩ := hd
  have hk2 : k2 ≤ s.size := (numAt_fits hk1 h1).2.2.2.1
  have P2 := hid (blk_grown P1.out hg (by omega))
  have R2 := hid hr
  have G2 := hid (G1.out.trans hg)
  have H1 := hid h1
  clear h1 hr hg P1 R1 G1
  go_wp2_with fail
  refine (short_at b s k2 hs _ R2.out).mono ?_
  intro e w3 hd
  cases h2 : txtAt s k2 with
  | none =>
    rw [h2] at hd
    obtain ⟨rfl, hg⟩ := hd
    have HR : Hid (sessionAt s k0 = none) := (show _ = _ by simp [sessionAt, h2, H0.out, H1.out])
    clear h2
    go_wp2
    rw [HR.out]
    exact And.intro rfl (And.intro rfl (G2.out.trans hg))
  | some p =>
  obtain ⟨x2, k3⟩ := p
  rw [h2] at hd
  obtain ⟨rfl, hr, hg⟩ := hd
  have hk3 : k3 ≤ s.size := (txtAt_fits hk2 h2).2.2.1
  have P3 := hid (blk_grown P2.out hg (by omega))
  have R3 := hid hr
  have G3 := hid (G2.out.trans hg)
  have H2 := hid h2
  clear h2 hr hg P2 R2 G2
  have HR : Hid (sessionAt s k0 = some (⟨(x0 : Int), (x1 : Int), x2⟩, k3)) := (show _ = _ by simp [sessionAt, H0.out, H1.out, H2.out])
  have c0 := P3.out.cell (j := 0) rfl
  have f0 := P3.out.thaw 0
  have c1 := P3.out.cell (j := 1) rfl
  have f1 := P3.out.thaw 1
  have c2 := P3.out.cell (j := 2) rfl
  have f2 := P3.out.thaw 2
  go_wp2
  have PZ := (((P3.out.set 0 (.int .i64 (x0 : Int))).set 1 (.int .i64 (x1 : Int))).set 2 (.string x2))
  have d0 := PZ.cell (j := 0) rfl
  have d1 := PZ.cell (j := 1) rfl
  have d2 := PZ.cell (j := 2) rfl
  refine bodyPost_ret (v := .agg #[.int .i64 (x0 : Int), .int .i64 (x1 : Int), .string x2]) (by simp [results, Tryd.results56, go_sem, d0, d1, d2]) rfl ?_
  rw [HR.out]
  exact And.intro rfl (And.intro ((BlockIs.far (BlockIs.far (BlockIs.far R3.out (b := w.heap.size) (j := 0) (by omega) (.int .i64 (x0 : Int))) (b := w.heap.size) (j := 1) (by omega) (.int .i64 (x1 : Int))) (b := w.heap.size) (j := 2) (by omega) (.string x2))) ((grown_put (grown_put (grown_put G3.out (Nat.le_refl w.heap.size) (j := 0) (.int .i64 (x0 : Int))) (Nat.le_refl w.heap.size) (j := 1) (.int .i64 (x1 : Int))) (Nat.le_refl w.heap.size) (j := 2) (.string x2))))
end Go.Proofs.YtihgkocfgjihhaaDoor

namespace Go.Proofs.YtihgkocfgjihhaaDoor
open Go.RowKit Go.Sort

def itemAt (s : ByteArray) (k0 : Nat) : Option (ItemD × Nat) := (txtAt s k0).bind fun p0 => (fun (x0 : ByteArray) (k1 : Nat) => (txtAt s k1).bind fun p1 => (fun (x1 : ByteArray) (k2 : Nat) => (numAt s 1000000000 k2).bind fun p2 => (fun (x2 : Nat) (k3 : Nat) => some (⟨x0, x1, (x2 : Int)⟩, k3)) p2.1 p2.2) p1.1 p1.2) p0.1 p0.2
def itemAtDid (o : Option (ItemD × Nat)) (s : ByteArray) (b : Nat) (w : World) (e : Ending) (w' : World) : Prop := match o with
  | none => e = .panicked [misreadP] ∧ w.grownBy w' (some b)
  | some (d, k) => e = .returned (.agg (itemEnc d).toArray) ∧ RdIs w' b s k ∧ w.grownBy w' (some b)
theorem itemAt_fits {s : ByteArray} {k0 k : Nat} {d : ItemD} (hk : k0 ≤ s.size) (h : itemAt s k0 = some (d, k)) : k ≤ s.size := by
  have hk0 := hk
  unfold itemAt at h
  cases h0 : txtAt s k0 with
  | none => rw [h0] at h; cases h
  | some p0 =>
  obtain ⟨x0, k1⟩ := p0
  have hk1 := (txtAt_fits hk0 h0).2.2.1
  rw [h0] at h
  simp only [Option.bind_some] at h
  cases h1 : txtAt s k1 with
  | none => rw [h1] at h; cases h
  | some p1 =>
  obtain ⟨x1, k2⟩ := p1
  have hk2 := (txtAt_fits hk1 h1).2.2.1
  rw [h1] at h
  simp only [Option.bind_some] at h
  cases h2 : numAt s 1000000000 k2 with
  | none => rw [h2] at h; cases h
  | some p2 =>
  obtain ⟨x2, k3⟩ := p2
  have hk3 := (numAt_fits hk2 h2).2.2.2.1
  rw [h2] at h
  simp only [Option.bind_some] at h
  cases h
  exact hk3

set_option maxRecDepth 1000000 in
set_option maxHeartbeats 2000000 in
theorem item_at (b : Nat) (s : ByteArray) (k0 : Nat) (hs : s.size ≤ 1048576) (hk : k0 ≤ s.size) (w : World) (hr : RdIs w b s k0) :
    Calls Tryd.prog 57 #[.pointer (some ⟨b, 0, none⟩)] w fun e w' => itemAtDid (itemAt s k0) s b w e w' := by
  have hX := below_more (Below.refl w.heap.size w) (.cells #[.string ⟨#[]⟩, .string ⟨#[]⟩, .int .i64 0] 58)
  have hb := BlockIs.lt hr
  have P0 : Hid (BlockIs (w.alloc (.cells #[.string ⟨#[]⟩, .string ⟨#[]⟩, .int .i64 0] 58)) w.heap.size 58 [.string ⟨#[]⟩, .string ⟨#[]⟩, .int .i64 0]) := heap_alloc_new w _
  have R0 : Hid (RdIs _ b s k0) := BlockIs.on hr hX hb
  have G0 := hid (grown_of_below hX (some b))
  clear hX hr
  obtain ⟨w0, hw0⟩ : ∃ W, w.alloc (.cells #[.string ⟨#[]⟩, .string ⟨#[]⟩, .int .i64 0] 58) = W := ⟨_, rfl⟩
  rw [hw0] at P0 R0 G0
  go_enter Tryd.func57, Tryd.ntmps57
  go_wp2_with fail
  skip
  refine (short_at b s k0 hs _ R0.out).mono ?_
  intro e w1 hd
  clear hw0
  cases h0 : txtAt s k0 with
  | none =>
    rw [h0] at hd
    obtain ⟨rfl, hg⟩ := hd
    have HR : Hid (itemAt s k0 = none) := (show _ = _ by simp [itemAt, h0])
    clear h0
    go_wp2
    rw [HR.out]
    exact And.intro rfl (And.intro rfl (G0.out.trans hg))
  | some p =>
  obtain ⟨x0, k1⟩ := p
  rw [h0] at hd
  obtain ⟨rfl, hr, hg⟩ := hd
  have hk1 : k1 ≤ s.size := (txtAt_fits hk h0).2.2.1
  have P1 := hid (blk_grown P0.out hg (by omega))
  have R1 := hid hr
  have G1 := hid (G0.out.trans hg)
  have H0 := hid h0
  clear h0 hr hg P0 R0 G0
  go_wp2_with fail
  refine (short_at b s k1 hs _ R1.out).mono ?_
  intro e w2 hd
  cases h1 : txtAt s k1 with
  | none =>
    rw [h1] at hd
    obtain ⟨rfl, hg⟩ := hd
    have HR : Hid (itemAt s k0 = none) := (show _ = _ by simp [itemAt, h1, H0.out])
    clear h1
    go_wp2
    rw [HR.out]
    exact And.intro rfl (And.intro rfl (G1.out.trans hg))
  | some p =>
  obtain ⟨x1, k2⟩ := p
  rw [h1] at hd
  obtain ⟨rfl, hr, hg⟩ := hd
  have hk2 : k2 ≤ s.size := (txtAt_fits hk1 h1).2.2.1
  have P2 := hid (blk_grown P1.out hg (by omega))
  have R2 := hid hr
  have G2 := hid (G1.out.trans hg)
  have H1 := hid h1
  clear h1 hr hg P1 R1 G1
  go_wp2_with fail
  refine (number_at b s k2 1000000000 hs hk2 _ R2.out _ rfl).mono ?_
  intro e w3 hd
  cases h2 : numAt s 1000000000 k2 with
  | none =>
    rw [h2] at hd
    obtain ⟨rfl, hg⟩ := hd
    have HR : Hid (itemAt s k0 = none) := (show _ = _ by simp [itemAt, h2, H0.out, H1.out])
    clear h2
    go_wp2
    rw [HR.out]
    exact And.intro rfl (And.intro rfl (G2.out.trans hg))
  | some p =>
  obtain ⟨x2, k3⟩ := p
  rw [h2] at hd
  obtain ⟨rfl, hr, hg⟩ := hd
  have hk3 : k3 ≤ s.size := (numAt_fits hk2 h2).2.2.2.1
  have P3 := hid (blk_grown P2.out hg (by omega))
  have R3 := hid hr
  have G3 := hid (G2.out.trans hg)
  have H2 := hid h2
  clear h2 hr hg P2 R2 G2
  have HR : Hid (itemAt s k0 = some (⟨x0, x1, (x2 : Int)⟩, k3)) := (show _ = _ by simp [itemAt, H0.out, H1.out, H2.out])
  have c0 := P3.out.cell (j := 0) rfl
  have f0 := P3.out.thaw 0
  have c1 := P3.out.cell (j := 1) rfl
  have f1 := P3.out.thaw 1
  have c2 := P3.out.cell (j := 2) rfl
  have f2 := P3.out.thaw 2
  go_wp2
  have PZ := (((P3.out.set 0 (.string x0)).set 1 (.string x1)).set 2 (.int .i64 (x2 : Int)))
  have d0 := PZ.cell (j := 0) rfl
  have d1 := PZ.cell (j := 1) rfl
  have d2 := PZ.cell (j := 2) rfl
  refine bodyPost_ret (v := .agg #[.string x0, .string x1, .int .i64 (x2 : Int)]) (by simp [results, Tryd.results57, go_sem, d0, d1, d2]) rfl ?_
  rw [HR.out]
  exact And.intro rfl (And.intro ((BlockIs.far (BlockIs.far (BlockIs.far R3.out (b := w.heap.size) (j := 0) (by omega) (.string x0)) (b := w.heap.size) (j := 1) (by omega) (.string x1)) (b := w.heap.size) (j := 2) (by omega) (.int .i64 (x2 : Int)))) ((grown_put (grown_put (grown_put G3.out (Nat.le_refl w.heap.size) (j := 0) (.string x0)) (Nat.le_refl w.heap.size) (j := 1) (.string x1)) (Nat.le_refl w.heap.size) (j := 2) (.int .i64 (x2 : Int)))))
end Go.Proofs.YtihgkocfgjihhaaDoor
