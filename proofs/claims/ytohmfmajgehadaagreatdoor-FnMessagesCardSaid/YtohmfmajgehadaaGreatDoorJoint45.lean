/-
  The walk of impl.textReader's method message.
-/
import Derived.Test.YtohmfmajgehadaaGreatDoorJoint42
import Derived.Test.YtohmfmajgehadaaGreatDoorJoint44
import Derived.Test.YtohmfmajgehadaaGreatDoorJoint37
import Derived.Test.YtohmfmajgehadaaGreatDoorJoint10
import Derived.Test.YtohmfmajgehadaaGreatDoorJoint1
import Derived.Deep.LoopGhost
namespace Go.Proofs.YtohmfmajgehadaaGreatDoor
open Go.RowKit Go.Sort

theorem block_grownM {w w1 : World} {base size n g : Nat} {t t' : TypeId} {v : Value} {xs cs : List Value} (h : BlockIs w g t' cs) (hr : w.ownsRow base t size v n xs) (hg : w.grownBy w1 v.ownBlock) (ht : t' ≠ t) : BlockIs w1 g t' cs := by
  have hlt := h.lt
  unfold BlockIs at h ⊢
  rw [hg.block g hlt ?_]
  · exact h
  · intro e
    obtain ⟨cs2, h2, _⟩ := row_block hr e.symm
    unfold BlockIs at h2
    rw [h] at h2
    simp only [Option.some.injEq, Obj.cells.injEq] at h2
    exact ht h2.2.1
theorem grown_setRow {w x : World} {r : Option Nat} (h : w.grownBy x r) {g : Nat} (hg : w.heap.size ≤ g) (A : Array Value) : w.grownBy (x.setRow g A) r :=
  ⟨h.os, h.tape, h.output, by have := h.size; simpa [World.setRow] using this, fun k hk hr => (setRow_other x g k A (by omega)).trans (h.block k hk hr)⟩
theorem grown_rowM {w x y : World} {r o : Option Nat} (h : w.grownBy x r) (hg : x.grownBy y o) (ho : ∀ g, o = some g → w.heap.size ≤ g) : w.grownBy y r :=
  ⟨hg.os.trans h.os, hg.tape.trans h.tape, hg.output.trans h.output, Nat.le_trans h.size hg.size, fun k hk hr => (hg.block k (Nat.lt_of_lt_of_le hk h.size) (fun e => by have := ho k e.symm; omega)).trans (h.block k hk hr)⟩
theorem row_lowM {w : World} {base size n g : Nat} {t : TypeId} {v : Value} {xs : List Value} (h : w.ownsRow base t size v n xs) (hv : v.ownBlock = some g) : base ≤ g := by
  obtain ⟨_, _, hb⟩ := row_block h hv
  exact hb
theorem entsR_at {w : World} {base : Nat} {va : Option Addr} {vc : Nat} {l : List EntD} (h : w.ownsRow base 57 3 (.slice va l.length vc) l.length (entCells l)) : EntsAt w va l := by
  rcases h.2 with ⟨hv, h0⟩ | ⟨g, cp, cur, hv, _, hh, _, _, _, ht⟩
  · exact fun hne => absurd (List.length_eq_zero_iff.1 h0) hne
  · simp only [Value.slice.injEq] at hv
    obtain ⟨rfl, _, rfl⟩ := hv
    have hcur : cur.toList = entCells l ++ cur.toList.drop (l.length * 3) := by rw [← ht, List.take_append_drop]
    exact entsAt_of (r := cur.toList.drop (l.length * 3)) (by unfold BlockIs; rw [hh, ← hcur])
def msgDid (o : Option (MsgD × Nat)) (s : ByteArray) (b : Nat) (w : World) (e : Ending) (w' : World) : Prop := match o with
  | none => e = .panicked [misreadP] ∧ w.grownBy w' (some b)
  | some (d, k) => ∃ va vc vb vd, e = .returned (.agg #[.int .i64 d.kind, .int .i64 d.src, .int .i64 d.dst, .int .i64 d.term, .int .i64 d.index, .int .i64 d.logTerm, .int .i64 d.commit, .bool d.ok, .slice va d.ents.length vc, .slice vb d.conf.length vd, .string d.data, .bool d.last]) ∧ RdIs w' b s k ∧ w.grownBy w' (some b) ∧
      w'.ownsRow w.heap.size 57 3 (.slice va d.ents.length vc) d.ents.length (entCells d.ents) ∧ w'.ownsRow w.heap.size 3 1 (.slice vb d.conf.length vd) d.conf.length (intCells d.conf)
/-- where the walk stands: the reader, the answer's box, the message's box -/
def MIn (w W : World) (b : Nat) (s : ByteArray) (k x : Nat) (cs : List Value) : Prop := RdIs W b s k ∧ BlockIs W w.heap.size 39 [.int .i64 0, .int .i64 0, .int .i64 0, .int .i64 0, .int .i64 0, .int .i64 0, .int .i64 0, .bool false, .slice none 0 0, .slice none 0 0, .string ⟨#[]⟩, .bool false] ∧ BlockIs W x 39 cs ∧ w.grownBy W (some b)
theorem MIn.next {w W W' : World} {b k k' x : Nat} {s : ByteArray} {cs : List Value} (h : MIn w W b s k x cs) (hr : RdIs W' b s k') (hg : W.grownBy W' (some b)) : MIn w W' b s k' x cs :=
  ⟨hr, blk_grown h.2.1 hg (fun e => by have h9 := h.2.1; rw [e] at h9; exact absurd (block_one h9 h.1).1 (by decide)), blk_grown h.2.2.1 hg (fun e => by have h9 := h.2.2.1; rw [e] at h9; exact absurd (block_one h9 h.1).1 (by decide)), h.2.2.2.trans hg⟩
theorem MIn.put {w W : World} {b k x : Nat} {s : ByteArray} {cs : List Value} (h : MIn w W b s k x cs) (hx : w.heap.size < x) (j : Nat) (u : Value) : MIn w (W.setCell ⟨x, j, none⟩ u) b s k x (cs.set j u) :=
  ⟨BlockIs.far h.1 (fun e => by have h9 := h.2.2.1; rw [e] at h9; exact absurd (block_one h9 h.1).1 (by decide)) _, h.2.1.far (by omega) _, h.2.2.1.set j u, grown_put h.2.2.2 (by omega) _⟩

set_option maxRecDepth 1000000 in
set_option maxHeartbeats 1000000 in
theorem message_at (b : Nat) (s : ByteArray) (hs : s.size ≤ 1048576) (w : World) (hr : RdIs w b s 0) :
    Calls Tryz.prog 38 #[.pointer (some ⟨b, 0, none⟩)] w fun e w' => msgDid (msgAt s) s b w e w' := by
  have hX := below_more (Below.refl w.heap.size w) (.cells #[.int .i64 0, .int .i64 0, .int .i64 0, .int .i64 0, .int .i64 0, .int .i64 0, .int .i64 0, .bool false, .slice none 0 0, .slice none 0 0, .string ⟨#[]⟩, .bool false] 39)
  have hb := BlockIs.lt hr
  have P0 : Hid (BlockIs (w.alloc (.cells #[.int .i64 0, .int .i64 0, .int .i64 0, .int .i64 0, .int .i64 0, .int .i64 0, .int .i64 0, .bool false, .slice none 0 0, .slice none 0 0, .string ⟨#[]⟩, .bool false] 39)) w.heap.size 39 [.int .i64 0, .int .i64 0, .int .i64 0, .int .i64 0, .int .i64 0, .int .i64 0, .int .i64 0, .bool false, .slice none 0 0, .slice none 0 0, .string ⟨#[]⟩, .bool false]) := heap_alloc_new w _
  have R0 : Hid (RdIs _ b s 0) := BlockIs.on hr hX hb
  have G0 := hid (grown_of_below hX (some b))
  clear hX hr
  obtain ⟨w0, hw0⟩ : ∃ W, w.alloc (.cells #[.int .i64 0, .int .i64 0, .int .i64 0, .int .i64 0, .int .i64 0, .int .i64 0, .int .i64 0, .bool false, .slice none 0 0, .slice none 0 0, .string ⟨#[]⟩, .bool false] 39) = W := ⟨_, rfl⟩
  rw [hw0] at P0 R0 G0
  go_enter Tryz.func38, Tryz.ntmps38
  go_wp2_with fail
  refine (oneByte_at b s 0 hs (Nat.zero_le _) _ R0.out).mono ?_
  intro e w1 hd
  clear hw0
  cases h0 : byteAt s 0 with
  | none =>
    rw [h0] at hd
    obtain ⟨rfl, hg⟩ := hd
    have HR : Hid (msgAt s = none) := (show _ = _ by simp [msgAt, h0])
    clear h0
    go_wp2
    rw [HR.out]
    exact And.intro rfl (And.intro rfl (G0.out.trans hg))
  | some p =>
  obtain ⟨x0, k1⟩ := p
  rw [h0] at hd
  obtain ⟨rfl, hr, hg⟩ := hd
  have hk1 := byteAt_fits17 h0
  have H0 := hid h0
  have hlt : w.heap.size < w1.heap.size := Nat.lt_of_lt_of_le P0.out.lt hg.size
  have P1 := blk_grown P0.out hg (by omega)
  have G1 := G0.out.trans hg
  obtain ⟨x, hx⟩ : ∃ x, w1.heap.size = x := ⟨_, rfl⟩
  have ba := below_more (Below.refl w1.heap.size w1) (.cells #[.int .i64 (x0 : Int), .int .i64 0, .int .i64 0, .int .i64 0, .int .i64 0, .int .i64 0, .int .i64 0, .bool false, .slice none 0 0, .slice none 0 0, .string ⟨#[]⟩, .bool false] 39)
  have hn : BlockIs (w1.alloc (.cells #[.int .i64 (x0 : Int), .int .i64 0, .int .i64 0, .int .i64 0, .int .i64 0, .int .i64 0, .int .i64 0, .bool false, .slice none 0 0, .slice none 0 0, .string ⟨#[]⟩, .bool false] 39)) w1.heap.size 39 [.int .i64 (x0 : Int), .int .i64 0, .int .i64 0, .int .i64 0, .int .i64 0, .int .i64 0, .int .i64 0, .bool false, .slice none 0 0, .slice none 0 0, .string ⟨#[]⟩, .bool false] := heap_alloc_new w1 _
  have M1 : Hid (MIn w (w1.alloc (.cells #[.int .i64 (x0 : Int), .int .i64 0, .int .i64 0, .int .i64 0, .int .i64 0, .int .i64 0, .int .i64 0, .bool false, .slice none 0 0, .slice none 0 0, .string ⟨#[]⟩, .bool false] 39)) b s k1 x [.int .i64 (x0 : Int), .int .i64 0, .int .i64 0, .int .i64 0, .int .i64 0, .int .i64 0, .int .i64 0, .bool false, .slice none 0 0, .slice none 0 0, .string ⟨#[]⟩, .bool false]) := ⟨BlockIs.on hr ba (BlockIs.lt hr), P1.on ba P1.lt, hx ▸ hn, G1.trans (grown_of_below ba (some b))⟩
  rw [hx] at hlt
  obtain ⟨U1, hU1⟩ : ∃ W, w1.alloc (.cells #[.int .i64 0, .int .i64 0, .int .i64 0, .int .i64 0, .int .i64 0, .int .i64 0, .int .i64 0, .bool false, .slice none 0 0, .slice none 0 0, .string ⟨#[]⟩, .bool false] 39) = W := ⟨_, rfl⟩
  have KZ : BlockIs U1 x 39 [.int .i64 0, .int .i64 0, .int .i64 0, .int .i64 0, .int .i64 0, .int .i64 0, .int .i64 0, .bool false, .slice none 0 0, .slice none 0 0, .string ⟨#[]⟩, .bool false] := by rw [← hx, ← hU1]; exact heap_alloc_new _ _
  obtain ⟨V1, hV1⟩ : ∃ W, U1.setRow x #[.int .i64 (x0 : Int), .int .i64 0, .int .i64 0, .int .i64 0, .int .i64 0, .int .i64 0, .int .i64 0, .bool false, .slice none 0 0, .slice none 0 0, .string ⟨#[]⟩, .bool false] = W := ⟨_, rfl⟩
  have hov : w1.alloc (.cells #[.int .i64 (x0 : Int), .int .i64 0, .int .i64 0, .int .i64 0, .int .i64 0, .int .i64 0, .int .i64 0, .bool false, .slice none 0 0, .slice none 0 0, .string ⟨#[]⟩, .bool false] 39) = V1 := by rw [← hV1, ← hU1, ← hx, whole_over]
  rw [hov] at M1
  clear h0 hr hg P0 R0 G0 P1 G1 ba hn hb hov
  go_wp2_with (first | (refine wpList_store_whole msg_size KZ rfl rfl _ _ rfl _ rfl rfl rfl (by simp [Value.oneCell']) ?_; rw [hV1]) | fail)
  refine (oneByte_at b s k1 hs hk1 _ M1.out.1).mono ?_
  intro e w2 hd
  cases h1 : byteAt s k1 with
  | none =>
    rw [h1] at hd
    obtain ⟨rfl, hg⟩ := hd
    have HR : Hid (msgAt s = none) := (show _ = _ by simp [msgAt, H0.out, h1])
    clear h1
    go_wp2
    rw [HR.out]
    exact And.intro rfl (And.intro rfl (M1.out.2.2.2.trans hg))
  | some p =>
  obtain ⟨x1, k2⟩ := p
  rw [h1] at hd
  obtain ⟨rfl, hr, hg⟩ := hd
  have hk2 := byteAt_fits17 h1
  have H1 := hid h1
  have N1 := hid (M1.out.next hr hg)
  have o1 := N1.out.2.2.1.cell (j := 1) rfl
  have f1 := N1.out.2.2.1.thaw 1
  have M2 : Hid (MIn w (w2.setCell ⟨x, 1, none⟩ (.int .i64 (x1 : Int))) b s k2 x [.int .i64 (x0 : Int), .int .i64 (x1 : Int), .int .i64 0, .int .i64 0, .int .i64 0, .int .i64 0, .int .i64 0, .bool false, .slice none 0 0, .slice none 0 0, .string ⟨#[]⟩, .bool false]) := hid (N1.out.put hlt 1 _)
  obtain ⟨V2, hV2⟩ : ∃ W, w2.setCell ⟨x, 1, none⟩ (.int .i64 (x1 : Int)) = W := ⟨_, rfl⟩
  rw [hV2] at M2
  clear h1 hr hg M1 N1
  go_wp2_with fail
  refine (oneByte_at b s k2 hs hk2 _ M2.out.1).mono ?_
  intro e w3 hd
  cases h2 : byteAt s k2 with
  | none =>
    rw [h2] at hd
    obtain ⟨rfl, hg⟩ := hd
    have HR : Hid (msgAt s = none) := (show _ = _ by simp [msgAt, H0.out, H1.out, h2])
    clear h2
    go_wp2
    rw [HR.out]
    exact And.intro rfl (And.intro rfl (M2.out.2.2.2.trans hg))
  | some p =>
  obtain ⟨x2, k3⟩ := p
  rw [h2] at hd
  obtain ⟨rfl, hr, hg⟩ := hd
  have hk3 := byteAt_fits17 h2
  have H2 := hid h2
  have N2 := hid (M2.out.next hr hg)
  have o2 := N2.out.2.2.1.cell (j := 2) rfl
  have f2 := N2.out.2.2.1.thaw 2
  have M3 : Hid (MIn w (w3.setCell ⟨x, 2, none⟩ (.int .i64 (x2 : Int))) b s k3 x [.int .i64 (x0 : Int), .int .i64 (x1 : Int), .int .i64 (x2 : Int), .int .i64 0, .int .i64 0, .int .i64 0, .int .i64 0, .bool false, .slice none 0 0, .slice none 0 0, .string ⟨#[]⟩, .bool false]) := hid (N2.out.put hlt 2 _)
  obtain ⟨V3, hV3⟩ : ∃ W, w3.setCell ⟨x, 2, none⟩ (.int .i64 (x2 : Int)) = W := ⟨_, rfl⟩
  rw [hV3] at M3
  clear h2 hr hg M2 N2
  clear o1 f1
  go_wp2_with fail
  refine (number_at b s k3 100000 hs hk3 _ M3.out.1 _ rfl).mono ?_
  intro e w4 hd
  cases h3 : numAt s 100000 k3 with
  | none =>
    rw [h3] at hd
    obtain ⟨rfl, hg⟩ := hd
    have HR : Hid (msgAt s = none) := (show _ = _ by simp [msgAt, H0.out, H1.out, H2.out, h3])
    clear h3
    go_wp2
    rw [HR.out]
    exact And.intro rfl (And.intro rfl (M3.out.2.2.2.trans hg))
  | some p =>
  obtain ⟨x3, k4⟩ := p
  rw [h3] at hd
  obtain ⟨rfl, hr, hg⟩ := hd
  have hk4 := (numAt_fits hk3 h3).2.2.2.1
  have H3 := hid h3
  have N3 := hid (M3.out.next hr hg)
  have o3 := N3.out.2.2.1.cell (j := 3) rfl
  have f3 := N3.out.2.2.1.thaw 3
  have M4 : Hid (MIn w (w4.setCell ⟨x, 3, none⟩ (.int .i64 (x3 : Int))) b s k4 x [.int .i64 (x0 : Int), .int .i64 (x1 : Int), .int .i64 (x2 : Int), .int .i64 (x3 : Int), .int .i64 0, .int .i64 0, .int .i64 0, .bool false, .slice none 0 0, .slice none 0 0, .string ⟨#[]⟩, .bool false]) := hid (N3.out.put hlt 3 _)
  obtain ⟨V4, hV4⟩ : ∃ W, w4.setCell ⟨x, 3, none⟩ (.int .i64 (x3 : Int)) = W := ⟨_, rfl⟩
  rw [hV4] at M4
  clear h3 hr hg M3 N3
  clear o2 f2
  go_wp2_with fail
  refine (number_at b s k4 1000000 hs hk4 _ M4.out.1 _ rfl).mono ?_
  intro e w5 hd
  cases h4 : numAt s 1000000 k4 with
  | none =>
    rw [h4] at hd
    obtain ⟨rfl, hg⟩ := hd
    have HR : Hid (msgAt s = none) := (show _ = _ by simp [msgAt, H0.out, H1.out, H2.out, H3.out, h4])
    clear h4
    go_wp2
    rw [HR.out]
    exact And.intro rfl (And.intro rfl (M4.out.2.2.2.trans hg))
  | some p =>
  obtain ⟨x4, k5⟩ := p
  rw [h4] at hd
  obtain ⟨rfl, hr, hg⟩ := hd
  have hk5 := (numAt_fits hk4 h4).2.2.2.1
  have H4 := hid h4
  have N4 := hid (M4.out.next hr hg)
  have o4 := N4.out.2.2.1.cell (j := 4) rfl
  have f4 := N4.out.2.2.1.thaw 4
  have M5 : Hid (MIn w (w5.setCell ⟨x, 4, none⟩ (.int .i64 (x4 : Int))) b s k5 x [.int .i64 (x0 : Int), .int .i64 (x1 : Int), .int .i64 (x2 : Int), .int .i64 (x3 : Int), .int .i64 (x4 : Int), .int .i64 0, .int .i64 0, .bool false, .slice none 0 0, .slice none 0 0, .string ⟨#[]⟩, .bool false]) := hid (N4.out.put hlt 4 _)
  obtain ⟨V5, hV5⟩ : ∃ W, w5.setCell ⟨x, 4, none⟩ (.int .i64 (x4 : Int)) = W := ⟨_, rfl⟩
  rw [hV5] at M5
  clear h4 hr hg M4 N4
  clear o3 f3
  go_wp2_with fail
  refine (number_at b s k5 100000 hs hk5 _ M5.out.1 _ rfl).mono ?_
  intro e w6 hd
  cases h5 : numAt s 100000 k5 with
  | none =>
    rw [h5] at hd
    obtain ⟨rfl, hg⟩ := hd
    have HR : Hid (msgAt s = none) := (show _ = _ by simp [msgAt, H0.out, H1.out, H2.out, H3.out, H4.out, h5])
    clear h5
    go_wp2
    rw [HR.out]
    exact And.intro rfl (And.intro rfl (M5.out.2.2.2.trans hg))
  | some p =>
  obtain ⟨x5, k6⟩ := p
  rw [h5] at hd
  obtain ⟨rfl, hr, hg⟩ := hd
  have hk6 := (numAt_fits hk5 h5).2.2.2.1
  have H5 := hid h5
  have N5 := hid (M5.out.next hr hg)
  have o5 := N5.out.2.2.1.cell (j := 5) rfl
  have f5 := N5.out.2.2.1.thaw 5
  have M6 : Hid (MIn w (w6.setCell ⟨x, 5, none⟩ (.int .i64 (x5 : Int))) b s k6 x [.int .i64 (x0 : Int), .int .i64 (x1 : Int), .int .i64 (x2 : Int), .int .i64 (x3 : Int), .int .i64 (x4 : Int), .int .i64 (x5 : Int), .int .i64 0, .bool false, .slice none 0 0, .slice none 0 0, .string ⟨#[]⟩, .bool false]) := hid (N5.out.put hlt 5 _)
  obtain ⟨V6, hV6⟩ : ∃ W, w6.setCell ⟨x, 5, none⟩ (.int .i64 (x5 : Int)) = W := ⟨_, rfl⟩
  rw [hV6] at M6
  clear h5 hr hg M5 N5
  clear o4 f4
  go_wp2_with fail
  refine (number_at b s k6 1000000 hs hk6 _ M6.out.1 _ rfl).mono ?_
  intro e w7 hd
  cases h6 : numAt s 1000000 k6 with
  | none =>
    rw [h6] at hd
    obtain ⟨rfl, hg⟩ := hd
    have HR : Hid (msgAt s = none) := (show _ = _ by simp [msgAt, H0.out, H1.out, H2.out, H3.out, H4.out, H5.out, h6])
    clear h6
    go_wp2
    rw [HR.out]
    exact And.intro rfl (And.intro rfl (M6.out.2.2.2.trans hg))
  | some p =>
  obtain ⟨x6, k7⟩ := p
  rw [h6] at hd
  obtain ⟨rfl, hr, hg⟩ := hd
  have hk7 := (numAt_fits hk6 h6).2.2.2.1
  have H6 := hid h6
  have N6 := hid (M6.out.next hr hg)
  have o6 := N6.out.2.2.1.cell (j := 6) rfl
  have f6 := N6.out.2.2.1.thaw 6
  have M7 : Hid (MIn w (w7.setCell ⟨x, 6, none⟩ (.int .i64 (x6 : Int))) b s k7 x [.int .i64 (x0 : Int), .int .i64 (x1 : Int), .int .i64 (x2 : Int), .int .i64 (x3 : Int), .int .i64 (x4 : Int), .int .i64 (x5 : Int), .int .i64 (x6 : Int), .bool false, .slice none 0 0, .slice none 0 0, .string ⟨#[]⟩, .bool false]) := hid (N6.out.put hlt 6 _)
  obtain ⟨V7, hV7⟩ : ∃ W, w7.setCell ⟨x, 6, none⟩ (.int .i64 (x6 : Int)) = W := ⟨_, rfl⟩
  rw [hV7] at M7
  clear h6 hr hg M6 N6
  clear o5 f5
  go_wp2_with fail
  refine (flag_at b s k7 hs hk7 _ M7.out.1).mono ?_
  intro e w8 hd
  cases h7 : flagAt s k7 with
  | none =>
    rw [h7] at hd
    obtain ⟨rfl, hg⟩ := hd
    have HR : Hid (msgAt s = none) := (show _ = _ by simp [msgAt, H0.out, H1.out, H2.out, H3.out, H4.out, H5.out, H6.out, h7])
    clear h7
    go_wp2
    rw [HR.out]
    exact And.intro rfl (And.intro rfl (M7.out.2.2.2.trans hg))
  | some p =>
  obtain ⟨x7, k8⟩ := p
  rw [h7] at hd
  obtain ⟨rfl, hr, hg⟩ := hd
  have hk8 := flagAt_fits h7
  have H7 := hid h7
  have N7 := hid (M7.out.next hr hg)
  have o7 := N7.out.2.2.1.cell (j := 7) rfl
  have f7 := N7.out.2.2.1.thaw 7
  have M8 : Hid (MIn w (w8.setCell ⟨x, 7, none⟩ (.bool x7)) b s k8 x [.int .i64 (x0 : Int), .int .i64 (x1 : Int), .int .i64 (x2 : Int), .int .i64 (x3 : Int), .int .i64 (x4 : Int), .int .i64 (x5 : Int), .int .i64 (x6 : Int), .bool x7, .slice none 0 0, .slice none 0 0, .string ⟨#[]⟩, .bool false]) := hid (N7.out.put hlt 7 _)
  obtain ⟨V8, hV8⟩ : ∃ W, w8.setCell ⟨x, 7, none⟩ (.bool x7) = W := ⟨_, rfl⟩
  rw [hV8] at M8
  clear h7 hr hg M7 N7
  clear o6 f6
  go_wp2_with fail
  refine (flag_at b s k8 hs hk8 _ M8.out.1).mono ?_
  intro e w9 hd
  cases h8 : flagAt s k8 with
  | none =>
    rw [h8] at hd
    obtain ⟨rfl, hg⟩ := hd
    have HR : Hid (msgAt s = none) := (show _ = _ by simp [msgAt, H0.out, H1.out, H2.out, H3.out, H4.out, H5.out, H6.out, H7.out, h8])
    clear h8
    go_wp2
    rw [HR.out]
    exact And.intro rfl (And.intro rfl (M8.out.2.2.2.trans hg))
  | some p =>
  obtain ⟨x8, k9⟩ := p
  rw [h8] at hd
  obtain ⟨rfl, hr, hg⟩ := hd
  have hk9 := flagAt_fits h8
  have H8 := hid h8
  have N8 := hid (M8.out.next hr hg)
  have o8 := N8.out.2.2.1.cell (j := 11) rfl
  have f8 := N8.out.2.2.1.thaw 11
  have M9 : Hid (MIn w (w9.setCell ⟨x, 11, none⟩ (.bool x8)) b s k9 x [.int .i64 (x0 : Int), .int .i64 (x1 : Int), .int .i64 (x2 : Int), .int .i64 (x3 : Int), .int .i64 (x4 : Int), .int .i64 (x5 : Int), .int .i64 (x6 : Int), .bool x7, .slice none 0 0, .slice none 0 0, .string ⟨#[]⟩, .bool x8]) := hid (N8.out.put hlt 11 _)
  obtain ⟨V9, hV9⟩ : ∃ W, w9.setCell ⟨x, 11, none⟩ (.bool x8) = W := ⟨_, rfl⟩
  rw [hV9] at M9
  clear h8 hr hg M8 N8
  clear o7 f7
  go_wp2_with fail
  refine (number_at b s k9 4 hs hk9 _ M9.out.1 _ rfl).mono ?_
  intro e w10 hd
  cases h9 : numAt s 4 k9 with
  | none =>
    rw [h9] at hd
    obtain ⟨rfl, hg⟩ := hd
    have HR : Hid (msgAt s = none) := (show _ = _ by simp [msgAt, H0.out, H1.out, H2.out, H3.out, H4.out, H5.out, H6.out, H7.out, H8.out, h9])
    clear h9
    go_wp2
    rw [HR.out]
    exact And.intro rfl (And.intro rfl (M9.out.2.2.2.trans hg))
  | some p =>
  obtain ⟨n, k10⟩ := p
  rw [h9] at hd
  obtain ⟨rfl, hr, hg⟩ := hd
  have hf9 := numAt_fits hk9 h9
  have hn4 := hf9.1
  have hk10 := hf9.2.2.2.1
  have H9 := hid h9
  have M10 := hid (M9.out.next hr hg)
  clear h9 hf9 hr hg M9 o8 f8
  go_wp2
  go_loopg [33] n (fun g i wr => ∃ (k : Nat) (L : List EntD) (kk : Nat) (va : Option Addr) (vc : Nat), L.length + g = n ∧ k = L.length ∧ i = .int .i64 k ∧ kk ≤ s.size ∧ Hid (MIn w wr b s kk x [.int .i64 (x0 : Int), .int .i64 (x1 : Int), .int .i64 (x2 : Int), .int .i64 (x3 : Int), .int .i64 (x4 : Int), .int .i64 (x5 : Int), .int .i64 (x6 : Int), .bool x7, .slice va L.length vc, .slice none 0 0, .string ⟨#[]⟩, .bool x8]) ∧ Hid (wr.ownsRow w.heap.size 57 3 (.slice va L.length vc) L.length (entCells L)) ∧ Hid (sentsAt s n k10 = (sentsAt s g kk).map fun q => (L ++ q.1, q.2)))
  case atStart => exact ⟨0, [], k10, none, 0, by simp, rfl, rfl, hk10, M10.out, (show World.ownsRow _ _ _ _ _ _ _ from ⟨rfl, Or.inl ⟨rfl, rfl⟩⟩), (show _ = _ by cases sentsAt s n k10 <;> simp)⟩
  case round =>
    obtain ⟨k, L, kk, va, vc, hkg, rfl, rfl, hkk, KR, RR, HE⟩ := hrel
    clear M10
    cases gk with
    | succ g =>
      have hlt' : (L.length : Int) < (n : Int) := by omega
      have hltn : L.length < n := by omega
      have hltd : decide ((L.length : Int) < (n : Int)) = true := by simp; omega
      have k8 := KR.out.2.2.1.cell (j := 8) rfl
      have hbl := BlockIs.lt KR.out.1
      cases hsa : sentAt s kk with
      | none =>
        have HR : Hid (msgAt s = none) := (show _ = _ by have := HE.out; rw [sentsAt, hsa] at this; simp only [Option.bind_none, Option.map_none] at this; simp [msgAt, H0.out, H1.out, H2.out, H3.out, H4.out, H5.out, H6.out, H7.out, H8.out, H9.out, this])
        have cN := hid (fun W (h : RdIs W b s kk) => entry_at b s kk hs hkk W h)
        rw [hsa] at cN
        clear hsa
        go_wp2
        refine wp_region_any (by kernel_rfl) ?_
        refine wpAny_take (i := 0) (v := (.pointer (some ⟨x, 8, none⟩))) rfl (by kernel_rfl) (by kernel_rfl) (by kernel_rfl) (fun _ _ _ h => h) (Or.inl ⟨by rfl, by intro w; go_simp⟩) ?_
        refine wpAny_take (i := 2) (v := (.pointer (some ⟨b, 0, none⟩))) rfl (by kernel_rfl) (by kernel_rfl) (by kernel_rfl) (fun _ _ _ h => h) (Or.inl ⟨by rfl, by intro w; go_simp⟩) ?_
        refine wpAny_ready (rs := [1, 3]) (by kernel_rfl) (by simp) (AllReady.cons rfl (fun K hK => ?_) (AllReady.cons rfl (fun K hK => ?_) AllReady.nil))
        · go_simp
          refine hK _ _ ?_
          clear hK K
          refine wpAny_ready (rs := [3]) (by kernel_rfl) (by simp) (AllReady.cons rfl (fun K hK => ?_) AllReady.nil)
          go_simp
          refine (cN.out wr.drew KR.out.1).mono ?_
          rintro e w4 ⟨rfl, hg⟩
          exact And.intro rfl (show msgDid (msgAt s) s b w _ _ by rw [HR.out]; exact And.intro rfl (KR.out.2.2.2.trans ((grown_draws _ _ 1).trans hg)))
        · go_simp
          refine (cN.out wr.drew KR.out.1).mono ?_
          rintro e w4 ⟨rfl, hg⟩
          exact And.intro rfl (show msgDid (msgAt s) s b w _ _ by rw [HR.out]; exact And.intro rfl (KR.out.2.2.2.trans ((grown_draws _ _ 1).trans hg)))
      | some p =>
        obtain ⟨d, k'⟩ := p
        have hk' := sentAt_fits hkk hsa
        have HN : Hid (sentsAt s n k10 = (sentsAt s g k').map fun q => ((L ++ [d]) ++ q.1, q.2)) := (show _ = _ by rw [HE.out, sentsAt, hsa]; simp only [Option.bind_some]; cases sentsAt s g k' <;> simp)
        have cN := hid (fun W (h : RdIs W b s kk) => entry_at b s kk hs hkk W h)
        rw [hsa] at cN
        clear hsa HE
        go_wp2
        refine wp_region_from (N := 54) (by kernel_rfl) (by kernel_rfl) rfl (by kernel_rfl) (fun W => BlockIs W w.heap.size 39 [.int .i64 0, .int .i64 0, .int .i64 0, .int .i64 0, .int .i64 0, .int .i64 0, .int .i64 0, .bool false, .slice none 0 0, .slice none 0 0, .string ⟨#[]⟩, .bool false] ∧ w.grownBy W (some b)) (fun j v u W => match j with | 0 => v = .pointer (some ⟨x, 8, none⟩) | 1 => v = .slice va L.length vc | 2 => v = .pointer (some ⟨b, 0, none⟩) | 3 => v = .agg #[.int .i64 d.term, .int .i64 d.kind, .string d.data] ∧ RdIs W b s k' | 4 => ∃ g : Nat, v = .slice (some ⟨g, 0, none⟩) 1 1 ∧ w.heap.size ≤ g ∧ BlockIs W g 57 [.int .i64 d.term, .int .i64 d.kind, .string d.data] | 5 => ∃ (va' : Option Addr) (vc' : Nat), v = .slice va' (L.length + 1) vc' ∧ W.ownsRow w.heap.size 57 3 (.slice va' (L.length + 1) vc') (L.length + 1) (entCells L ++ entEnc d) | 6 => v = .pointer (some ⟨x, 8, none⟩) | 7 => ∃ (va' : Option Addr) (vc' : Nat), u = .slice va' (L.length + 1) vc' ∧ W.ownsRow w.heap.size 57 3 (.slice va' (L.length + 1) vc') (L.length + 1) (entCells L ++ entEnc d) ∧ BlockIs W x 39 [.int .i64 (x0 : Int), .int .i64 (x1 : Int), .int .i64 (x2 : Int), .int .i64 (x3 : Int), .int .i64 (x4 : Int), .int .i64 (x5 : Int), .int .i64 (x6 : Int), .bool x7, .slice va' (L.length + 1) vc', .slice none 0 0, .string ⟨#[]⟩, .bool x8] | _ => True) (fun i => if i = 7 then 5 else i) (fun j i => decide ((j, i) ∈ ([(4, 5)] : List (Nat × Nat)))) (fun i x y => x.heap.size ≤ y.heap.size ∧ ∀ g ty cs, BlockIs x g ty cs → (i = 5 → ty ≠ 57) → (i = 7 → ty ≠ 39) → (i = 3 → ty ≠ 157) → BlockIs y g ty cs) (fun q9 W => match q9 with | 0 => W.ownsRow w.heap.size 57 3 (.slice va L.length vc) L.length (entCells L) | 1 => BlockIs W x 39 [.int .i64 (x0 : Int), .int .i64 (x1 : Int), .int .i64 (x2 : Int), .int .i64 (x3 : Int), .int .i64 (x4 : Int), .int .i64 (x5 : Int), .int .i64 (x6 : Int), .bool x7, .slice va L.length vc, .slice none 0 0, .string ⟨#[]⟩, .bool x8] | 2 => RdIs W b s kk | _ => True) (fun m k => decide ((m, k) ∈ ([(0, 5), (1, 7), (2, 3)] : List (Nat × Nat)))) ?_ (fun i => if i = 7 then 40 else 0) (by kernel_rfl) (fun i hi => by have : 8 ≤ i := hi; simp; omega) ?_ ⟨KR.out.2.1, KR.out.2.2.2.trans (grown_draws _ _ 1)⟩ (fun q9 => match q9 with | 0 => RR.out | 1 => KR.out.2.2.1 | 2 => KR.out.1 | _ + 3 => trivial) ?_ ?_
        · intro i m x y hen hxy hm
          match m, hen, hm with
          | 0, hen, hm =>
            simp at hen
            exact row_ext hm fun g cs hg => hxy.2 _ _ _ hg (fun e => absurd e hen) (fun _ => by decide) (fun _ => by decide)
          | 1, hen, hm =>
            simp at hen
            exact hxy.2 _ _ _ hm (fun _ => by decide) (fun e => absurd e hen) (fun _ => by decide)
          | 2, hen, hm =>
            simp at hen
            exact hxy.2 _ _ _ hm (fun _ => by decide) (fun _ => by decide) (fun e => absurd e hen)
          | n + 3, _, _ => exact trivial
        · intro i j v u x y hij hdd hwt hxy hg
          match j, hg with
          | 0, hg => exact hg
          | 1, hg => exact hg
          | 2, hg => exact hg
          | 3, hg =>
            obtain ⟨e1, e2⟩ := hg
            exact ⟨e1, hxy.2 _ _ _ e2 (fun _ => by decide) (fun _ => by decide) (fun e => absurd e hij)⟩
          | 4, hg =>
            obtain ⟨g, e1, e2, e3⟩ := hg
            simp at hdd
            exact ⟨g, e1, e2, hxy.2 _ _ _ e3 (fun e => absurd e hdd) (fun _ => by decide) (fun _ => by decide)⟩
          | 5, hg =>
            obtain ⟨va', vc', e1, e2⟩ := hg
            exact ⟨va', vc', e1, row_ext e2 fun g cs hg => hxy.2 _ _ _ hg (fun e => absurd e hij) (fun _ => by decide) (fun _ => by decide)⟩
          | 6, hg => exact hg
          | 7, hg =>
            obtain ⟨va', vc', e1, e2, e3⟩ := hg
            have h6 : i ≠ 5 := by rintro rfl; exact Bool.noConfusion (hwt.symm.trans (by kernel_rfl : waitsB _ 7 5 = true))
            exact ⟨va', vc', e1, row_ext e2 fun g cs hg => hxy.2 _ _ _ hg (fun e => absurd e h6) (fun _ => by decide) (fun _ => by decide), hxy.2 _ _ _ e3 (fun _ => by decide) (fun e => absurd e hij) (fun _ => by decide)⟩
          | n + 8, _ => exact trivial
        · refine ⟨?_, ?_, ?_, ?_, ?_, ?_, ?_, ?_, trivial⟩
          · intro A W hC hI hg hb
            have h3 : A.eval (.tmp 3) = .pointer (some ⟨x, 0, none⟩) := hb 3 (base_of (by kernel_rfl))
            exact does_value (v := .pointer (some ⟨x, 8, none⟩)) (w' := W) (by simp only [execOp, h3]; simp [go_sem]) ⟨rfl, hC, Nat.le_refl _, fun _ _ _ h _ _ _ => h⟩
          · intro A W hC hI hg hb
            have h35 : A.eval (.tmp 35) = .pointer (some ⟨x, 8, none⟩) := hg 0 35 (by decide) rfl (by simp [Op.operands]) (by kernel_rfl) rfl
            have hb1 : BlockIs W x 39 [.int .i64 (x0 : Int), .int .i64 (x1 : Int), .int .i64 (x2 : Int), .int .i64 (x3 : Int), .int .i64 (x4 : Int), .int .i64 (x5 : Int), .int .i64 (x6 : Int), .bool x7, .slice va L.length vc, .slice none 0 0, .string ⟨#[]⟩, .bool x8] := hI 1 (by kernel_rfl)
            have hc := hb1.cell (j := 8) rfl
            exact does_value (v := .slice va L.length vc) (w' := W) (by simp only [execOp, h35]; simp [go_sem, hc]) ⟨rfl, hC, Nat.le_refl _, fun _ _ _ h _ _ _ => h⟩
          · intro A W hC hI hg hb
            have h0 : A.eval (.tmp 0) = .pointer (some ⟨b, 0, none⟩) := hb 0 (base_of (by kernel_rfl))
            exact does_value (v := .pointer (some ⟨b, 0, none⟩)) (w' := W) (by simp only [execOp, h0]; simp [go_sem]) ⟨rfl, hC, Nat.le_refl _, fun _ _ _ h _ _ _ => h⟩
          · intro A W hC hI hg hb
            have h37 : A.eval (.tmp 37) = .pointer (some ⟨b, 0, none⟩) := hg 2 37 (by decide) rfl (by simp [Op.operands, Call.operands]) (by kernel_rfl) rfl
            have hrd : RdIs W b s kk := hI 2 (by kernel_rfl)
            simp [go_sem] at h37
            refine does_enter (f := 91) (args := #[.pointer (some ⟨b, 0, none⟩)]) (w' := W) (by simp [go_sem, h37]) ?_
            refine (cN.out W hrd).mono ?_
            rintro e W' ⟨rfl, hr', hg'⟩
            have hfb : ∀ p ty cs, BlockIs W p ty cs → ty ≠ 157 → BlockIs W' p ty cs := fun p ty cs hp hne => blk_grown hp hg' (fun e => by subst e; exact hne (block_one hp hrd).1)
            exact ⟨_, rfl, ⟨rfl, hr'⟩, ⟨hfb _ _ _ hC.1 (by decide), hC.2.trans hg'⟩, hg'.size, fun p ty cs hp _ _ hne => hfb p ty cs hp (hne rfl)⟩
          · intro A W hC hI hg hb
            have g3 := hg 3 38 (by decide) rfl (by simp [Op.operands]) (by kernel_rfl) rfl
            obtain ⟨h38, _⟩ := g3
            simp [go_sem] at h38
            have ba := below_more (Below.refl W.heap.size W) (.cells #[.int .i64 d.term, .int .i64 d.kind, .string d.data] 57)
            have hsz : w.heap.size ≤ W.heap.size := hC.2.size
            exact does_value (v := .slice (some ⟨W.heap.size, 0, none⟩) 1 1) (w' := W.alloc (.cells #[.int .i64 d.term, .int .i64 d.kind, .string d.data] 57)) (by simp [execOp, go_sem, h38]) ⟨⟨_, rfl, hsz, heap_alloc_new W _⟩, ⟨hC.1.on ba hC.1.lt, grown_new hC.2 _⟩, ba.size, fun p ty cs hp _ _ _ => hp.on ba hp.lt⟩
          · intro A W hC hI hg hb
            have h36 : A.eval (.tmp 36) = .slice va L.length vc := hg 1 36 (by decide) rfl (by simp [Op.operands, Call.operands]) (by kernel_rfl) rfl
            have g4 := hg 4 39 (by decide) rfl (by simp [Op.operands, Call.operands]) (by kernel_rfl) rfl
            obtain ⟨g, h39, hgl, hbl⟩ := g4
            have hrow : W.ownsRow w.heap.size 57 3 (.slice va L.length vc) L.length (entCells L) := hI 0 (by kernel_rfl)
            have hsz : w.heap.size ≤ W.heap.size := hC.2.size
            obtain ⟨v', W', hrn, h2, h3⟩ := append_one (d := d) (by omega) hsz hrow hbl
            obtain ⟨va', vc', rfl⟩ := row_shape h2
            have hfb : ∀ p ty cs, BlockIs W p ty cs → ty ≠ 57 → BlockIs W' p ty cs := fun p ty cs hp hne => block_grownM hp hrow h3 hne
            refine does_value (v := .slice va' (L.length + 1) vc') (w' := W') (by simp only [execOp, resolve, invoke, builtin, Sem.run_bind, Sem.run_pure, Result.andThen_ok, List.map_toArray, List.map_cons, List.map_nil, h36, h39, hrn]) ⟨⟨va', vc', rfl, h2⟩, ⟨hfb _ _ _ hC.1 (by decide), grown_rowM hC.2 h3 (fun g hg => row_lowM hrow hg)⟩, h3.size, fun p ty cs hp hne _ _ => hfb p ty cs hp (hne rfl)⟩
          · intro A W hC hI hg hb
            have h3 : A.eval (.tmp 3) = .pointer (some ⟨x, 0, none⟩) := hb 3 (base_of (by kernel_rfl))
            exact does_value (v := .pointer (some ⟨x, 8, none⟩)) (w' := W) (by simp only [execOp, h3]; simp [go_sem]) ⟨rfl, hC, Nat.le_refl _, fun _ _ _ h _ _ _ => h⟩
          · intro A W hC hI hg hb
            have h41 : A.eval (.tmp 41) = .pointer (some ⟨x, 8, none⟩) := hg 6 41 (by decide) rfl (by simp [Op.operands]) (by kernel_rfl) rfl
            have g5 := hg 5 40 (by decide) rfl (by simp [Op.operands]) (by kernel_rfl) rfl
            obtain ⟨va', vc', h40, hrow⟩ := g5
            have hb1 : BlockIs W x 39 [.int .i64 (x0 : Int), .int .i64 (x1 : Int), .int .i64 (x2 : Int), .int .i64 (x3 : Int), .int .i64 (x4 : Int), .int .i64 (x5 : Int), .int .i64 (x6 : Int), .bool x7, .slice va L.length vc, .slice none 0 0, .string ⟨#[]⟩, .bool x8] := hI 1 (by kernel_rfl)
            have c2 := hb1.cell (j := 8) rfl
            have f2 := hb1.thaw 8
            have hfb : ∀ p ty cs, BlockIs W p ty cs → ty ≠ 39 → BlockIs (W.setCell ⟨x, 8, none⟩ (.slice va' (L.length + 1) vc')) p ty cs := fun p ty cs hp hne => hp.far (by intro e; subst e; exact hne (block_one hp hb1).1) _
            exact does_skip (w' := W.setCell ⟨x, 8, none⟩ (.slice va' (L.length + 1) vc')) (by simp only [execOp, h41, h40]; simp [go_sem, c2, f2]) ⟨⟨va', vc', h40, row_ext hrow fun g cs hg => hfb g _ cs hg (by decide), hb1.set 8 _⟩, ⟨hC.1.far (by omega) _, grown_put hC.2 (by omega) _⟩, by simp [World.size_setCell], fun p ty cs hp _ hne _ => hfb p ty cs hp (hne rfl)⟩
        intro vs wE hC _ hg
        obtain ⟨va', vc', hu, ho, hb9⟩ := hg 7 (by decide) (fun k => by simp)
        change vs 5 = _ at hu
        have hrd := (hg 3 (by decide) (fun k => by simp)).2
        clear hg
        have KN : Hid (MIn w wE b s k' x _) := ⟨hrd, hC.1, hb9, hC.2⟩
        have RN := hid ho
        clear hrd hb9 ho hC k8 KR RR cN hbl
        change Exit.inBlock _ _ _ (laidBy _ vs _ 8 _) wE
        simp only [laidBy, if_true, dstAt, List.getElem?_toArray, List.getElem?_cons_succ, List.getElem?_cons_zero, Option.bind_some]
        simp only [Act.put, List.setIfInBounds_toArray, List.set_cons_succ, List.set_cons_zero]
        try rw [hu]
        clear hu
        have hL1 : L.length + 1 = (L ++ [d]).length := by simp
        have es : entCells (L ++ [d]) = entCells L ++ entEnc d := by simp [entCells]
        go_wp2
        go_roundg g
        case measure => omega
        case rel =>
          have RN2 : Hid (wE.ownsRow w.heap.size 57 3 (.slice va' (L ++ [d]).length vc') (L ++ [d]).length (entCells (L ++ [d]))) := (show World.ownsRow _ _ _ _ _ _ _ by rw [← hL1, es]; exact RN.out)
          have KN2 : Hid (MIn w wE b s k' x [.int .i64 (x0 : Int), .int .i64 (x1 : Int), .int .i64 (x2 : Int), .int .i64 (x3 : Int), .int .i64 (x4 : Int), .int .i64 (x5 : Int), .int .i64 (x6 : Int), .bool x7, .slice va' (L ++ [d]).length vc', .slice none 0 0, .string ⟨#[]⟩, .bool x8]) := (show MIn _ _ _ _ _ _ _ by rw [← hL1]; exact KN.out)
          exact ⟨_, L ++ [d], k', va', vc', by simp; omega, rfl, by rw [← hL1]; exact (show Value.int IntKind.i64 ((L.length : Int) + 1) = Value.int IntKind.i64 ((L.length + 1 : Nat) : Int) from rfl), hk', KN2.out, RN2.out, HN.out⟩
    | zero =>
      have hlt' : ¬ (L.length : Int) < (n : Int) := by omega
      have hlt0 : ¬ L.length < n := by omega
      have hltd : decide (L.length < n) = false := by simp; omega
      have HQ : Hid (sentsAt s n k10 = some (L, kk)) := (show _ = _ by have := HE.out; rw [sentsAt] at this; simpa using this)
      clear HE
      go_wp2_with fail
      refine (confOrNone_at b s kk hs hkk _ KR.out.1).mono ?_
      intro e w12 hd
      cases h10 : confAt17 s kk with
      | none =>
        rw [h10] at hd
        obtain ⟨rfl, hg⟩ := hd
        have HR : Hid (msgAt s = none) := (show _ = _ by simp [msgAt, H0.out, H1.out, H2.out, H3.out, H4.out, H5.out, H6.out, H7.out, H8.out, H9.out, HQ.out, h10])
        clear h10
        go_wp2
        rw [HR.out]
        exact And.intro rfl (And.intro rfl (KR.out.2.2.2.trans hg))
      | some p =>
      obtain ⟨zs, k12⟩ := p
      rw [h10] at hd
      obtain ⟨v, rfl, hr, hg, ho⟩ := hd
      obtain ⟨vb, vd, rfl⟩ := row_shape ho
      have hk12 := confAt_fits hkk h10
      have HQ2 := hid h10
      have hre : w12.ownsRow w.heap.size 57 3 (.slice va L.length vc) L.length (entCells L) := row_ext RR.out fun g cs h9 => blk_grown h9 hg (fun e => by rw [e] at h9; exact absurd (block_one h9 KR.out.1).1 (by decide))
      have hri := row_down ho KR.out.2.2.2.size
      have N12 := hid (KR.out.next hr hg)
      have o9 := N12.out.2.2.1.cell (j := 9) rfl
      have f9 := N12.out.2.2.1.thaw 9
      have M12 : Hid (MIn w (w12.setCell ⟨x, 9, none⟩ (.slice vb zs.length vd)) b s k12 x [.int .i64 (x0 : Int), .int .i64 (x1 : Int), .int .i64 (x2 : Int), .int .i64 (x3 : Int), .int .i64 (x4 : Int), .int .i64 (x5 : Int), .int .i64 (x6 : Int), .bool x7, .slice va L.length vc, .slice vb zs.length vd, .string ⟨#[]⟩, .bool x8]) := hid (N12.out.put hlt 9 _)
      have RE12 := hid (row_ext hre fun g cs h9 => h9.far (by intro e; rw [← e] at h9; exact absurd (block_one h9 N12.out.2.2.1).1 (by decide)) (.slice vb zs.length vd) (b := x) (j := 9))
      have RI12 := hid (row_ext hri fun g cs h9 => h9.far (by intro e; rw [← e] at h9; exact absurd (block_one h9 N12.out.2.2.1).1 (by decide)) (.slice vb zs.length vd) (b := x) (j := 9))
      obtain ⟨V12, hV12⟩ : ∃ W, w12.setCell ⟨x, 9, none⟩ (.slice vb zs.length vd) = W := ⟨_, rfl⟩
      rw [hV12] at M12 RE12 RI12
      clear h10 hr hg ho hre hri KR RR N12 hlt' hlt0 hltd
      go_wp2_with fail
      refine (short_at b s k12 hs _ M12.out.1).mono ?_
      intro e w13 hd
      cases h11 : txtAt s k12 with
      | none =>
        rw [h11] at hd
        obtain ⟨rfl, hg⟩ := hd
        have HR : Hid (msgAt s = none) := (show _ = _ by simp [msgAt, H0.out, H1.out, H2.out, H3.out, H4.out, H5.out, H6.out, H7.out, H8.out, H9.out, HQ.out, HQ2.out, h11])
        clear h11
        go_wp2
        rw [HR.out]
        exact And.intro rfl (And.intro rfl (M12.out.2.2.2.trans hg))
      | some p =>
      obtain ⟨dt, k13⟩ := p
      rw [h11] at hd
      obtain ⟨rfl, hr, hg⟩ := hd
      have hf11 := txtAt_fits hk12 h11
      have hdt := hf11.1
      have hk13 := hf11.2.2.1
      have HQ3 := hid h11
      have hre : w13.ownsRow w.heap.size 57 3 (.slice va L.length vc) L.length (entCells L) := row_ext RE12.out fun g cs h9 => blk_grown h9 hg (fun e => by rw [e] at h9; exact absurd (block_one h9 M12.out.1).1 (by decide))
      have hri : w13.ownsRow w.heap.size 3 1 (.slice vb zs.length vd) zs.length (intCells zs) := row_ext RI12.out fun g cs h9 => blk_grown h9 hg (fun e => by rw [e] at h9; exact absurd (block_one h9 M12.out.1).1 (by decide))
      have N13 := hid (M12.out.next hr hg)
      have o10 := N13.out.2.2.1.cell (j := 10) rfl
      have f10 := N13.out.2.2.1.thaw 10
      have M13 : Hid (MIn w (w13.setCell ⟨x, 10, none⟩ (.string dt)) b s k13 x [.int .i64 (x0 : Int), .int .i64 (x1 : Int), .int .i64 (x2 : Int), .int .i64 (x3 : Int), .int .i64 (x4 : Int), .int .i64 (x5 : Int), .int .i64 (x6 : Int), .bool x7, .slice va L.length vc, .slice vb zs.length vd, .string dt, .bool x8]) := hid (N13.out.put hlt 10 _)
      have RE13 := hid (row_ext hre fun g cs h9 => h9.far (by intro e; rw [← e] at h9; exact absurd (block_one h9 N13.out.2.2.1).1 (by decide)) (.string dt) (b := x) (j := 10))
      have RI13 := hid (row_ext hri fun g cs h9 => h9.far (by intro e; rw [← e] at h9; exact absurd (block_one h9 N13.out.2.2.1).1 (by decide)) (.string dt) (b := x) (j := 10))
      obtain ⟨V13, hV13⟩ : ∃ W, w13.setCell ⟨x, 10, none⟩ (.string dt) = W := ⟨_, rfl⟩
      rw [hV13] at M13 RE13 RI13
      clear h11 hf11 hr hg hre hri M12 RE12 RI12 N13
      have m0 := M13.out.2.2.1.cell (j := 0) rfl
      have m1 := M13.out.2.2.1.cell (j := 1) rfl
      have m2 := M13.out.2.2.1.cell (j := 2) rfl
      have m3 := M13.out.2.2.1.cell (j := 3) rfl
      have m4 := M13.out.2.2.1.cell (j := 4) rfl
      have m5 := M13.out.2.2.1.cell (j := 5) rfl
      have m6 := M13.out.2.2.1.cell (j := 6) rfl
      have m7 := M13.out.2.2.1.cell (j := 7) rfl
      have m8 := M13.out.2.2.1.cell (j := 8) rfl
      have m9 := M13.out.2.2.1.cell (j := 9) rfl
      have m10 := M13.out.2.2.1.cell (j := 10) rfl
      have m11 := M13.out.2.2.1.cell (j := 11) rfl
      have hso := sentsAt_ok HQ.out
      have hzl := confAt_len HQ2.out
      have hsm : MsgD.Small (⟨(x0 : Int), (x1 : Int), (x2 : Int), (x3 : Int), (x4 : Int), (x5 : Int), (x6 : Int), x7, L, zs, dt, x8⟩ : MsgD) := ⟨by show L.length ≤ _; omega, fun f hf => by have := (entry_facts (hso.2 f hf)).2.2; omega, by show zs.length ≤ _; omega, by show dt.size ≤ _; omega⟩
      have cO' := implMessageOk_any (⟨(x0 : Int), (x1 : Int), (x2 : Int), (x3 : Int), (x4 : Int), (x5 : Int), (x6 : Int), x7, L, zs, dt, x8⟩ : MsgD) va vc vb vd hsm V13 (entsR_at RE13.out) (ints_row rfl RI13.out)
      dsimp only at cO'
      have HOR := hid (show msgAt s = if messageOk (⟨(x0 : Int), (x1 : Int), (x2 : Int), (x3 : Int), (x4 : Int), (x5 : Int), (x6 : Int), x7, L, zs, dt, x8⟩ : MsgD) = true then some ((⟨(x0 : Int), (x1 : Int), (x2 : Int), (x3 : Int), (x4 : Int), (x5 : Int), (x6 : Int), x7, L, zs, dt, x8⟩ : MsgD), k13) else none from by simp [msgAt, H0.out, H1.out, H2.out, H3.out, H4.out, H5.out, H6.out, H7.out, H8.out, H9.out, HQ.out, HQ2.out, HQ3.out])
      have hKN := hid hso.1
      clear hso hzl hsm
      cases hok : messageOk (⟨(x0 : Int), (x1 : Int), (x2 : Int), (x3 : Int), (x4 : Int), (x5 : Int), (x6 : Int), x7, L, zs, dt, x8⟩ : MsgD) with
      | false =>
        rw [hok] at cO' HOR
        have cO := hid cO'
        have HR : Hid (msgAt s = none) := (show _ = _ by rw [HOR.out]; exact if_neg (by decide))
        clear cO' hok HOR
        go_wp2_with fail
        refine cO.out.mono ?_
        rintro e w14 ⟨rfl, b14⟩
        have G14 := hid (M13.out.2.2.2.trans (grown_of_below b14 (some b)))
        clear b14 cO
        go_wp2_with fail
        refine (need_no (.pointer (some ⟨b, 0, none⟩)) _).mono ?_
        rintro e w15 ⟨rfl, hw15⟩
        rw [hw15]
        clear hw15
        go_wp2
        rw [HR.out]
        exact And.intro rfl (And.intro rfl G14.out)
      | true =>
        rw [hok] at cO' HOR
        have cO := hid cO'
        have HR : Hid (msgAt s = some ((⟨(x0 : Int), (x1 : Int), (x2 : Int), (x3 : Int), (x4 : Int), (x5 : Int), (x6 : Int), x7, L, zs, dt, x8⟩ : MsgD), k13)) := (show _ = _ by rw [HOR.out]; exact if_pos rfl)
        clear cO' hok HOR
        go_wp2_with fail
        refine cO.out.mono ?_
        rintro e w14 ⟨rfl, b14⟩
        have M14 := hid (M13.out.next (BlockIs.on M13.out.1 b14 (BlockIs.lt M13.out.1)) (grown_of_below b14 (some b)))
        have RE14 := hid (row_ext RE13.out fun g cs h9 => h9.on b14 h9.lt)
        have RI14 := hid (row_ext RI13.out fun g cs h9 => h9.on b14 h9.lt)
        clear b14 cO M13 RE13 RI13 m0 m1 m2 m3 m4 m5 m6 m7 m8 m9 m10 m11
        go_wp2_with fail
        refine (need_yes (.pointer (some ⟨b, 0, none⟩)) _).mono ?_
        rintro e w15 ⟨rfl, hw15⟩
        rw [hw15]
        clear hw15
        have m0 := M14.out.2.2.1.cell (j := 0) rfl
        have m1 := M14.out.2.2.1.cell (j := 1) rfl
        have m2 := M14.out.2.2.1.cell (j := 2) rfl
        have m3 := M14.out.2.2.1.cell (j := 3) rfl
        have m4 := M14.out.2.2.1.cell (j := 4) rfl
        have m5 := M14.out.2.2.1.cell (j := 5) rfl
        have m6 := M14.out.2.2.1.cell (j := 6) rfl
        have m7 := M14.out.2.2.1.cell (j := 7) rfl
        have m8 := M14.out.2.2.1.cell (j := 8) rfl
        have m9 := M14.out.2.2.1.cell (j := 9) rfl
        have m10 := M14.out.2.2.1.cell (j := 10) rfl
        have m11 := M14.out.2.2.1.cell (j := 11) rfl
        obtain ⟨VF, hVF⟩ : ∃ W, w14.setRow w.heap.size #[.int .i64 (x0 : Int), .int .i64 (x1 : Int), .int .i64 (x2 : Int), .int .i64 (x3 : Int), .int .i64 (x4 : Int), .int .i64 (x5 : Int), .int .i64 (x6 : Int), .bool x7, .slice va L.length vc, .slice vb zs.length vd, .string dt, .bool x8] = W := ⟨_, rfl⟩
        have PF : BlockIs VF w.heap.size 39 [.int .i64 (x0 : Int), .int .i64 (x1 : Int), .int .i64 (x2 : Int), .int .i64 (x3 : Int), .int .i64 (x4 : Int), .int .i64 (x5 : Int), .int .i64 (x6 : Int), .bool x7, .slice va L.length vc, .slice vb zs.length vd, .string dt, .bool x8] := by rw [← hVF]; exact whole_block M14.out.2.1 _
        have p0 := PF.cell (j := 0) rfl
        have p1 := PF.cell (j := 1) rfl
        have p2 := PF.cell (j := 2) rfl
        have p3 := PF.cell (j := 3) rfl
        have p4 := PF.cell (j := 4) rfl
        have p5 := PF.cell (j := 5) rfl
        have p6 := PF.cell (j := 6) rfl
        have p7 := PF.cell (j := 7) rfl
        have p8 := PF.cell (j := 8) rfl
        have p9 := PF.cell (j := 9) rfl
        have p10 := PF.cell (j := 10) rfl
        have p11 := PF.cell (j := 11) rfl
        clear PF
        go_wp2_with (first | (refine wpList_store_whole msg_size M14.out.2.1 rfl rfl _ _ rfl _ rfl rfl rfl (by simp [Value.oneCell']) ?_; rw [hVF]) | fail)
        refine bodyPost_ret (v := .agg #[.int .i64 (x0 : Int), .int .i64 (x1 : Int), .int .i64 (x2 : Int), .int .i64 (x3 : Int), .int .i64 (x4 : Int), .int .i64 (x5 : Int), .int .i64 (x6 : Int), .bool x7, .slice va L.length vc, .slice vb zs.length vd, .string dt, .bool x8]) (by simp [results, Tryz.results38, go_sem, p0, p1, p2, p3, p4, p5, p6, p7, p8, p9, p10, p11]) rfl ?_
        rw [HR.out]
        refine ⟨va, vc, vb, vd, rfl, ?_, ?_, ?_, ?_⟩
        · rw [← hVF]; exact whole_other M14.out.1 (fun e => by have h9 := M14.out.2.1; rw [e] at h9; exact absurd (block_one h9 M14.out.1).1 (by decide)) _
        · rw [← hVF]; exact grown_setRow M14.out.2.2.2 (Nat.le_refl _) _
        · rw [← hVF]; exact row_ext RE14.out fun g cs h9 => whole_other h9 (fun e => by rw [← e] at h9; exact absurd (block_one h9 M14.out.2.1).1 (by decide)) _
        · rw [← hVF]; exact row_ext RI14.out fun g cs h9 => whole_other h9 (fun e => by rw [← e] at h9; exact absurd (block_one h9 M14.out.2.1).1 (by decide)) _
end Go.Proofs.YtohmfmajgehadaaGreatDoor
