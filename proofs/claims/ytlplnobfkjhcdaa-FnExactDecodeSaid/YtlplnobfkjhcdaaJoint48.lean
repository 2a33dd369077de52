/-
  The walks of laws.markMessage, heldMessage over a message's rows of the call's own.
-/
import Derived.Test.YtlplnobfkjhcdaaJoint46
import Derived.Test.YtlplnobfkjhcdaaJoint47
import Derived.Test.YtlplnobfkjhcdaaJoint1
import Derived.Deep.LoopGhost
namespace Go.Proofs.Ytlplnobfkjhcdaa
open Go.RowKit Go.Sort

theorem row_blockM {w : World} {base size n : Nat} {t : TypeId} {va : Option Addr} {vc : Nat} {cs : List Value} (hn : 0 < n) (h : w.ownsRow base t size (.slice va n vc) n cs) : ∃ g r, va = some ⟨g, 0, none⟩ ∧ base ≤ g ∧ BlockIs w g t (cs ++ r) := by
  rcases h.2 with ⟨hv, h0⟩ | ⟨g, cp, cur, hv, hb, hh, hle, _, _, ht⟩
  · omega
  · simp only [Value.slice.injEq] at hv
    obtain ⟨rfl, _, rfl⟩ := hv
    have hcur : cur.toList = cs ++ cur.toList.drop (n * size) := by rw [← ht, List.take_append_drop]
    exact ⟨g, _, rfl, hb, by unfold BlockIs; rw [hh, ← hcur]⟩
theorem row_grownM2 {w w1 : World} {base base2 size size2 n n2 : Nat} {t t2 : TypeId} {v u : Value} {xs ys : List Value} (h : w.ownsRow base t size v n xs) (hr : w.ownsRow base2 t2 size2 u n2 ys) (hg : w.grownBy w1 u.ownBlock) (ht : t ≠ t2) : w1.ownsRow base t size v n xs := by
  refine row_ext h fun g cs hb => ?_
  have hlt := hb.lt
  unfold BlockIs at hb ⊢
  rw [hg.block g hlt ?_]
  · exact hb
  · intro e
    obtain ⟨cs2, h2, _⟩ := row_block hr e.symm
    unfold BlockIs at h2
    rw [hb] at h2
    simp only [Option.some.injEq, Obj.cells.injEq] at h2
    exact ht h2.2.1
theorem row_turnM {w w' : World} {base size n g c : Nat} {t : TypeId} {xs ys r : List Value} (h : w.ownsRow base t size (.slice (some ⟨g, 0, none⟩) n c) n xs) (h1 : BlockIs w g t (xs ++ r)) (h2 : BlockIs w' g t (ys ++ r)) (hl : ys.length = xs.length) : w'.ownsRow base t size (.slice (some ⟨g, 0, none⟩) n c) n ys := by
  rcases h.2 with ⟨hv, h0⟩ | ⟨g', cp, cur, hv, hb, hh, hle, hm, hs, ht⟩
  · cases hv
  · simp only [Value.slice.injEq, Option.some.injEq, Addr.mk.injEq] at hv
    obtain ⟨⟨rfl, _, _⟩, _, rfl⟩ := hv
    have hc : cur.toList = xs ++ r := by
      unfold BlockIs at h1
      rw [hh] at h1
      simp only [Option.some.injEq, Obj.cells.injEq, and_true] at h1
      rw [h1]
    refine ⟨by rw [hl]; exact h.1, Or.inr ⟨g, c, (ys ++ r).toArray, rfl, hb, h2, hle, hm, ?_, ?_⟩⟩
    · have : cur.size = (xs ++ r).length := by rw [← hc]; simp
      rw [List.size_toArray, List.length_append, hl, ← List.length_append, ← this, hs]
    · show (ys ++ r).take (n * size) = ys
      rw [← h.1, ← hl, List.take_left']
      rfl
theorem entsR_atM {w : World} {base : Nat} {va : Option Addr} {vc : Nat} {l : List EntD} (h : w.ownsRow base 37 3 (.slice va l.length vc) l.length (entCells l)) : EntsAt w va l := by
  intro hne
  obtain ⟨g, r, rfl, _, hb⟩ := row_blockM (List.length_pos_iff.2 hne) h
  exact entsAt_of hb hne
set_option maxRecDepth 1000000 in
theorem markEntryS_none (a : Option Addr) (c : Nat) (m : Int) (w : World) : Calls Try.prog 19 #[.slice a 0 c, .int .i64 m] w fun e w' => e = .returned (.int .i64 m) ∧ w' = w := by
  go_enter Try.func19, Try.ntmps19
  go_wp2
  go_loopg [1, 5] 0 (fun _ y i wr => wr = w ∧ i = .int .i64 0 ∧ y = .int .i64 m)
  case atStart => exact ⟨rfl, rfl, rfl⟩
  case round =>
    obtain ⟨rfl, rfl, rfl⟩ := hrel
    go_wp2
    go_ret
    exact ⟨rfl, rfl⟩
theorem markE_own (lo : Nat) (va : Option Addr) (vc m : Nat) (l : List EntD) (hm : m ≤ 10000000) (hl : l.length ≤ 1048576) (w : World) (h : w.ownsRow lo 37 3 (.slice va l.length vc) l.length (entCells l)) :
    Calls Try.prog 19 #[.slice va l.length vc, .int .i64 m] w fun e w' => e = .returned (.int .i64 ((m + 3 * l.length : Nat) : Int)) ∧ w'.ownsRow lo 37 3 (.slice va l.length vc) l.length (entCells (marksE m l.length)) ∧ w.grownBy w' (Value.slice va l.length vc).ownBlock := by
  by_cases h0 : l = []
  · subst h0
    refine Calls.mono (markEntryS_none va vc m w) ?_
    rintro e w' ⟨rfl, rfl⟩
    exact ⟨rfl, h, World.grownBy.refl _ _⟩
  · obtain ⟨g, r, rfl, hg, hb⟩ := row_blockM (List.length_pos_iff.2 h0) h
    refine Calls.mono (markEntryS_any g l vc m r hm hl w hb) ?_
    rintro e w' ⟨rfl, h2, h3⟩
    exact ⟨rfl, row_turnM h hb h2 (by rw [entCells_length, entCells_length, marksE_length]), h3⟩
theorem markC_own (lo : Nat) (va : Option Addr) (vc m : Nat) (zs : List Int) (hm : m ≤ 10000000) (hl : zs.length ≤ 1048576) (w : World) (h : w.ownsRow lo 3 1 (.slice va zs.length vc) zs.length (intCells zs)) :
    Calls Try.prog 20 #[.slice va zs.length vc, .int .i64 m] w fun e w' => e = .returned (.int .i64 ((m + zs.length : Nat) : Int)) ∧ IntsAt w' va (countFrom m zs.length) ∧ w.grownBy w' (Value.slice va zs.length vc).ownBlock := by
  by_cases h0 : zs = []
  · subst h0
    refine Calls.mono (markIntS_nil va vc m w) ?_
    rintro e w' ⟨rfl, rfl⟩
    exact ⟨rfl, fun q => absurd rfl q, World.grownBy.refl _ _⟩
  · obtain ⟨g, r, rfl, hg, hb⟩ := row_blockM (List.length_pos_iff.2 h0) h
    refine Calls.mono (markIntS_more g zs r vc m hm hl w hb) ?_
    rintro e w' ⟨rfl, ⟨r', hr⟩, h3⟩
    exact ⟨rfl, intsAt_of hr, h3⟩
/-- nothing but a message's rows was written -/
def MarkedM (lo : Nat) (v u : Value) (w w' : World) : Prop :=
  (∀ j t cs, BlockIs w j t cs → v.ownBlock ≠ some j → u.ownBlock ≠ some j → BlockIs w' j t cs) ∧ w.heap.size ≤ w'.heap.size ∧ ∀ w0, w0.heap.size ≤ lo → Below w0.heap.size w0 w → Below w0.heap.size w0 w'
theorem MarkedM.box {lo j : Nat} {v u : Value} {w w' : World} {t : TypeId} {cs : List Value} {n m : Nat} {xs ys : List Value} (h : MarkedM lo v u w w') (hb : BlockIs w j t cs) (h1 : w.ownsRow lo 37 3 v n xs) (h2 : w.ownsRow lo 3 1 u m ys) (t1 : t ≠ 37) (t2 : t ≠ 3) : BlockIs w' j t cs := by
  refine h.1 j t cs hb (fun e => ?_) (fun e => ?_)
  · obtain ⟨cs', hb', _⟩ := row_block h1 e
    exact t1 (block_one hb hb').1
  · obtain ⟨cs', hb', _⟩ := row_block h2 e
    exact t2 (block_one hb hb').1
theorem MarkedM.row {lo lo2 size n : Nat} {v u v2 : Value} {t : TypeId} {w w' : World} {xs : List Value} (h : MarkedM lo v u w w') (hr : w.ownsRow lo2 t size v2 n xs) (h1 : ∀ g, v2.ownBlock = some g → v.ownBlock ≠ some g ∧ u.ownBlock ≠ some g) : w'.ownsRow lo2 t size v2 n xs := by
  refine ⟨hr.1, hr.2.imp id ?_⟩
  rintro ⟨g, cap, cur, a, b, c, r⟩
  have hv : v2.ownBlock = some g := by rw [a]; rfl
  have := h.1 g t cur.toList (by unfold BlockIs; rw [c]) (h1 g hv).1 (h1 g hv).2
  unfold BlockIs at this
  exact ⟨g, cap, cur, a, b, by rw [this], r⟩

set_option maxRecDepth 1000000 in
set_option maxHeartbeats 2000000 in
theorem markMessage_own (lo : Nat) (x0 x1 x2 x3 x4 x5 x6 : Int) (y1 y2 : Bool) (td : ByteArray) (va vb : Option Addr) (vc vd : Nat) (l : List EntD) (zs : List Int) (hl : l.length ≤ 1048576) (hl2 : zs.length ≤ 1048576) (w : World) (h : w.ownsRow lo 37 3 (.slice va l.length vc) l.length (entCells l)) (h2 : w.ownsRow lo 3 1 (.slice vb zs.length vd) zs.length (intCells zs)) :
    Calls Try.prog 7 #[.agg #[.int .i64 x0, .int .i64 x1, .int .i64 x2, .int .i64 x3, .int .i64 x4, .int .i64 x5, .int .i64 x6, .bool y1, .slice va l.length vc, .slice vb zs.length vd, .string td, .bool y2], .int .i64 1] w fun e w' => e = .returned (.int .i64 ((1 + 3 * l.length + zs.length : Nat) : Int)) ∧ (w'.ownsRow lo 37 3 (.slice va l.length vc) l.length (entCells (marksE 1 l.length)) ∧ IntsAt w' vb (countFrom (1 + 3 * l.length) zs.length)) ∧ MarkedM lo (.slice va l.length vc) (.slice vb zs.length vd) w w' := by
  have bn := below_more (Below.refl w.heap.size w) (.cells #[.int .i64 x0, .int .i64 x1, .int .i64 x2, .int .i64 x3, .int .i64 x4, .int .i64 x5, .int .i64 x6, .bool y1, .slice va l.length vc, .slice vb zs.length vd, .string td, .bool y2] 25)
  have xn : BlockIs (w.alloc (.cells #[.int .i64 x0, .int .i64 x1, .int .i64 x2, .int .i64 x3, .int .i64 x4, .int .i64 x5, .int .i64 x6, .bool y1, .slice va l.length vc, .slice vb zs.length vd, .string td, .bool y2] 25)) w.heap.size 25 [.int .i64 x0, .int .i64 x1, .int .i64 x2, .int .i64 x3, .int .i64 x4, .int .i64 x5, .int .i64 x6, .bool y1, .slice va l.length vc, .slice vb zs.length vd, .string td, .bool y2] := heap_alloc_new w _
  have kn := row_ext h fun g cs h9 => h9.on bn h9.lt
  have cn := row_ext h2 fun g cs h9 => h9.on bn h9.lt
  obtain ⟨W, hW⟩ : ∃ W, w.alloc (.cells #[.int .i64 x0, .int .i64 x1, .int .i64 x2, .int .i64 x3, .int .i64 x4, .int .i64 x5, .int .i64 x6, .bool y1, .slice va l.length vc, .slice vb zs.length vd, .string td, .bool y2] 25) = W := ⟨_, rfl⟩
  rw [hW] at bn xn kn cn
  have q8 := xn.cell (j := 8) rfl
  have BN := hid bn
  have XN := hid xn
  have KN := hid kn
  have CN := hid cn
  have C : Hid (Calls Try.prog 19 #[.slice va l.length vc, .int .i64 1] W fun e w' => e = .returned (.int .i64 ((1 + 3 * l.length : Nat) : Int)) ∧ w'.ownsRow lo 37 3 (.slice va l.length vc) l.length (entCells (marksE 1 l.length)) ∧ W.grownBy w' (Value.slice va l.length vc).ownBlock) := markE_own lo va vc 1 l (by omega) hl W kn
  have D := hid (fun w hr => markC_own lo vb vd (1 + 3 * l.length) zs (by omega) hl2 w hr)
  clear bn xn kn cn h h2
  go_enter Try.func7, Try.ntmps7
  go_wp2_with fail
  refine Calls.mono C.out ?_
  rintro e w1 ⟨rfl, s1, g1⟩
  have q9 : w1.cell? ⟨w.heap.size, 9, none⟩ = some (.slice vb zs.length vd) := by
    have hb : BlockIs w1 w.heap.size 25 [.int .i64 x0, .int .i64 x1, .int .i64 x2, .int .i64 x3, .int .i64 x4, .int .i64 x5, .int .i64 x6, .bool y1, .slice va l.length vc, .slice vb zs.length vd, .string td, .bool y2] := by
      have hb := XN.out
      unfold BlockIs at hb ⊢
      rw [g1.block w.heap.size XN.out.lt (fun e => by obtain ⟨cs2, h2, _⟩ := row_block KN.out e.symm; exact absurd (block_one XN.out h2).1 (by decide))]
      exact hb
    exact hb.cell (j := 9) rfl
  have S1 := hid s1
  have I1 := hid (row_grownM2 CN.out KN.out g1 (by decide))
  have G1 := hid g1
  clear s1 g1 q8 C
  go_wp2_with fail
  refine Calls.mono (D.out w1 I1.out) ?_
  rintro e w2 ⟨rfl, i2, g2⟩
  have HE : Hid ((w2.ownsRow lo 37 3 (.slice va l.length vc) l.length (entCells (marksE 1 l.length)) ∧ IntsAt w2 vb (countFrom (1 + 3 * l.length) zs.length)) ∧ MarkedM lo (.slice va l.length vc) (.slice vb zs.length vd) w w2) := by
    refine ⟨⟨row_grownM2 S1.out I1.out g2 (by decide), i2⟩, fun j t cs hb h1 h2 => ?_, Nat.le_trans BN.out.size (Nat.le_trans G1.out.size g2.size), fun w0 hlo hb => ?_⟩
    · have b1 := hb.on BN.out hb.lt
      have b2 : BlockIs w1 j t cs := by unfold BlockIs; rw [G1.out.block j b1.lt (fun e => h1 e.symm)]; exact b1
      unfold BlockIs
      rw [g2.block j b2.lt (fun e => h2 e.symm)]
      exact b2
    · have b1 := hb.trans (BN.out.mono hb.size)
      have b2 := b1.grown G1.out b1.size (fun k e => by obtain ⟨_, _, h9⟩ := row_block KN.out e; omega)
      exact b2.grown g2 b2.size (fun k e => by obtain ⟨_, _, h9⟩ := row_block I1.out e; omega)
  clear i2 g2 D
  go_wp2
  go_ret
  exact ⟨rfl, HE.out⟩

set_option maxRecDepth 1000000 in
theorem heldMessage_own (x0 x1 x2 x3 x4 x5 x6 : Int) (y1 y2 : Bool) (td : ByteArray) (va vb : Option Addr) (n m vc vd : Nat) (hl : n ≤ 1048576) (hl2 : m ≤ 1048576) (w : World) (ha : EntsAt w va (marksE 1 n)) (hb : IntsAt w vb (countFrom (1 + 3 * n) m)) :
    Calls Try.prog 8 #[.agg #[.int .i64 x0, .int .i64 x1, .int .i64 x2, .int .i64 x3, .int .i64 x4, .int .i64 x5, .int .i64 x6, .bool y1, .slice va n vc, .slice vb m vd, .string td, .bool y2], .int .i64 1] w fun e w' => e = .returned (.int .i64 ((1 + 3 * n + m : Nat) : Int)) ∧ Below w.heap.size w w' := by
  have bn := below_more (Below.refl w.heap.size w) (.cells #[.int .i64 x0, .int .i64 x1, .int .i64 x2, .int .i64 x3, .int .i64 x4, .int .i64 x5, .int .i64 x6, .bool y1, .slice va n vc, .slice vb m vd, .string td, .bool y2] 25)
  have xn : BlockIs (w.alloc (.cells #[.int .i64 x0, .int .i64 x1, .int .i64 x2, .int .i64 x3, .int .i64 x4, .int .i64 x5, .int .i64 x6, .bool y1, .slice va n vc, .slice vb m vd, .string td, .bool y2] 25)) w.heap.size 25 [.int .i64 x0, .int .i64 x1, .int .i64 x2, .int .i64 x3, .int .i64 x4, .int .i64 x5, .int .i64 x6, .bool y1, .slice va n vc, .slice vb m vd, .string td, .bool y2] := heap_alloc_new w _
  have an := ha.on bn
  have hn := hb.on bn
  obtain ⟨W, hW⟩ : ∃ W, w.alloc (.cells #[.int .i64 x0, .int .i64 x1, .int .i64 x2, .int .i64 x3, .int .i64 x4, .int .i64 x5, .int .i64 x6, .bool y1, .slice va n vc, .slice vb m vd, .string td, .bool y2] 25) = W := ⟨_, rfl⟩
  rw [hW] at bn xn an hn
  have q8 := xn.cell (j := 8) rfl
  have BN := hid bn
  have XN := hid xn
  have HN := hid hn
  have C : Hid (Calls Try.prog 21 #[.slice va n vc, .int .i64 1] W fun e w' => e = .returned (.int .i64 ((1 + 3 * n : Nat) : Int)) ∧ Below W.heap.size W w') := heldEntryS_any va n vc 1 (by omega) hl W an
  have D := hid (fun w hr => heldIntS_any vb m vd (1 + 3 * n) (by omega) hl2 w hr)
  have hp1 : ¬ ((1 + 3 * n : Nat) : Int) < 0 := by omega
  have hp2 : ¬ ((1 + 3 * n + m : Nat) : Int) < 0 := by omega
  obtain ⟨K, hK⟩ : ∃ K : Nat, 1 + 3 * n = K := ⟨_, rfl⟩
  rw [hK] at C D HN hp1 hp2 ⊢
  obtain ⟨K2, hK2⟩ : ∃ K2 : Nat, K + m = K2 := ⟨_, rfl⟩
  rw [hK2] at D hp2 ⊢
  clear bn xn an hn ha hb hK hK2
  go_enter Try.func8, Try.ntmps8
  go_wp2_with fail
  refine Calls.mono C.out ?_
  rintro e w1 ⟨rfl, b1⟩
  have q9 := (XN.out.on b1 XN.out.lt).cell (j := 9) rfl
  have B1 := hid b1
  clear b1 q8
  go_wp2_with fail
  refine Calls.mono (D.out w1 (HN.out.on B1.out)) ?_
  rintro e w2 ⟨rfl, hw2⟩
  rw [hw2]
  clear hw2
  have BE := hid (below_via BN.out B1.out)
  go_wp2
  go_ret
  exact ⟨rfl, BE.out⟩
end Go.Proofs.Ytlplnobfkjhcdaa
