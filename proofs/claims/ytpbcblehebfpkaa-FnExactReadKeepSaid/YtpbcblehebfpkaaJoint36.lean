/-
  The walks of laws.markKeep, heldKeep over a keep's rows of the call's own.
-/
import Derived.Test.YtpbcblehebfpkaaJoint1
import Derived.Test.YtpbcblehebfpkaaJoint32
import Derived.Test.YtpbcblehebfpkaaJoint33
import Derived.Test.YtpbcblehebfpkaaJoint34
import Derived.Test.YtpbcblehebfpkaaJoint35
import Derived.Maps.AppendAt
import Derived.Deep.LoopGhost
namespace Go.Proofs.Ytpbcblehebfpkaa
open Go.RowKit

theorem row_of_blockK {w : World} {g base size n : Nat} {t : TypeId} {xs : List Value} (h : BlockIs w g t xs) (hx : xs.length = n * size) (hn : n ≤ maxLen) (hb : base ≤ g) : w.ownsRow base t size (.slice (some ⟨g, 0, none⟩) n n) n xs :=
  ⟨hx, Or.inr ⟨g, n, xs.toArray, rfl, hb, h, Nat.le_refl _, hn, by simp [hx], by rw [← hx]; simp⟩⟩
theorem row_keepK {w w' : World} {base size n : Nat} {t : TypeId} {v : Value} {xs : List Value} (h : w.ownsRow base t size v n xs) (hb : ∀ g, v.ownBlock = some g → ∀ t cs, BlockIs w g t cs → BlockIs w' g t cs) : w'.ownsRow base t size v n xs := by
  refine ⟨h.1, h.2.imp id ?_⟩
  rintro ⟨g, cap, cur, a, b, c, r⟩
  have := hb g (by rw [a]; rfl) t cur.toList (by unfold BlockIs; rw [c])
  unfold BlockIs at this
  exact ⟨g, cap, cur, a, b, by rw [this], r⟩
theorem row_turnK {w w' : World} {base size n g c : Nat} {t : TypeId} {xs ys r : List Value} (h : w.ownsRow base t size (.slice (some ⟨g, 0, none⟩) n c) n xs) (h1 : BlockIs w g t (xs ++ r)) (h2 : BlockIs w' g t (ys ++ r)) (hl : ys.length = xs.length) : w'.ownsRow base t size (.slice (some ⟨g, 0, none⟩) n c) n ys := by
  rcases h.2 with ⟨hv, h0⟩ | ⟨g', cp, cur, hv, hb, hh, hle, hm, hs, ht⟩
  · cases hv
  · simp only [Value.slice.injEq, Option.some.injEq, Addr.mk.injEq] at hv
    obtain ⟨⟨rfl, _, _⟩, _, rfl⟩ := hv
    have hc : cur.toList = xs ++ r := by
      unfold BlockIs at h1
      rw [hh] at h1
      simp only [Option.some.injEq, Obj.cells.injEq, and_true] at h1
      rw [h1]
    refine ⟨by rw [hl]; exact h.1, Or.inr ⟨g, c, (ys ++ r).toArray, rfl, hb, h2, hle, hm, ?_, ?_⟩⟩
    · have : cur.size = (xs ++ r).length := by rw [← hc]; simp
      rw [List.size_toArray, List.length_append, hl, ← List.length_append, ← this, hs]
    · show (ys ++ r).take (n * size) = ys
      rw [← h.1, ← hl, List.take_left']
      rfl
set_option maxRecDepth 1000000 in
theorem markSessionS_none (a : Option Addr) (c : Nat) (m : Int) (w : World) : Calls Try.prog 21 #[.slice a 0 c, .int .i64 m] w fun e w' => e = .returned (.int .i64 m) ∧ w' = w := by
  go_enter Try.func21, Try.ntmps21
  go_wp2
  go_loopg [1, 5] 0 (fun _ y i wr => wr = w ∧ i = .int .i64 0 ∧ y = .int .i64 m)
  case atStart => exact ⟨rfl, rfl, rfl⟩
  case round =>
    obtain ⟨rfl, rfl, rfl⟩ := hrel
    go_wp2
    go_ret
    exact ⟨rfl, rfl⟩
set_option maxRecDepth 1000000 in
theorem markItemS_none (a : Option Addr) (c : Nat) (m : Int) (w : World) : Calls Try.prog 22 #[.slice a 0 c, .int .i64 m] w fun e w' => e = .returned (.int .i64 m) ∧ w' = w := by
  go_enter Try.func22, Try.ntmps22
  go_wp2
  go_loopg [1, 5] 0 (fun _ y i wr => wr = w ∧ i = .int .i64 0 ∧ y = .int .i64 m)
  case atStart => exact ⟨rfl, rfl, rfl⟩
  case round =>
    obtain ⟨rfl, rfl, rfl⟩ := hrel
    go_wp2
    go_ret
    exact ⟨rfl, rfl⟩
theorem markS_own (lo : Nat) (va : Option Addr) (vc m : Nat) (ls : List SessionD) (hm : m ≤ 10000000) (hl : ls.length ≤ 1048576) (w : World) (h : w.ownsRow lo 43 3 (.slice va ls.length vc) ls.length (sessionCells ls)) :
    Calls Try.prog 21 #[.slice va ls.length vc, .int .i64 m] w fun e w' => e = .returned (.int .i64 ((m + 3 * ls.length : Nat) : Int)) ∧ w'.ownsRow lo 43 3 (.slice va ls.length vc) ls.length (sessionCells (marksSession m ls.length)) ∧ w.grownBy w' (Value.slice va ls.length vc).ownBlock := by
  by_cases h0 : ls = []
  · subst h0
    refine Calls.mono (markSessionS_none va vc m w) ?_
    rintro e w' ⟨rfl, rfl⟩
    exact ⟨rfl, h, World.grownBy.refl _ _⟩
  · obtain ⟨g, r, rfl, hg, hb⟩ := row_blockK (List.length_pos_iff.2 h0) h
    refine Calls.mono (markSessionS_any g ls vc m r hm hl w hb) ?_
    rintro e w' ⟨rfl, h2, h3⟩
    exact ⟨rfl, row_turnK h hb h2 (by rw [sessionCells_length, sessionCells_length, marksSession_length]), h3⟩
theorem markI_own (lo : Nat) (va : Option Addr) (vc m : Nat) (li : List ItemD) (hm : m ≤ 10000000) (hl : li.length ≤ 1048576) (w : World) (h : w.ownsRow lo 46 3 (.slice va li.length vc) li.length (itemCells li)) :
    Calls Try.prog 22 #[.slice va li.length vc, .int .i64 m] w fun e w' => e = .returned (.int .i64 ((m + 3 * li.length : Nat) : Int)) ∧ w'.ownsRow lo 46 3 (.slice va li.length vc) li.length (itemCells (marksItem m li.length)) ∧ w.grownBy w' (Value.slice va li.length vc).ownBlock := by
  by_cases h0 : li = []
  · subst h0
    refine Calls.mono (markItemS_none va vc m w) ?_
    rintro e w' ⟨rfl, rfl⟩
    exact ⟨rfl, h, World.grownBy.refl _ _⟩
  · obtain ⟨g, r, rfl, hg, hb⟩ := row_blockK (List.length_pos_iff.2 h0) h
    refine Calls.mono (markItemS_any g li vc m r hm hl w hb) ?_
    rintro e w' ⟨rfl, h2, h3⟩
    exact ⟨rfl, row_turnK h hb h2 (by rw [itemCells_length, itemCells_length, marksItem_length]), h3⟩
/-- nothing but a keep's rows was written -/
def Marked (lo : Nat) (v u : Value) (w w' : World) : Prop :=
  (∀ j t cs, BlockIs w j t cs → v.ownBlock ≠ some j → u.ownBlock ≠ some j → BlockIs w' j t cs) ∧ w.heap.size ≤ w'.heap.size ∧ ∀ w0, w0.heap.size ≤ lo → Below w0.heap.size w0 w → Below w0.heap.size w0 w'
theorem Marked.box {lo j : Nat} {v u : Value} {w w' : World} {t : TypeId} {cs : List Value} {n m : Nat} {xs ys : List Value} (h : Marked lo v u w w') (hb : BlockIs w j t cs) (h1 : w.ownsRow lo 43 3 v n xs) (h2 : w.ownsRow lo 46 3 u m ys) (t1 : t ≠ 43) (t2 : t ≠ 46) : BlockIs w' j t cs := by
  refine h.1 j t cs hb (fun e => ?_) (fun e => ?_)
  · obtain ⟨cs', hb', _⟩ := row_block h1 e
    exact t1 (block_one hb hb').1
  · obtain ⟨cs', hb', _⟩ := row_block h2 e
    exact t2 (block_one hb hb').1
theorem Marked.rows {lo lo2 : Nat} {v u v2 u2 : Value} {w w' : World} {ls : List SessionD} {li : List ItemD} (h : Marked lo v u w w') (hr : KRows w lo2 v2 u2 ls li) (h1 : ∀ g, v2.ownBlock = some g ∨ u2.ownBlock = some g → v.ownBlock ≠ some g ∧ u.ownBlock ≠ some g) : KRows w' lo2 v2 u2 ls li :=
  ⟨row_keepK hr.1 fun g hg t cs hb => h.1 g t cs hb (h1 g (Or.inl hg)).1 (h1 g (Or.inl hg)).2, row_keepK hr.2 fun g hg t cs hb => h.1 g t cs hb (h1 g (Or.inr hg)).1 (h1 g (Or.inr hg)).2⟩

set_option maxRecDepth 1000000 in
set_option maxHeartbeats 2000000 in
theorem markKeep_own (lo : Nat) (va vb : Option Addr) (vc vd : Nat) (ls : List SessionD) (li : List ItemD) (hl : ls.length ≤ 1048576) (hl2 : li.length ≤ 1048576) (w : World) (h : KRows w lo (.slice va ls.length vc) (.slice vb li.length vd) ls li) :
    Calls Try.prog 8 #[.agg #[.slice va ls.length vc, .slice vb li.length vd], .int .i64 1] w fun e w' => e = .returned (.int .i64 ((1 + 3 * ls.length + 3 * li.length : Nat) : Int)) ∧ (w'.ownsRow lo 43 3 (.slice va ls.length vc) ls.length (sessionCells (marksSession 1 ls.length)) ∧ w'.ownsRow lo 46 3 (.slice vb li.length vd) li.length (itemCells (marksItem (1 + 3 * ls.length) li.length))) ∧ Marked lo (.slice va ls.length vc) (.slice vb li.length vd) w w' := by
  have bn := below_more (Below.refl w.heap.size w) (.cells #[.slice va ls.length vc, .slice vb li.length vd] 25)
  have xn : BlockIs (w.alloc (.cells #[.slice va ls.length vc, .slice vb li.length vd] 25)) w.heap.size 25 [.slice va ls.length vc, .slice vb li.length vd] := heap_alloc_new w _
  have kn := h.on bn
  obtain ⟨W, hW⟩ : ∃ W, w.alloc (.cells #[.slice va ls.length vc, .slice vb li.length vd] 25) = W := ⟨_, rfl⟩
  rw [hW] at bn xn kn
  have x0 := xn.cell (j := 0) rfl
  have BN := hid bn
  have XN := hid xn
  have KN := hid kn
  have C : Hid (Calls Try.prog 21 #[.slice va ls.length vc, .int .i64 1] W fun e w' => e = .returned (.int .i64 ((1 + 3 * ls.length : Nat) : Int)) ∧ w'.ownsRow lo 43 3 (.slice va ls.length vc) ls.length (sessionCells (marksSession 1 ls.length)) ∧ W.grownBy w' (Value.slice va ls.length vc).ownBlock) := markS_own lo va vc 1 ls (by omega) hl W kn.1
  have D := hid (fun w hr => markI_own lo vb vd (1 + 3 * ls.length) li (by omega) hl2 w hr)
  clear bn xn kn h
  go_enter Try.func8, Try.ntmps8
  go_wp2_with fail
  refine Calls.mono C.out ?_
  rintro e w1 ⟨rfl, s1, g1⟩
  have x1 := (block_grown XN.out KN.out.1 g1 (by decide)).cell (j := 1) rfl
  have S1 := hid s1
  have I1 := hid (row_grownK KN.out.2 KN.out.1 g1 (by decide))
  have G1 := hid g1
  clear s1 g1 x0 C
  go_wp2_with fail
  refine Calls.mono (D.out w1 I1.out) ?_
  rintro e w2 ⟨rfl, i2, g2⟩
  have HE : Hid ((w2.ownsRow lo 43 3 (.slice va ls.length vc) ls.length (sessionCells (marksSession 1 ls.length)) ∧ w2.ownsRow lo 46 3 (.slice vb li.length vd) li.length (itemCells (marksItem (1 + 3 * ls.length) li.length))) ∧ Marked lo (.slice va ls.length vc) (.slice vb li.length vd) w w2) := by
    refine ⟨⟨row_grownK S1.out I1.out g2 (by decide), i2⟩, fun j t cs hb h1 h2 => ?_, Nat.le_trans BN.out.size (Nat.le_trans G1.out.size g2.size), fun w0 hlo hb => ?_⟩
    · have b1 := hb.on BN.out hb.lt
      have b2 : BlockIs w1 j t cs := by unfold BlockIs; rw [G1.out.block j b1.lt (fun e => h1 e.symm)]; exact b1
      unfold BlockIs
      rw [g2.block j b2.lt (fun e => h2 e.symm)]
      exact b2
    · have b1 := hb.trans (BN.out.mono hb.size)
      have b2 := b1.grown G1.out b1.size (fun k e => by have := (KN.out.1.lt k e).1; omega)
      exact b2.grown g2 b2.size (fun k e => by have := (I1.out.lt k e).1; omega)
  clear i2 g2 D
  go_wp2
  go_ret
  exact ⟨rfl, HE.out⟩

set_option maxRecDepth 1000000 in
theorem heldKeep_own (va vb : Option Addr) (n m vc vd : Nat) (hl : n ≤ 1048576) (hl2 : m ≤ 1048576) (w : World) (ha : SessionsAt w va (marksSession 1 n)) (hb : ItemsAt w vb (marksItem (1 + 3 * n) m)) :
    Calls Try.prog 9 #[.agg #[.slice va n vc, .slice vb m vd], .int .i64 1] w fun e w' => e = .returned (.int .i64 ((1 + 3 * n + 3 * m : Nat) : Int)) ∧ Below w.heap.size w w' := by
  have bn := below_more (Below.refl w.heap.size w) (.cells #[.slice va n vc, .slice vb m vd] 25)
  have xn : BlockIs (w.alloc (.cells #[.slice va n vc, .slice vb m vd] 25)) w.heap.size 25 [.slice va n vc, .slice vb m vd] := heap_alloc_new w _
  have an := ha.on bn
  have hn := hb.on bn
  obtain ⟨W, hW⟩ : ∃ W, w.alloc (.cells #[.slice va n vc, .slice vb m vd] 25) = W := ⟨_, rfl⟩
  rw [hW] at bn xn an hn
  have x0 := xn.cell (j := 0) rfl
  have BN := hid bn
  have XN := hid xn
  have HN := hid hn
  have C : Hid (Calls Try.prog 23 #[.slice va n vc, .int .i64 1] W fun e w' => e = .returned (.int .i64 ((1 + 3 * n : Nat) : Int)) ∧ Below W.heap.size W w') := heldSessionS_any va n vc 1 (by omega) hl W an
  have D := hid (fun w hr => heldItemS_any vb m vd (1 + 3 * n) (by omega) hl2 w hr)
  have hp1 : ¬ ((1 + 3 * n : Nat) : Int) < 0 := by omega
  have hp2 : ¬ ((1 + 3 * n + 3 * m : Nat) : Int) < 0 := by omega
  obtain ⟨K, hK⟩ : ∃ K : Nat, 1 + 3 * n = K := ⟨_, rfl⟩
  rw [hK] at C D HN hp1 hp2 ⊢
  obtain ⟨K2, hK2⟩ : ∃ K2 : Nat, K + 3 * m = K2 := ⟨_, rfl⟩
  rw [hK2] at D hp2 ⊢
  clear bn xn an hn ha hb hK hK2
  go_enter Try.func9, Try.ntmps9
  go_wp2_with fail
  refine Calls.mono C.out ?_
  rintro e w1 ⟨rfl, b1⟩
  have x1 := (XN.out.on b1 XN.out.lt).cell (j := 1) rfl
  have B1 := hid b1
  clear b1 x0
  go_wp2_with fail
  refine Calls.mono (D.out w1 (HN.out.on B1.out)) ?_
  rintro e w2 ⟨rfl, b2⟩
  have BE := hid (below_via BN.out (below_via B1.out b2))
  clear b2
  go_wp2
  go_ret
  exact ⟨rfl, BE.out⟩
end Go.Proofs.Ytpbcblehebfpkaa
