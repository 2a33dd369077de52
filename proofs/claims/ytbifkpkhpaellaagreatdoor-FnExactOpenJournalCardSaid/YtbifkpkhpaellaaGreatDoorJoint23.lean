/-
  The walk of spec.l07More: a journal behind a pointer, told by one more record.
  The walks of spec.SumMore: what they answer.
-/
import Derived.Test.YtbifkpkhpaellaaGreatDoorJoint14
import Derived.Test.YtbifkpkhpaellaaGreatDoorJoint15
import Derived.Test.YtbifkpkhpaellaaGreatDoorJoint20
import Derived.Test.YtbifkpkhpaellaaGreatDoorJoint22
import Derived.Test.YtbifkpkhpaellaaGreatDoorRows
import Derived.Test.YtbifkpkhpaellaaGreatDoorJoint1
import Derived.Deep.LoopGhost
import Derived.WalkKit
namespace Go.Proofs.YtbifkpkhpaellaaGreatDoor
open Go.RowKit

theorem own_grow {x y : World} {t : TypeId} {cs : List Value} {n : Nat} {va : Option Addr} {lo : Nat} (h : OwnAt x t cs n va lo x.heap.size) (hb : Below x.heap.size x y) : OwnAt y t cs n va lo y.heap.size :=
  h.imp id fun ⟨g, r, a, b, c, d⟩ => ⟨g, r, a, b, Nat.lt_of_lt_of_le c hb.size, d.on hb d.lt⟩
/-- a cell of a block of another type is written -/
theorem own_other {x : World} {t tb : TypeId} {cs cb : List Value} {n : Nat} {va : Option Addr} {lo b j : Nat} {u : Value} (h : OwnAt x t cs n va lo x.heap.size) (hb : BlockIs x b tb cb) (ht : tb ≠ t) : OwnAt (x.setCell ⟨b, j, none⟩ u) t cs n va lo (x.setCell ⟨b, j, none⟩ u).heap.size := by
  rw [World.size_setCell]
  exact h.imp id fun ⟨g, r, a, c, d, e⟩ => ⟨g, r, a, c, d, e.far (by intro q; subst q; exact ht (block_one hb e).1) u⟩
/-- a journal in a box, its entries in memory of their own -/
def JBox (w : World) (b lo : Nat) (jd : JouD) : Prop := ∃ vo vc, BlockIs w b 30 [.int .i64 jd.n, .int .i64 jd.tm, .int .i64 jd.vt, .int .i64 jd.s, .int .i64 jd.t, .slice vo jd.l.length vc] ∧ jd.l.length ≤ vc ∧ OwnAt w 110 (entCells jd.l) jd.l.length vo lo w.heap.size

set_option maxRecDepth 1000000 in
set_option maxHeartbeats 4000000 in
theorem l07More_any (b lo : Nat) (jd : JouD) (r : ByteArray) (hr : r.size ≤ 1048576) (hl : jd.l.length ≤ 1048576) (hsm : ∀ f ∈ jd.l, f.data.size ≤ 1048576) (hlo : lo ≤ b + 1) (w : World) (hJ : JBox w b lo jd) :
    Calls Tryz.prog 42 #[.pointer (some ⟨b, 0, none⟩), .string r] w fun e w' => e = .returned (.bool (tellMore jd r).isSome) ∧ JBox w' b lo ((tellMore jd r).getD jd) ∧ Below b w w' := by
  have HLO := hid hlo
  obtain ⟨vo, vc, hx, hvc, ho⟩ := hJ
  have XJ := hid hx
  have OJ := hid ho
  have HSM := hid hsm
  clear hx ho hsm
  go_enter Tryz.func42, Tryz.ntmps42
  go_wp2_with fail
  refine (l07Two_any 72 r hr _).mono ?_
  rintro e w1 ⟨rfl, b1⟩
  have X1 := hid (XJ.out.on b1 XJ.out.lt)
  have O1 := hid (own_grow OJ.out b1)
  have B1 := hid (b1.mono (Nat.le_of_lt XJ.out.lt))
  have HS1 := hid b1.size
  clear b1 XJ OJ
  cases h2 : readTwo 72 r with
  | some p =>
    obtain ⟨a, b'⟩ := p
    rw [show twoAns (some (a, b')) = .tuple #[.int .i64 a, .int .i64 b', .bool true] from rfl]
    cases ha : within a 0 100000 with
    | false =>
      have HR := hid (tell_bad (j := jd) h2 (by rw [ha]; rfl))
      go_wp2_with fail
      refine (l01In_any a 0 100000 _).mono ?_
      rintro e w2 ⟨rfl, hw⟩
      rw [hw, ha]
      clear hw w2 ha h2
      go_wp2
      go_ret
      exact ⟨by rw [HR.out]; rfl, by rw [HR.out]; exact ⟨vo, vc, X1.out, hvc, O1.out⟩, B1.out⟩
    | true =>
      cases hb : within b' 0 4 with
      | false =>
        have HR := hid (tell_bad (j := jd) h2 (by rw [ha, hb]; rfl))
        go_wp2_with fail
        refine (l01In_any a 0 100000 _).mono ?_
        rintro e w2 ⟨rfl, hw⟩
        rw [hw, ha]
        clear hw w2 ha h2
        go_wp2_with fail
        refine (l01In_any b' 0 4 _).mono ?_
        rintro e w2 ⟨rfl, hw⟩
        rw [hw, hb]
        clear hw w2 hb
        go_wp2
        go_ret
        exact ⟨by rw [HR.out]; rfl, by rw [HR.out]; exact ⟨vo, vc, X1.out, hvc, O1.out⟩, B1.out⟩
      | true =>
        have HR := hid (tell_head (j := jd) h2 (by rw [ha, hb]; rfl))
        go_wp2_with fail
        refine (l01In_any a 0 100000 _).mono ?_
        rintro e w2 ⟨rfl, hw⟩
        rw [hw, ha]
        clear hw w2 ha h2
        go_wp2_with fail
        refine (l01In_any b' 0 4 _).mono ?_
        rintro e w2 ⟨rfl, hw⟩
        rw [hw, hb]
        clear hw w2 hb
        have c1 := X1.out.cell (j := 1) rfl
        have c2 := X1.out.cell (j := 2) rfl
        have f1 := X1.out.thaw 1
        have f2 := X1.out.thaw 2
        have XL := hid ((X1.out.set 1 (.int .i64 a)).set 2 (.int .i64 b'))
        have OL := hid (own_other (b := b) (j := 2) (u := .int .i64 b') (own_other (b := b) (j := 1) (u := .int .i64 a) O1.out X1.out (by decide)) (X1.out.set 1 (.int .i64 a)) (by decide))
        have BL := hid ((B1.out.setCell (p := ⟨b, 1, none⟩) (Nat.le_refl _) (.int .i64 a)).setCell (p := ⟨b, 2, none⟩) (Nat.le_refl _) (.int .i64 b'))
        clear X1 O1 B1
        go_wp2
        go_ret
        exact ⟨by rw [HR.out]; rfl, by rw [HR.out]; exact ⟨vo, vc, XL.out, hvc, OL.out⟩, BL.out⟩
  | none =>
    rw [show twoAns none = .tuple #[.int .i64 0, .int .i64 0, .bool false] from rfl]
    go_wp2_with fail
    refine (specReadEntry_any r hr _).mono ?_
    rintro e w2 ⟨rfl, b2⟩
    have X2 := hid (X1.out.on b2 X1.out.lt)
    have O2 := hid (own_grow O1.out b2)
    have B2 := hid (B1.out.trans (b2.mono (Nat.le_of_lt X1.out.lt)))
    clear b2 X1 O1 B1
    cases h3 : readEntry r with
    | none =>
      have HR := hid (tell_no (j := jd) h2 h3)
      rw [show reAns none = .tuple #[.int .i64 0, .agg #[.int .i64 0, .int .i64 0, .string ByteArray.empty], .bool false] from rfl]
      have bx := below_more (Below.refl w2.heap.size w2) (.cells #[.int .i64 0, .int .i64 0, .string ByteArray.empty] 110)
      have X3 := hid (X2.out.on bx X2.out.lt)
      have O3 := hid (own_grow O2.out bx)
      have B3 := hid (B2.out.trans (bx.mono (Nat.le_of_lt X2.out.lt)))
      clear bx X2 O2 B2 h2 h3
      go_wp2
      go_ret
      exact ⟨by rw [HR.out]; rfl, by rw [HR.out]; exact ⟨vo, vc, X3.out, hvc, O3.out⟩, B3.out⟩
    | some p =>
      obtain ⟨i, d⟩ := p
      have HR := hid (tell_put (j := jd) h2 h3)
      have hds := readE_small h3 hr
      rw [show reAns (some (i, d)) = .tuple #[.int .i64 i, .agg #[.int .i64 d.term, .int .i64 d.kind, .string d.data], .bool true] from rfl]
      have bx := below_more (Below.refl w2.heap.size w2) (.cells #[.int .i64 d.term, .int .i64 d.kind, .string d.data] 110)
      have XE : Hid (BlockIs (w2.alloc (.cells #[.int .i64 d.term, .int .i64 d.kind, .string d.data] 110)) w2.heap.size 110 [.int .i64 d.term, .int .i64 d.kind, .string d.data]) := heap_alloc_new w2 _
      have X3 := hid (X2.out.on bx X2.out.lt)
      have O3 := hid (own_grow O2.out bx)
      have B3 := hid (B2.out.trans (bx.mono (Nat.le_of_lt X2.out.lt)))
      have HB2 : Hid (b < w2.heap.size) := X2.out.lt
      clear bx X2 O2 B2 h2 h3
      obtain ⟨W, hW⟩ : ∃ W, w2.alloc (.cells #[.int .i64 d.term, .int .i64 d.kind, .string d.data] 110) = W := ⟨_, rfl⟩
      rw [hW] at XE X3 O3 B3
      have CQ := fun w ha => specLogPut_any jd.s jd.t i d vo jd.l vc hl HSM.out hds hvc w ha
      obtain ⟨Q, hQ⟩ : ∃ Q, putAns jd.s jd.t jd.l i d = Q := ⟨_, rfl⟩
      rw [hQ] at CQ HR
      obtain ⟨⟨S, T, AA⟩, ok⟩ := Q
      dsimp only at CQ HR
      clear hQ
      go_wp2
      obtain ⟨w3, hw3⟩ : ∃ x, W = x := ⟨_, rfl⟩
      rw [hw3] at XE X3 O3 B3 ⊢
      clear hw3
      refine wp_region_each (N := 60) (by kernel_rfl) (by kernel_rfl) rfl (by kernel_rfl) (fun W => Below w3.heap.size w3 W) (fun j v u W => match j with | 0 => v = .pointer (some ⟨b, 0, none⟩) | 1 => v = .pointer (some ⟨b, 0, none⟩) | 2 => v = .pointer (some ⟨b, 3, none⟩) | 3 => v = .agg #[.int .i64 jd.s, .int .i64 jd.t, .slice vo jd.l.length vc] | 4 => v = .int .i64 (i : Int) | 5 => v = .agg #[.int .i64 d.term, .int .i64 d.kind, .string d.data] | 6 => ∃ va ca, v = .tuple #[.agg #[.int .i64 S, .int .i64 T, .slice va AA.length ca], .bool ok] ∧ AA.length ≤ ca ∧ OwnAt W 110 (entCells AA) AA.length va w3.heap.size W.heap.size | 7 => ∃ va ca, v = .tuple #[.agg #[.int .i64 S, .int .i64 T, .slice va AA.length ca], .bool ok] ∧ AA.length ≤ ca ∧ OwnAt W 110 (entCells AA) AA.length va w3.heap.size W.heap.size | 8 => ∃ va ca, v = .agg #[.int .i64 S, .int .i64 T, .slice va AA.length ca] ∧ AA.length ≤ ca ∧ OwnAt W 110 (entCells AA) AA.length va w3.heap.size W.heap.size | 9 => v = .bool ok | 10 => ∃ X, v = .pointer (some ⟨X, 0, none⟩) ∧ w3.heap.size ≤ X ∧ BlockIs W X 28 [.int .i64 0, .int .i64 0, .slice none 0 0] | 11 => ∃ X va ca, u = .pointer (some ⟨X, 0, none⟩) ∧ w3.heap.size ≤ X ∧ BlockIs W X 28 [.int .i64 S, .int .i64 T, .slice va AA.length ca] ∧ AA.length ≤ ca ∧ OwnAt W 110 (entCells AA) AA.length va w3.heap.size W.heap.size | 12 => v = .bool ok | _ => True) (fun i => if i = 11 then 10 else i) (fun j i => decide ((j, i) ∈ ([(10, 11)] : List (Nat × Nat)))) (fun i x y => x.heap.size ≤ y.heap.size ∧ ∀ g ty cs, BlockIs x g ty cs → (i = 11 → ty ≠ 28) → BlockIs y g ty cs) (fun i => if i = 11 then 11 else 0) (by kernel_rfl) (fun i hi => by have : 13 ≤ i := hi; simp; omega) ?_ (below_drewN (Below.refl _ _) 1) ?_ ?_
      · intro i j v u x y hij hdd hwt hxy hg
        match j, hg with
        | 0, hg => exact hg
        | 1, hg => exact hg
        | 2, hg => exact hg
        | 3, hg => exact hg
        | 4, hg => exact hg
        | 5, hg => exact hg
        | 6, hg =>
          obtain ⟨va, ca, e1, e2, e3⟩ := hg
          exact ⟨va, ca, e1, e2, e3.ext hxy.1 fun g r h => hxy.2 _ _ _ h (fun _ => by decide)⟩
        | 7, hg =>
          obtain ⟨va, ca, e1, e2, e3⟩ := hg
          exact ⟨va, ca, e1, e2, e3.ext hxy.1 fun g r h => hxy.2 _ _ _ h (fun _ => by decide)⟩
        | 8, hg =>
          obtain ⟨va, ca, e1, e2, e3⟩ := hg
          exact ⟨va, ca, e1, e2, e3.ext hxy.1 fun g r h => hxy.2 _ _ _ h (fun _ => by decide)⟩
        | 9, hg => exact hg
        | 10, hg =>
          obtain ⟨X, e1, e2, e3⟩ := hg
          simp at hdd
          exact ⟨X, e1, e2, hxy.2 _ _ _ e3 (fun e => absurd e hdd)⟩
        | 11, hg =>
          obtain ⟨X, va, ca, e1, e2, e3, e4, e5⟩ := hg
          exact ⟨X, va, ca, e1, e2, hxy.2 _ _ _ e3 (fun e => absurd e hij), e4, e5.ext hxy.1 fun g r h => hxy.2 _ _ _ h (fun _ => by decide)⟩
        | 12, hg => exact hg
        | n + 13, _ => exact trivial
      · refine ⟨?_, ?_, ?_, ?_, ?_, ?_, ?_, ?_, ?_, ?_, ?_, ?_, ?_, trivial⟩
        · intro A W hC hg hb
          have h0 : A.eval (.tmp 0) = .pointer (some ⟨b, 0, none⟩) := hb 0 (base_of (by kernel_rfl))
          exact does_value (v := .pointer (some ⟨b, 0, none⟩)) (w' := W) (by simp only [execOp, h0]; simp [go_sem]) ⟨rfl, hC, Nat.le_refl _, fun _ _ _ h _ => h⟩
        · intro A W hC hg hb
          have h45 : A.eval (.tmp 45) = .pointer (some ⟨b, 0, none⟩) := hg 0 45 (by decide) rfl (by simp [Op.operands]) (by kernel_rfl) rfl
          exact does_value (v := .pointer (some ⟨b, 0, none⟩)) (w' := W) (by simp only [execOp, h45]; simp [go_sem]) ⟨rfl, hC, Nat.le_refl _, fun _ _ _ h _ => h⟩
        · intro A W hC hg hb
          have h46 : A.eval (.tmp 46) = .pointer (some ⟨b, 0, none⟩) := hg 1 46 (by decide) rfl (by simp [Op.operands]) (by kernel_rfl) rfl
          exact does_value (v := .pointer (some ⟨b, 3, none⟩)) (w' := W) (by simp only [execOp, h46]; simp [go_sem]) ⟨rfl, hC, Nat.le_refl _, fun _ _ _ h _ => h⟩
        · intro A W hC hg hb
          have h47 : A.eval (.tmp 47) = .pointer (some ⟨b, 3, none⟩) := hg 2 47 (by decide) rfl (by simp [Op.operands]) (by kernel_rfl) rfl
          have hq := X3.out.on hC X3.out.lt
          have c3 := hq.cell (j := 3) rfl
          have c4 := hq.cell (j := 4) rfl
          have c5 := hq.cell (j := 5) rfl
          exact does_value (v := .agg #[.int .i64 jd.s, .int .i64 jd.t, .slice vo jd.l.length vc]) (w' := W) (by simp only [execOp, h47]; simp [go_sem, c3, c4, c5]) ⟨rfl, hC, Nat.le_refl _, fun _ _ _ h _ => h⟩
        · intro A W hC hg hb
          have h8 : A.eval (.tmp 8) = .int .i64 (i : Int) := hb 8 (base_of (by kernel_rfl))
          exact does_value (v := .int .i64 (i : Int)) (w' := W) (by simp only [execOp, h8]; simp [go_sem]) ⟨rfl, hC, Nat.le_refl _, fun _ _ _ h _ => h⟩
        · intro A W hC hg hb
          have h9 : A.eval (.tmp 9) = .pointer (some ⟨w2.heap.size, 0, none⟩) := hb 9 (base_of (by kernel_rfl))
          have hq := XE.out.on hC XE.out.lt
          have c0 := hq.cell (j := 0) rfl
          have c1 := hq.cell (j := 1) rfl
          have c2 := hq.cell (j := 2) rfl
          exact does_value (v := .agg #[.int .i64 d.term, .int .i64 d.kind, .string d.data]) (w' := W) (by simp only [execOp, h9]; simp [go_sem, c0, c1, c2]) ⟨rfl, hC, Nat.le_refl _, fun _ _ _ h _ => h⟩
        · intro A W hC hg hb
          have h48 : A.eval (.tmp 48) = .agg #[.int .i64 jd.s, .int .i64 jd.t, .slice vo jd.l.length vc] := hg 3 48 (by decide) rfl (by simp [Op.operands, Call.operands]) (by kernel_rfl) rfl
          have h49 : A.eval (.tmp 49) = .int .i64 (i : Int) := hg 4 49 (by decide) rfl (by simp [Op.operands, Call.operands]) (by kernel_rfl) rfl
          have h50 : A.eval (.tmp 50) = .agg #[.int .i64 d.term, .int .i64 d.kind, .string d.data] := hg 5 50 (by decide) rfl (by simp [Op.operands, Call.operands]) (by kernel_rfl) rfl
          simp [go_sem] at h48 h49 h50
          refine does_enter (f := 65) (args := #[.agg #[.int .i64 jd.s, .int .i64 jd.t, .slice vo jd.l.length vc], .int .i64 (i : Int), .agg #[.int .i64 d.term, .int .i64 d.kind, .string d.data]]) (w' := W) (by simp [go_sem, h48, h49, h50]) ?_
          refine (CQ W (OwnAt.ents (O3.out.on hC))).mono ?_
          rintro e W' ⟨va, ca, rfl, hca, hown, b'⟩
          exact ⟨_, rfl, ⟨va, ca, rfl, hca, hown.down hC.size (Nat.le_refl _)⟩, below_via hC b', b'.size, fun _ _ _ h _ => h.on b' h.lt⟩
        · intro A W hC hg hb
          have g6 := hg 6 51 (by decide) rfl (by simp [Op.operands]) (by kernel_rfl) rfl
          obtain ⟨va, ca, h51, ho⟩ := g6
          simp [go_sem] at h51
          exact does_value (v := .tuple #[.agg #[.int .i64 S, .int .i64 T, .slice va AA.length ca], .bool ok]) (w' := W) (by simp [execOp, go_sem, h51]) ⟨⟨va, ca, rfl, ho⟩, hC, Nat.le_refl _, fun _ _ _ h _ => h⟩
        · intro A W hC hg hb
          have g7 := hg 7 44 (by decide) rfl (by simp [Op.operands]) (by kernel_rfl) rfl
          obtain ⟨va, ca, h44, ho⟩ := g7
          simp [go_sem] at h44
          exact does_value (v := .agg #[.int .i64 S, .int .i64 T, .slice va AA.length ca]) (w' := W) (by simp [execOp, go_sem, h44]) ⟨⟨va, ca, rfl, ho⟩, hC, Nat.le_refl _, fun _ _ _ h _ => h⟩
        · intro A W hC hg hb
          have g7 := hg 7 44 (by decide) rfl (by simp [Op.operands]) (by kernel_rfl) rfl
          obtain ⟨va, ca, h44, ho⟩ := g7
          simp [go_sem] at h44
          exact does_value (v := .bool ok) (w' := W) (by simp [execOp, go_sem, h44]) ⟨rfl, hC, Nat.le_refl _, fun _ _ _ h _ => h⟩
        · intro A W hC hg hb
          exact does_value (v := .pointer (some ⟨W.heap.size, 0, none⟩)) (w' := W.alloc (.cells #[.int .i64 0, .int .i64 0, .slice none 0 0] 28)) (by simp [execOp, go_sem]) ⟨⟨_, rfl, hC.size, heap_alloc_new W _⟩, below_more hC _, (below_more (Below.refl _ W) _).size, fun _ _ _ h _ => h.on (below_more (Below.refl _ W) _) h.lt⟩
        · intro A W hC hg hb
          have g10 := hg 10 11 (by decide) rfl (by simp [Op.operands]) (by kernel_rfl) rfl
          have g8 := hg 8 52 (by decide) rfl (by simp [Op.operands]) (by kernel_rfl) rfl
          obtain ⟨X, h11, hlo, hX⟩ := g10
          obtain ⟨va, ca, h52, hca, ho⟩ := g8
          have c0 := hX.cell (j := 0) rfl
          have c1 := hX.cell (j := 1) rfl
          have c2 := hX.cell (j := 2) rfl
          have f0 := hX.thaw 0
          have f1 := hX.thaw 1
          have f2 := hX.thaw 2
          have far : ∀ q ty cs, BlockIs W q ty cs → ty ≠ 28 → BlockIs (((W.setCell ⟨X, 0, none⟩ (.int .i64 S)).setCell ⟨X, 1, none⟩ (.int .i64 T)).setCell ⟨X, 2, none⟩ (.slice va AA.length ca)) q ty cs := fun q ty cs hq hne => by
            have hqX : X ≠ q := by intro e; subst e; exact hne (block_one hq hX).1
            exact ((hq.far hqX _).far hqX _).far hqX _
          exact does_skip (w' := ((W.setCell ⟨X, 0, none⟩ (.int .i64 S)).setCell ⟨X, 1, none⟩ (.int .i64 T)).setCell ⟨X, 2, none⟩ (.slice va AA.length ca)) (by simp only [execOp, h11, h52]; simp [go_sem, c0, c1, c2, f0, f1, f2]) ⟨⟨X, va, ca, h11, hlo, ((hX.set 0 _).set 1 _).set 2 _, hca, ho.ext (by simp [World.size_setCell]) fun g r h => far g _ _ h (by decide)⟩, ((hC.setCell hlo _).setCell hlo _).setCell hlo _, by simp [World.size_setCell], fun q ty cs hq hne => far q ty cs hq (hne rfl)⟩
        · intro A W hC hg hb
          have h53 : A.eval (.tmp 53) = .bool ok := hg 9 53 (by decide) rfl (by simp [Op.operands]) (by kernel_rfl) rfl
          exact does_value (v := .bool ok) (w' := W) (by simp [go_sem] at h53; simp [execOp, go_sem, h53]) ⟨rfl, hC, Nat.le_refl _, fun _ _ _ h _ => h⟩
      · intro vs w4 b4 hg
        obtain ⟨X, va, ca, hu, hXw, hX, hca, hO⟩ := hg 11 (by decide) (fun k => by simp)
        change vs 10 = _ at hu
        have h12 : vs 12 = .bool ok := hg 12 (by decide) (fun k => by simp)
        clear hg
        change Exit.then _ _ _ (laidBy _ vs _ 13 _) w4
        simp only [laidBy, if_true, dstAt, List.getElem?_toArray, List.getElem?_cons_succ, List.getElem?_cons_zero, Option.bind_some]
        simp only [Act.put, List.setIfInBounds_toArray, List.set_cons_succ, List.set_cons_zero]
        rw [hu, h12]
        clear hu h12
        have X4 := hid (X3.out.on b4 X3.out.lt)
        have O4 := hid (own_grow O3.out b4)
        have B4 := hid (B3.out.trans (b4.mono (Nat.le_of_lt X3.out.lt)))
        have XX := hid hX
        have OX := hid (hO.down (show lo ≤ w3.heap.size by have := HLO.out; have := X3.out.lt; have := HB2.out; omega) (Nat.le_refl _))
        clear b4 X3 O3 B3 hX hO XE CQ
        cases ok with
        | false =>
          have HR2 : Hid (tellMore jd r = none) := HR.out
          go_wp2
          go_ret
          exact ⟨by rw [HR2.out]; rfl, by rw [HR2.out]; exact ⟨vo, vc, X4.out, hvc, O4.out⟩, B4.out⟩
        | true =>
          have HR2 : Hid (tellMore jd r = some { jd with s := S, t := T, l := AA }) := HR.out
          have c0 := XX.out.cell (j := 0) rfl
          have c1 := XX.out.cell (j := 1) rfl
          have c2 := XX.out.cell (j := 2) rfl
          have d3 := X4.out.cell (j := 3) rfl
          have d4 := X4.out.cell (j := 4) rfl
          have d5 := X4.out.cell (j := 5) rfl
          have f3 := X4.out.thaw 3
          have f4 := X4.out.thaw 4
          have f5 := X4.out.thaw 5
          have XL := hid (((X4.out.set 3 (.int .i64 S)).set 4 (.int .i64 T)).set 5 (.slice va AA.length ca))
          have OL := hid (own_other (b := b) (j := 5) (u := .slice va AA.length ca) (own_other (b := b) (j := 4) (u := .int .i64 T) (own_other (b := b) (j := 3) (u := .int .i64 S) OX.out X4.out (by decide)) (X4.out.set 3 (.int .i64 S)) (by decide)) ((X4.out.set 3 (.int .i64 S)).set 4 (.int .i64 T)) (by decide))
          have BL := hid (((B4.out.setCell (p := ⟨b, 3, none⟩) (Nat.le_refl _) (.int .i64 S)).setCell (p := ⟨b, 4, none⟩) (Nat.le_refl _) (.int .i64 T)).setCell (p := ⟨b, 5, none⟩) (Nat.le_refl _) (.slice va AA.length ca))
          clear X4 O4 B4 XX OX
          go_wp2
          go_ret
          exact ⟨by rw [HR2.out]; rfl, by rw [HR2.out]; exact ⟨va, ca, XL.out, hca, OL.out⟩, BL.out⟩
end Go.Proofs.YtbifkpkhpaellaaGreatDoor

namespace Go.Proofs.YtbifkpkhpaellaaGreatDoor
open Go.RowKit

set_option maxRecDepth 1000000 in
set_option maxHeartbeats 1000000 in
theorem specSumMore_any (x : Nat) (hx : x < 4294967296) (s : ByteArray) (hs : s.size ≤ 140737488355328) (w : World) :
    Calls Tryz.prog 86 #[.int .u32 x, .string s] w fun e w' => e = .returned (.int .u32 (crc x s.data.toList)) ∧ w' = w := by
  go_enter Tryz.func86, Tryz.ntmps86
  go_wp2
  go_loopg [0, 5, 6, 7] s.size (fun g y i _ _ wr => ∃ (k : Nat), k + g = s.size ∧ i = .int .i64 k ∧ y = .int .u32 (crc x (s.data.toList.take k)) ∧ wr = w)
  case atStart => exact ⟨0, by omega, rfl, rfl, rfl⟩
  case round =>
    obtain ⟨k, hkg, rfl, rfl, rfl⟩ := hrel
    obtain ⟨c, hc⟩ : ∃ c, c = crc x (s.data.toList.take k) := ⟨_, rfl⟩
    have hcl : c < 4294967296 := by rw [hc]; exact crc_lt hx _
    cases gk with
    | zero =>
      have hlt : ¬ (k : Int) < (s.size : Int) := by omega
      have HE : Hid (c = crc x s.data.toList) := by
        show _ = _
        rw [hc, List.take_of_length_le (by simp; omega)]
      rw [← hc]
      clear hc
      go_wp2
      go_ret
      exact ⟨ret_u32 HE.out, rfl⟩
    | succ g =>
      have hlt : k < s.size := by omega
      have hlt' : (k : Int) < (s.size : Int) := by omega
      have c0 : (s[k].toNat : Int) ≤ 255 := by have := s[k].toNat_lt; omega
      have HC : Hid (crc x (s.data.toList.take (k + 1)) = crc1 c s[k]) := by show _ = _; rw [take_one s k hlt, crc_snoc, hc]
      have hxr : bits .xor .u32 (c : Int) (s[k].toNat : Int) = ((c ^^^ s[k].toNat : Nat) : Int) := u32_xor_nat c s[k].toNat hcl (by have := s[k].toNat_lt; omega)
      rw [← hc]
      clear hc
      go_wp2
      clear hxr
      obtain ⟨d, hd⟩ : ∃ d, d = c ^^^ s[k].toNat := ⟨_, rfl⟩
      have hdl : d < 4294967296 := by rw [hd]; exact xb_lt hcl _
      have HD : Hid (crc1 c s[k] = hsN 8 d) := by rw [hd]; rfl
      go_loopg [0, 6, 7] 8 (fun g2 y j _ wy => ∃ (i : Nat), i + g2 = 8 ∧ j = .int .i64 i ∧ y = .int .u32 (hsN i d) ∧ wy = wr)
      case atStart => exact ⟨0, by omega, rfl, by rw [hd]; rfl, rfl⟩
      case round =>
        obtain ⟨i, hig, rfl, rfl, rfl⟩ := hrel
        obtain ⟨e, he⟩ : ∃ e, e = hsN i d := ⟨_, rfl⟩
        have hel : e < 4294967296 := by rw [he]; exact hsN_lt i hdl
        cases gk with
        | zero =>
          have hi : ¬ (i : Int) < 8 := by omega
          have HX : Hid (e = crc x (s.data.toList.take (k + 1))) := by
            show _ = _
            have e8 : i = 8 := by omega
            rw [HC.out, HD.out, he, e8]
          rw [← he]
          clear he hd
          go_wp2
          go_roundg g
          case measure => omega
          case rel => exact ⟨k + 1, by omega, by go_num, by rw [HX.out], rfl⟩
        | succ g2 =>
          have hi : (i : Int) < 8 := by omega
          have HX : Hid (hsN (i + 1) d = half e) := by show _ = _; rw [he]; rfl
          rw [← he]
          clear he hd
          by_cases ho : e % 2 = 1
          · have ho' : ((e : Int) % 2 == 1) = true := by simp; omega
            have hxr : bits .xor .u32 ((e : Int) / 2) 3558460437 = ((e / 2 ^^^ 3558460437 : Nat) : Int) := by
              have := u32_xor_nat (e / 2) 3558460437 (by omega) (by omega)
              simpa using this
            have HH : Hid (half e = e / 2 ^^^ 3558460437) := by show _ = _; unfold half; rw [if_pos ho]
            clear ho
            go_wp2
            go_roundg g2
            case measure => omega
            case rel => exact ⟨i + 1, by omega, by go_num, by rw [HX.out, HH.out], rfl⟩
          · have ho' : ((e : Int) % 2 == 1) = false := by simp; omega
            have HH : Hid (half e = e / 2) := by show _ = _; unfold half; rw [if_neg ho]
            clear ho
            go_wp2
            go_roundg g2
            case measure => omega
            case rel => exact ⟨i + 1, by omega, by go_num, by rw [HX.out, HH.out]; go_num, rfl⟩

end Go.Proofs.YtbifkpkhpaellaaGreatDoor
