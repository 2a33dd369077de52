/-
  The walk of (*impl.pile).placeFor: the place of a datagram's bits, new ones where there are none.
-/
import Derived.Test.YthdklbmachplmaaJoint35
import Derived.Test.YthdklbmachplmaaJoint1
namespace Go.Proofs.Ythdklbmachplmaa
open Go.RowKit Go.Maps
theorem PileAt.drop {w w' : World} {pb : Nat} {l : List BitD} {im : Nat → Option Nat} {lo hi N : Nat} {va : Option Addr} {vc mb : Nat} {rs : List BitsD} (h : PileAt w pb l im lo hi N va vc mb rs) (k : Nat) (hm : MapIs w' mb N (outerM fun j => if j = k then none else im j)) (ht : w.mapTurned w' mb) : PileAt w' pb l (fun j => if j = k then none else im j) lo hi N va vc mb rs := by
  have turn : ∀ {g : Nat} {t : TypeId} {cs : List Value}, BlockIs w g t cs → BlockIs w' g t cs := fun hg => hg.turn h.outer ht
  refine ⟨turn h.blk, row_ext h.row fun g cs hg => turn hg, h.nest.other (fun _ _ hg => turn hg) (fun _ _ hg => turn hg), Nat.le_trans h.top ht.grown.size, hm, h.low, fun j g hg => ?_, fun i j g hi hj => ?_⟩
  · by_cases e : j = k
    · rw [if_pos e] at hg
      cases hg
    · rw [if_neg e] at hg
      obtain ⟨h1, h2, e', h3, h4⟩ := h.inner j g hg
      exact ⟨h1, h2, e', h3, h4.kept ht.grown (by simp; omega)⟩
  · by_cases e1 : i = k
    · rw [if_pos e1] at hi
      cases hi
    · by_cases e2 : j = k
      · rw [if_pos e2] at hj
        cases hj
      · rw [if_neg e1] at hi
        rw [if_neg e2] at hj
        exact h.inj i j g hi hj
theorem wpList_delete_map {w : World} {ops : Array Oper} {rest : List Oper} {o : Oper} {a : Act} {Q : Exit → Act → World → Prop} (hgd : o.guard = none) (m x : Operand) {t e : TypeId} (ho : o.op = .call { callee := .builtin .delete, args := #[m, x], argTypes := #[t, 3] }) (ht : Try.prog.underlying t = some (.map 3 e))
    {b N : Nat} {f : Int → Option Value} {z : Int} (hm : a.eval m = .map (some b)) (hx : a.eval x = .int .i64 z) (hM : MapIs w b N f) (hz : (Lit.int .i64 z).wf = true)
    (h : ∀ w1, MapIs w1 b N (fun y => if y = z then none else f y) → w.mapTurned w1 b → wpList Try.prog ops Q rest (a.put o.dst (.tuple #[])) w1) : wpList Try.prog ops Q (o :: rest) a w := by
  obtain ⟨w', hrun, h1, h2⟩ := hM.del ht hz o.type
  refine wpList_plain hgd fun K' hK' => ?_
  unfold Oper.wp
  simp [execOp, ho, resolve, invoke, builtin, hm, hx, hrun, Result.andThen]
  exact hK' _ _ (h w' h1 h2)
set_option maxRecDepth 1000000 in
set_option maxHeartbeats 8000000 in
theorem placeFor_any (pb : Nat) (l : List BitD) (im : Nat → Option Nat) (lo hi N : Nat) (va : Option Addr) (vc mb : Nat) (rs : List BitsD) (d : DgramD) (now : Int) (hl : l.length ≤ 1048576) (hN : N ≤ 4194304) (hn0 : 0 ≤ now) (hn1 : now ≤ 1000000000)
    (hal : ∀ j, (im j).isSome = true ↔ j < l.length) (w : World) (hp : PileAt w pb l im lo hi N va vc mb rs) :
    Calls Try.prog 28 #[.pointer (some ⟨pb, 0, none⟩), .agg #[.int .i64 d.src, .int .i64 d.dst, .int .i64 d.ident, .int .i64 d.place, .bool d.more, .string d.body], .int .i64 now] w fun e' w' => Below lo w w' ∧ ((∃ k, foundB l d = some k ∧ e' = .returned (.int .i64 (k : Int)) ∧ PileAt w' pb l im lo hi N va vc mb rs) ∨
      (foundB l d = none ∧ e' = .returned (.int .i64 (l.length : Int)) ∧ ∃ va' vc' im', PileAt w' pb (l ++ [newB d now]) im' lo w'.heap.size (N + 1) va' vc' mb (rs ++ [rawB (newB d now) none 0 none 0]) ∧ ∀ j, (im' j).isSome = true ↔ (j < l.length + 1 ∧ ¬ (3 < l.length + 1 ∧ j = 0)))) := by
  have hlo : lo ≤ w.heap.size := Nat.le_trans hp.nest.le hp.top
  have hlr := hp.nest.length
  have bx := below_more (Below.refl w.heap.size w) (.cells #[.int .i64 d.src, .int .i64 d.dst, .int .i64 d.ident, .int .i64 d.place, .bool d.more, .string d.body] 26)
  have hx : BlockIs (w.alloc (.cells #[.int .i64 d.src, .int .i64 d.dst, .int .i64 d.ident, .int .i64 d.place, .bool d.more, .string d.body] 26)) w.heap.size 26 [.int .i64 d.src, .int .i64 d.dst, .int .i64 d.ident, .int .i64 d.place, .bool d.more, .string d.body] := heap_alloc_new w _
  have hp0 := hp.on bx
  obtain ⟨W0, hW0⟩ : ∃ W, w.alloc (.cells #[.int .i64 d.src, .int .i64 d.dst, .int .i64 d.ident, .int .i64 d.place, .bool d.more, .string d.body] 26) = W := ⟨_, rfl⟩
  rw [hW0] at bx hx hp0
  have X0 := hid hx
  have B0 := hid bx
  have P0 := hid hp
  have p0 := hp0.blk.cell (j := 0) rfl
  have HAL := hid hal
  have HLR := hid hlr
  clear hp hp0 hx bx hal
  rw [← hlr] at p0
  clear hlr
  go_enter Try.func28, Try.ntmps28
  go_wp2
  go_loopg [15] l.length (fun q i wr => ∃ (k : Nat), k + q = l.length ∧ i = .int .i64 k ∧ Hid (Below w.heap.size w wr) ∧ Hid (BlockIs wr w.heap.size 26 [.int .i64 d.src, .int .i64 d.dst, .int .i64 d.ident, .int .i64 d.place, .bool d.more, .string d.body]) ∧ Hid (foundB (l.take k) d = none))
  case atStart => exact ⟨0, by omega, rfl, B0, X0, (show _ = _ from rfl)⟩
  case round =>
    obtain ⟨k, hkg, rfl, BR, XR, FN⟩ := hrel
    clear B0 X0 hW0 p0
    have pr := P0.out.on BR.out
    have x0 := XR.out.cell (j := 0) rfl
    have x2 := XR.out.cell (j := 2) rfl
    cases gk with
    | zero =>
      have hlt : ¬ (k : Int) < (l.length : Int) := by omega
      rw [List.take_of_length_le (show l.length ≤ k by omega)] at FN
      have ho := own_none wr d now hi pr.top
      have hlr := HLR.out
      have CA := hid (pileAdd_any pb l im lo hi N va vc mb rs (newB d now) (rawB (newB d now) none 0 none 0) (by omega) hN (fun z hz => by simp [newB] at hz) (by simp [newB]) (by simp [newB]) (fun j g hj => (HAL.out j).1 (by rw [hj]; rfl)) wr pr ho)
      rw [← hlr] at CA
      simp only [rawB, newB, List.length_nil] at CA
      clear pr ho hlr
      go_wp2_with fail
      refine Calls.mono CA.out ?_
      rintro e9 w2 ⟨rfl, va2, vc2, g, p2, b2⟩
      have B2 := hid ((BR.out.mono hlo).trans b2)
      have hl2 := p2.nest.length
      have z0 := p2.blk.cell (j := 0) rfl
      rw [← hl2, List.length_append, List.length_singleton] at z0
      have AL2 : Hid (∀ j, ((fun j => if j = l.length then some g else im j) j).isSome = true ↔ j < l.length + 1) := (show ∀ j, _ from fun j => by
        by_cases hj : j = l.length
        · simp [hj]
        · have := HAL.out j
          simp only [if_neg hj]
          exact ⟨fun h => by have := this.1 h; omega, fun h => this.2 (by omega)⟩)
      have P2 := hid p2
      clear CA b2 BR XR x0 x2 hl2
      by_cases h3 : 3 < l.length + 1
      · have h3' : (3 : Int) < ((l.length + 1 : Nat) : Int) := by omega
        have z1 := P2.out.blk.cell (j := 1) rfl
        have hmo := P2.out.outer
        go_wp2_with (at_delete; refine wpList_delete_map rfl _ _ rfl Try.underlying60 rfl rfl hmo (outerM_wf 0 (by omega)) ?_; intro w3 hm3 ht3)
        have P3 := hid (P2.out.drop 0 (hm3.ext fun x _ => outerM_del _ 0 x) ht3)
        have B3 := hid (B2.out.grown ht3.grown (Nat.le_trans hlo B2.out.size) (fun j e9 => by simp at e9; have := P2.out.low.2; omega))
        have HS3 := hid ht3.grown.size
        have AL3 : Hid (∀ j, ((fun j => if j = 0 then none else (fun j => if j = l.length then some g else im j) j) j).isSome = true ↔ (j < l.length + 1 ∧ ¬ (3 < l.length + 1 ∧ j = 0))) := (show ∀ j, _ from fun j => by
          by_cases hj : j = 0
          · simp [hj, h3]
          · have := AL2.out j
            simp only [if_neg hj] at this ⊢
            exact ⟨fun h => ⟨this.1 h, fun q => hj q.2⟩, fun h => this.2 h.1⟩)
        clear hm3 ht3 p2
        go_ret
        refine ⟨B3.out, Or.inr ⟨FN.out, rfl, va2, vc2, _, ?_, AL3.out⟩⟩
        have q3 := P3.out
        exact ⟨q3.blk, q3.row, q3.nest.up HS3.out, Nat.le_refl _, q3.outer, q3.low, q3.inner, q3.inj⟩
      · have h3' : ¬ (3 : Int) < ((l.length + 1 : Nat) : Int) := by omega
        have AL3 : Hid (∀ j, ((fun j => if j = l.length then some g else im j) j).isSome = true ↔ (j < l.length + 1 ∧ ¬ (3 < l.length + 1 ∧ j = 0))) := (show ∀ j, _ from fun j => by
          have := AL2.out j
          exact ⟨fun h => ⟨this.1 h, fun q => h3 q.1⟩, fun h => this.2 h.1⟩)
        clear p2
        go_wp2
        go_ret
        exact ⟨B2.out, Or.inr ⟨FN.out, rfl, va2, vc2, _, P2.out, AL3.out⟩⟩
    | succ q =>
      have hlt : k < l.length := by omega
      have hlt' : (k : Int) < (l.length : Int) := by omega
      have htwo := pr.nest.holds
      have hll := htwo.length
      have hkr : k < rs.length := by omega
      have hho := htwo.get k hlt hkr
      have hat := bitsR_at pr.row
      have hb0 := pr.blk.cell (j := 0) rfl
      obtain ⟨b, off, hvab, hc⟩ := hat (by intro e; rw [e] at hkr; simp at hkr)
      obtain ⟨y0, y1, y2, y3, y4, y5⟩ := hc k hkr
      obtain ⟨Q, hQ⟩ : ∃ R, rs[k] = R := ⟨_, rfl⟩
      rw [hQ] at y0 y1 y2 y3 y4 y5 hho
      have hqs : Q.src = l[k].src := by obtain ⟨_, _, _, _, rfl, _⟩ := hho; rfl
      have hqi : Q.ident = l[k].ident := by obtain ⟨_, _, _, _, rfl, _⟩ := hho; rfl
      subst hvab
      have bx := below_more (Below.refl wr.heap.size wr) (.cells #[.int .i64 Q.src, .int .i64 Q.ident, .slice Q.tx.ad Q.tx.len Q.tx.cap, .slice Q.ax.ad Q.ax.len Q.ax.cap, .int .i64 Q.total, .int .i64 Q.lim] 35)
      have B2 := hid (below_via BR.out bx)
      have X2 := hid (XR.out.on bx XR.out.lt)
      have P2 := hid (pr.on bx)
      have a0 := X2.out.cell (j := 0) rfl
      have a2 := X2.out.cell (j := 2) rfl
      have HISO : Hid (isOf d l[k] = (decide (Q.src = d.src) && decide (Q.ident = d.ident))) := (show _ = _ by rw [isOf, hqs, hqi])
      have FS : Hid (isOf d l[k] = false → foundB (l.take (k + 1)) d = none) := fun hno => by rw [List.take_succ_eq_append_getElem hlt, foundB_snoc, FN.out, if_neg (by rw [hno]; decide)]; rfl
      have FY := hid (fun hy => foundB_hit hlt FN.out hy)
      clear htwo hll hho hat hc hQ hqs hqi pr x0 x2 hkr bx hb0
      by_cases h1 : Q.src = d.src
      · have g1 : (Q.src == d.src) = true := by simpa using h1
        by_cases h2 : Q.ident = d.ident
        · have g2 : (Q.ident == d.ident) = true := by simpa using h2
          have HY := hid (FY.out (by rw [HISO.out]; simp [h1, h2]))
          have H1 := hid h1
          have H2 := hid h2
          clear h1 h2 FS FY
          go_wp2
          go_ret
          exact ⟨(B2.out.mono hlo), Or.inl ⟨k, HY.out, rfl, P2.out⟩⟩
        · have g2 : (Q.ident == d.ident) = false := by simpa using h2
          have HN := hid (FS.out (by rw [HISO.out]; simp [h1, h2]))
          have H1 := hid h1
          clear h1 FS FY
          go_wp2
          go_roundg q
          case measure => omega
          case rel => exact ⟨k + 1, by omega, by go_num, B2, X2, HN⟩
      · have g1 : (Q.src == d.src) = false := by simpa using h1
        have HN := hid (FS.out (by rw [HISO.out]; simp [h1]))
        clear FS FY
        go_wp2
        go_roundg q
        case measure => omega
        case rel => exact ⟨k + 1, by omega, by go_num, B2, X2, HN⟩
end Go.Proofs.Ythdklbmachplmaa
