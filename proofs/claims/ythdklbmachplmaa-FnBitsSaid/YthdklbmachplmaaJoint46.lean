/-
  The walk of (*impl.pile).body: what the parts from 0 on have.
  The walk of impl.isAddress: whether a number is an address.
  The walk of impl.DgramOk: what it answers.
-/
import Derived.Test.YthdklbmachplmaaJoint39
import Derived.Test.YthdklbmachplmaaJoint45
import Derived.Lib.QuietBelow
import Derived.BigQuiet
import Derived.Lib.FrozenHead
import Derived.Deep.LoopGhost
import Derived.Deep.RegionWith
import Derived.Test.YthdklbmachplmaaRows
import Derived.Test.YthdklbmachplmaaJoint1
import Derived.WalkKit
namespace Go.Proofs.Ythdklbmachplmaa
open Go.RowKit Go.Maps

theorem isb_on {T : TypeId} {B b : Nat} {bs : List Value} {w w' : World} (h : Lib.IsBuilder T 5 B b bs w) (hb : Below w.heap.size w w') : Lib.IsBuilder T 5 B b bs w' := by
  have go : ∀ {p : Value}, Lib.BuilderAt T 5 B b p bs w → Lib.BuilderAt T 5 B b p bs w' := fun {p} q => by
    obtain ⟨h1, v, h2, h3, h4⟩ := q
    have hlt : b < w.heap.size := by
      rcases Nat.lt_or_ge b w.heap.size with h' | h'
      · exact h'
      · simp [Array.getElem?_eq_none h'] at h2
    exact ⟨h1, v, (hb.block b hlt).trans h2, rows_below h3 hb, h4⟩
  exact h.imp go go
theorem no_textB (s : ByteArray) : (s.toList == []) = decide (s.size = 0) := by
  rw [ByteArray.toList_eq]
  by_cases h : s.size = 0
  · have : s.data.toList = [] := List.length_eq_zero_iff.1 (by simpa using h)
    simp [h, this]
  · have : s.data.toList ≠ [] := fun q => h (by have := congrArg List.length q; simpa using this)
    rw [decide_eq_false h, beq_eq_false_iff_ne]
    exact this
theorem textB_size' {e : BitD} (hs : e.texts.length ≤ 1048577 ∧ ∀ t ∈ e.texts, t.size ≤ 1048576) (i : Nat) : (textB e i).size ≤ 1048576 := by
  unfold textB
  rw [List.getD_eq_getElem?_getD]
  cases h : e.texts[i]? with
  | none => exact Nat.zero_le _
  | some t => exact hs.2 t (List.mem_of_getElem? h)
theorem bytes_append (s t : ByteArray) : Lib.byteCells s.data.toList ++ Lib.strCells t = Lib.byteCells (s ++ t).data.toList := by
  simp [Lib.byteCells, Lib.strCells, ByteArray.data_append]
/-- the worlds of the last row of the body -/
structure LastW (w : World) (e : BitD) (s : ByteArray) where
  W : World
  x4 : W.cell? ⟨w.heap.size, 4, none⟩ = some (.int .i64 e.total)
  u : Lib.IsBuilderF 87 5 (w.heap.size + 1) (w.heap.size + 1) (Lib.byteCells s.data.toList) W
  b : Below w.heap.size w W
  z : w.heap.size + 1 ≤ W.heap.size
theorem wp_region_last {P : Program} {id : Nat} {Q : Exit → Act → World → Prop} {a : Act} {w0 w : World} {e : BitD} {s : ByteArray} {l : List Oper} (hm : P.follows .mixedOrders = true) (hB : Region.lexB .any l.toArray = true) (hC : ∃ p : LastW w e s, { w0 with drawn := w0.drawn + 1 } = p.W)
    (h : wpQuiet P l.toArray (fun w' => ∃ p : LastW w e s, w' = p.W) (fun a' => ∀ w', (∃ p : LastW w e s, w' = p.W) → Q .normal a' w') l a) : (Code.region id l.toArray true).wp P Q a w0 :=
  wp_region_quiet (C := fun w' => ∃ p : LastW w e s, w' = p.W) hm hB hC (by simpa using h)
set_option maxRecDepth 1000000 in
set_option maxHeartbeats 8000000 in
theorem pileBody_any (pb : Nat) (l : List BitD) (im : Nat → Option Nat) (N : Nat) (va : Option Addr) (vc mb : Nat) (rs : List BitsD) (k g : Nat) (e : BitD) (hk : k ≤ 1048577) (hs : e.texts.length ≤ 1048577 ∧ ∀ t ∈ e.texts, t.size ≤ 1048576) (htot : e.total ≤ 1000000) (w : World) (hp : PileRead w pb l im N va vc mb rs k g e) :
    Calls Try.prog 30 #[.pointer (some ⟨pb, 0, none⟩), .int .i64 (k : Int)] w fun e' w' => ∃ S ok, e' = .returned (.tuple #[.string S, .bool ok]) ∧ ((ok = true ∧ bodyB e = some S) ∨ (ok = false ∧ bodyB e = none)) ∧ Below w.heap.size w w' := by
  have hkl : k < l.length := by
    have := hp.elem
    rw [List.getElem?_eq_some_iff] at this
    exact this.1
  have hll := hp.two.length
  have hkr : k < rs.length := by omega
  have hho := hp.two.get k hkl hkr
  have hel : l[k] = e := by
    have := hp.elem
    rw [List.getElem?_eq_getElem hkl] at this
    exact Option.some.inj this
  rw [hel] at hho
  obtain ⟨ta, tc, aa, ac, hR, ht, ha⟩ := hho
  obtain ⟨b, off, hva, hc⟩ := hp.at_ (by intro q; rw [q] at hkr; simp at hkr)
  obtain ⟨y0, y1, y2, y3, y4, y5⟩ := hc k hkr
  rw [hR] at y0 y1 y2 y3 y4 y5
  simp only [rawB] at y0 y1 y2 y3 y4 y5
  subst hva
  have p0 := hp.blk.cell (j := 0) rfl
  have hkrI : (k : Int) < (rs.length : Int) := by omega
  have hx0 : BlockIs (w.alloc (.cells #[.int .i64 e.src, .int .i64 e.ident, .slice ta e.texts.length tc, .slice aa e.ats.length ac, .int .i64 e.total, .int .i64 e.lim] 35)) w.heap.size 35 [.int .i64 e.src, .int .i64 e.ident, .slice ta e.texts.length tc, .slice aa e.ats.length ac, .int .i64 e.total, .int .i64 e.lim] := heap_alloc_new w _
  have bx0 := below_more (Below.refl w.heap.size w) (.cells #[.int .i64 e.src, .int .i64 e.ident, .slice ta e.texts.length tc, .slice aa e.ats.length ac, .int .i64 e.total, .int .i64 e.lim] 35)
  have hz0 : (w.alloc (.cells #[.int .i64 e.src, .int .i64 e.ident, .slice ta e.texts.length tc, .slice aa e.ats.length ac, .int .i64 e.total, .int .i64 e.lim] 35)).heap.size = w.heap.size + 1 := by simp [World.alloc, -World.alloc_eq]
  obtain ⟨W1, hW1⟩ : ∃ W, w.alloc (.cells #[.int .i64 e.src, .int .i64 e.ident, .slice ta e.texts.length tc, .slice aa e.ats.length ac, .int .i64 e.total, .int .i64 e.lim] 35) = W := ⟨_, rfl⟩
  rw [hW1] at hx0 bx0 hz0
  have hbu := Lib.fresh_isBuilder 87 5 W1
  have bx1 := below_more (Below.refl W1.heap.size W1) (.cells #[.pointer none, .slice none 0 0] 87)
  have hx1 := hx0.on bx1 hx0.lt
  obtain ⟨W2, hW2⟩ : ∃ W, W1.alloc (.cells #[.pointer none, .slice none 0 0] 87) = W := ⟨_, rfl⟩
  rw [hW2] at hbu bx1 hx1
  rw [hz0] at hbu
  have P0 := hid hp
  have X0 := hid hx1
  have B0 := hid (below_via bx0 bx1)
  have U0 : Hid (Lib.IsBuilder 87 5 (w.heap.size + 1) (w.heap.size + 1) (Lib.byteCells (⟨#[]⟩ : ByteArray).data.toList) W2) := hbu
  have HT := hid ht
  have HS := hid hs
  have hW2s : w.heap.size + 1 ≤ W2.heap.size := by have := bx1.size; omega
  clear hp hx0 bx0 bx1 hbu hx1 hc hR ht ha hel hs hll
  go_enter Try.func30, Try.ntmps30
  go_wp2
  go_loopg [8, 9] (e.total.toNat + 1) (fun f _ _ wr => ∃ (s : ByteArray) (f' : Nat), f = f' + 1 ∧ e.total ≤ (f' : Int) + (s.size : Int) ∧ s.size ≤ 3000000 ∧ Hid (runB e f' s = runB e e.total.toNat ⟨#[]⟩) ∧ Hid (Below w.heap.size w wr) ∧ w.heap.size + 1 ≤ wr.heap.size ∧ Hid (BlockIs wr w.heap.size 35 [.int .i64 e.src, .int .i64 e.ident, .slice ta e.texts.length tc, .slice aa e.ats.length ac, .int .i64 e.total, .int .i64 e.lim]) ∧ Hid (Lib.IsBuilder 87 5 (w.heap.size + 1) (w.heap.size + 1) (Lib.byteCells s.data.toList) wr))
  case atStart => exact ⟨⟨#[]⟩, e.total.toNat, rfl, by omega, by decide, (show _ = _ from rfl), B0, hW2s, X0, U0⟩
  case round =>
    obtain ⟨s, f', hgk, hft, hsl, RN, BR, hwz, XR, UR⟩ := hrel
    clear B0 X0 U0 hW2 hW1 p0 y0 y1 y2 y3 y4 y5 hz0
    have hbl : (Lib.byteCells s.data.toList).length = s.size := by rw [Lib.byteCells_length]; simp
    have K1 := fun dd os => Calls.regrown_of (w := wr) (d := dd) (os := os) (Calls.mono (Try.Builder_Len (w.heap.size + 1) (w.heap.size + 1) (Lib.byteCells s.data.toList) (Go.Sort.grow (redrawn wr dd) os) (isb_on UR.out (below_regrown wr dd os))) (fun e9 W' h9 => show e9 = .returned (.int .i64 (s.size : Int)) ∧ Below _ _ W' from ⟨by rw [h9.1, hbl], by rw [h9.2]; exact Below.refl _ _⟩))
    have D1 := hid K1
    have z4 := XR.out.cell (j := 4) rfl
    have Z4 := cell_regrown z4
    clear K1 hbl z4
    by_cases hlt : (s.size : Int) < e.total
    · go_wp2
      refine wp_region_quiet_below (by kernel_rfl) (by kernel_rfl) ?_
      repeat (first | go_big_quiet_step (first | (go_at_call 50; exact D1.out _ _) | fail) | quiet_step (first | (go_at_call 50; exact D1.out _ _) | fail))
      refine wpQuiet_nil ?_
      intro _ hw'
      obtain ⟨⟨dq, osq⟩, hw''⟩ := hw'
      subst hw''
      have bq := below_regrown wr dq osq
      generalize Go.Sort.grow (redrawn wr dq) osq = wq at bq ⊢
      have BQ := hid (below_via BR.out bq)
      have XQ := hid (XR.out.on bq XR.out.lt)
      have UQ := hid (isb_on UR.out bq)
      have hwq : w.heap.size + 1 ≤ wq.heap.size := Nat.le_trans hwz bq.size
      clear bq D1 Z4 BR XR UR
      have PQ := hid (P0.out.on BQ.out)
      have hbl : (Lib.byteCells s.data.toList).length = s.size := by rw [Lib.byteCells_length]; simp
      have K1 := fun dd os => Calls.regrown_of (w := wq) (d := dd) (os := os) (Calls.mono (Try.Builder_Len (w.heap.size + 1) (w.heap.size + 1) (Lib.byteCells s.data.toList) (Go.Sort.grow (redrawn wq dd) os) (isb_on UQ.out (below_regrown wq dd os))) (fun e9 W' h9 => show e9 = .returned (.int .i64 (s.size : Int)) ∧ Below _ _ W' from ⟨by rw [h9.1, hbl], by rw [h9.2]; exact Below.refl _ _⟩))
      have D1 := hid K1
      have P1 := cell_regrown (PQ.out.blk.cell (j := 1) rfl)
      have hom : outerM im (k : Int) = some (.map (some g)) := by simp [outerM, P0.out.ink]
      have hlk1 : ∀ dd os, (Instr.lookup 60 (.map (some mb)) (.int .i64 (k : Int)) false).run Try.prog (Go.Sort.grow (redrawn wq dd) os) = .ok (.map (some g)) (Go.Sort.grow (redrawn wq dd) os) := fun dd os => by
        have := ((PQ.out.on (below_regrown wq dd os)).outer).get Try.underlying60 (zeroM _) coded_nil (outerM_wf k (by omega))
        rw [hom] at this
        exact this
      have hlk2 : ∀ dd os, (Instr.lookup 81 (.map (some g)) (.int .i64 (s.size : Int)) true).run Try.prog (Go.Sort.grow (redrawn wq dd) os) = .ok (.tuple #[(firstMap e.ats (s.size : Int)).getD (.int .i64 0), .bool (firstMap e.ats (s.size : Int)).isSome]) (Go.Sort.grow (redrawn wq dd) os) := fun dd os => ((PQ.out.on (below_regrown wq dd os)).inner).look Try.underlying81 (zero3 _) (coded_int 0) (outerM_wf s.size (by omega))
      clear K1 hbl hom PQ
      cases hfa : firstAt e.ats (s.size : Int) with
      | none =>
        rw [show firstMap e.ats (s.size : Int) = none by rw [firstMap, hfa]; rfl] at hlk2
        simp only [Option.getD_none, Option.isSome_none] at hlk2
        have HNO : Hid (bodyB e = none) := (show _ = _ by rw [bodyB, ← RN.out, runB_no hlt hfa]; rfl)
        clear hfa RN
        go_wp2
        refine wp_region_quiet_below (by kernel_rfl) (by kernel_rfl) ?_
        repeat (first | go_big_quiet_step (first | (go_at_call 50; exact D1.out _ _) | fail) | quiet_step (first | (go_at_call 50; exact D1.out _ _) | fail))
        refine wpQuiet_nil ?_
        intro _ hw'
        obtain ⟨⟨dq, osq⟩, hw''⟩ := hw'
        subst hw''
        have bq := below_regrown wq dq osq
        generalize Go.Sort.grow (redrawn wq dq) osq = wv at bq ⊢
        have BV := hid (below_via BQ.out bq)
        have XV := hid (XQ.out.on bq XQ.out.lt)
        have UV := hid (isb_on UQ.out bq)
        have hwv : w.heap.size + 1 ≤ wv.heap.size := Nat.le_trans hwq bq.size
        clear bq D1 P1 BQ XQ UQ hlk1 hlk2
        go_wp2
        go_ret2
        exact ⟨_, false, rfl, Or.inr ⟨rfl, HNO.out⟩, BV.out⟩
      | some i =>
        rw [show firstMap e.ats (s.size : Int) = some (.int .i64 (i : Int)) by rw [firstMap, hfa]; rfl] at hlk2
        simp only [Option.getD_some, Option.isSome_some] at hlk2
        have htz := textB_size' HS.out i
        have HFA := hid hfa
        clear hfa
        go_wp2
        refine wp_region_quiet_below (by kernel_rfl) (by kernel_rfl) ?_
        repeat (first | go_big_quiet_step (first | (go_at_call 50; exact D1.out _ _) | fail) | quiet_step (first | (go_at_call 50; exact D1.out _ _) | fail))
        refine wpQuiet_nil ?_
        intro _ hw'
        obtain ⟨⟨dq, osq⟩, hw''⟩ := hw'
        subst hw''
        have bq := below_regrown wq dq osq
        generalize Go.Sort.grow (redrawn wq dq) osq = wv at bq ⊢
        have BV := hid (below_via BQ.out bq)
        have XV := hid (XQ.out.on bq XQ.out.lt)
        have UV := hid (isb_on UQ.out bq)
        have hwv : w.heap.size + 1 ≤ wv.heap.size := Nat.le_trans hwq bq.size
        clear bq D1 P1 BQ XQ UQ hlk1 hlk2
        have v0 := XV.out.cell (j := 0) rfl
        have v1 := XV.out.cell (j := 1) rfl
        have v2 := XV.out.cell (j := 2) rfl
        have v3 := XV.out.cell (j := 3) rfl
        have v4 := XV.out.cell (j := 4) rfl
        have v5 := XV.out.cell (j := 5) rfl
        have CT := hid (textAt_any e ta tc (.slice aa e.ats.length ac) i wv (HT.out.on BV.out))
        obtain ⟨X, hX⟩ : ∃ X, textB e i = X := ⟨_, rfl⟩
        rw [hX] at CT htz
        have HX := hid hX
        clear hX
        go_wp2_with fail
        refine Calls.mono CT.out ?_
        rintro e9 wx ⟨rfl, b9⟩
        have BX := hid (below_via BV.out b9)
        have XX := hid (XV.out.on b9 XV.out.lt)
        have UX := hid (isb_on UV.out b9)
        have hwx : w.heap.size + 1 ≤ wx.heap.size := Nat.le_trans hwv b9.size
        have hem := no_textB X
        clear v0 v1 v2 v3 v4 v5 CT b9 BV XV UV
        by_cases hz : X.size = 0
        · rw [decide_eq_true hz] at hem
          have HNO : Hid (bodyB e = none) := (show _ = _ by rw [bodyB, ← RN.out, runB_empty hlt HFA.out (by rw [HX.out]; exact hz)]; rfl)
          clear hz RN
          go_wp2
          go_ret2
          exact ⟨_, false, rfl, Or.inr ⟨rfl, HNO.out⟩, BX.out⟩
        · rw [decide_eq_false hz] at hem
          have v0 := XX.out.cell (j := 0) rfl
          have v1 := XX.out.cell (j := 1) rfl
          have v2 := XX.out.cell (j := 2) rfl
          have v3 := XX.out.cell (j := 3) rfl
          have v4 := XX.out.cell (j := 4) rfl
          have v5 := XX.out.cell (j := 5) rfl
          have CT := hid (textAt_any e ta tc (.slice aa e.ats.length ac) i wx (HT.out.on BX.out))
          rw [HX.out] at CT
          go_wp2_with fail
          refine Calls.mono CT.out ?_
          rintro e9 wy ⟨rfl, b9⟩
          have BY := hid (below_via BX.out b9)
          have XY := hid (XX.out.on b9 XX.out.lt)
          have hwy : w.heap.size + 1 ≤ wy.heap.size := Nat.le_trans hwx b9.size
          have CW := hid (writeString_any (w.heap.size + 1) (w.heap.size + 1) (Lib.byteCells s.data.toList) X wy (isb_on UX.out b9) (by rw [Lib.byteCells_length, Array.length_toList]; show s.size + X.size ≤ _; omega) hwy)
          clear v0 v1 v2 v3 v4 v5 CT b9 BX XX UX
          go_wp2_with fail
          refine Calls.mono CW.out ?_
          rintro e9 wz ⟨rfl, u9, b9⟩
          rw [bytes_append] at u9
          have UZ : Hid (Lib.IsBuilder 87 5 (w.heap.size + 1) (w.heap.size + 1) (Lib.byteCells (s ++ X).data.toList) wz) := Or.inr u9
          have BZ := hid (BY.out.trans (b9.mono (by omega)))
          have XZ := hid (XY.out.on b9 (by omega))
          have hwz2 : w.heap.size + 1 ≤ wz.heap.size := Nat.le_trans hwy b9.size
          have hsz : (s ++ X).size = s.size + X.size := ByteArray.size_append
          clear CW u9 b9 BY XY
          cases f' with
          | zero => omega
          | succ f2 =>
            have RN2 : Hid (runB e f2 (s ++ X) = runB e e.total.toNat ⟨#[]⟩) := (show _ = _ by rw [← RN.out, runB_step hlt HFA.out (by rw [HX.out]; exact hz), HX.out])
            have HSZ := hid hsz
            clear hsz
            go_wp2
            go_roundg (f2 + 1)
            case measure => omega
            case rel => exact ⟨s ++ X, f2, rfl, by have := HSZ.out; omega, by have := HSZ.out; omega, RN2, BZ, hwz2, XZ, UZ⟩
    · have HRUN : Hid (runB e e.total.toNat ⟨#[]⟩ = some s) := (show _ = _ by rw [← RN.out, runB_end e f' hlt])
      go_wp2
      refine wp_region_quiet_below (by kernel_rfl) (by kernel_rfl) ?_
      repeat (first | go_big_quiet_step (first | (go_at_call 50; exact D1.out _ _) | fail) | quiet_step (first | (go_at_call 50; exact D1.out _ _) | fail))
      refine wpQuiet_nil ?_
      intro _ hw'
      obtain ⟨⟨dq, osq⟩, hw''⟩ := hw'
      subst hw''
      have bq := below_regrown wr dq osq
      generalize Go.Sort.grow (redrawn wr dq) osq = wq at bq ⊢
      have BQ := hid (below_via BR.out bq)
      have XQ := hid (XR.out.on bq XR.out.lt)
      have UQ := hid (isb_on UR.out bq)
      have hwq : w.heap.size + 1 ≤ wq.heap.size := Nat.le_trans hwz bq.size
      clear bq D1 Z4 BR XR UR RN
      have hbl : (Lib.byteCells s.data.toList).length = s.size := by rw [Lib.byteCells_length]; simp
      have CL : Hid (∀ p : LastW w e s, Calls Try.prog 50 #[.pointer (some ⟨w.heap.size + 1, 0, none⟩)] p.W fun e9 w' => e9 = .returned (.int .i64 (s.size : Int)) ∧ ∃ q : LastW w e s, w' = q.W) := fun p => by
        have := Try.Builder_Len_f (w.heap.size + 1) (w.heap.size + 1) (Lib.byteCells s.data.toList) p.W p.u
        rw [hbl] at this
        exact Calls.mono this fun _ _ ⟨h1, h2⟩ => ⟨h1, p, h2⟩
      have CS : Hid (∀ p : LastW w e s, Calls Try.prog 53 #[.pointer (some ⟨w.heap.size + 1, 0, none⟩)] p.W fun e9 w' => e9 = .returned (.string s) ∧ ∃ q : LastW w e s, w' = q.W) := fun p => by
        refine Calls.mono (Try.Builder_String_any_f (w.heap.size + 1) (w.heap.size + 1) s.data.toList p.W p.u p.z) ?_
        rintro e9 w' ⟨rfl, u9, b9⟩
        exact ⟨rfl, ⟨w', (b9.cell (Nat.lt_succ_self _)).trans p.x4, u9, p.b.trans (b9.mono (by omega)), Nat.le_trans p.z b9.size⟩, rfl⟩
      have X4 : ∀ p : LastW w e s, p.W.cell? ⟨w.heap.size, 4, none⟩ = some (.int .i64 e.total) := fun p => p.x4
      have bd : Below wq.heap.size wq { wq with drawn := wq.drawn + 1 } := below_drewN (Below.refl _ _) 1
      have HC : Hid (∃ p : LastW w e s, { wq with drawn := wq.drawn + 1 } = p.W) := (show ∃ p : LastW w e s, _ = p.W from ⟨⟨_, (bd.cell (XQ.out.lt)).trans (XQ.out.cell (j := 4) rfl), (isb_on UQ.out bd).imp Lib.BuilderAtF.of Lib.BuilderAtF.of, below_via BQ.out bd, Nat.le_trans hwq bd.size⟩, rfl⟩)
      have NE : Nonempty (LastW w e s) := (show ∃ p : LastW w e s, _ = p.W from HC.out).elim fun p _ => ⟨p⟩
      have E1 : ∀ p : LastW w e s, Hid (Below w.heap.size w p.W) := fun p => p.b
      clear hbl bd UQ XQ BQ
      by_cases h0 : e.total = 0
      · have g0 : (e.total != 0) = false := by simpa using h0
        have HNO : Hid (bodyB e = none) := (show _ = _ by rw [bodyB, HRUN.out]; simp [h0])
        have H0 := hid h0
        clear h0 HRUN
        go_wp2
        refine wp_region_last (by kernel_rfl) (by kernel_rfl) HC.out ?_
        repeat (first | go_big_quiet_step (first | (go_at_call 53; exact CS.out _) | fail) | quiet_step (first | (go_at_call 53; exact CS.out _) | fail))
        refine wpQuiet_nil ?_
        rintro _ ⟨p, rfl⟩
        go_wp2
        go_ret2
        exact ⟨s, false, rfl, Or.inr ⟨rfl, HNO.out⟩, (E1 p).out⟩
      · have g0 : (e.total != 0) = true := by simpa using h0
        by_cases heq : (s.size : Int) = e.total
        · have g1 : ((s.size : Int) == e.total) = true := by simpa using heq
          have HY : Hid (bodyB e = some s) := (show _ = _ by rw [bodyB, HRUN.out]; simp [h0, heq])
          have HEQ := hid heq
          clear heq HRUN
          go_wp2
          refine wp_region_last (by kernel_rfl) (by kernel_rfl) HC.out ?_
          repeat (first | go_big_quiet_step (first | (go_at_call 53; exact CS.out _) | (go_at_call 50; exact CL.out _)) | quiet_step (first | (go_at_call 53; exact CS.out _) | (go_at_call 50; exact CL.out _)))
          refine wpQuiet_nil ?_
          rintro _ ⟨p, rfl⟩
          go_wp2
          go_ret2
          exact ⟨s, true, rfl, Or.inl ⟨rfl, HY.out⟩, (E1 p).out⟩
        · have g1 : ((s.size : Int) == e.total) = false := by simpa using heq
          have HNO : Hid (bodyB e = none) := (show _ = _ by rw [bodyB, HRUN.out]; simp [heq])
          clear HRUN
          go_wp2
          refine wp_region_last (by kernel_rfl) (by kernel_rfl) HC.out ?_
          repeat (first | go_big_quiet_step (first | (go_at_call 53; exact CS.out _) | (go_at_call 50; exact CL.out _)) | quiet_step (first | (go_at_call 53; exact CS.out _) | (go_at_call 50; exact CL.out _)))
          refine wpQuiet_nil ?_
          rintro _ ⟨p, rfl⟩
          go_wp2
          go_ret2
          exact ⟨s, false, rfl, Or.inr ⟨rfl, HNO.out⟩, (E1 p).out⟩
end Go.Proofs.Ythdklbmachplmaa

namespace Go.Proofs.Ythdklbmachplmaa
open Go.RowKit

set_option maxRecDepth 1000000 in
theorem isAddress_any (x : Int) (w : World) : Calls Try.prog 48 #[.int .i64 x] w fun e w' => e = .returned (.bool (within x 1 99)) ∧ w' = w := by
  unfold within
  by_cases h1 : 1 ≤ x
  · by_cases h2 : x ≤ 99
    · go_enter Try.func48, Try.ntmps48
      go_wp2
      go_ret
      exact ⟨by simp [h1, h2], rfl⟩
    · go_enter Try.func48, Try.ntmps48
      go_wp2
      go_ret
      exact ⟨by simp; omega, rfl⟩
  · go_enter Try.func48, Try.ntmps48
    go_wp2
    go_ret
    exact ⟨by simp; omega, rfl⟩
end Go.Proofs.Ythdklbmachplmaa

namespace Go.Proofs.Ythdklbmachplmaa
open Go.RowKit

theorem dgramOk_no {d : DgramD} (h : ((1 ≤ d.src ∧ d.src ≤ 99) ∧ (1 ≤ d.dst ∧ d.dst ≤ 99) ∧ (0 ≤ d.ident ∧ d.ident ≤ 65535) ∧ (0 ≤ d.place ∧ d.place ≤ 160) ∧ d.place % 8 = 0 ∧ (1 ≤ (d.body.size : Int) ∧ (d.body.size : Int) ≤ 160 - d.place) ∧ (d.more = true → d.body.size % 8 = 0)) → False) : dgramOk d = false := by
  rw [← Bool.not_eq_true]
  exact fun hk => h (dgramOk_bd hk)
theorem dgramOk_yes {d : DgramD} (h1 : 1 ≤ d.src ∧ d.src ≤ 99) (h2 : 1 ≤ d.dst ∧ d.dst ≤ 99) (h3 : 0 ≤ d.ident ∧ d.ident ≤ 65535) (h4 : 0 ≤ d.place ∧ d.place ≤ 160) (h5 : d.place % 8 = 0) (h6 : 1 ≤ (d.body.size : Int) ∧ (d.body.size : Int) ≤ 160 - d.place) (h7 : d.more = true → d.body.size % 8 = 0) : dgramOk d = true := by
  simp only [dgramOk, Bool.and_eq_true, within_iff, decide_eq_true_eq, Bool.or_eq_true, Bool.not_eq_true']
  refine ⟨h1, h2, h3, h4, h5, h6, ?_⟩
  cases hm : d.more with
  | false => exact Or.inl rfl
  | true => exact Or.inr (h7 hm)

set_option maxRecDepth 1000000 in
set_option maxHeartbeats 4000000 in
theorem implDgramOk_any (d : DgramD) (hs : d.body.size ≤ 9223372036854775000) (w : World) :
    Calls Try.prog 25 #[.agg #[.int .i64 d.src, .int .i64 d.dst, .int .i64 d.ident, .int .i64 d.place, .bool d.more, .string d.body]] w fun e w' => e = .returned (.bool (dgramOk d)) ∧ Below w.heap.size w w' := by
  obtain ⟨a, b, c, p, m, s⟩ := d
  dsimp only at hs ⊢
  have HB := hid (below_more (Below.refl w.heap.size w) (.cells #[.int .i64 a, .int .i64 b, .int .i64 c, .int .i64 p, .bool m, .string s] 26))
  have hx : BlockIs (w.alloc (.cells #[.int .i64 a, .int .i64 b, .int .i64 c, .int .i64 p, .bool m, .string s] 26)) w.heap.size 26 [.int .i64 a, .int .i64 b, .int .i64 c, .int .i64 p, .bool m, .string s] := heap_alloc_new w _
  obtain ⟨W, hW⟩ : ∃ W, w.alloc (.cells #[.int .i64 a, .int .i64 b, .int .i64 c, .int .i64 p, .bool m, .string s] 26) = W := ⟨_, rfl⟩
  rw [hW] at HB hx
  have c0 := hx.cell (j := 0) rfl
  have c1 := hx.cell (j := 1) rfl
  have c2 := hx.cell (j := 2) rfl
  have c3 := hx.cell (j := 3) rfl
  have c4 := hx.cell (j := 4) rfl
  have c5 := hx.cell (j := 5) rfl
  clear hx
  have m0 := fun w => isAddress_any a w
  cases h0 : within a 1 99 with
  | false =>
    rw [h0] at m0
    have n0 := hid m0
    clear m0
    have HR : Hid (dgramOk ⟨a, b, c, p, m, s⟩ = false) := dgramOk_no fun h => by rw [within_iff.2 h.1] at h0; cases h0
    clear h0
    go_enter Try.func25, Try.ntmps25
    go_wp2_with (first | (go_at_call 48; with_reducible refine Calls.mono (n0.out _) ?_; rintro e w1 ⟨rfl, hw⟩; rw [hw]; clear hw w1) | fail)
    go_ret
    exact ⟨by rw [HR.out]; rfl, HB.out⟩
  | true =>
    rw [h0] at m0
    have n0 := hid m0
    clear m0
    have m1 := fun w => isAddress_any b w
    cases h1 : within b 1 99 with
    | false =>
      rw [h1] at m1
      have n1 := hid m1
      clear m1
      have HR : Hid (dgramOk ⟨a, b, c, p, m, s⟩ = false) := dgramOk_no fun h => by rw [within_iff.2 h.2.1] at h1; cases h1
      clear h0 h1
      go_enter Try.func25, Try.ntmps25
      go_wp2_with (first | (go_at_call 48; with_reducible refine Calls.mono (n0.out _) ?_; rintro e w1 ⟨rfl, hw⟩; rw [hw]; clear hw w1) | (go_at_call 48; with_reducible refine Calls.mono (n1.out _) ?_; rintro e w1 ⟨rfl, hw⟩; rw [hw]; clear hw w1) | fail)
      go_ret
      exact ⟨by rw [HR.out]; rfl, HB.out⟩
    | true =>
      rw [h1] at m1
      have n1 := hid m1
      clear m1
      by_cases q0 : 0 ≤ c
      rotate_left
      · have HR : Hid (dgramOk ⟨a, b, c, p, m, s⟩ = false) := dgramOk_no fun h => by have h1 := h.2.2.1; have h2 := h.2.2.2.1; dsimp only at h1 h2; omega
        clear h0 h1
        go_enter Try.func25, Try.ntmps25
        go_wp2_with (first | (go_at_call 48; with_reducible refine Calls.mono (n0.out _) ?_; rintro e w1 ⟨rfl, hw⟩; rw [hw]; clear hw w1) | (go_at_call 48; with_reducible refine Calls.mono (n1.out _) ?_; rintro e w1 ⟨rfl, hw⟩; rw [hw]; clear hw w1) | fail)
        go_ret
        exact ⟨by rw [HR.out]; rfl, HB.out⟩
      by_cases q1 : c ≤ 65535
      rotate_left
      · have HR : Hid (dgramOk ⟨a, b, c, p, m, s⟩ = false) := dgramOk_no fun h => by have h1 := h.2.2.1; have h2 := h.2.2.2.1; dsimp only at h1 h2; omega
        clear h0 h1
        go_enter Try.func25, Try.ntmps25
        go_wp2_with (first | (go_at_call 48; with_reducible refine Calls.mono (n0.out _) ?_; rintro e w1 ⟨rfl, hw⟩; rw [hw]; clear hw w1) | (go_at_call 48; with_reducible refine Calls.mono (n1.out _) ?_; rintro e w1 ⟨rfl, hw⟩; rw [hw]; clear hw w1) | fail)
        go_ret
        exact ⟨by rw [HR.out]; rfl, HB.out⟩
      by_cases q2 : 0 ≤ p
      rotate_left
      · have HR : Hid (dgramOk ⟨a, b, c, p, m, s⟩ = false) := dgramOk_no fun h => by have h1 := h.2.2.2.1; have h2 := h.2.2.2.1; dsimp only at h1 h2; omega
        clear h0 h1
        go_enter Try.func25, Try.ntmps25
        go_wp2_with (first | (go_at_call 48; with_reducible refine Calls.mono (n0.out _) ?_; rintro e w1 ⟨rfl, hw⟩; rw [hw]; clear hw w1) | (go_at_call 48; with_reducible refine Calls.mono (n1.out _) ?_; rintro e w1 ⟨rfl, hw⟩; rw [hw]; clear hw w1) | fail)
        go_ret
        exact ⟨by rw [HR.out]; rfl, HB.out⟩
      by_cases q3 : p ≤ 160
      rotate_left
      · have HR : Hid (dgramOk ⟨a, b, c, p, m, s⟩ = false) := dgramOk_no fun h => by have h1 := h.2.2.2.1; have h2 := h.2.2.2.1; dsimp only at h1 h2; omega
        clear h0 h1
        go_enter Try.func25, Try.ntmps25
        go_wp2_with (first | (go_at_call 48; with_reducible refine Calls.mono (n0.out _) ?_; rintro e w1 ⟨rfl, hw⟩; rw [hw]; clear hw w1) | (go_at_call 48; with_reducible refine Calls.mono (n1.out _) ?_; rintro e w1 ⟨rfl, hw⟩; rw [hw]; clear hw w1) | fail)
        go_ret
        exact ⟨by rw [HR.out]; rfl, HB.out⟩
      have hpm : p.tmod 8 = p % 8 := Int.tmod_eq_emod_of_nonneg (by omega)
      by_cases q4 : p % 8 = 0
      rotate_left
      · have HR : Hid (dgramOk ⟨a, b, c, p, m, s⟩ = false) := dgramOk_no fun h => by have h1 := h.2.2.2.2.1; have h2 := h.2.2.2.1; dsimp only at h1 h2; omega
        clear h0 h1
        have g8 : (p % 8 == 0) = false := by simpa using q4
        go_enter Try.func25, Try.ntmps25
        go_wp2_with (first | (go_at_call 48; with_reducible refine Calls.mono (n0.out _) ?_; rintro e w1 ⟨rfl, hw⟩; rw [hw]; clear hw w1) | (go_at_call 48; with_reducible refine Calls.mono (n1.out _) ?_; rintro e w1 ⟨rfl, hw⟩; rw [hw]; clear hw w1) | fail)
        go_ret
        exact ⟨by rw [HR.out]; rfl, HB.out⟩
      by_cases q5 : 1 ≤ (s.size : Int)
      rotate_left
      · have HR : Hid (dgramOk ⟨a, b, c, p, m, s⟩ = false) := dgramOk_no fun h => by have h1 := h.2.2.2.2.2.1; have h2 := h.2.2.2.1; dsimp only at h1 h2; omega
        clear h0 h1
        go_enter Try.func25, Try.ntmps25
        go_wp2_with (first | (go_at_call 48; with_reducible refine Calls.mono (n0.out _) ?_; rintro e w1 ⟨rfl, hw⟩; rw [hw]; clear hw w1) | (go_at_call 48; with_reducible refine Calls.mono (n1.out _) ?_; rintro e w1 ⟨rfl, hw⟩; rw [hw]; clear hw w1) | fail)
        go_ret
        exact ⟨by rw [HR.out]; rfl, HB.out⟩
      by_cases q6 : (s.size : Int) ≤ 160
      rotate_left
      · have HR : Hid (dgramOk ⟨a, b, c, p, m, s⟩ = false) := dgramOk_no fun h => by have h1 := h.2.2.2.2.2.1; have h2 := h.2.2.2.1; dsimp only at h1 h2; omega
        clear h0 h1
        go_enter Try.func25, Try.ntmps25
        go_wp2_with (first | (go_at_call 48; with_reducible refine Calls.mono (n0.out _) ?_; rintro e w1 ⟨rfl, hw⟩; rw [hw]; clear hw w1) | (go_at_call 48; with_reducible refine Calls.mono (n1.out _) ?_; rintro e w1 ⟨rfl, hw⟩; rw [hw]; clear hw w1) | fail)
        go_ret
        exact ⟨by rw [HR.out]; rfl, HB.out⟩
      by_cases q7 : p + (s.size : Int) ≤ 160
      rotate_left
      · have HR : Hid (dgramOk ⟨a, b, c, p, m, s⟩ = false) := dgramOk_no fun h => by have h1 := h.2.2.2.2.2.1; have h2 := h.2.2.2.1; dsimp only at h1 h2; omega
        clear h0 h1
        go_enter Try.func25, Try.ntmps25
        go_wp2_with (first | (go_at_call 48; with_reducible refine Calls.mono (n0.out _) ?_; rintro e w1 ⟨rfl, hw⟩; rw [hw]; clear hw w1) | (go_at_call 48; with_reducible refine Calls.mono (n1.out _) ?_; rintro e w1 ⟨rfl, hw⟩; rw [hw]; clear hw w1) | fail)
        go_ret
        exact ⟨by rw [HR.out]; rfl, HB.out⟩
      have g8 : (p % 8 == 0) = true := by simpa using q4
      have hsm : ((s.size : Int)).tmod 8 = (s.size : Int) % 8 := Int.tmod_eq_emod_of_nonneg (by omega)
      cases m with
      | false =>
        have HR := hid (dgramOk_yes (d := ⟨a, b, c, p, false, s⟩) (within_iff.1 h0) (within_iff.1 h1) ⟨q0, q1⟩ ⟨q2, q3⟩ q4 ⟨q5, (show (s.size : Int) ≤ 160 - p by omega)⟩ (fun h => by cases h))
        clear h0 h1
        go_enter Try.func25, Try.ntmps25
        go_wp2_with (first | (go_at_call 48; with_reducible refine Calls.mono (n0.out _) ?_; rintro e w1 ⟨rfl, hw⟩; rw [hw]; clear hw w1) | (go_at_call 48; with_reducible refine Calls.mono (n1.out _) ?_; rintro e w1 ⟨rfl, hw⟩; rw [hw]; clear hw w1) | fail)
        go_ret
        exact ⟨by rw [HR.out]; rfl, HB.out⟩
      | true =>
        by_cases e9 : s.size % 8 = 0
        · have g9 : ((s.size : Int) % 8 == 0) = true := by rw [beq_iff_eq]; omega
          have HR := hid (dgramOk_yes (d := ⟨a, b, c, p, true, s⟩) (within_iff.1 h0) (within_iff.1 h1) ⟨q0, q1⟩ ⟨q2, q3⟩ q4 ⟨q5, (show (s.size : Int) ≤ 160 - p by omega)⟩ (fun _ => e9))
          clear h0 h1
          go_enter Try.func25, Try.ntmps25
          go_wp2_with (first | (go_at_call 48; with_reducible refine Calls.mono (n0.out _) ?_; rintro e w1 ⟨rfl, hw⟩; rw [hw]; clear hw w1) | (go_at_call 48; with_reducible refine Calls.mono (n1.out _) ?_; rintro e w1 ⟨rfl, hw⟩; rw [hw]; clear hw w1) | fail)
          go_ret
          exact ⟨by rw [HR.out]; rfl, HB.out⟩
        · have g9 : ((s.size : Int) % 8 == 0) = false := by rw [beq_eq_false_iff_ne]; omega
          have HR : Hid (dgramOk ⟨a, b, c, p, true, s⟩ = false) := dgramOk_no fun h => e9 (h.2.2.2.2.2.2 rfl)
          clear h0 h1
          go_enter Try.func25, Try.ntmps25
          go_wp2_with (first | (go_at_call 48; with_reducible refine Calls.mono (n0.out _) ?_; rintro e w1 ⟨rfl, hw⟩; rw [hw]; clear hw w1) | (go_at_call 48; with_reducible refine Calls.mono (n1.out _) ?_; rintro e w1 ⟨rfl, hw⟩; rw [hw]; clear hw w1) | fail)
          go_ret
          exact ⟨by rw [HR.out]; rfl, HB.out⟩
end Go.Proofs.Ythdklbmachplmaa
