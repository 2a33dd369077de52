/-
  The walk of (*impl.pile).left: the bits that are left.
-/
import Derived.Test.YthdklbmachplmaaJoint37
namespace Go.Proofs.Ythdklbmachplmaa
open Go.RowKit Go.Maps

def leftN {α : Type} (im : Nat → Option Nat) (l : List α) : Nat → List α
  | 0 => []
  | k + 1 => leftN im l k ++ (if (im k).isSome then l[k]?.toList else [])
def leftL {α : Type} (im : Nat → Option Nat) (l : List α) : List α := leftN im l l.length
theorem leftN_le {α : Type} (im : Nat → Option Nat) (l : List α) : ∀ k, (leftN im l k).length ≤ k
  | 0 => Nat.le_refl _
  | k + 1 => by
    have h := leftN_le im l k
    simp only [leftN, List.length_append]
    split
    · cases l[k]? <;> simp <;> omega
    · simp; omega
theorem leftN_two {α β : Type} {R : α → β → Prop} {im : Nat → Option Nat} {l : List α} {m : List β} (h : Two R l m) : ∀ k, Two R (leftN im l k) (leftN im m k)
  | 0 => trivial
  | k + 1 => by
    simp only [leftN]
    refine Two.append ?_ (leftN_two h k)
    split
    · have hl := h.length
      by_cases hk : k < l.length
      · rw [List.getElem?_eq_getElem hk, List.getElem?_eq_getElem (by omega)]
        exact ⟨h.get k hk (by omega), trivial⟩
      · rw [List.getElem?_eq_none (by omega), List.getElem?_eq_none (by omega)]
        trivial
    · trivial
theorem leftN_in {α : Type} {im : Nat → Option Nat} {l : List α} {k : Nat} (hk : k < l.length) (h : (im k).isSome = true) : leftN im l (k + 1) = leftN im l k ++ [l[k]] := by
  simp only [leftN, if_pos h, List.getElem?_eq_getElem hk]
  rfl
theorem leftN_out {α : Type} {im : Nat → Option Nat} {l : List α} {k : Nat} (h : im k = none) : leftN im l (k + 1) = leftN im l k := by
  simp [leftN, h]
def LeftDid (L : List BitD) (w : World) (e : Ending) (w' : World) : Prop := ∃ va vc, e = .returned (.slice va L.length vc) ∧ (∀ w2, RowsKept w' w2 → BitsHold w2 va L) ∧ Below w.heap.size w w'
structure PileSee (w : World) (pb : Nat) (l : List BitD) (im : Nat → Option Nat) (N : Nat) (va : Option Addr) (vc mb : Nat) (rs : List BitsD) : Prop where
  blk : BlockIs w pb 62 [.slice va rs.length vc, .map (some mb)]
  at_ : BitssAt w va rs
  two : Two (HoldsB w) l rs
  outer : MapIs w mb N (outerM im)
  far : ∀ w', RowsKept w w' → BitssAt w' va rs ∧ Two (HoldsB w') l rs
theorem PileSee.on {w w' : World} {pb : Nat} {l : List BitD} {im : Nat → Option Nat} {N : Nat} {va : Option Addr} {vc mb : Nat} {rs : List BitsD} (h : PileSee w pb l im N va vc mb rs) (hb : Below w.heap.size w w') : PileSee w' pb l im N va vc mb rs :=
  ⟨h.blk.on hb h.blk.lt, h.at_.on hb, h.two.mono fun _ _ q => q.on hb, h.outer.on hb, fun w2 hk => h.far w2 ((RowsKept.of hb).trans hk)⟩
theorem PileAt.see {w : World} {pb : Nat} {l : List BitD} {im : Nat → Option Nat} {lo hi N : Nat} {va : Option Addr} {vc mb : Nat} {rs : List BitsD} (h : PileAt w pb l im lo hi N va vc mb rs) : PileSee w pb l im N va vc mb rs :=
  ⟨h.blk, bitsR_at h.row, h.nest.holds, h.outer, fun _ hk => h.kept hk⟩
theorem PileRead.see {w : World} {pb : Nat} {l : List BitD} {im : Nat → Option Nat} {N : Nat} {va : Option Addr} {vc mb : Nat} {rs : List BitsD} {k g : Nat} {e : BitD} (h : PileRead w pb l im N va vc mb rs k g e) : PileSee w pb l im N va vc mb rs :=
  ⟨h.blk, h.at_, h.two, h.outer, h.far⟩
theorem PileSee.drop {w w' : World} {pb : Nat} {l : List BitD} {im : Nat → Option Nat} {N : Nat} {va : Option Addr} {vc mb : Nat} {rs : List BitsD} (h : PileSee w pb l im N va vc mb rs) (k : Nat) (hm : MapIs w' mb N (outerM fun j => if j = k then none else im j)) (ht : w.mapTurned w' mb) : PileSee w' pb l (fun j => if j = k then none else im j) N va vc mb rs := by
  have hk := RowsKept.turn h.outer ht
  have hf := h.far w' hk
  exact ⟨h.blk.turn h.outer ht, hf.1, hf.2, hm, fun w2 h2 => h.far w2 (hk.trans h2)⟩
set_option maxRecDepth 1000000 in
set_option maxHeartbeats 4000000 in
theorem pileLeft_any (pb : Nat) (l : List BitD) (im : Nat → Option Nat) (N : Nat) (va : Option Addr) (vc mb : Nat) (rs : List BitsD) (hl : l.length ≤ 1048577) (w : World) (hp : PileSee w pb l im N va vc mb rs) :
    Calls Try.prog 26 #[.pointer (some ⟨pb, 0, none⟩)] w fun e w' => LeftDid (leftL im l) w e w' := by
  have hll := hp.two.length
  have hlr : rs.length ≤ 1048577 := by omega
  have HP := hid hp
  have hr0 := bitsR_nil w w.heap.size (Nat.le_refl _)
  have hb0 := below_more (Below.refl w.heap.size w) (.cells #[] 35)
  obtain ⟨W0, hW0⟩ : ∃ W, w.alloc (.cells #[] 35) = W := ⟨_, rfl⟩
  rw [hW0] at hr0 hb0
  have h0 := hp.on hb0
  have z0 := h0.blk.cell (j := 0) rfl
  have R0 := hid hr0
  have B0 := hid hb0
  have HLL := hid hll
  clear hr0 hb0 hp h0 hll
  go_enter Try.func26, Try.ntmps26
  go_wp2
  go_loopg [3, 14] rs.length (fun q v i wr => ∃ (k : Nat), k + q = rs.length ∧ i = .int .i64 k ∧ ∃ va' vc', v = .slice va' (leftN im rs k).length vc' ∧ Hid (Below w.heap.size w wr) ∧ Hid (wr.ownsRow w.heap.size 35 6 (.slice va' (leftN im rs k).length vc') (leftN im rs k).length (bitsCells (leftN im rs k))))
  case atStart => exact ⟨0, by omega, rfl, _, _, rfl, B0, R0⟩
  case round =>
    obtain ⟨k, hkg, rfl, va', vc', rfl, BR, RR⟩ := hrel
    clear B0 R0 hW0 z0
    cases gk with
    | zero =>
      have hlt : ¬ (k : Int) < (rs.length : Int) := by omega
      obtain rfl : k = rs.length := by omega
      have h2 := leftN_two (im := im) (HP.out.on BR.out).two rs.length
      have hN := h2.length
      have hA : Hid (∀ w2, RowsKept wr w2 → BitsHold w2 va' (leftN im l rs.length)) := fun w2 hk => ⟨_, bitsR_at (row_ext RR.out fun g cs q => hk g _ cs (Or.inl rfl) q), leftN_two (im := im) ((HP.out.on BR.out).far w2 hk).2 rs.length⟩
      go_wp2
      go_ret
      rw [leftL, HLL.out]
      exact ⟨va', vc', by rw [hN]; rfl, hA.out, BR.out⟩
    | succ q =>
      have hlt : k < rs.length := by omega
      have hlt' : (k : Int) < (rs.length : Int) := by omega
      have hpr := HP.out.on BR.out
      obtain ⟨b, off, hva, hc⟩ := hpr.at_ (by intro e; rw [e] at hlt; simp at hlt)
      obtain ⟨x0, x1, x2, x3, x4, x5⟩ := hc k hlt
      have HIN : Hid ((im k).isSome = true → leftN im rs (k + 1) = leftN im rs k ++ [rs[k]]) := leftN_in hlt
      obtain ⟨R, hR⟩ : ∃ R, rs[k] = R := ⟨_, rfl⟩
      rw [hR] at x0 x1 x2 x3 x4 x5 HIN
      have bx := below_more (Below.refl wr.heap.size wr) (.cells #[.int .i64 R.src, .int .i64 R.ident, .slice R.tx.ad R.tx.len R.tx.cap, .slice R.ax.ad R.ax.len R.ax.cap, .int .i64 R.total, .int .i64 R.lim] 35)
      have hx : BlockIs (wr.alloc (.cells #[.int .i64 R.src, .int .i64 R.ident, .slice R.tx.ad R.tx.len R.tx.cap, .slice R.ax.ad R.ax.len R.ax.cap, .int .i64 R.total, .int .i64 R.lim] 35)) wr.heap.size 35 [.int .i64 R.src, .int .i64 R.ident, .slice R.tx.ad R.tx.len R.tx.cap, .slice R.ax.ad R.ax.len R.ax.cap, .int .i64 R.total, .int .i64 R.lim] := heap_alloc_new wr _
      have hp1 := hpr.on bx
      have B1 := hid (below_via BR.out bx)
      have R1 := hid (rows_below RR.out bx)
      obtain ⟨W1, hW1⟩ : ∃ W, wr.alloc (.cells #[.int .i64 R.src, .int .i64 R.ident, .slice R.tx.ad R.tx.len R.tx.cap, .slice R.ax.ad R.ax.len R.ax.cap, .int .i64 R.total, .int .i64 R.lim] 35) = W := ⟨_, rfl⟩
      rw [hW1] at bx hx hp1 B1 R1
      have y0 := hx.cell (j := 0) rfl
      have y1 := hx.cell (j := 1) rfl
      have y2 := hx.cell (j := 2) rfl
      have y3 := hx.cell (j := 3) rfl
      have y4 := hx.cell (j := 4) rfl
      have y5 := hx.cell (j := 5) rfl
      have q1 := hp1.blk.cell (j := 1) rfl
      have hlk := hp1.outer.look Try.underlying60 (zeroM _) coded_nil (outerM_wf k (by omega))
      have hom : outerM im (k : Int) = (im k).map fun g => .map (some g) := by simp [outerM]
      rw [hom] at hlk
      have hle := leftN_le im rs k
      have hle2 : (leftN im rs k).length ≤ 1048577 := by omega
      have HLE := hid hle
      subst hva
      clear hpr hc hR bx hx hp1 BR RR hom hle
      cases hi : im k with
      | none =>
        rw [hi] at hlk
        simp only [Option.map_none, Option.getD_none, Option.isSome_none] at hlk
        have HOUT : Hid (leftN im rs (k + 1) = leftN im rs k) := leftN_out hi
        clear hi HIN
        go_wp2
        go_roundg q
        case measure => omega
        case rel => exact ⟨k + 1, by omega, by go_num, va', vc', by rw [HOUT.out], B1, by rw [HOUT.out]; exact R1⟩
      | some g =>
        rw [hi] at hlk
        simp only [Option.map_some, Option.getD_some, Option.isSome_some] at hlk
        have HOUT := hid (HIN.out (by rw [hi]; rfl))
        clear hi HIN
        obtain ⟨M, hM⟩ : ∃ M, leftN im rs k = M := ⟨_, rfl⟩
        rw [hM] at HOUT R1 hle2 ⊢
        clear hM HLE
        have bn := below_more (Below.refl W1.heap.size W1) (.cells #[.int .i64 R.src, .int .i64 R.ident, .slice R.tx.ad R.tx.len R.tx.cap, .slice R.ax.ad R.ax.len R.ax.cap, .int .i64 R.total, .int .i64 R.lim] 35)
        have hnw : BlockIs (W1.alloc (.cells #[.int .i64 R.src, .int .i64 R.ident, .slice R.tx.ad R.tx.len R.tx.cap, .slice R.ax.ad R.ax.len R.ax.cap, .int .i64 R.total, .int .i64 R.lim] 35)) W1.heap.size 35 (bitsCells [R] ++ []) := heap_alloc_new W1 _
        have B3 := hid (below_via B1.out bn)
        have hrow := rows_below R1.out bn
        obtain ⟨W3, hW3⟩ : ∃ W, W1.alloc (.cells #[.int .i64 R.src, .int .i64 R.ident, .slice R.tx.ad R.tx.len R.tx.cap, .slice R.ax.ad R.ax.len R.ax.cap, .int .i64 R.total, .int .i64 R.lim] 35) = W := ⟨_, rfl⟩
        rw [hW3] at hnw B3 hrow
        have hda := bitssAt_of hnw
        have hbs : w.heap.size ≤ W3.heap.size := B3.out.size
        have HROW := hid hrow
        clear bn hnw B1 R1
        go_wp2_with (at_builtin; refine wpList_append_bitss rfl (.tmp 29) (.tmp 31) rfl rfl (base := w.heap.size) (L := M) (M := [R]) (N := M.length + 1) rfl rfl rfl (by simp) (by omega) hbs hrow hda ?_)
        intro va5 vc5 w5 hown hgr
        have B5 := hid (bitsR_down B3.out HROW.out hgr (Nat.le_refl _) hbs)
        have R5 := hid hown
        have hln : (M ++ [R]).length = M.length + 1 := by simp
        clear hgr hown HROW B3 hrow hda
        go_wp2
        go_roundg q
        case measure => omega
        case rel => exact ⟨k + 1, by omega, by go_num, va5, vc5, by rw [HOUT.out, hln], B5, by rw [HOUT.out, hln]; exact R5⟩
end Go.Proofs.Ythdklbmachplmaa
