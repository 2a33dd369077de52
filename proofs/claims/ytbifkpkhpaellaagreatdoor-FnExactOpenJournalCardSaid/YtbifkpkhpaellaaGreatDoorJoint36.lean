/-
  A journal and acts that an answer owns: written over with marks; what OpenJournal answers, in parts.
  The walk of spec.l07Copy: a journal with entries of its own.
-/
import Derived.Test.YtbifkpkhpaellaaGreatDoorJoint28
import Derived.Test.YtbifkpkhpaellaaGreatDoorJoint31
import Derived.Test.YtbifkpkhpaellaaGreatDoorJoint35
import Derived.Test.YtbifkpkhpaellaaGreatDoorJoint1
namespace Go.Proofs.YtbifkpkhpaellaaGreatDoor
open Go.RowKit

/-- nothing but blocks of one kind between two sizes has turned -/
def KeptTy (ty : TypeId) (lo hi : Nat) (w w' : World) : Prop := ∀ j t cs, ¬ (lo ≤ j ∧ j < hi ∧ t = ty) → BlockIs w j t cs → BlockIs w' j t cs
theorem OwnAt.keptT {w w' : World} {t ty : TypeId} {cs : List Value} {n : Nat} {va : Option Addr} {lo hi lo2 hi2 : Nat} (h : OwnAt w t cs n va lo hi) (hk : KeptTy ty lo2 hi2 w w') (ho : hi ≤ lo2 ∨ hi2 ≤ lo ∨ t ≠ ty) : OwnAt w' t cs n va lo hi :=
  h.imp id fun ⟨g, r, a, b, c, d⟩ => ⟨g, r, a, b, c, hk _ _ _ (fun h => by rcases ho with q | q | q; omega; omega; exact q h.2.2) d⟩
theorem BlockIs.keptT {w w' : World} {g lo hi : Nat} {t ty : TypeId} {cs : List Value} (h : BlockIs w g t cs) (hk : KeptTy ty lo hi w w') (ho : t ≠ ty) : BlockIs w' g t cs := hk _ _ _ (fun h => ho h.2.2) h
set_option maxRecDepth 1000000 in
theorem markJour_own (n tm vt s t : Int) (m : Nat) (va : Option Addr) (vc : Nat) (l : List EntD) (lo hi : Nat) (hm : m ≤ 10000000) (hl : l.length ≤ 1048576) (w : World) (hw : lo ≤ w.heap.size) (hh : hi ≤ w.heap.size) (h : OwnAt w 110 (entCells l) l.length va lo hi) :
    Calls Tryz.prog 12 #[.agg #[.int .i64 n, .int .i64 tm, .int .i64 vt, .int .i64 s, .int .i64 t, .slice va l.length vc], .int .i64 m] w fun e w' => e = .returned (.int .i64 ((m + 3 * l.length : Nat) : Int)) ∧ OwnAt w' 110 (entCells (marksE m l.length)) l.length va lo hi ∧ KeptTy 110 lo hi w w' ∧ Below lo w w' := by
  rcases h with h0 | ⟨g, r, rfl, h1, h2, h3⟩
  · refine (markJour_o n tm vt s t m va vc l lo hi hm hl w hw hh (Or.inl h0)).mono ?_
    rintro e w' ⟨rfl, _, a2, a3⟩
    exact ⟨rfl, Or.inl h0, a2, a3⟩
  · have bw := below_more (Below.refl w.heap.size w) (.cells #[.int .i64 n, .int .i64 tm, .int .i64 vt, .int .i64 s, .int .i64 t, .slice (some ⟨g, 0, none⟩) l.length vc] 30)
    have HJ : Hid (BlockIs (w.alloc (.cells #[.int .i64 n, .int .i64 tm, .int .i64 vt, .int .i64 s, .int .i64 t, .slice (some ⟨g, 0, none⟩) l.length vc] 30)) w.heap.size 30 [.int .i64 n, .int .i64 tm, .int .i64 vt, .int .i64 s, .int .i64 t, .slice (some ⟨g, 0, none⟩) l.length vc]) := heap_alloc_new w _
    have C := hid (markLog_any s t g l vc m r hm hl _ (h3.on bw h3.lt))
    have HB := hid bw
    have H3 := hid h3
    clear bw h3
    obtain ⟨K, hK⟩ : ∃ K, m + 3 * l.length = K := ⟨_, rfl⟩
    rw [hK] at C ⊢
    clear hK
    obtain ⟨W, hW⟩ : ∃ W, w.alloc (.cells #[.int .i64 n, .int .i64 tm, .int .i64 vt, .int .i64 s, .int .i64 t, .slice (some ⟨g, 0, none⟩) l.length vc] 30) = W := ⟨_, rfl⟩
    rw [hW] at HJ C HB
    have c3 := HJ.out.cell (j := 3) rfl
    have c4 := HJ.out.cell (j := 4) rfl
    have c5 := HJ.out.cell (j := 5) rfl
    go_enter Tryz.func12, Tryz.ntmps12
    go_wp2_with fail
    refine C.out.mono ?_
    rintro e w1 ⟨rfl, a1, a2⟩
    clear c3 c4 c5
    have A1 : Hid (OwnAt w1 110 (entCells (marksE m l.length)) l.length (some ⟨g, 0, none⟩) lo hi) := Or.inr ⟨g, r, rfl, h1, h2, a1⟩
    have A2 : Hid (KeptTy 110 lo hi w w1) := fun j t cs hne hb => by
      have hjg : j ≠ g := by
        intro e
        subst e
        exact hne ⟨h1, h2, (block_one hb H3.out).1⟩
      have hb2 := hb.on HB.out hb.lt
      unfold BlockIs
      rw [a2.block j hb2.lt (by simpa using hjg)]
      exact hb2
    have A3 : Hid (Below lo w w1) := (HB.out.mono hw).grown a2 (Nat.le_trans hw HB.out.size) (fun j hj => by cases hj; exact h1)
    clear a1 a2
    go_wp2
    go_ret
    exact ⟨rfl, A1.out, A2.out, A3.out⟩
theorem markActS_ty (va : Option Addr) (vc : Nat) (A : List ActD) (lo hi m : Nat) (hm : m ≤ 10000000) (hl : A.length ≤ 1048576) (w : World) (hw : lo ≤ w.heap.size) (h : OwnAt w 57 (actCells A) A.length va lo hi) :
    Calls Tryz.prog 13 #[.slice va A.length vc, .int .i64 m] w fun e w' => e = .returned (.int .i64 ((m + 4 * A.length : Nat) : Int)) ∧ ActsAt w' va (marksB m A.length) ∧ KeptTy 57 lo hi w w' ∧ Below lo w w' := by
  rcases h with h | ⟨g, r, rfl, h1, h2, h3⟩
  · have e : A = [] := List.eq_nil_of_length_eq_zero h
    subst e
    refine (markActS_nil va vc m w).mono ?_
    rintro e w' ⟨rfl, rfl⟩
    exact ⟨rfl, fun h => absurd rfl h, fun _ _ _ _ h => h, Below.refl _ _⟩
  · refine (markActS_more g A r vc m hm hl w h3).mono ?_
    rintro e w' ⟨rfl, hr, hg⟩
    exact ⟨rfl, actsAt_of hr, fun j t cs hj hb => blk_grown hb hg (fun e => by subst e; exact hj ⟨h1, h2, (block_one hb h3).1⟩), below_grown (Below.refl _ _) hg h1 hw⟩
theorem OwnAt.marked {w : World} {m n : Nat} {va : Option Addr} {lo hi : Nat} (h : OwnAt w 110 (entCells (marksE m n)) n va lo hi) : EntsAt w va (marksE m n) := by
  rcases h with h | ⟨g, r, rfl, _, _, h⟩
  · subst h
    exact fun h0 => absurd (by simp [marksE]) h0
  · exact entsAt_of h
/-- the parts of an answer -/
def ojJ (o : Option (JouD × List ActD)) : JouD := match o with | none => ⟨0, 0, 0, 0, 0, []⟩ | some (j, _) => j
def ojA (o : Option (JouD × List ActD)) : List ActD := match o with | none => [] | some (_, A) => A
theorem openDid_parts {o : Option (JouD × List ActD)} {w : World} {e : Ending} {w' : World} (h : openDid o w e w') : ∃ vo vc va vd, e = .returned (.tuple #[.agg #[.int .i64 (ojJ o).n, .int .i64 (ojJ o).tm, .int .i64 (ojJ o).vt, .int .i64 (ojJ o).s, .int .i64 (ojJ o).t, .slice vo (ojJ o).l.length vc], .slice va (ojA o).length vd, .bool o.isSome]) ∧ OwnAt w' 110 (entCells (ojJ o).l) (ojJ o).l.length vo w.heap.size w'.heap.size ∧ OwnAt w' 57 (actCells (ojA o)) (ojA o).length va w.heap.size w'.heap.size ∧ Below w.heap.size w w' := by
  cases o with
  | none =>
    obtain ⟨va, vd, h1, h2⟩ := h
    exact ⟨none, 0, va, vd, h1, Or.inl rfl, Or.inl rfl, h2⟩
  | some p =>
    obtain ⟨j, A⟩ := p
    obtain ⟨vo, vc, va, vd, h1, h2, h3, h4⟩ := h
    exact ⟨vo, vc, va, vd, h1, h2, own_acts h3, h4⟩
theorem openJ_few (l : List FileD) : (ojJ (openJ l)).l.length ≤ 60 ∧ (ojA (openJ l)).length ≤ 40 := by
  cases hd : diskOk l with
  | false => rw [openJ_disk hd]; exact ⟨Nat.zero_le _, Nat.zero_le _⟩
  | true =>
    have h30 : l.length ≤ 30 := by rw [diskOk, Bool.and_eq_true, decide_eq_true_eq] at hd; exact hd.1
    cases hb : bestJ l with
    | none => rw [openJ_none hb]; exact ⟨Nat.zero_le _, Nat.zero_le _⟩
    | some n =>
      rw [openJ_at hd hb]
      have hdl := dropsOf_length (goesJ n) l
      cases hr : readJ n (fileText l (jname n)) with
      | none => rw [openAt_no hr]; exact ⟨Nat.zero_le _, Nat.zero_le _⟩
      | some p =>
        obtain ⟨j, k⟩ := p
        have hj : j.l.length ≤ 60 := by have := readJ_len n (fileText l (jname n)); rw [hr] at this; exact this
        by_cases hk : k < (fileText l (jname n)).size
        · cases ho : jourOk ((n : Int) + 1) j.tm j.vt j.s j.t j.l with
          | false => rw [openAt_not hr hk ho]; exact ⟨Nat.zero_le _, Nat.zero_le _⟩
          | true =>
            rw [openAt_anew hr hk ho]
            refine ⟨hj, ?_⟩
            show (dropsOf (goesJ n) l ++ nextA n j.tm j.vt j.s j.t j.l).length ≤ 40
            rw [List.length_append]
            show _ + 4 ≤ 40
            omega
        · rw [openAt_whole hr hk]
          exact ⟨hj, by show (dropsOf (goesJ n) l).length ≤ 40; omega⟩
end Go.Proofs.YtbifkpkhpaellaaGreatDoor

namespace Go.Proofs.YtbifkpkhpaellaaGreatDoor
open Go.RowKit

theorem wpList_append_ents {w : World} {ops : Array Oper} {rest : List Oper} {o : Oper} {a : Act} {Q : Exit → Act → World → Prop} (hgd : o.guard = none) (s x : Operand)
    (ho : o.op = .call { callee := .builtin .append, args := #[s, x], argTypes := #[26, 26] }) (hty : o.type = 26) {g0 c m : Nat} {L : List EntD} {vo : Option Addr} (hs : a.eval s = .slice (some ⟨g0, 0, none⟩) 0 0) (hx : a.eval x = .slice vo m c)
    (hm : L.length = m) (hL : m ≤ 1048577) (h0 : BlockIs w g0 110 []) (hE : EntsAt w vo L)
    (h : ∀ va vc w1, m ≤ vc → OwnAt w1 110 (entCells L) m va g0 w1.heap.size → w.grownBy w1 (some g0) → wpList Tryz.prog ops Q rest (a.put o.dst (.slice va m vc)) w1) : wpList Tryz.prog ops Q (o :: rest) a w := by
  subst hm
  obtain ⟨v', W', hrun, h2, h3⟩ := append_ents h0 (c := c) hL hE
  obtain ⟨va, vc, rfl, h4, h5⟩ := own_of_row h2
  refine wpList_plain hgd fun K hK => ?_
  unfold Oper.wp
  simp [execOp, ho, hty, resolve, invoke, builtin, hs, hx, hrun, Result.andThen]
  exact hK _ _ (h va vc W' h4 h5 h3)

set_option maxRecDepth 1000000 in
set_option maxHeartbeats 4000000 in
theorem l07Copy_any (n tm vt s t : Int) (ao : Option Addr) (l : List EntD) (cap : Nat) (hl : l.length ≤ 1048576) (w : World) (ha : EntsAt w ao l) :
    Calls Tryz.prog 23 #[.agg #[.int .i64 n, .int .i64 tm, .int .i64 vt, .int .i64 s, .int .i64 t, .slice ao l.length cap]] w fun e w' => ∃ va vc, e = .returned (.agg #[.int .i64 n, .int .i64 tm, .int .i64 vt, .int .i64 s, .int .i64 t, .slice va l.length vc]) ∧ l.length ≤ vc ∧ OwnAt w' 110 (entCells l) l.length va w.heap.size w'.heap.size ∧ Below w.heap.size w w' := by
  have hf := four_log w (.cells #[.int .i64 n, .int .i64 tm, .int .i64 vt, .int .i64 s, .int .i64 t, .slice ao l.length cap] 30) (.cells #[.int .i64 0, .int .i64 0, .int .i64 0, .int .i64 0, .int .i64 0, .slice none 0 0] 30) (.cells #[] 110)
  have hsz : ((w.alloc (.cells #[.int .i64 n, .int .i64 tm, .int .i64 vt, .int .i64 s, .int .i64 t, .slice ao l.length cap] 30)).alloc (.cells #[.int .i64 0, .int .i64 0, .int .i64 0, .int .i64 0, .int .i64 0, .slice none 0 0] 30)).heap.size = w.heap.size + 1 + 1 := by simp [World.alloc, -World.alloc_eq]
  have HAW := ha.on hf.1
  obtain ⟨W0, hW0⟩ : ∃ W, ((w.alloc (.cells #[.int .i64 n, .int .i64 tm, .int .i64 vt, .int .i64 s, .int .i64 t, .slice ao l.length cap] 30)).alloc (.cells #[.int .i64 0, .int .i64 0, .int .i64 0, .int .i64 0, .int .i64 0, .slice none 0 0] 30)).alloc (.cells #[] 110) = W := ⟨_, rfl⟩
  rw [hW0] at hf HAW
  obtain ⟨hB, h0, h1, h2⟩ := hf
  have X0 : Hid (BlockIs W0 w.heap.size 30 [.int .i64 n, .int .i64 tm, .int .i64 vt, .int .i64 s, .int .i64 t, .slice ao l.length cap]) := h0
  have Y0 : Hid (BlockIs W0 (w.heap.size + 1) 30 [.int .i64 0, .int .i64 0, .int .i64 0, .int .i64 0, .int .i64 0, .slice none 0 0]) := h1
  have hE0 : BlockIs W0 (w.heap.size + 1 + 1) 110 [] := h2
  have B0 := hid hB
  have c5 := X0.out.cell (j := 5) rfl
  clear h0 h1 h2 hB ha
  go_enter Tryz.func23, Tryz.ntmps23
  go_wp2_with (at_builtin; refine wpList_append_ents rfl (.tmp 3) (.tmp 6) rfl rfl (L := l) rfl rfl rfl (by omega) hE0 HAW ?_)
  intro va vc w1 hvc hown hgr
  have hk : ∀ {q ty cs}, BlockIs W0 q ty cs → q ≠ w.heap.size + 1 + 1 → BlockIs w1 q ty cs := fun {q ty cs} hq hne => by
    unfold BlockIs
    rw [hgr.block q hq.lt (by simpa using hne)]
    exact hq
  have hx1 := hk X0.out (by omega)
  have hy1 := hk Y0.out (by omega)
  have hB1 : Below w.heap.size w w1 := B0.out.grown hgr B0.out.size (fun j hj => by cases hj; omega)
  have d5 := hx1.cell (j := 5) rfl
  have f5 := hx1.thaw 5
  have S0 : BlockIs (w1.setCell ⟨w.heap.size, 5, none⟩ (.slice va l.length vc)) w.heap.size 30 [.int .i64 n, .int .i64 tm, .int .i64 vt, .int .i64 s, .int .i64 t, .slice va l.length vc] := hx1.set 5 _
  have S1 := hy1.far (b := w.heap.size) (j := 5) (by omega) (.slice va l.length vc)
  have SB := hB1.setCell (p := ⟨w.heap.size, 5, none⟩) (Nat.le_refl _) (.slice va l.length vc)
  have SO := hown.far (b := w.heap.size) (j := 5) (by omega) (.slice va l.length vc)
  obtain ⟨W2, hW2⟩ : ∃ W2, w1.setCell ⟨w.heap.size, 5, none⟩ (.slice va l.length vc) = W2 := ⟨_, rfl⟩
  rw [hW2] at S0 S1 SB SO
  have e0 := S0.cell (j := 0) rfl
  have e1 := S0.cell (j := 1) rfl
  have e2 := S0.cell (j := 2) rfl
  have e3 := S0.cell (j := 3) rfl
  have e4 := S0.cell (j := 4) rfl
  have e5 := S0.cell (j := 5) rfl
  have q0 := S1.cell (j := 0) rfl
  have q1 := S1.cell (j := 1) rfl
  have q2 := S1.cell (j := 2) rfl
  have q3 := S1.cell (j := 3) rfl
  have q4 := S1.cell (j := 4) rfl
  have q5 := S1.cell (j := 5) rfl
  have qf0 := S1.thaw 0
  have qf1 := S1.thaw 1
  have qf2 := S1.thaw 2
  have qf3 := S1.thaw 3
  have qf4 := S1.thaw 4
  have qf5 := S1.thaw 5
  have BL := hid (((((((SB).setCell (p := ⟨w.heap.size + 1, 0, none⟩) (by show _ ≤ w.heap.size + 1; omega) (.int .i64 n)).setCell (p := ⟨w.heap.size + 1, 1, none⟩) (by show _ ≤ w.heap.size + 1; omega) (.int .i64 tm)).setCell (p := ⟨w.heap.size + 1, 2, none⟩) (by show _ ≤ w.heap.size + 1; omega) (.int .i64 vt)).setCell (p := ⟨w.heap.size + 1, 3, none⟩) (by show _ ≤ w.heap.size + 1; omega) (.int .i64 s)).setCell (p := ⟨w.heap.size + 1, 4, none⟩) (by show _ ≤ w.heap.size + 1; omega) (.int .i64 t)).setCell (p := ⟨w.heap.size + 1, 5, none⟩) (by show _ ≤ w.heap.size + 1; omega) (.slice va l.length vc))
  have PF := hid (put6 S1 (.int .i64 n) (.int .i64 tm) (.int .i64 vt) (.int .i64 s) (.int .i64 t) (.slice va l.length vc))
  have OW := hid (SO.down (show w.heap.size ≤ w.heap.size + 1 + 1 by omega) (Nat.le_refl _))
  clear hx1 hy1 hB1 S0 S1 SB SO hown hgr X0 Y0 B0 c5 hE0 HAW hk hW0
  go_wp2
  refine bodyPost_ret (v := .agg #[.int .i64 n, .int .i64 tm, .int .i64 vt, .int .i64 s, .int .i64 t, .slice va l.length vc]) (by simp [results, Tryz.results23, go_sem, q0, q1, q2, q3, q4, q5]) rfl ?_
  exact ⟨va, vc, rfl, hvc, PF.out.1 OW.out, BL.out⟩
end Go.Proofs.YtbifkpkhpaellaaGreatDoor
