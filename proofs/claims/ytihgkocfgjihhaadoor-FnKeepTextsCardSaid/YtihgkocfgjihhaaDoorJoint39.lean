/-
  The walk of impl.readWhole at Keep: what is read whole is answered; a panic of what reads is caught.
-/
import Derived.Test.YtihgkocfgjihhaaDoorJoint26
import Derived.Test.YtihgkocfgjihhaaDoorJoint1
import Derived.Deep.Cut
import Derived.Defers
import Derived.Recover
namespace Go.Proofs.YtihgkocfgjihhaaDoor
open Go.RowKit Go.Sort

set_option maxRecDepth 1000000 in
/-- the closure that is deferred, where a reader panicked: its flag is false -/
theorem catchKeep_panicking (q : Nat) (x : Value) (w : World) (hq : BlockIs w q 4 [x]) :
    CallsD Tryd.prog 53 #[.pointer (some ⟨q, 0, none⟩)] (.panicking [misreadP]) w fun e u' w' =>
      e = .returned (.tuple #[]) ∧ u' = .panicking [{ v := .iface 100 (.agg #[]), recovered := true }] ∧ w' = (w.alloc (.cells #[] 100)).setCell ⟨q, 0, none⟩ (.bool false) := by
  have hB := below_more (Below.refl w.heap.size w) (.cells #[] 100)
  have hq1 := hq.on hB hq.lt
  have e0 := hq1.cell (j := 0) rfl
  have g0 := hq1.thaw 0
  have has : ∀ w, (Instr.typeAssert (.iface 100 (.agg #[])) 20 100 true).run Tryd.prog w = .ok (.tuple #[.agg #[], .bool true]) w := fun w => by kernel_rfl
  refine callsD_of_wpS Tryd.func53 rfl fun c₀ cs hu => ?_
  apply wpS_seq
  apply wpS_region
  simp [wpOpsS, go_sem, recoverD, hu, has, Tryd.ntmps53, Exit.thenS]
  apply wpS_seq
  apply wpS_region
  simp [wpOpsS, go_sem, Exit.thenS]
  refine wpS_cond (t := true) (by simp [Act.eval, Array.replicate]) ?_
  simp only [if_true]
  apply wpS_region
  simp [wpOpsS, go_sem, e0, g0, bodyPostS, results, Tryd.results53]

set_option maxRecDepth 1000000 in
/-- the same, where all was read -/
theorem catchKeep_idle (q : Nat) (w : World) :
    CallsD Tryd.prog 53 #[.pointer (some ⟨q, 0, none⟩)] .returning w fun e u' w' => e = .returned (.tuple #[]) ∧ u' = .returning ∧ w' = w.alloc (.cells #[] 100) := by
  have has : ∀ w, (Instr.typeAssert .nilIface 20 100 true).run Tryd.prog w = .ok (.tuple #[.agg #[], .bool false]) w := fun w => by kernel_rfl
  refine callsD_of_wpS Tryd.func53 rfl fun c₀ cs hu => ?_
  apply wpS_seq
  apply wpS_region
  simp [wpOpsS, go_sem, recoverD, hu, has, Tryd.ntmps53, Exit.thenS]
  apply wpS_seq
  apply wpS_region
  simp [wpOpsS, go_sem, Exit.thenS]
  refine wpS_cond (t := false) (by simp [Act.eval, Array.replicate]) ?_
  simp only [Bool.false_eq_true, if_false]
  refine wpS_of_wp (wp_skip ?_)
  cases c₀
  simp_all [bodyPostS, results, Tryd.results53]

/-- what is read: nothing, or something up to a place of a text -/
def readKeepDid (o : Option (ByteArray × Nat)) (Q : List Value → World → Prop) (b : Nat) (w : World) (e : Ending) (w' : World) : Prop := match o with
  | none => e = .panicked [misreadP] ∧ w.grownBy w' (some b)
  | some (t, k) => ∃ x0 y0 z0 x1 y1 z1, e = .returned (.agg #[.slice x0 y0 z0, .slice x1 y1 z1]) ∧ RdIs w' b t k ∧ w.grownBy w' (some b) ∧ Q [.slice x0 y0 z0, .slice x1 y1 z1] w'
def wholeKeepDid (o : Option (ByteArray × Nat)) (Q : List Value → World → Prop) (w : World) (e : Ending) (w' : World) : Prop :=
  (∃ t, o = some (t, t.size) ∧ ∃ x0 y0 z0 x1 y1 z1, e = .returned (.tuple #[.agg #[.slice x0 y0 z0, .slice x1 y1 z1], .bool true]) ∧ Q [.slice x0 y0 z0, .slice x1 y1 z1] w' ∧ Below w.heap.size w w') ∨
  ((∀ t, o ≠ some (t, t.size)) ∧ e = .returned (.tuple #[.agg #[.slice none 0 0, .slice none 0 0], .bool false]) ∧ Below w.heap.size w w')

set_option maxRecDepth 1000000 in
set_option maxHeartbeats 4000000 in
theorem wholeKeep_any (s : ByteArray) (w : World) (o : Option (ByteArray × Nat)) (Q : List Value → World → Prop) (t1 t2 : TypeId) (hQ : ∀ l, Stays t1 t2 (Q l)) (hn : ∀ t, t = 27 ∨ t = 4 ∨ t = 103 → t ≠ t1 ∧ t ≠ t2) (ho : ∀ t k, o = some (t, k) → t.size ≤ 1048576 ∧ k ≤ t.size)
    (hread : ∀ b w1, w.heap.size ≤ b → Below w.heap.size w w1 → RdIs w1 b s 0 → Calls Tryd.prog 26 #[.pointer (some ⟨b, 0, none⟩)] w1 fun e w2 => readKeepDid o Q b w1 e w2) :
    Calls Tryd.prog 25 #[.string s, .func (.func 26) #[] #[]] w fun e w' => wholeKeepDid o Q w e w' := by
  have hmf : ∀ (fn : Fn) (first cap : Array Value) (w : World), (Instr.makeFunc fn first cap).run Tryd.prog w = .ok (.func fn first cap) w := fun _ _ _ _ => rfl
  have HR := hid hread
  have HQ := hid hQ
  have n1 := hn 27 (Or.inl rfl)
  have n2 := hn 4 (Or.inr (Or.inl rfl))
  have n3 := hn 103 (Or.inr (Or.inr rfl))
  have h3 := three_blocks w (.cells #[.slice none 0 0, .slice none 0 0] 27) (.cells #[.bool false] 4) (.cells #[.string s, .int .i64 0] 103)
  have P0 : Hid (BlockIs _ w.heap.size 27 [.slice none 0 0, .slice none 0 0]) := h3.2.2.1
  have Q0 : Hid (BlockIs _ (w.heap.size + 1) 4 [.bool false]) := h3.2.2.2.1
  have R0 : Hid (RdIs _ (w.heap.size + 1 + 1) s 0) := h3.2.2.2.2
  have B0 := hid h3.1
  clear h3 hread hQ
  obtain ⟨W, hW⟩ : ∃ W, ((w.alloc (.cells #[.slice none 0 0, .slice none 0 0] 27)).alloc (.cells #[.bool false] 4)).alloc (.cells #[.string s, .int .i64 0] 103) = W := ⟨_, rfl⟩
  rw [hW] at P0 Q0 R0 B0
  go_enter_defers Tryd.func25, Tryd.ntmps25
  go_wp2_with fail
  refine (HR.out (w.heap.size + 1 + 1) _ (by omega) B0.out R0.out).mono ?_
  rintro e w1 hd
  clear hW
  cases o with
  | none =>
    obtain ⟨rfl, hg⟩ := hd
    have P1 := hid (blk_grown P0.out hg (by omega))
    have Q1 := hid (blk_grown Q0.out hg (by omega))
    have B1 := hid (below_grown B0.out hg (by omega) B0.out.size)
    clear hg P0 Q0 B0 R0
    go_wp2
    refine leaves_cons (f := 53) (args := #[.pointer (some ⟨w.heap.size + 1, 0, none⟩)]) (by simp) (by simp [go_sem]) ?_
    refine (catchKeep_panicking (w.heap.size + 1) _ _ Q1.out).mono ?_
    rintro e u' w'' ⟨rfl, rfl, hw⟩
    have X1 := below_more (Below.refl (w1).heap.size (w1)) (.cells #[] 100)
    have D1 := (P1.out.on X1 P1.out.lt).far (b := w.heap.size + 1) (j := 0) (by omega) (.bool false)
    have D2 := (Q1.out.on X1 Q1.out.lt).set 0 (.bool false)
    have D3 : Below w.heap.size w w'' := by rw [hw]; exact (B1.out.trans (X1.mono B1.out.size)).setCell (Nat.le_succ _) _
    rw [← hw] at D1 D2
    clear hw X1
    have c0 := D1.cell (j := 0) rfl
    have c1 := D1.cell (j := 1) rfl
    have cq := D2.cell (j := 0) rfl
    simp [Leaves, settle, results, Tryd.results25, go_sem, c0, c1, cq]
    exact Or.inr ⟨fun t q => (by cases q), rfl, D3⟩
  | some p =>
    obtain ⟨t, kk⟩ := p
    obtain ⟨x0, y0, z0, x1, y1, z1, rfl, hr, hg, hq⟩ := hd
    obtain ⟨hts, hkt⟩ := ho t kk rfl
    have P1 := hid (blk_grown P0.out hg (by omega))
    have Q1 := hid (blk_grown Q0.out hg (by omega))
    have B1 := hid (below_grown B0.out hg (by omega) B0.out.size)
    clear hg P0 Q0 B0 R0
    have hX := below_more (Below.refl w1.heap.size w1) (.cells #[.slice x0 y0 z0, .slice x1 y1 z1] 27)
    have hb : BlockIs (w1.alloc (.cells #[.slice x0 y0 z0, .slice x1 y1 z1] 27)) w1.heap.size 27 [.slice x0 y0 z0, .slice x1 y1 z1] := heap_alloc_new w1 _
    have P2 := hid (P1.out.on hX P1.out.lt)
    have Q2 := hid (Q1.out.on hX Q1.out.lt)
    have R2 : Hid (RdIs _ (w.heap.size + 1 + 1) t kk) := BlockIs.on hr hX (BlockIs.lt hr)
    have B2 := hid (B1.out.trans (hX.mono B1.out.size))
    have X2 := hid hb
    have G2 := hid ((HQ.out [.slice x0 y0 z0, .slice x1 y1 z1]).alloc hq (.cells #[.slice x0 y0 z0, .slice x1 y1 z1] 27))
    have hpl := P1.out.lt
    have hql := Q1.out.lt
    obtain ⟨m, hm⟩ : ∃ m, w1.heap.size = m := ⟨_, rfl⟩
    obtain ⟨w2, hw2⟩ : ∃ W, w1.alloc (.cells #[.slice x0 y0 z0, .slice x1 y1 z1] 27) = W := ⟨_, rfl⟩
    rw [hm] at hpl hql X2
    rw [hw2] at P2 Q2 R2 B2 X2 G2
    have HW2 := hid hw2
    have HM := hid hm
    clear hX hb hr hq P1 Q1 B1 hm hw2
    have c0 := BlockIs.cell R2.out (j := 0) rfl
    have c1 := BlockIs.cell R2.out (j := 1) rfl
    by_cases he : kk = t.size
    · subst he
      have cN := hid (fun r w => need_yes r w)
      clear ho hn
      go_wp2
      rw [HW2.out, HM.out]
      go_quiet (first | (go_at_call 54; refine Calls.quiet_of_same (cN.out _ _)) | fail)
      have x0' := X2.out.cell (j := 0) rfl
      have x1' := X2.out.cell (j := 1) rfl
      have f0 := P2.out.thaw 0
      have f1 := P2.out.thaw 1
      have p0 := P2.out.cell (j := 0) rfl
      have p1 := P2.out.cell (j := 1) rfl
      have fq := Q2.out.thaw 0
      have cq := Q2.out.cell (j := 0) rfl
      clear HR R2 cN c0 c1
      go_wp2
      refine leaves_cons (f := 53) (args := #[.pointer (some ⟨w.heap.size + 1, 0, none⟩)]) (by simp) (by simp [go_sem]) ?_
      refine (catchKeep_idle (w.heap.size + 1) _).mono ?_
      rintro e u' w'' ⟨rfl, rfl, hw⟩
      clear x0' x1' f0 f1 p0 p1 fq cq
      have P3 : BlockIs (w2.drewN nq) _ _ _ := P2.out
      have Q3 : BlockIs (w2.drewN nq) _ _ _ := Q2.out
      have B3 : Below w.heap.size w (w2.drewN nq) := below_drewN B2.out nq
      have PA := (((P3).set 0 (.slice x0 y0 z0)).set 1 (.slice x1 y1 z1))
      have QA := (((Q3).far (b := w.heap.size) (j := 0) (by omega) (.slice x0 y0 z0)).far (b := w.heap.size) (j := 1) (by omega) (.slice x1 y1 z1))
      have BA := (((B3).setCell (p := ⟨w.heap.size, 0, none⟩) (Nat.le_refl _) (.slice x0 y0 z0)).setCell (p := ⟨w.heap.size, 1, none⟩) (Nat.le_refl _) (.slice x1 y1 z1))
      have GA := ((HQ.out [.slice x0 y0 z0, .slice x1 y1 z1]).put ((HQ.out [.slice x0 y0 z0, .slice x1 y1 z1]).put ((HQ.out [.slice x0 y0 z0, .slice x1 y1 z1]).drawn G2.out nq) (P3) n1.1 n1.2 0 (.slice x0 y0 z0)) ((P3).set 0 (.slice x0 y0 z0)) n1.1 n1.2 1 (.slice x1 y1 z1))
      have PB := PA.far (b := w.heap.size + 1) (j := 0) (by omega) (.bool true)
      have QB := QA.set 0 (.bool true)
      have BB := BA.setCell (p := ⟨w.heap.size + 1, 0, none⟩) (Nat.le_succ _) (.bool true)
      have GB := (HQ.out [.slice x0 y0 z0, .slice x1 y1 z1]).put GA QA n2.1 n2.2 0 (.bool true)
      clear P2 Q2 X2 HW2 HM P3 Q3 B3 PA QA BA GA G2 B2
      obtain ⟨w9, hw9⟩ : ∃ W, (((w2.drewN nq).setCell ⟨w.heap.size, 0, none⟩ (.slice x0 y0 z0)).setCell ⟨w.heap.size, 1, none⟩ (.slice x1 y1 z1)).setCell ⟨w.heap.size + 1, 0, none⟩ (.bool true) = W := ⟨_, rfl⟩
      rw [hw9] at PB QB BB GB hw
      clear hw9
      have XX := below_more (Below.refl w9.heap.size w9) (.cells #[] 100)
      have D1 := PB.on XX PB.lt
      have D2 := QB.on XX QB.lt
      have D3 := BB.trans (XX.mono BB.size)
      have D4 := (HQ.out [.slice x0 y0 z0, .slice x1 y1 z1]).alloc GB (.cells #[] 100)
      rw [← hw] at D1 D2 D3 D4
      clear PB QB BB GB XX hw
      have c0 := D1.cell (j := 0) rfl
      have c1 := D1.cell (j := 1) rfl
      have cq := D2.cell (j := 0) rfl
      simp [Leaves, settle, results, Tryd.results25, go_sem, c0, c1, cq]
      exact Or.inl ⟨t, rfl, x0, y0, z0, x1, y1, z1, rfl, D4, D3⟩
    · have hk2 : ¬ (kk : Int) = (t.size : Int) := by omega
      have hk3 : ((kk : Int) == (t.size : Int)) = false := by simp; omega
      have cN := hid (fun r w => need_no r w)
      clear ho hn
      go_wp2
      rw [HW2.out, HM.out]
      clear HR
      have hres : ∀ (j : Nat) (v : Value) (t : Array Value), 15 ≤ j → results Tryd.f25 (t.setIfInBounds j v) = results Tryd.f25 t := by
        intro j v t hj
        have h4 : (t.setIfInBounds j v)[4]? = t[4]? := Array.getElem?_setIfInBounds_ne (by omega)
        have h5 : (t.setIfInBounds j v)[5]? = t[5]? := Array.getElem?_setIfInBounds_ne (by omega)
        simp [results, Tryd.results25, h4, h5]
      refine wp_region_any (by kernel_rfl) ?_
      refine wpAny_take (i := 0) (v := (.pointer (some ⟨w.heap.size + 1 + 1, 0, none⟩))) rfl (by kernel_rfl) (by kernel_rfl) (by kernel_rfl) (fun c a w h => panic_put (fun t => hres _ _ t (by decide)) c a w h) (Or.inl ⟨by rfl, by intro w; go_simp⟩) ?_
      refine wpAny_take (i := 1) (v := (.pointer (some ⟨w.heap.size + 1 + 1, 0, none⟩))) rfl (by kernel_rfl) (by kernel_rfl) (by kernel_rfl) (fun c a w h => panic_put (fun t => hres _ _ t (by decide)) c a w h) (Or.inl ⟨by rfl, by intro w; go_simp⟩) ?_
      refine wpAny_take (i := 2) (v := (.pointer (some ⟨w.heap.size + 1 + 1, 0, none⟩))) rfl (by kernel_rfl) (by kernel_rfl) (by kernel_rfl) (fun c a w h => panic_put (fun t => hres _ _ t (by decide)) c a w h) (Or.inl ⟨by rfl, by intro w; go_simp⟩) ?_
      refine wpAny_take (i := 3) (v := (.pointer (some ⟨w.heap.size + 1 + 1, 1, none⟩))) rfl (by kernel_rfl) (by kernel_rfl) (by kernel_rfl) (fun c a w h => panic_put (fun t => hres _ _ t (by decide)) c a w h) (Or.inl ⟨by rfl, by intro w; go_simp⟩) ?_
      refine wpAny_take (i := 5) (v := (.pointer (some ⟨w.heap.size + 1 + 1, 0, none⟩))) rfl (by kernel_rfl) (by kernel_rfl) (by kernel_rfl) (fun c a w h => panic_put (fun t => hres _ _ t (by decide)) c a w h) (Or.inl ⟨by rfl, by intro w; go_simp⟩) ?_
      refine wpAny_take (i := 6) (v := (.pointer (some ⟨w.heap.size + 1 + 1, 0, none⟩))) rfl (by kernel_rfl) (by kernel_rfl) (by kernel_rfl) (fun c a w h => panic_put (fun t => hres _ _ t (by decide)) c a w h) (Or.inl ⟨by rfl, by intro w; go_simp⟩) ?_
      refine wpAny_take (i := 7) (v := (.pointer (some ⟨w.heap.size + 1 + 1, 0, none⟩))) rfl (by kernel_rfl) (by kernel_rfl) (by kernel_rfl) (fun c a w h => panic_put (fun t => hres _ _ t (by decide)) c a w h) (Or.inl ⟨by rfl, by intro w; go_simp⟩) ?_
      refine wpAny_ready (rs := [4, 8]) (by kernel_rfl) (by simp) (AllReady.cons rfl (fun K hK => ?_) (AllReady.cons rfl (fun K hK => ?_) AllReady.nil))
      · go_simp
        refine hK _ _ ?_
        clear hK K
        refine wpAny_ready (rs := [8]) (by kernel_rfl) (by simp) (AllReady.cons rfl (fun K hK => ?_) AllReady.nil)
        go_simp
        refine hK _ _ ?_
        clear hK K
        refine wpAny_take (i := 9) (v := (.int .i64 (t.size : Int))) rfl (by kernel_rfl) (by kernel_rfl) (by kernel_rfl) (fun c a w h => panic_put (fun t => hres _ _ t (by decide)) c a w h) (Or.inl ⟨by rfl, by intro w; go_simp⟩) ?_
        refine wpAny_take (i := 10) (v := (.bool false)) rfl (by kernel_rfl) (by kernel_rfl) (by kernel_rfl) (fun c a w h => panic_put (fun t => hres _ _ t (by decide)) c a w h) (Or.inl ⟨by rfl, by intro w; go_simp⟩) ?_
        refine wpAny_ready (rs := [11]) (by kernel_rfl) (by simp) (AllReady.cons rfl (fun K hK => ?_) AllReady.nil)
        go_simp
        go_wp2_with (go_at_call 54; refine (cN.out _ _).mono ?_; rintro e w3 ⟨rfl, hw⟩; rw [hw]; clear hw w3)
        have P3 : Hid (BlockIs w2.drew _ _ _) := P2.out
        have Q3 : Hid (BlockIs w2.drew _ _ _) := Q2.out
        have B3 : Hid (Below w.heap.size w w2.drew) := below_drewN B2.out 1
        refine leaves_cons (f := 53) (args := #[.pointer (some ⟨w.heap.size + 1, 0, none⟩)]) (by simp) (by simp [go_sem]) ?_
        refine (catchKeep_panicking (w.heap.size + 1) _ _ Q3.out).mono ?_
        rintro e u' w'' ⟨rfl, rfl, hw⟩
        have X1 := below_more (Below.refl (w2.drew).heap.size (w2.drew)) (.cells #[] 100)
        have D1 := (P3.out.on X1 P3.out.lt).far (b := w.heap.size + 1) (j := 0) (by omega) (.bool false)
        have D2 := (Q3.out.on X1 Q3.out.lt).set 0 (.bool false)
        have D3 : Below w.heap.size w w'' := by rw [hw]; exact (B3.out.trans (X1.mono B3.out.size)).setCell (Nat.le_succ _) _
        rw [← hw] at D1 D2
        clear hw X1
        have c0 := D1.cell (j := 0) rfl
        have c1 := D1.cell (j := 1) rfl
        have cq := D2.cell (j := 0) rfl
        simp [Leaves, settle, results, Tryd.results25, go_sem, c0, c1, cq]
        exact Or.inr ⟨fun t' q => hk2 (by cases q; rfl), rfl, D3⟩
      · go_simp
        refine hK _ _ ?_
        clear hK K
        refine wpAny_take (i := 9) (v := (.int .i64 (t.size : Int))) rfl (by kernel_rfl) (by kernel_rfl) (by kernel_rfl) (fun c a w h => panic_put (fun t => hres _ _ t (by decide)) c a w h) (Or.inl ⟨by rfl, by intro w; go_simp⟩) ?_
        refine wpAny_ready (rs := [4]) (by kernel_rfl) (by simp) (AllReady.cons rfl (fun K hK => ?_) AllReady.nil)
        go_simp
        refine hK _ _ ?_
        clear hK K
        refine wpAny_take (i := 10) (v := (.bool false)) rfl (by kernel_rfl) (by kernel_rfl) (by kernel_rfl) (fun c a w h => panic_put (fun t => hres _ _ t (by decide)) c a w h) (Or.inl ⟨by rfl, by intro w; go_simp⟩) ?_
        refine wpAny_ready (rs := [11]) (by kernel_rfl) (by simp) (AllReady.cons rfl (fun K hK => ?_) AllReady.nil)
        go_simp
        go_wp2_with (go_at_call 54; refine (cN.out _ _).mono ?_; rintro e w3 ⟨rfl, hw⟩; rw [hw]; clear hw w3)
        have P3 : Hid (BlockIs w2.drew _ _ _) := P2.out
        have Q3 : Hid (BlockIs w2.drew _ _ _) := Q2.out
        have B3 : Hid (Below w.heap.size w w2.drew) := below_drewN B2.out 1
        refine leaves_cons (f := 53) (args := #[.pointer (some ⟨w.heap.size + 1, 0, none⟩)]) (by simp) (by simp [go_sem]) ?_
        refine (catchKeep_panicking (w.heap.size + 1) _ _ Q3.out).mono ?_
        rintro e u' w'' ⟨rfl, rfl, hw⟩
        have X1 := below_more (Below.refl (w2.drew).heap.size (w2.drew)) (.cells #[] 100)
        have D1 := (P3.out.on X1 P3.out.lt).far (b := w.heap.size + 1) (j := 0) (by omega) (.bool false)
        have D2 := (Q3.out.on X1 Q3.out.lt).set 0 (.bool false)
        have D3 : Below w.heap.size w w'' := by rw [hw]; exact (B3.out.trans (X1.mono B3.out.size)).setCell (Nat.le_succ _) _
        rw [← hw] at D1 D2
        clear hw X1
        have c0 := D1.cell (j := 0) rfl
        have c1 := D1.cell (j := 1) rfl
        have cq := D2.cell (j := 0) rfl
        simp [Leaves, settle, results, Tryd.results25, go_sem, c0, c1, cq]
        exact Or.inr ⟨fun t' q => hk2 (by cases q; rfl), rfl, D3⟩
end Go.Proofs.YtihgkocfgjihhaaDoor
