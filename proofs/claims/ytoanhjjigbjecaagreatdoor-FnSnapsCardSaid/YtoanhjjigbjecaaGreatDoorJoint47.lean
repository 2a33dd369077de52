/-
  The walk of impl.readWhole at Snap: what is read whole is answered; a panic of what reads is caught.
-/
import Derived.Test.YtoanhjjigbjecaaGreatDoorJoint45
import Derived.Test.YtoanhjjigbjecaaGreatDoorJoint1
import Derived.Deep.Cut
import Derived.Defers
import Derived.Recover
namespace Go.Proofs.YtoanhjjigbjecaaGreatDoor
open Go.RowKit Go.Sort

set_option maxRecDepth 1000000 in
/-- the closure that is deferred, where a reader panicked: its flag is false -/
theorem catchSnap_panicking (q : Nat) (x : Value) (w : World) (hq : BlockIs w q 4 [x]) :
    CallsD Tryz.prog 64 #[.pointer (some ⟨q, 0, none⟩)] (.panicking [misreadP]) w fun e u' w' =>
      e = .returned (.tuple #[]) ∧ u' = .panicking [{ v := .iface 104 (.agg #[]), recovered := true }] ∧ w' = (w.alloc (.cells #[] 104)).setCell ⟨q, 0, none⟩ (.bool false) := by
  have hB := below_more (Below.refl w.heap.size w) (.cells #[] 104)
  have hq1 := hq.on hB hq.lt
  have e0 := hq1.cell (j := 0) rfl
  have g0 := hq1.thaw 0
  have has : ∀ w, (Instr.typeAssert (.iface 104 (.agg #[])) 20 104 true).run Tryz.prog w = .ok (.tuple #[.agg #[], .bool true]) w := fun w => by kernel_rfl
  refine callsD_of_wpS Tryz.func64 rfl fun c₀ cs hu => ?_
  apply wpS_seq
  apply wpS_region
  simp [wpOpsS, go_sem, recoverD, hu, has, Tryz.ntmps64, Exit.thenS]
  apply wpS_seq
  apply wpS_region
  simp [wpOpsS, go_sem, Exit.thenS]
  refine wpS_cond (t := true) (by simp [Act.eval, Array.replicate]) ?_
  simp only [if_true]
  apply wpS_region
  simp [wpOpsS, go_sem, e0, g0, bodyPostS, results, Tryz.results64]

set_option maxRecDepth 1000000 in
/-- the same, where all was read -/
theorem catchSnap_idle (q : Nat) (w : World) :
    CallsD Tryz.prog 64 #[.pointer (some ⟨q, 0, none⟩)] .returning w fun e u' w' => e = .returned (.tuple #[]) ∧ u' = .returning ∧ w' = w.alloc (.cells #[] 104) := by
  have has : ∀ w, (Instr.typeAssert .nilIface 20 104 true).run Tryz.prog w = .ok (.tuple #[.agg #[], .bool false]) w := fun w => by kernel_rfl
  refine callsD_of_wpS Tryz.func64 rfl fun c₀ cs hu => ?_
  apply wpS_seq
  apply wpS_region
  simp [wpOpsS, go_sem, recoverD, hu, has, Tryz.ntmps64, Exit.thenS]
  apply wpS_seq
  apply wpS_region
  simp [wpOpsS, go_sem, Exit.thenS]
  refine wpS_cond (t := false) (by simp [Act.eval, Array.replicate]) ?_
  simp only [Bool.false_eq_true, if_false]
  refine wpS_of_wp (wp_skip ?_)
  cases c₀
  simp_all [bodyPostS, results, Tryz.results64]

/-- what is read: nothing, or something up to a place of a text -/
def readSnapDid (o : Option (ByteArray × Nat)) (Q : List Value → World → Prop) (b : Nat) (w : World) (e : Ending) (w' : World) : Prop := match o with
  | none => e = .panicked [misreadP] ∧ w.grownBy w' (some b)
  | some (t, k) => ∃ x0 x1 x2 y2 z2 x3, e = .returned (.agg #[.int .i64 x0, .int .i64 x1, .slice x2 y2 z2, .string x3]) ∧ RdIs w' b t k ∧ w.grownBy w' (some b) ∧ Q [.int .i64 x0, .int .i64 x1, .slice x2 y2 z2, .string x3] w'
def wholeSnapDid (o : Option (ByteArray × Nat)) (Q : List Value → World → Prop) (w : World) (e : Ending) (w' : World) : Prop :=
  (∃ t, o = some (t, t.size) ∧ ∃ x0 x1 x2 y2 z2 x3, e = .returned (.tuple #[.agg #[.int .i64 x0, .int .i64 x1, .slice x2 y2 z2, .string x3], .bool true]) ∧ Q [.int .i64 x0, .int .i64 x1, .slice x2 y2 z2, .string x3] w' ∧ Below w.heap.size w w') ∨
  ((∀ t, o ≠ some (t, t.size)) ∧ e = .returned (.tuple #[.agg #[.int .i64 0, .int .i64 0, .slice none 0 0, .string ⟨#[]⟩], .bool false]) ∧ Below w.heap.size w w')

set_option maxRecDepth 1000000 in
set_option maxHeartbeats 4000000 in
theorem wholeSnap_any (s : ByteArray) (w : World) (o : Option (ByteArray × Nat)) (Q : List Value → World → Prop) (t1 t2 : TypeId) (hQ : ∀ l, Stays t1 t2 (Q l)) (hn : ∀ t, t = 29 ∨ t = 4 ∨ t = 107 → t ≠ t1 ∧ t ≠ t2) (ho : ∀ t k, o = some (t, k) → t.size ≤ 1048576 ∧ k ≤ t.size)
    (hread : ∀ b w1, w.heap.size ≤ b → Below w.heap.size w w1 → RdIs w1 b s 0 → Calls Tryz.prog 33 #[.pointer (some ⟨b, 0, none⟩)] w1 fun e w2 => readSnapDid o Q b w1 e w2) :
    Calls Tryz.prog 32 #[.string s, .func (.func 33) #[] #[]] w fun e w' => wholeSnapDid o Q w e w' := by
  have hmf : ∀ (fn : Fn) (first cap : Array Value) (w : World), (Instr.makeFunc fn first cap).run Tryz.prog w = .ok (.func fn first cap) w := fun _ _ _ _ => rfl
  have HR := hid hread
  have HQ := hid hQ
  have n1 := hn 29 (Or.inl rfl)
  have n2 := hn 4 (Or.inr (Or.inl rfl))
  have n3 := hn 107 (Or.inr (Or.inr rfl))
  have h3 := three_blocks w (.cells #[.int .i64 0, .int .i64 0, .slice none 0 0, .string ⟨#[]⟩] 29) (.cells #[.bool false] 4) (.cells #[.string s, .int .i64 0] 107)
  have P0 : Hid (BlockIs _ w.heap.size 29 [.int .i64 0, .int .i64 0, .slice none 0 0, .string ⟨#[]⟩]) := h3.2.2.1
  have Q0 : Hid (BlockIs _ (w.heap.size + 1) 4 [.bool false]) := h3.2.2.2.1
  have R0 : Hid (RdIs _ (w.heap.size + 1 + 1) s 0) := h3.2.2.2.2
  have B0 := hid h3.1
  clear h3 hread hQ
  obtain ⟨W, hW⟩ : ∃ W, ((w.alloc (.cells #[.int .i64 0, .int .i64 0, .slice none 0 0, .string ⟨#[]⟩] 29)).alloc (.cells #[.bool false] 4)).alloc (.cells #[.string s, .int .i64 0] 107) = W := ⟨_, rfl⟩
  rw [hW] at P0 Q0 R0 B0
  go_enter_defers Tryz.func32, Tryz.ntmps32
  go_wp2_with fail
  refine (HR.out (w.heap.size + 1 + 1) _ (by omega) B0.out R0.out).mono ?_
  rintro e w1 hd
  clear hW
  cases o with
  | none =>
    obtain ⟨rfl, hg⟩ := hd
    have P1 := hid (blk_grown P0.out hg (by omega))
    have Q1 := hid (blk_grown Q0.out hg (by omega))
    have B1 := hid (below_grown B0.out hg (by omega) B0.out.size)
    clear hg P0 Q0 B0 R0
    go_wp2
    refine leaves_cons (f := 64) (args := #[.pointer (some ⟨w.heap.size + 1, 0, none⟩)]) (by simp) (by simp [go_sem]) ?_
    refine (catchSnap_panicking (w.heap.size + 1) _ _ Q1.out).mono ?_
    rintro e u' w'' ⟨rfl, rfl, hw⟩
    have X1 := below_more (Below.refl (w1).heap.size (w1)) (.cells #[] 104)
    have D1 := (P1.out.on X1 P1.out.lt).far (b := w.heap.size + 1) (j := 0) (by omega) (.bool false)
    have D2 := (Q1.out.on X1 Q1.out.lt).set 0 (.bool false)
    have D3 : Below w.heap.size w w'' := by rw [hw]; exact (B1.out.trans (X1.mono B1.out.size)).setCell (Nat.le_succ _) _
    rw [← hw] at D1 D2
    clear hw X1
    have c0 := D1.cell (j := 0) rfl
    have c1 := D1.cell (j := 1) rfl
    have c2 := D1.cell (j := 2) rfl
    have c3 := D1.cell (j := 3) rfl
    have cq := D2.cell (j := 0) rfl
    simp [Leaves, settle, results, Tryz.results32, go_sem, c0, c1, c2, c3, cq]
    exact Or.inr ⟨fun t q => (by cases q), rfl, D3⟩
  | some p =>
    obtain ⟨t, kk⟩ := p
    obtain ⟨x0, x1, x2, y2, z2, x3, rfl, hr, hg, hq⟩ := hd
    obtain ⟨hts, hkt⟩ := ho t kk rfl
    have P1 := hid (blk_grown P0.out hg (by omega))
    have Q1 := hid (blk_grown Q0.out hg (by omega))
    have B1 := hid (below_grown B0.out hg (by omega) B0.out.size)
    clear hg P0 Q0 B0 R0
    have hX := below_more (Below.refl w1.heap.size w1) (.cells #[.int .i64 x0, .int .i64 x1, .slice x2 y2 z2, .string x3] 29)
    have hb : BlockIs (w1.alloc (.cells #[.int .i64 x0, .int .i64 x1, .slice x2 y2 z2, .string x3] 29)) w1.heap.size 29 [.int .i64 x0, .int .i64 x1, .slice x2 y2 z2, .string x3] := heap_alloc_new w1 _
    have P2 := hid (P1.out.on hX P1.out.lt)
    have Q2 := hid (Q1.out.on hX Q1.out.lt)
    have R2 : Hid (RdIs _ (w.heap.size + 1 + 1) t kk) := BlockIs.on hr hX (BlockIs.lt hr)
    have B2 := hid (B1.out.trans (hX.mono B1.out.size))
    have X2 := hid hb
    have G2 := hid ((HQ.out [.int .i64 x0, .int .i64 x1, .slice x2 y2 z2, .string x3]).alloc hq (.cells #[.int .i64 x0, .int .i64 x1, .slice x2 y2 z2, .string x3] 29))
    have hpl := P1.out.lt
    have hql := Q1.out.lt
    obtain ⟨m, hm⟩ : ∃ m, w1.heap.size = m := ⟨_, rfl⟩
    obtain ⟨w2, hw2⟩ : ∃ W, w1.alloc (.cells #[.int .i64 x0, .int .i64 x1, .slice x2 y2 z2, .string x3] 29) = W := ⟨_, rfl⟩
    rw [hm] at hpl hql X2
    rw [hw2] at P2 Q2 R2 B2 X2 G2
    have HW2 := hid hw2
    have HM := hid hm
    clear hX hb hr hq P1 Q1 B1 hm hw2
    have c0 := BlockIs.cell R2.out (j := 0) rfl
    have c1 := BlockIs.cell R2.out (j := 1) rfl
    by_cases he : kk = t.size
    · subst he
      have cN := hid (fun r w => need_yes r w)
      clear ho hn
      go_wp2
      rw [HW2.out, HM.out]
      go_quiet (first | (go_at_call 65; refine Calls.quiet_of_same (cN.out _ _)) | fail)
      have x0' := X2.out.cell (j := 0) rfl
      have x1' := X2.out.cell (j := 1) rfl
      have x2' := X2.out.cell (j := 2) rfl
      have x3' := X2.out.cell (j := 3) rfl
      have f0 := P2.out.thaw 0
      have f1 := P2.out.thaw 1
      have f2 := P2.out.thaw 2
      have f3 := P2.out.thaw 3
      have p0 := P2.out.cell (j := 0) rfl
      have p1 := P2.out.cell (j := 1) rfl
      have p2 := P2.out.cell (j := 2) rfl
      have p3 := P2.out.cell (j := 3) rfl
      have fq := Q2.out.thaw 0
      have cq := Q2.out.cell (j := 0) rfl
      clear HR R2 cN c0 c1
      go_wp2
      refine leaves_cons (f := 64) (args := #[.pointer (some ⟨w.heap.size + 1, 0, none⟩)]) (by simp) (by simp [go_sem]) ?_
      refine (catchSnap_idle (w.heap.size + 1) _).mono ?_
      rintro e u' w'' ⟨rfl, rfl, hw⟩
      clear x0' x1' x2' x3' f0 f1 f2 f3 p0 p1 p2 p3 fq cq
      have P3 : BlockIs (w2.drewN nq) _ _ _ := P2.out
      have Q3 : BlockIs (w2.drewN nq) _ _ _ := Q2.out
      have B3 : Below w.heap.size w (w2.drewN nq) := below_drewN B2.out nq
      have PA := (((((P3).set 0 (.int .i64 x0)).set 1 (.int .i64 x1)).set 2 (.slice x2 y2 z2)).set 3 (.string x3))
      have QA := (((((Q3).far (b := w.heap.size) (j := 0) (by omega) (.int .i64 x0)).far (b := w.heap.size) (j := 1) (by omega) (.int .i64 x1)).far (b := w.heap.size) (j := 2) (by omega) (.slice x2 y2 z2)).far (b := w.heap.size) (j := 3) (by omega) (.string x3))
      have BA := (((((B3).setCell (p := ⟨w.heap.size, 0, none⟩) (Nat.le_refl _) (.int .i64 x0)).setCell (p := ⟨w.heap.size, 1, none⟩) (Nat.le_refl _) (.int .i64 x1)).setCell (p := ⟨w.heap.size, 2, none⟩) (Nat.le_refl _) (.slice x2 y2 z2)).setCell (p := ⟨w.heap.size, 3, none⟩) (Nat.le_refl _) (.string x3))
      have GA := ((HQ.out [.int .i64 x0, .int .i64 x1, .slice x2 y2 z2, .string x3]).put ((HQ.out [.int .i64 x0, .int .i64 x1, .slice x2 y2 z2, .string x3]).put ((HQ.out [.int .i64 x0, .int .i64 x1, .slice x2 y2 z2, .string x3]).put ((HQ.out [.int .i64 x0, .int .i64 x1, .slice x2 y2 z2, .string x3]).put ((HQ.out [.int .i64 x0, .int .i64 x1, .slice x2 y2 z2, .string x3]).drawn G2.out nq) (P3) n1.1 n1.2 0 (.int .i64 x0)) ((P3).set 0 (.int .i64 x0)) n1.1 n1.2 1 (.int .i64 x1)) (((P3).set 0 (.int .i64 x0)).set 1 (.int .i64 x1)) n1.1 n1.2 2 (.slice x2 y2 z2)) ((((P3).set 0 (.int .i64 x0)).set 1 (.int .i64 x1)).set 2 (.slice x2 y2 z2)) n1.1 n1.2 3 (.string x3))
      have PB := PA.far (b := w.heap.size + 1) (j := 0) (by omega) (.bool true)
      have QB := QA.set 0 (.bool true)
      have BB := BA.setCell (p := ⟨w.heap.size + 1, 0, none⟩) (Nat.le_succ _) (.bool true)
      have GB := (HQ.out [.int .i64 x0, .int .i64 x1, .slice x2 y2 z2, .string x3]).put GA QA n2.1 n2.2 0 (.bool true)
      clear P2 Q2 X2 HW2 HM P3 Q3 B3 PA QA BA GA G2 B2
      obtain ⟨w9, hw9⟩ : ∃ W, (((((w2.drewN nq).setCell ⟨w.heap.size, 0, none⟩ (.int .i64 x0)).setCell ⟨w.heap.size, 1, none⟩ (.int .i64 x1)).setCell ⟨w.heap.size, 2, none⟩ (.slice x2 y2 z2)).setCell ⟨w.heap.size, 3, none⟩ (.string x3)).setCell ⟨w.heap.size + 1, 0, none⟩ (.bool true) = W := ⟨_, rfl⟩
      rw [hw9] at PB QB BB GB hw
      clear hw9
      have XX := below_more (Below.refl w9.heap.size w9) (.cells #[] 104)
      have D1 := PB.on XX PB.lt
      have D2 := QB.on XX QB.lt
      have D3 := BB.trans (XX.mono BB.size)
      have D4 := (HQ.out [.int .i64 x0, .int .i64 x1, .slice x2 y2 z2, .string x3]).alloc GB (.cells #[] 104)
      rw [← hw] at D1 D2 D3 D4
      clear PB QB BB GB XX hw
      have c0 := D1.cell (j := 0) rfl
      have c1 := D1.cell (j := 1) rfl
      have c2 := D1.cell (j := 2) rfl
      have c3 := D1.cell (j := 3) rfl
      have cq := D2.cell (j := 0) rfl
      simp [Leaves, settle, results, Tryz.results32, go_sem, c0, c1, c2, c3, cq]
      exact Or.inl ⟨t, rfl, x0, x1, x2, y2, z2, x3, rfl, D4, D3⟩
    · have hk2 : ¬ (kk : Int) = (t.size : Int) := by omega
      have hk3 : ((kk : Int) == (t.size : Int)) = false := by simp; omega
      have cN := hid (fun r w => need_no r w)
      clear ho hn
      go_wp2
      rw [HW2.out, HM.out]
      clear HR
      have hres : ∀ (j : Nat) (v : Value) (t : Array Value), 15 ≤ j → results Tryz.f32 (t.setIfInBounds j v) = results Tryz.f32 t := by
        intro j v t hj
        have h4 : (t.setIfInBounds j v)[4]? = t[4]? := Array.getElem?_setIfInBounds_ne (by omega)
        have h5 : (t.setIfInBounds j v)[5]? = t[5]? := Array.getElem?_setIfInBounds_ne (by omega)
        simp [results, Tryz.results32, h4, h5]
      refine wp_region_any (by kernel_rfl) ?_
      refine wpAny_take (i := 0) (v := (.pointer (some ⟨w.heap.size + 1 + 1, 0, none⟩))) rfl (by kernel_rfl) (by kernel_rfl) (by kernel_rfl) (fun c a w h => panic_put (fun t => hres _ _ t (by decide)) c a w h) (Or.inl ⟨by rfl, by intro w; go_simp⟩) ?_
      refine wpAny_take (i := 1) (v := (.pointer (some ⟨w.heap.size + 1 + 1, 0, none⟩))) rfl (by kernel_rfl) (by kernel_rfl) (by kernel_rfl) (fun c a w h => panic_put (fun t => hres _ _ t (by decide)) c a w h) (Or.inl ⟨by rfl, by intro w; go_simp⟩) ?_
      refine wpAny_take (i := 2) (v := (.pointer (some ⟨w.heap.size + 1 + 1, 0, none⟩))) rfl (by kernel_rfl) (by kernel_rfl) (by kernel_rfl) (fun c a w h => panic_put (fun t => hres _ _ t (by decide)) c a w h) (Or.inl ⟨by rfl, by intro w; go_simp⟩) ?_
      refine wpAny_take (i := 3) (v := (.pointer (some ⟨w.heap.size + 1 + 1, 1, none⟩))) rfl (by kernel_rfl) (by kernel_rfl) (by kernel_rfl) (fun c a w h => panic_put (fun t => hres _ _ t (by decide)) c a w h) (Or.inl ⟨by rfl, by intro w; go_simp⟩) ?_
      refine wpAny_take (i := 5) (v := (.pointer (some ⟨w.heap.size + 1 + 1, 0, none⟩))) rfl (by kernel_rfl) (by kernel_rfl) (by kernel_rfl) (fun c a w h => panic_put (fun t => hres _ _ t (by decide)) c a w h) (Or.inl ⟨by rfl, by intro w; go_simp⟩) ?_
      refine wpAny_take (i := 6) (v := (.pointer (some ⟨w.heap.size + 1 + 1, 0, none⟩))) rfl (by kernel_rfl) (by kernel_rfl) (by kernel_rfl) (fun c a w h => panic_put (fun t => hres _ _ t (by decide)) c a w h) (Or.inl ⟨by rfl, by intro w; go_simp⟩) ?_
      refine wpAny_take (i := 7) (v := (.pointer (some ⟨w.heap.size + 1 + 1, 0, none⟩))) rfl (by kernel_rfl) (by kernel_rfl) (by kernel_rfl) (fun c a w h => panic_put (fun t => hres _ _ t (by decide)) c a w h) (Or.inl ⟨by rfl, by intro w; go_simp⟩) ?_
      refine wpAny_ready (rs := [4, 8]) (by kernel_rfl) (by simp) (AllReady.cons rfl (fun K hK => ?_) (AllReady.cons rfl (fun K hK => ?_) AllReady.nil))
      · go_simp
        refine hK _ _ ?_
        clear hK K
        refine wpAny_ready (rs := [8]) (by kernel_rfl) (by simp) (AllReady.cons rfl (fun K hK => ?_) AllReady.nil)
        go_simp
        refine hK _ _ ?_
        clear hK K
        refine wpAny_take (i := 9) (v := (.int .i64 (t.size : Int))) rfl (by kernel_rfl) (by kernel_rfl) (by kernel_rfl) (fun c a w h => panic_put (fun t => hres _ _ t (by decide)) c a w h) (Or.inl ⟨by rfl, by intro w; go_simp⟩) ?_
        refine wpAny_take (i := 10) (v := (.bool false)) rfl (by kernel_rfl) (by kernel_rfl) (by kernel_rfl) (fun c a w h => panic_put (fun t => hres _ _ t (by decide)) c a w h) (Or.inl ⟨by rfl, by intro w; go_simp⟩) ?_
        refine wpAny_ready (rs := [11]) (by kernel_rfl) (by simp) (AllReady.cons rfl (fun K hK => ?_) AllReady.nil)
        go_simp
        go_wp2_with (go_at_call 65; refine (cN.out _ _).mono ?_; rintro e w3 ⟨rfl, hw⟩; rw [hw]; clear hw w3)
        have P3 : Hid (BlockIs w2.drew _ _ _) := P2.out
        have Q3 : Hid (BlockIs w2.drew _ _ _) := Q2.out
        have B3 : Hid (Below w.heap.size w w2.drew) := below_drewN B2.out 1
        refine leaves_cons (f := 64) (args := #[.pointer (some ⟨w.heap.size + 1, 0, none⟩)]) (by simp) (by simp [go_sem]) ?_
        refine (catchSnap_panicking (w.heap.size + 1) _ _ Q3.out).mono ?_
        rintro e u' w'' ⟨rfl, rfl, hw⟩
        have X1 := below_more (Below.refl (w2.drew).heap.size (w2.drew)) (.cells #[] 104)
        have D1 := (P3.out.on X1 P3.out.lt).far (b := w.heap.size + 1) (j := 0) (by omega) (.bool false)
        have D2 := (Q3.out.on X1 Q3.out.lt).set 0 (.bool false)
        have D3 : Below w.heap.size w w'' := by rw [hw]; exact (B3.out.trans (X1.mono B3.out.size)).setCell (Nat.le_succ _) _
        rw [← hw] at D1 D2
        clear hw X1
        have c0 := D1.cell (j := 0) rfl
        have c1 := D1.cell (j := 1) rfl
        have c2 := D1.cell (j := 2) rfl
        have c3 := D1.cell (j := 3) rfl
        have cq := D2.cell (j := 0) rfl
        simp [Leaves, settle, results, Tryz.results32, go_sem, c0, c1, c2, c3, cq]
        exact Or.inr ⟨fun t' q => hk2 (by cases q; rfl), rfl, D3⟩
      · go_simp
        refine hK _ _ ?_
        clear hK K
        refine wpAny_take (i := 9) (v := (.int .i64 (t.size : Int))) rfl (by kernel_rfl) (by kernel_rfl) (by kernel_rfl) (fun c a w h => panic_put (fun t => hres _ _ t (by decide)) c a w h) (Or.inl ⟨by rfl, by intro w; go_simp⟩) ?_
        refine wpAny_ready (rs := [4]) (by kernel_rfl) (by simp) (AllReady.cons rfl (fun K hK => ?_) AllReady.nil)
        go_simp
        refine hK _ _ ?_
        clear hK K
        refine wpAny_take (i := 10) (v := (.bool false)) rfl (by kernel_rfl) (by kernel_rfl) (by kernel_rfl) (fun c a w h => panic_put (fun t => hres _ _ t (by decide)) c a w h) (Or.inl ⟨by rfl, by intro w; go_simp⟩) ?_
        refine wpAny_ready (rs := [11]) (by kernel_rfl) (by simp) (AllReady.cons rfl (fun K hK => ?_) AllReady.nil)
        go_simp
        go_wp2_with (go_at_call 65; refine (cN.out _ _).mono ?_; rintro e w3 ⟨rfl, hw⟩; rw [hw]; clear hw w3)
        have P3 : Hid (BlockIs w2.drew _ _ _) := P2.out
        have Q3 : Hid (BlockIs w2.drew _ _ _) := Q2.out
        have B3 : Hid (Below w.heap.size w w2.drew) := below_drewN B2.out 1
        refine leaves_cons (f := 64) (args := #[.pointer (some ⟨w.heap.size + 1, 0, none⟩)]) (by simp) (by simp [go_sem]) ?_
        refine (catchSnap_panicking (w.heap.size + 1) _ _ Q3.out).mono ?_
        rintro e u' w'' ⟨rfl, rfl, hw⟩
        have X1 := below_more (Below.refl (w2.drew).heap.size (w2.drew)) (.cells #[] 104)
        have D1 := (P3.out.on X1 P3.out.lt).far (b := w.heap.size + 1) (j := 0) (by omega) (.bool false)
        have D2 := (Q3.out.on X1 Q3.out.lt).set 0 (.bool false)
        have D3 : Below w.heap.size w w'' := by rw [hw]; exact (B3.out.trans (X1.mono B3.out.size)).setCell (Nat.le_succ _) _
        rw [← hw] at D1 D2
        clear hw X1
        have c0 := D1.cell (j := 0) rfl
        have c1 := D1.cell (j := 1) rfl
        have c2 := D1.cell (j := 2) rfl
        have c3 := D1.cell (j := 3) rfl
        have cq := D2.cell (j := 0) rfl
        simp [Leaves, settle, results, Tryz.results32, go_sem, c0, c1, c2, c3, cq]
        exact Or.inr ⟨fun t' q => hk2 (by cases q; rfl), rfl, D3⟩
end Go.Proofs.YtoanhjjigbjecaaGreatDoor
