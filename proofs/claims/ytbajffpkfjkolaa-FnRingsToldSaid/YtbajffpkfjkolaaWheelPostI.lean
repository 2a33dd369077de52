/-
  The walk of impl.(*wheel).post: a text is posted, where there is room.
-/
import Derived.Test.YtbajffpkfjkolaaWheelSet
import Derived.Test.YtbajffpkfjkolaaWheelI
import Derived.Test.YtbajffpkfjkolaaPlainPost
import Derived.BigQuiet
import Derived.Lib.QuietBelow
namespace Go.Proofs.Ytbajffpkfjkolaa
open Go.RowKit Go.Sort

/-- what post leaves -/
def PostDid (b : Nat) (l : List SlotD) (h t : Nat) (s : ByteArray) (w : World) (e : Ending) (w' : World) : Prop :=
  (isPosted ⟨1, s⟩ && isFree (slotAt l h)) = false ∧ e = .returned (.bool false) ∧ WheelIs w' b l h t ∧ Below w.heap.size w w' ∨
  (isPosted ⟨1, s⟩ && isFree (slotAt l h)) = true ∧ e = .returned (.bool true) ∧ WheelIs w' b (l.set h ⟨1, s⟩) ((h + 1) % l.length) t ∧ Below b w w'

set_option maxRecDepth 1000000 in
set_option maxHeartbeats 4000000 in
theorem wheelPost_any (b : Nat) (l : List SlotD) (h t : Nat) (s : ByteArray) (hs : s.size ≤ 1048576) (w : World) (hw : WheelIs w b l h t) :
    Calls Try.prog 21 #[.pointer (some ⟨b, 0, none⟩), .string s] w fun e w' => PostDid b l h t s w e w' := by
  obtain ⟨⟨l1, l2⟩, l3, l4⟩ := hw.2
  have hbw := hw.1.lt
  have hx : BlockIs (w.alloc (.cells #[.int .i64 1, .string s] 42)) w.heap.size 42 [.int .i64 1, .string s] := heap_alloc_new w _
  have hb0 := below_more (Below.refl w.heap.size w) (.cells #[.int .i64 1, .string s] 42)
  have hw0 := hw.on hb0
  obtain ⟨W, hW⟩ : ∃ W, w.alloc (.cells #[.int .i64 1, .string s] 42) = W := ⟨_, rfl⟩
  rw [hW] at hx hb0 hw0
  have X0 := hid hx
  have B0 := hid hb0
  have W0 := hid hw0
  have h8 : h < 8 := by omega
  have h8' : (h : Int) < 8 := by omega
  obtain ⟨D, hD⟩ : ∃ D, slotAt l h = D := ⟨_, rfl⟩
  have a0 := hx.cell (j := 0) rfl
  have a1 := hx.cell (j := 1) rfl
  have a2 := hw0.head
  have a3 := hw0.own h8
  have a4 := hw0.text h8
  rw [hD] at a3 a4
  have A0 := cell_regrown a0
  have A1 := cell_regrown a1
  have A2 := cell_regrown a2
  have A3 := cell_regrown a3
  have A4 := cell_regrown a4
  have CP' := fun d os => Calls.regrown_of (w := W) (d := d) (os := os) (implIsPosted_any ⟨1, s⟩ (by show (s.size : Int) ≤ _; omega) _)
  have CF' := fun d os => Calls.regrown_of (w := W) (d := d) (os := os) (implIsFree_any D _)
  unfold PostDid
  rw [hD]
  cases hP : isPosted ⟨1, s⟩ with
  | false =>
    rw [hP] at CP'
    have CP := hid CP'
    clear CP' CF' hx hb0 hw0 hw a0 a1 a2 a3 a4 hP
    go_enter Try.func21, Try.ntmps21
    go_wp2
    refine wp_region_quiet_below (by kernel_rfl) (by kernel_rfl) ?_
    repeat (first | go_big_quiet_step (first | (go_at_call 37; exact CP.out _ _) | fail) | quiet_step (first | (go_at_call 37; exact CP.out _ _) | fail))
    refine wpQuiet_nil ?_
    intro _ hw'
    obtain ⟨⟨dq, osq⟩, hw''⟩ := hw'
    subst hw''
    have b1 := below_regrown W dq osq
    generalize grow (redrawn W dq) osq = w1 at b1 ⊢
    have B1 := hid (below_via B0.out b1)
    have W1 := hid (W0.out.on b1)
    clear b1 A0 A1 A2 A3 A4 CP
    go_wp2
    go_ret
    exact Or.inl ⟨rfl, rfl, W1.out, B1.out⟩
  | true =>
    cases hF : isFree D with
    | false =>
      rw [hP] at CP'
      rw [hF] at CF'
      have CP := hid CP'
      have CF := hid CF'
      clear CP' CF' hx hb0 hw0 hw a0 a1 a2 a3 a4 hP hF
      go_enter Try.func21, Try.ntmps21
      go_wp2
      refine wp_region_quiet_below (by kernel_rfl) (by kernel_rfl) ?_
      repeat (first | go_big_quiet_step (first | (go_at_call 37; exact CP.out _ _) | (go_at_call 38; exact CF.out _ _) | fail) | quiet_step (first | (go_at_call 37; exact CP.out _ _) | (go_at_call 38; exact CF.out _ _) | fail))
      refine wpQuiet_nil ?_
      intro _ hw'
      obtain ⟨⟨dq, osq⟩, hw''⟩ := hw'
      subst hw''
      have b1 := below_regrown W dq osq
      generalize grow (redrawn W dq) osq = w1 at b1 ⊢
      have B1 := hid (below_via B0.out b1)
      have W1 := hid (W0.out.on b1)
      clear b1 A0 A1 A2 A3 A4 CP CF
      go_wp2
      go_ret
      exact Or.inl ⟨rfl, rfl, W1.out, B1.out⟩
    | true =>
      rw [hP] at CP'
      rw [hF] at CF'
      have CP := hid CP'
      have CF := hid CF'
      clear CP' CF' hx hb0 hw0 hw a0 a1 a2 a3 a4 hP hF
      go_enter Try.func21, Try.ntmps21
      go_wp2
      refine wp_region_quiet_below (by kernel_rfl) (by kernel_rfl) ?_
      repeat (first | go_big_quiet_step (first | (go_at_call 37; exact CP.out _ _) | (go_at_call 38; exact CF.out _ _) | fail) | quiet_step (first | (go_at_call 37; exact CP.out _ _) | (go_at_call 38; exact CF.out _ _) | fail))
      refine wpQuiet_nil ?_
      intro _ hw'
      obtain ⟨⟨dq, osq⟩, hw''⟩ := hw'
      subst hw''
      have b1 := below_regrown W dq osq
      generalize grow (redrawn W dq) osq = w1 at b1 ⊢
      have B1 := hid (below_via B0.out b1)
      have w1l := W0.out.on b1
      have x1 := X0.out.on b1 X0.out.lt
      have c0 := x1.cell (j := 0) rfl
      have c1 := x1.cell (j := 1) rfl
      have c2 := w1l.head
      have c3 := w1l.own h8
      have c4 := w1l.text h8
      have f3 := w1l.1.thaw (h * 2)
      have f4 := w1l.1.thaw (h * 2 + 1)
      have W1 := hid w1l
      clear b1 A0 A1 A2 A3 A4 CP CF x1 w1l
      go_wp2
      go_region
      all_goals
        have hput := (W1.out.put l3 ⟨1, s⟩).on (below_drewN (Below.refl _ _) 1)
        have BP := hid (below_drewN (((B1.out.mono (Nat.le_of_lt hbw)).setCell (p := ⟨b, h * 2, none⟩) (Nat.le_refl _) (.int .i64 1)).setCell (p := ⟨b, h * 2 + 1, none⟩) (Nat.le_refl _) (.string s)) 1)
        obtain ⟨W2, hW2⟩ : ∃ W2, ((w1.setCell ⟨b, h * 2, none⟩ (.int .i64 1)).setCell ⟨b, h * 2 + 1, none⟩ (.string s)).drew = W2 := ⟨_, rfl⟩
        change WheelIs ((w1.setCell ⟨b, h * 2, none⟩ (.int .i64 1)).setCell ⟨b, h * 2 + 1, none⟩ (.string s)).drew _ _ _ _ at hput
        rw [hW2] at hput
        change Hid (Below b w ((w1.setCell ⟨b, h * 2, none⟩ (.int .i64 1)).setCell ⟨b, h * 2 + 1, none⟩ (.string s)).drew) at BP
        rw [hW2] at BP
        have HP2 := hid hput
        have d2 := hput.head
        have CN := hid (wheelNext_any b (l.set h ⟨1, s⟩) h t h h8 W2 hput)
        rw [List.length_set] at CN
        obtain ⟨N, hN⟩ : ∃ N, (h + 1) % l.length = N := ⟨_, rfl⟩
        have hNl : N < l.length := by rw [← hN]; exact Nat.mod_lt _ (by omega)
        have HN := hid hN
        rw [hN] at CN
        have g2 := hput.1.thaw 17
        clear hput hN
        go_wp2_with fail
        refine (CN.out).mono ?_
        rintro e w3 ⟨rfl, hw3⟩
        rw [hw3]
        clear hw3 w3
        have HE := hid (HP2.out.setHead (h' := N) (by rw [List.length_set]; exact hNl))
        have BE := hid (BP.out.setCell (p := ⟨b, 17, none⟩) (Nat.le_refl _) (.int .i64 N))
        clear CN
        go_wp2
        go_ret
        exact Or.inr ⟨rfl, rfl, by rw [HN.out]; exact HE.out, BE.out⟩
end Go.Proofs.Ytbajffpkfjkolaa
