/-
  Lists of acts in the laws: the walks of szActS, toActS, eqAct, eqActS.
-/
import Derived.Test.YtbbohfagnnobgaaJoint33
import Derived.Test.YtbbohfagnnobgaaJoint18
import Derived.Test.YtbbohfagnnobgaaJoint11
import Derived.Lib.QuietBelow
namespace Go.Proofs.Ytbbohfagnnobgaa
open Go.RowKit Go.Sort

def actCells (acts : List ActD) : List Value := acts.flatMap actEnc
theorem actCells_length (acts : List ActD) : (actCells acts).length = acts.length * 4 := row_length actEnc 4 (fun _ => rfl) acts
theorem actCells_take (acts : List ActD) (k : Nat) (h : k < acts.length) : actCells (acts.take (k + 1)) = actCells (acts.take k) ++ actEnc acts[k] := by
  rw [List.take_succ_eq_append_getElem h, actCells, actCells, List.flatMap_append]
  simp
def actBulk : List ActD → Int
  | [] => 0
  | a :: r => a.bulk + actBulk r
theorem bulk_nonneg (a : ActD) : 0 ≤ a.bulk := by unfold ActD.bulk; omega
theorem actBulk_nonneg (acts : List ActD) : 0 ≤ actBulk acts := by
  induction acts with
  | nil => exact Int.le_refl 0
  | cons a r ih => simp only [actBulk]; have := bulk_nonneg a; omega
theorem actBulk_take (acts : List ActD) (k : Nat) (h : k < acts.length) : actBulk (acts.take (k + 1)) = actBulk (acts.take k) + acts[k].bulk := by
  induction acts generalizing k with
  | nil => simp at h
  | cons a r ih =>
    cases k with
    | zero => simp [actBulk]
    | succ k =>
      have := ih k (by simpa using h)
      simp only [List.take_succ_cons, actBulk, List.getElem_cons_succ] at this ⊢
      omega
theorem actBulk_le (acts : List ActD) (k : Nat) : actBulk (acts.take k) ≤ actBulk acts := by
  induction acts generalizing k with
  | nil => simp [actBulk]
  | cons a r ih =>
    cases k with
    | zero => have := actBulk_nonneg (a :: r); simpa [actBulk] using this
    | succ k => have := ih k; simp only [List.take_succ_cons, actBulk]; omega
theorem act_le_bulk {acts : List ActD} {a : ActD} (h : a ∈ acts) : a.bulk ≤ actBulk acts := by
  induction acts with
  | nil => cases h
  | cons g r ih =>
    simp only [actBulk]
    have := actBulk_nonneg r
    have := bulk_nonneg g
    rcases List.mem_cons.1 h with e | e
    · subst e; omega
    · have := ih e; omega
theorem actsSmall {l : List FileD} {acts : List ActD} (h : 0 ≤ (1048576 : Int) - l.length - fileBulk l) (h2 : 0 ≤ (1048576 : Int) - l.length - fileBulk l - acts.length - actBulk acts) : acts.length ≤ 1048576 ∧ ActsSmall acts := by
  have := fileBulk_nonneg l
  have := actBulk_nonneg acts
  refine ⟨by omega, fun a ha => ?_⟩
  have := act_le_bulk ha
  unfold ActD.bulk at this
  omega
theorem actsAt_of {w : World} {g : Nat} {t : TypeId} {acts : List ActD} {r : List Value} (h : BlockIs w g t (actCells acts ++ r)) : ActsAt w (some ⟨g, 0, none⟩) acts := by
  intro _
  refine ⟨g, 0, rfl, fun j hj => ?_⟩
  rw [Nat.zero_add]
  exact ⟨h.cell (row_at actEnc 4 (fun _ => rfl) acts r j 0 hj (by omega)), h.cell (row_at actEnc 4 (fun _ => rfl) acts r j 1 hj (by omega)), h.cell (row_at actEnc 4 (fun _ => rfl) acts r j 2 hj (by omega)), h.cell (row_at actEnc 4 (fun _ => rfl) acts r j 3 hj (by omega))⟩
theorem acts_of {w : World} {g : Nat} {t : TypeId} {acts : List ActD} (h : BlockIs w g t (actCells acts)) : ActsAt w (some ⟨g, 0, none⟩) acts := actsAt_of (r := []) (by rw [List.append_nil]; exact h)
def ActsFit (acts : List ActD) : Prop := ∀ j (hj : j < acts.length), acts[j].Fits

set_option maxRecDepth 1000000 in
set_option maxHeartbeats 1000000 in
theorem szActS_any (ao : Option Addr) (acts : List ActD) (cap : Nat) (n : Int) (h0 : 0 ≤ n) (h1 : n ≤ 1048576) (hl : acts.length ≤ 9223372036854775807) (hf : ActsFit acts) (w : World) (ha : ActsAt w ao acts) :
    Calls Try.prog 29 #[.slice ao acts.length cap, .int .i64 n] w fun e w' => ((n - acts.length - actBulk acts < 0 ∧ e = .returned (.int .i64 (-1))) ∨ (0 ≤ n - acts.length - actBulk acts ∧ e = .returned (.int .i64 (n - acts.length - actBulk acts)))) ∧ Below w.heap.size w w' := by
  have HA := hid ha
  have HF := hid hf
  have HN := actBulk_nonneg acts
  clear ha hf
  by_cases hn : n - (acts.length : Int) < 0
  · go_enter Try.func29, Try.ntmps29
    go_wp2
    go_ret
    exact ⟨Or.inl ⟨by omega, rfl⟩, Below.refl _ _⟩
  · go_enter Try.func29, Try.ntmps29
    go_wp2
    go_loopg [1, 5] acts.length (fun g y i wr => ∃ (k : Nat), k + g = acts.length ∧ i = .int .i64 k ∧ y = .int .i64 (n - acts.length - actBulk (acts.take k)) ∧ 0 ≤ n - acts.length - actBulk (acts.take k) ∧ Hid (Below w.heap.size w wr))
    case atStart => exact ⟨0, by omega, rfl, by simp [actBulk], by simp [actBulk]; omega, (show Below _ _ _ from Below.refl _ _)⟩
    case round =>
      obtain ⟨k, hkg, rfl, rfl, hpos, BR⟩ := hrel
      cases gk with
      | zero =>
        have hlt : ¬ (k : Int) < (acts.length : Int) := by omega
        rw [List.take_of_length_le (by omega)] at hpos ⊢
        go_wp2
        go_ret
        exact ⟨Or.inr ⟨by omega, rfl⟩, BR.out⟩
      | succ g =>
        have hlt : k < acts.length := by omega
        have hlt' : (k : Int) < (acts.length : Int) := by omega
        obtain ⟨b, off, rfl, hc⟩ := HA.out.on BR.out (by intro e; rw [e] at hlt; simp at hlt)
        obtain ⟨x0, x1, x2, x3⟩ := hc k hlt
        clear hc
        have C := hid (szAct_any acts[k] (n - acts.length - actBulk (acts.take k)) hpos (by have := actBulk_nonneg (acts.take k); omega) (HF.out k hlt))
        have hstep := actBulk_take acts k hlt
        have hmore := actBulk_le acts (k + 1)
        unfold ActD.value at C
        rw [show n - (acts.length : Int) - actBulk (acts.take k) - acts[k].bulk = n - acts.length - actBulk (acts.take (k + 1)) by omega] at C
        have HS : Hid (actBulk (acts.take (k + 1)) ≤ actBulk acts) := hmore
        clear hstep hmore
        go_wp2_with fail
        refine (C.out _).mono ?_
        rintro e w1 ⟨(⟨hneg, rfl⟩ | ⟨hnn, rfl⟩), b1⟩
        · have B1 := hid (BR.out.trans (b1.mono BR.out.size))
          have hL : n - (acts.length : Int) - actBulk acts < 0 := by have := HS.out; omega
          clear b1 C
          go_wp2
          go_ret
          exact ⟨Or.inl ⟨hL, rfl⟩, B1.out⟩
        · have B1 := hid (BR.out.trans (b1.mono BR.out.size))
          clear b1 C
          go_wp2
          go_roundg g
          case measure => omega
          case rel => exact ⟨k + 1, by omega, by go_num, rfl, hnn, B1⟩

set_option maxRecDepth 1000000 in
theorem eqAct_same (a : ActD) (w : World) :
    Calls Try.prog 59 #[a.value, a.value] w fun e w' => e = .returned (.bool true) ∧ Below w.heap.size w w' := by
  have hb : Hid (∀ (o p : Obj), Below w.heap.size w ((w.alloc o).alloc p)) := fun o p => below_more (below_more (Below.refl _ w) _) _
  unfold ActD.value
  go_enter Try.func59, Try.ntmps59
  go_wp2
  go_ret
  exact ⟨rfl, hb.out _ _⟩

set_option maxRecDepth 1000000 in
set_option maxHeartbeats 1000000 in
theorem eqActS_same (ao bo : Option Addr) (acts : List ActD) (cap cap' : Nat) (hl : acts.length ≤ 140737488355328) (w : World) (ha : ActsAt w ao acts) (hb : ActsAt w bo acts) :
    Calls Try.prog 31 #[.slice ao acts.length cap, .slice bo acts.length cap'] w fun e w' => e = .returned (.bool true) ∧ Below w.heap.size w w' := by
  have HA := hid ha
  have HB := hid hb
  clear ha hb
  go_enter Try.func31, Try.ntmps31
  go_wp2
  go_loopg [5] acts.length (fun g i wr => ∃ (k : Nat), k + g = acts.length ∧ i = .int .i64 k ∧ Hid (Below w.heap.size w wr))
  case atStart => exact ⟨0, by omega, rfl, (show Below _ _ _ from Below.refl _ _)⟩
  case round =>
    obtain ⟨k, hkg, rfl, BR⟩ := hrel
    cases gk with
    | zero =>
      have hlt : ¬ (k : Int) < (acts.length : Int) := by omega
      go_wp2
      go_ret
      exact ⟨rfl, BR.out⟩
    | succ g =>
      have hlt : k < acts.length := by omega
      have hlt' : (k : Int) < (acts.length : Int) := by omega
      have hne : acts ≠ [] := by intro e; rw [e] at hlt; simp at hlt
      obtain ⟨b, off, rfl, hc⟩ := HA.out.on BR.out hne
      obtain ⟨x0, x1, x2, x3⟩ := hc k hlt
      obtain ⟨b', off', rfl, hc'⟩ := HB.out.on BR.out hne
      obtain ⟨y0, y1, y2, y3⟩ := hc' k hlt
      have X0 := cell_regrown x0
      have X1 := cell_regrown x1
      have X2 := cell_regrown x2
      have X3 := cell_regrown x3
      have Y0 := cell_regrown y0
      have Y1 := cell_regrown y1
      have Y2 := cell_regrown y2
      have Y3 := cell_regrown y3
      clear hc hc' x0 x1 x2 x3 y0 y1 y2 y3
      have C' := fun d os => Calls.regrown_of (w := wr) (d := d) (os := os) (eqAct_same acts[k] _)
      unfold ActD.value at C'
      have C := hid C'
      clear C'
      go_wp2
      refine wp_region_quiet_below (by kernel_rfl) (by kernel_rfl) ?_
      repeat (first | go_big_quiet_step (first | (go_at_call 59; exact C.out _ _) | fail) | quiet_step (first | (go_at_call 59; exact C.out _ _) | fail))
      refine wpQuiet_nil ?_
      intro _ hw'
      obtain ⟨⟨dq, osq⟩, hw''⟩ := hw'
      subst hw''
      have BQ : Hid (Below w.heap.size w (grow (redrawn wr dq) osq)) := BR.out.trans ((below_regrown wr dq osq).mono BR.out.size)
      generalize grow (redrawn wr dq) osq = wq at BQ ⊢
      clear X0 X1 X2 X3 Y0 Y1 Y2 Y3 C
      go_wp2
      go_roundg g
      case measure => omega
      case rel => exact ⟨k + 1, by omega, by go_num, BQ⟩
end Go.Proofs.Ytbbohfagnnobgaa
