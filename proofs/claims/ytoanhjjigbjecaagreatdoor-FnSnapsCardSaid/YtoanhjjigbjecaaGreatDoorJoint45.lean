/-
  The walks of the methods of impl.textReader: each goes on, or panics with a noSnap.
  What impl.textReader's methods number and short read, as one contract each.
-/
import Derived.Test.YtoanhjjigbjecaaGreatDoorJoint44
import Derived.Test.YtoanhjjigbjecaaGreatDoorJoint1
import Derived.Deep.QuietTactic
import Derived.BigQuiet
import Derived.Lib.QuietBelow
import Derived.WalkLawsBesides
import Derived.Deep.RegionWith
namespace Go.Proofs.YtoanhjjigbjecaaGreatDoor
open Go.RowKit Go.Sort

/-- what a reader panics with -/
abbrev misreadP : PanicEntry := { v := .iface 104 (.agg #[]), recovered := false }
/-- a reader: its text, its place -/
def RdIs (w : World) (b : Nat) (s : ByteArray) (k : Nat) : Prop := BlockIs w b 107 [.string s, .int .i64 (k : Int)]

set_option maxRecDepth 1000000 in
theorem need_yes (r : Value) (w : World) : Calls Tryz.prog 65 #[r, .bool true] w fun e w' => e = .returned (.tuple #[]) ∧ w' = w := by
  go_enter Tryz.func65, Tryz.ntmps65
  go_wp2
  go_end0
  exact ⟨rfl, rfl⟩
set_option maxRecDepth 1000000 in
theorem need_no (r : Value) (w : World) : Calls Tryz.prog 65 #[r, .bool false] w fun e w' => e = .panicked [misreadP] ∧ w' = w := by
  go_enter Tryz.func65, Tryz.ntmps65
  go_wp2
  exact ⟨rfl, rfl, rfl⟩

theorem rd_drew {W : World} {b k : Nat} {s : ByteArray} (h : RdIs W b s k) (n : Nat) : RdIs (W.drewN n) b s k := h

set_option maxRecDepth 1000000 in
set_option maxHeartbeats 1000000 in
theorem number_yes (b : Nat) (s : ByteArray) (k n c : Nat) (lim : Int) (hs : s.size ≤ 1048576) (hk : k ≤ s.size) (h : rv (s.data.toList.drop k) = some (n, c)) (hn : (n : Int) ≤ lim) (w : World) (hr : RdIs w b s k) :
    Calls Tryz.prog 67 #[.pointer (some ⟨b, 0, none⟩), .int .i64 lim] w fun e w' => e = .returned (.int .i64 (n : Int)) ∧ RdIs w' b s (k + c) ∧ w.grownBy w' (some b) := by
  have HR := hid hr
  have cV' := fun w => implReadVar_in s k hk (by omega) w
  rw [h] at cV'
  have cV : Hid (∀ w, Calls Tryz.prog 94 #[.string s, .int .i64 (k : Int)] w fun e w' => e = .returned (.tuple #[.int .i64 (n : Int), .int .i64 ((k + c : Nat) : Int), .bool true]) ∧ w' = w) := cV'
  have c0 := hr.cell (j := 0) rfl
  have c1 := hr.cell (j := 1) rfl
  have f1 := hr.thaw 1
  obtain ⟨m, hm⟩ : ∃ m, k + c = m := ⟨_, rfl⟩
  rw [hm] at cV ⊢
  clear hr cV' h hm
  go_enter Tryz.func67, Tryz.ntmps67
  go_wp2
  go_quiet (first | (go_at_call 94; refine Calls.quiet_of_same (cV.out _)) | fail)
  go_wp2_with fail
  refine (need_yes _ _).mono ?_
  rintro e w1 ⟨rfl, hw⟩
  rw [hw]
  clear hw w1
  go_wp2
  go_ret
  exact ⟨rfl, (rd_drew HR.out _).set 1 _, (grown_draws _ _ _).trans (grownBy_set _ _ _ _)⟩

set_option maxRecDepth 1000000 in
set_option maxHeartbeats 1000000 in
theorem number_no (b : Nat) (s : ByteArray) (k : Nat) (lim : Int) (hs : s.size ≤ 1048576) (hk : k ≤ s.size) (h : ∀ n c, rv (s.data.toList.drop k) = some (n, c) → lim < (n : Int)) (w : World) (hr : RdIs w b s k) :
    Calls Tryz.prog 67 #[.pointer (some ⟨b, 0, none⟩), .int .i64 lim] w fun e w' => e = .panicked [misreadP] ∧ w.grownBy w' (some b) := by
  have cV' := fun w => implReadVar_in s k hk (by omega) w
  have c0 := hr.cell (j := 0) rfl
  have c1 := hr.cell (j := 1) rfl
  cases hv : rv (s.data.toList.drop k) with
  | none =>
    rw [hv] at cV'
    have cV : Hid (∀ w, Calls Tryz.prog 94 #[.string s, .int .i64 (k : Int)] w fun e w' => e = .returned (.tuple #[.int .i64 0, .int .i64 0, .bool false]) ∧ w' = w) := cV'
    clear hr cV' h hv
    go_enter Tryz.func67, Tryz.ntmps67
    go_wp2
    go_quiet (first | (go_at_call 94; refine Calls.quiet_of_same (cV.out _)) | fail)
    go_wp2_with fail
    refine (need_no _ _).mono ?_
    rintro e w1 ⟨rfl, hw⟩
    rw [hw]
    clear hw w1
    go_wp2
    exact ⟨rfl, rfl, grown_draws _ _ _⟩
  | some p =>
    obtain ⟨n, c⟩ := p
    have hn : ¬ (n : Int) ≤ lim := by have := h n c hv; omega
    have hnd : decide ((n : Int) ≤ lim) = false := decide_eq_false hn
    rw [hv] at cV'
    have cV : Hid (∀ w, Calls Tryz.prog 94 #[.string s, .int .i64 (k : Int)] w fun e w' => e = .returned (.tuple #[.int .i64 (n : Int), .int .i64 ((k + c : Nat) : Int), .bool true]) ∧ w' = w) := cV'
    obtain ⟨m, hm⟩ : ∃ m, k + c = m := ⟨_, rfl⟩
    rw [hm] at cV
    clear hr cV' h hv hm
    go_enter Tryz.func67, Tryz.ntmps67
    go_wp2
    go_quiet (first | (go_at_call 94; refine Calls.quiet_of_same (cV.out _)) | fail)
    go_wp2_with fail
    refine (need_no _ _).mono ?_
    rintro e w1 ⟨rfl, hw⟩
    rw [hw]
    clear hw w1
    go_wp2
    exact ⟨rfl, rfl, grown_draws _ _ _⟩

theorem grown_regrown (w : World) (r : Option Nat) (dq : Nat) (osq : Array Obj) : w.grownBy (grow (redrawn w dq) osq) r := grown_of_below (below_regrown w dq osq) r

set_option maxRecDepth 1000000 in
set_option maxHeartbeats 1000000 in
theorem short_yes (b : Nat) (s : ByteArray) (k x y : Nat) (hs : s.size ≤ 1048576) (h : rs s (k : Int) = some (x, y)) (w : World) (hr : RdIs w b s k) :
    Calls Tryz.prog 69 #[.pointer (some ⟨b, 0, none⟩)] w fun e w' => e = .returned (.string (s.extract x y)) ∧ RdIs w' b s y ∧ w.grownBy w' (some b) := by
  have HR := hid hr
  have cV' := fun d os => Calls.regrown_of (w := w) (d := d) (os := os) (implReadShort_any s k (by omega) _)
  rw [h, show rsAns s (some (x, y)) = .tuple #[.string (s.extract x y), .int .i64 (y : Int), .bool true] from rfl] at cV'
  obtain ⟨T, hT⟩ : ∃ T, s.extract x y = T := ⟨_, rfl⟩
  rw [hT] at cV' ⊢
  have cV := hid cV'
  have c0 := hr.cell (j := 0) rfl
  have c1 := hr.cell (j := 1) rfl
  have q0 := cell_regrown c0
  have q1 := cell_regrown c1
  clear hr cV' h hT
  go_enter Tryz.func69, Tryz.ntmps69
  go_wp2
  refine wp_region_quiet_below (by kernel_rfl) (by kernel_rfl) ?_
  repeat (first | go_big_quiet_step (exact cV.out _ _) | quiet_step (exact cV.out _ _))
  refine wpQuiet_nil ?_
  intro _ hw'
  obtain ⟨⟨dq, osq⟩, hw''⟩ := hw'
  subst hw''
  have hbq := below_regrown w dq osq
  obtain ⟨W2, hW2⟩ : ∃ W2, grow (redrawn w dq) osq = W2 := ⟨_, rfl⟩
  rw [hW2] at hbq ⊢
  have X2 : Hid (RdIs W2 b s k) := HR.out.on hbq HR.out.lt
  have G2 := hid (grown_of_below hbq (some b))
  have d1 := X2.out.cell (j := 1) rfl
  have f1 := X2.out.thaw 1
  clear hbq hW2 q0 q1 c0 c1 cV
  go_wp2_with fail
  refine (need_yes _ _).mono ?_
  rintro e w1 ⟨rfl, hw⟩
  rw [hw]
  clear hw w1
  go_wp2
  go_ret
  exact ⟨rfl, X2.out.set 1 _, G2.out.trans (grownBy_set _ _ _ _)⟩

set_option maxRecDepth 1000000 in
set_option maxHeartbeats 1000000 in
theorem short_no (b : Nat) (s : ByteArray) (k : Nat) (hs : s.size ≤ 1048576) (h : rs s (k : Int) = none) (w : World) (hr : RdIs w b s k) :
    Calls Tryz.prog 69 #[.pointer (some ⟨b, 0, none⟩)] w fun e w' => e = .panicked [misreadP] ∧ w.grownBy w' (some b) := by
  have HR := hid hr
  have cV' := fun d os => Calls.regrown_of (w := w) (d := d) (os := os) (implReadShort_any s k (by omega) _)
  rw [h, show rsAns s none = .tuple #[.string ByteArray.empty, .int .i64 0, .bool false] from rfl] at cV'
  have cV := hid cV'
  have c0 := hr.cell (j := 0) rfl
  have c1 := hr.cell (j := 1) rfl
  have q0 := cell_regrown c0
  have q1 := cell_regrown c1
  clear hr cV' h
  go_enter Tryz.func69, Tryz.ntmps69
  go_wp2
  refine wp_region_quiet_below (by kernel_rfl) (by kernel_rfl) ?_
  repeat (first | go_big_quiet_step (exact cV.out _ _) | quiet_step (exact cV.out _ _))
  refine wpQuiet_nil ?_
  intro _ hw'
  obtain ⟨⟨dq, osq⟩, hw''⟩ := hw'
  subst hw''
  have hbq := below_regrown w dq osq
  obtain ⟨W2, hW2⟩ : ∃ W2, grow (redrawn w dq) osq = W2 := ⟨_, rfl⟩
  rw [hW2] at hbq ⊢
  have G2 := hid (grown_of_below hbq (some b))
  clear hbq hW2 q0 q1 c0 c1 cV
  go_wp2_with fail
  refine (need_no _ _).mono ?_
  rintro e w1 ⟨rfl, hw⟩
  rw [hw]
  clear hw w1
  go_wp2
  exact ⟨rfl, rfl, G2.out⟩

end Go.Proofs.YtoanhjjigbjecaaGreatDoor

namespace Go.Proofs.YtoanhjjigbjecaaGreatDoor
open Go.RowKit Go.Sort

def numDid (o : Option (Nat × Nat)) (s : ByteArray) (b : Nat) (w : World) (e : Ending) (w' : World) : Prop := match o with
  | none => e = .panicked [misreadP] ∧ w.grownBy w' (some b)
  | some (n, k) => e = .returned (.int .i64 (n : Int)) ∧ RdIs w' b s k ∧ w.grownBy w' (some b)
def txtDid (o : Option (ByteArray × Nat)) (s : ByteArray) (b : Nat) (w : World) (e : Ending) (w' : World) : Prop := match o with
  | none => e = .panicked [misreadP] ∧ w.grownBy w' (some b)
  | some (t, k) => e = .returned (.string t) ∧ RdIs w' b s k ∧ w.grownBy w' (some b)
theorem number_at (b : Nat) (s : ByteArray) (k lim : Nat) (hs : s.size ≤ 1048576) (hk : k ≤ s.size) (w : World) (hr : RdIs w b s k) (l : Int) (hl : l = (lim : Int)) :
    Calls Tryz.prog 67 #[.pointer (some ⟨b, 0, none⟩), .int .i64 l] w fun e w' => numDid (numAt s lim k) s b w e w' := by
  subst hl
  unfold numAt
  cases h : rv (s.data.toList.drop k) with
  | none => exact number_no b s k lim hs hk (fun n c e => by rw [h] at e; cases e) w hr
  | some p =>
    obtain ⟨n, c⟩ := p
    dsimp only
    by_cases hn : n ≤ lim
    · rw [if_pos hn]
      exact number_yes b s k n c lim hs hk h (by omega) w hr
    · rw [if_neg hn]
      exact number_no b s k lim hs hk (fun n' c' e => by rw [h] at e; cases e; omega) w hr
theorem short_at (b : Nat) (s : ByteArray) (k : Nat) (hs : s.size ≤ 1048576) (w : World) (hr : RdIs w b s k) :
    Calls Tryz.prog 69 #[.pointer (some ⟨b, 0, none⟩)] w fun e w' => txtDid (txtAt s k) s b w e w' := by
  unfold txtAt
  cases h : rs s (k : Int) with
  | none => exact short_no b s k hs h w hr
  | some p => exact short_yes b s k p.1 p.2 hs h w hr
theorem grown_new {w x : World} {r : Option Nat} (h : w.grownBy x r) (o : Obj) : w.grownBy (x.alloc o) r := h.trans (grown_of_below (below_more (Below.refl _ _) o) r)
theorem grown_put {w x : World} {r : Option Nat} (h : w.grownBy x r) {p j : Nat} (hp : w.heap.size ≤ p) (u : Value) : w.grownBy (x.setCell ⟨p, j, none⟩ u) r :=
  ⟨h.os, h.tape, h.output, by simpa [World.setCell] using h.size, fun k hk hr => (Below.heap_setCell _ _ _ _ (show k ≠ p by omega)).trans (h.block k hk hr)⟩
end Go.Proofs.YtoanhjjigbjecaaGreatDoor
