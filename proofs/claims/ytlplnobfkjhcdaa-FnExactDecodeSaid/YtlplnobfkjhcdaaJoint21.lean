/-
  The walks of the methods of impl.textReader: each goes on, or panics with a noSnap.
-/
import Derived.Test.YtlplnobfkjhcdaaJoint18
import Derived.Test.YtlplnobfkjhcdaaJoint20
import Derived.Test.YtlplnobfkjhcdaaJoint1
import Derived.Deep.QuietTactic
import Derived.BigQuiet
import Derived.Lib.QuietBelow
import Derived.WalkLawsBesides
import Derived.Deep.RegionWith
namespace Go.Proofs.Ytlplnobfkjhcdaa
open Go.RowKit Go.Sort

/-- what a reader panics with -/
abbrev misreadP : PanicEntry := { v := .iface 64 (.agg #[]), recovered := false }
/-- a reader: its text, its place -/
def RdIs (w : World) (b : Nat) (s : ByteArray) (k : Nat) : Prop := BlockIs w b 67 [.string s, .int .i64 (k : Int)]

set_option maxRecDepth 1000000 in
theorem need_yes (r : Value) (w : World) : Calls Try.prog 32 #[r, .bool true] w fun e w' => e = .returned (.tuple #[]) ∧ w' = w := by
  go_enter Try.func32, Try.ntmps32
  go_wp2
  go_end0
  exact ⟨rfl, rfl⟩
set_option maxRecDepth 1000000 in
theorem need_no (r : Value) (w : World) : Calls Try.prog 32 #[r, .bool false] w fun e w' => e = .panicked [misreadP] ∧ w' = w := by
  go_enter Try.func32, Try.ntmps32
  go_wp2
  exact ⟨rfl, rfl, rfl⟩

theorem rd_drew {W : World} {b k : Nat} {s : ByteArray} (h : RdIs W b s k) (n : Nat) : RdIs (W.drewN n) b s k := h

set_option maxRecDepth 1000000 in
set_option maxHeartbeats 1000000 in
theorem number_yes (b : Nat) (s : ByteArray) (k n c : Nat) (lim : Int) (hs : s.size ≤ 1048576) (hk : k ≤ s.size) (h : rv (s.data.toList.drop k) = some (n, c)) (hn : (n : Int) ≤ lim) (w : World) (hr : RdIs w b s k) :
    Calls Try.prog 34 #[.pointer (some ⟨b, 0, none⟩), .int .i64 lim] w fun e w' => e = .returned (.int .i64 (n : Int)) ∧ RdIs w' b s (k + c) ∧ w.grownBy w' (some b) := by
  have HR := hid hr
  have cV' := fun w => implReadVar_in s k hk (by omega) w
  rw [h] at cV'
  have cV : Hid (∀ w, Calls Try.prog 45 #[.string s, .int .i64 (k : Int)] w fun e w' => e = .returned (.tuple #[.int .i64 (n : Int), .int .i64 ((k + c : Nat) : Int), .bool true]) ∧ w' = w) := cV'
  have c0 := hr.cell (j := 0) rfl
  have c1 := hr.cell (j := 1) rfl
  have f1 := hr.thaw 1
  obtain ⟨m, hm⟩ : ∃ m, k + c = m := ⟨_, rfl⟩
  rw [hm] at cV ⊢
  clear hr cV' h hm
  go_enter Try.func34, Try.ntmps34
  go_wp2
  go_quiet (first | (go_at_call 45; refine Calls.quiet_of_same (cV.out _)) | fail)
  go_wp2_with fail
  refine (need_yes _ _).mono ?_
  rintro e w1 ⟨rfl, hw⟩
  rw [hw]
  clear hw w1
  go_wp2
  go_ret
  exact ⟨rfl, (rd_drew HR.out _).set 1 _, (grown_draws _ _ _).trans (grownBy_set _ _ _ _)⟩

set_option maxRecDepth 1000000 in
set_option maxHeartbeats 1000000 in
theorem number_no (b : Nat) (s : ByteArray) (k : Nat) (lim : Int) (hs : s.size ≤ 1048576) (hk : k ≤ s.size) (h : ∀ n c, rv (s.data.toList.drop k) = some (n, c) → lim < (n : Int)) (w : World) (hr : RdIs w b s k) :
    Calls Try.prog 34 #[.pointer (some ⟨b, 0, none⟩), .int .i64 lim] w fun e w' => e = .panicked [misreadP] ∧ w.grownBy w' (some b) := by
  have cV' := fun w => implReadVar_in s k hk (by omega) w
  have c0 := hr.cell (j := 0) rfl
  have c1 := hr.cell (j := 1) rfl
  cases hv : rv (s.data.toList.drop k) with
  | none =>
    rw [hv] at cV'
    have cV : Hid (∀ w, Calls Try.prog 45 #[.string s, .int .i64 (k : Int)] w fun e w' => e = .returned (.tuple #[.int .i64 0, .int .i64 0, .bool false]) ∧ w' = w) := cV'
    clear hr cV' h hv
    go_enter Try.func34, Try.ntmps34
    go_wp2
    go_quiet (first | (go_at_call 45; refine Calls.quiet_of_same (cV.out _)) | fail)
    go_wp2_with fail
    refine (need_no _ _).mono ?_
    rintro e w1 ⟨rfl, hw⟩
    rw [hw]
    clear hw w1
    go_wp2
    exact ⟨rfl, rfl, grown_draws _ _ _⟩
  | some p =>
    obtain ⟨n, c⟩ := p
    have hn : ¬ (n : Int) ≤ lim := by have := h n c hv; omega
    have hnd : decide ((n : Int) ≤ lim) = false := decide_eq_false hn
    rw [hv] at cV'
    have cV : Hid (∀ w, Calls Try.prog 45 #[.string s, .int .i64 (k : Int)] w fun e w' => e = .returned (.tuple #[.int .i64 (n : Int), .int .i64 ((k + c : Nat) : Int), .bool true]) ∧ w' = w) := cV'
    obtain ⟨m, hm⟩ : ∃ m, k + c = m := ⟨_, rfl⟩
    rw [hm] at cV
    clear hr cV' h hv hm
    go_enter Try.func34, Try.ntmps34
    go_wp2
    go_quiet (first | (go_at_call 45; refine Calls.quiet_of_same (cV.out _)) | fail)
    go_wp2_with fail
    refine (need_no _ _).mono ?_
    rintro e w1 ⟨rfl, hw⟩
    rw [hw]
    clear hw w1
    go_wp2
    exact ⟨rfl, rfl, grown_draws _ _ _⟩

theorem grown_regrown (w : World) (r : Option Nat) (dq : Nat) (osq : Array Obj) : w.grownBy (grow (redrawn w dq) osq) r := grown_of_below (below_regrown w dq osq) r

set_option maxRecDepth 1000000 in
set_option maxHeartbeats 1000000 in
theorem short_yes (b : Nat) (s : ByteArray) (k x y : Nat) (hs : s.size ≤ 1048576) (h : rs s (k : Int) = some (x, y)) (w : World) (hr : RdIs w b s k) :
    Calls Try.prog 38 #[.pointer (some ⟨b, 0, none⟩)] w fun e w' => e = .returned (.string (s.extract x y)) ∧ RdIs w' b s y ∧ w.grownBy w' (some b) := by
  have HR := hid hr
  have cV' := fun d os => Calls.regrown_of (w := w) (d := d) (os := os) (implReadShort_any s k (by omega) _)
  rw [h, show rsAns s (some (x, y)) = .tuple #[.string (s.extract x y), .int .i64 (y : Int), .bool true] from rfl] at cV'
  obtain ⟨T, hT⟩ : ∃ T, s.extract x y = T := ⟨_, rfl⟩
  rw [hT] at cV' ⊢
  have cV := hid cV'
  have c0 := hr.cell (j := 0) rfl
  have c1 := hr.cell (j := 1) rfl
  have q0 := cell_regrown c0
  have q1 := cell_regrown c1
  clear hr cV' h hT
  go_enter Try.func38, Try.ntmps38
  go_wp2
  refine wp_region_quiet_below (by kernel_rfl) (by kernel_rfl) ?_
  repeat (first | go_big_quiet_step (exact cV.out _ _) | quiet_step (exact cV.out _ _))
  refine wpQuiet_nil ?_
  intro _ hw'
  obtain ⟨⟨dq, osq⟩, hw''⟩ := hw'
  subst hw''
  have hbq := below_regrown w dq osq
  obtain ⟨W2, hW2⟩ : ∃ W2, grow (redrawn w dq) osq = W2 := ⟨_, rfl⟩
  rw [hW2] at hbq ⊢
  have X2 : Hid (RdIs W2 b s k) := HR.out.on hbq HR.out.lt
  have G2 := hid (grown_of_below hbq (some b))
  have d1 := X2.out.cell (j := 1) rfl
  have f1 := X2.out.thaw 1
  clear hbq hW2 q0 q1 c0 c1 cV
  go_wp2_with fail
  refine (need_yes _ _).mono ?_
  rintro e w1 ⟨rfl, hw⟩
  rw [hw]
  clear hw w1
  go_wp2
  go_ret
  exact ⟨rfl, X2.out.set 1 _, G2.out.trans (grownBy_set _ _ _ _)⟩

set_option maxRecDepth 1000000 in
set_option maxHeartbeats 1000000 in
theorem short_no (b : Nat) (s : ByteArray) (k : Nat) (hs : s.size ≤ 1048576) (h : rs s (k : Int) = none) (w : World) (hr : RdIs w b s k) :
    Calls Try.prog 38 #[.pointer (some ⟨b, 0, none⟩)] w fun e w' => e = .panicked [misreadP] ∧ w.grownBy w' (some b) := by
  have HR := hid hr
  have cV' := fun d os => Calls.regrown_of (w := w) (d := d) (os := os) (implReadShort_any s k (by omega) _)
  rw [h, show rsAns s none = .tuple #[.string ByteArray.empty, .int .i64 0, .bool false] from rfl] at cV'
  have cV := hid cV'
  have c0 := hr.cell (j := 0) rfl
  have c1 := hr.cell (j := 1) rfl
  have q0 := cell_regrown c0
  have q1 := cell_regrown c1
  clear hr cV' h
  go_enter Try.func38, Try.ntmps38
  go_wp2
  refine wp_region_quiet_below (by kernel_rfl) (by kernel_rfl) ?_
  repeat (first | go_big_quiet_step (exact cV.out _ _) | quiet_step (exact cV.out _ _))
  refine wpQuiet_nil ?_
  intro _ hw'
  obtain ⟨⟨dq, osq⟩, hw''⟩ := hw'
  subst hw''
  have hbq := below_regrown w dq osq
  obtain ⟨W2, hW2⟩ : ∃ W2, grow (redrawn w dq) osq = W2 := ⟨_, rfl⟩
  rw [hW2] at hbq ⊢
  have G2 := hid (grown_of_below hbq (some b))
  clear hbq hW2 q0 q1 c0 c1 cV
  go_wp2_with fail
  refine (need_no _ _).mono ?_
  rintro e w1 ⟨rfl, hw⟩
  rw [hw]
  clear hw w1
  go_wp2
  exact ⟨rfl, rfl, G2.out⟩

end Go.Proofs.Ytlplnobfkjhcdaa
