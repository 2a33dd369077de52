/-
  The walks of the methods of impl.snapReader: each goes on, or panics with a noSnap.
-/
import Derived.Test.YtcneaidfhmbdmabDoorJoint1
import Derived.Test.YtcneaidfhmbdmabDoorJoint35
import Derived.Test.YtcneaidfhmbdmabDoorJoint36
import Derived.Test.YtcneaidfhmbdmabDoorJoint37
import Derived.Test.YtcneaidfhmbdmabDoorJoint40
import Derived.Test.YtcneaidfhmbdmabDoorJoint17
import Derived.WalkLawsBesides
import Derived.Deep.RegionWith
namespace Go.Proofs.YtcneaidfhmbdmabDoor
open Go.RowKit Go.Sort

/-- what a reader panics with -/
abbrev noSnapP : PanicEntry := { v := .iface 95 (.agg #[]), recovered := false }
/-- a reader: its text, its place -/
def RdIs (w : World) (b : Nat) (s : ByteArray) (k : Nat) : Prop := BlockIs w b 99 [.string s, .int .i64 (k : Int)]

set_option maxRecDepth 1000000 in
theorem need_yes (r : Value) (w : World) : Calls Tryd.prog 79 #[r, .bool true] w fun e w' => e = .returned (.tuple #[]) ∧ w' = w := by
  go_enter Tryd.func79, Tryd.ntmps79
  go_wp2
  go_end0
  exact ⟨rfl, rfl⟩
set_option maxRecDepth 1000000 in
theorem need_no (r : Value) (w : World) : Calls Tryd.prog 79 #[r, .bool false] w fun e w' => e = .panicked [noSnapP] ∧ w' = w := by
  go_enter Tryd.func79, Tryd.ntmps79
  go_wp2
  exact ⟨rfl, rfl, rfl⟩

theorem rd_drew {W : World} {b k : Nat} {s : ByteArray} (h : RdIs W b s k) (n : Nat) : RdIs (W.drewN n) b s k := h

set_option maxRecDepth 1000000 in
set_option maxHeartbeats 1000000 in
theorem number_yes (b : Nat) (s : ByteArray) (k n c : Nat) (lim : Int) (hs : s.size ≤ 1048576) (hk : k ≤ s.size) (h : rv (s.data.toList.drop k) = some (n, c)) (hn : (n : Int) ≤ lim) (w : World) (hr : RdIs w b s k) :
    Calls Tryd.prog 69 #[.pointer (some ⟨b, 0, none⟩), .int .i64 lim] w fun e w' => e = .returned (.int .i64 (n : Int)) ∧ RdIs w' b s (k + c) ∧ w.grownBy w' (some b) := by
  have HR := hid hr
  have cV' := fun w => implReadVar_in s k hk (by omega) w
  rw [h] at cV'
  have cV : Hid (∀ w, Calls Tryd.prog 81 #[.string s, .int .i64 (k : Int)] w fun e w' => e = .returned (.tuple #[.int .i64 (n : Int), .int .i64 ((k + c : Nat) : Int), .bool true]) ∧ w' = w) := cV'
  have c0 := hr.cell (j := 0) rfl
  have c1 := hr.cell (j := 1) rfl
  have f1 := hr.thaw 1
  obtain ⟨m, hm⟩ : ∃ m, k + c = m := ⟨_, rfl⟩
  rw [hm] at cV ⊢
  clear hr cV' h hm
  go_enter Tryd.func69, Tryd.ntmps69
  go_wp2
  go_quiet (first | (go_at_call 81; refine Calls.quiet_of_same (cV.out _)) | fail)
  go_wp2_with fail
  refine (need_yes _ _).mono ?_
  rintro e w1 ⟨rfl, hw⟩
  rw [hw]
  clear hw w1
  go_wp2
  go_ret
  exact ⟨rfl, (rd_drew HR.out _).set 1 _, (grown_draws _ _ _).trans (grownBy_set _ _ _ _)⟩

set_option maxRecDepth 1000000 in
set_option maxHeartbeats 1000000 in
theorem number_no (b : Nat) (s : ByteArray) (k : Nat) (lim : Int) (hs : s.size ≤ 1048576) (hk : k ≤ s.size) (h : ∀ n c, rv (s.data.toList.drop k) = some (n, c) → lim < (n : Int)) (w : World) (hr : RdIs w b s k) :
    Calls Tryd.prog 69 #[.pointer (some ⟨b, 0, none⟩), .int .i64 lim] w fun e w' => e = .panicked [noSnapP] ∧ w.grownBy w' (some b) := by
  have cV' := fun w => implReadVar_in s k hk (by omega) w
  have c0 := hr.cell (j := 0) rfl
  have c1 := hr.cell (j := 1) rfl
  cases hv : rv (s.data.toList.drop k) with
  | none =>
    rw [hv] at cV'
    have cV : Hid (∀ w, Calls Tryd.prog 81 #[.string s, .int .i64 (k : Int)] w fun e w' => e = .returned (.tuple #[.int .i64 0, .int .i64 0, .bool false]) ∧ w' = w) := cV'
    clear hr cV' h hv
    go_enter Tryd.func69, Tryd.ntmps69
    go_wp2
    go_quiet (first | (go_at_call 81; refine Calls.quiet_of_same (cV.out _)) | fail)
    go_wp2_with fail
    refine (need_no _ _).mono ?_
    rintro e w1 ⟨rfl, hw⟩
    rw [hw]
    clear hw w1
    go_wp2
    exact ⟨rfl, rfl, grown_draws _ _ _⟩
  | some p =>
    obtain ⟨n, c⟩ := p
    have hn : ¬ (n : Int) ≤ lim := by have := h n c hv; omega
    have hnd : decide ((n : Int) ≤ lim) = false := decide_eq_false hn
    rw [hv] at cV'
    have cV : Hid (∀ w, Calls Tryd.prog 81 #[.string s, .int .i64 (k : Int)] w fun e w' => e = .returned (.tuple #[.int .i64 (n : Int), .int .i64 ((k + c : Nat) : Int), .bool true]) ∧ w' = w) := cV'
    obtain ⟨m, hm⟩ : ∃ m, k + c = m := ⟨_, rfl⟩
    rw [hm] at cV
    clear hr cV' h hv hm
    go_enter Tryd.func69, Tryd.ntmps69
    go_wp2
    go_quiet (first | (go_at_call 81; refine Calls.quiet_of_same (cV.out _)) | fail)
    go_wp2_with fail
    refine (need_no _ _).mono ?_
    rintro e w1 ⟨rfl, hw⟩
    rw [hw]
    clear hw w1
    go_wp2
    exact ⟨rfl, rfl, grown_draws _ _ _⟩

theorem grown_regrown (w : World) (r : Option Nat) (dq : Nat) (osq : Array Obj) : w.grownBy (grow (redrawn w dq) osq) r := grown_of_below (below_regrown w dq osq) r

set_option maxRecDepth 1000000 in
set_option maxHeartbeats 1000000 in
theorem short_yes (b : Nat) (s : ByteArray) (k x y : Nat) (hs : s.size ≤ 1048576) (h : rs s (k : Int) = some (x, y)) (w : World) (hr : RdIs w b s k) :
    Calls Tryd.prog 71 #[.pointer (some ⟨b, 0, none⟩)] w fun e w' => e = .returned (.string (s.extract x y)) ∧ RdIs w' b s y ∧ w.grownBy w' (some b) := by
  have HR := hid hr
  have cV' := fun d os => Calls.regrown_of (w := w) (d := d) (os := os) (implReadShort_any s k (by omega) _)
  rw [h, show rsAns s (some (x, y)) = .tuple #[.string (s.extract x y), .int .i64 (y : Int), .bool true] from rfl] at cV'
  obtain ⟨T, hT⟩ : ∃ T, s.extract x y = T := ⟨_, rfl⟩
  rw [hT] at cV' ⊢
  have cV := hid cV'
  have c0 := hr.cell (j := 0) rfl
  have c1 := hr.cell (j := 1) rfl
  have q0 := cell_regrown c0
  have q1 := cell_regrown c1
  clear hr cV' h hT
  go_enter Tryd.func71, Tryd.ntmps71
  go_wp2
  refine wp_region_quiet_below (by kernel_rfl) (by kernel_rfl) ?_
  repeat (first | go_big_quiet_step (exact cV.out _ _) | quiet_step (exact cV.out _ _))
  refine wpQuiet_nil ?_
  intro _ hw'
  obtain ⟨⟨dq, osq⟩, hw''⟩ := hw'
  subst hw''
  have hbq := below_regrown w dq osq
  obtain ⟨W2, hW2⟩ : ∃ W2, grow (redrawn w dq) osq = W2 := ⟨_, rfl⟩
  rw [hW2] at hbq ⊢
  have X2 : Hid (RdIs W2 b s k) := HR.out.on hbq HR.out.lt
  have G2 := hid (grown_of_below hbq (some b))
  have d1 := X2.out.cell (j := 1) rfl
  have f1 := X2.out.thaw 1
  clear hbq hW2 q0 q1 c0 c1 cV
  go_wp2_with fail
  refine (need_yes _ _).mono ?_
  rintro e w1 ⟨rfl, hw⟩
  rw [hw]
  clear hw w1
  go_wp2
  go_ret
  exact ⟨rfl, X2.out.set 1 _, G2.out.trans (grownBy_set _ _ _ _)⟩

set_option maxRecDepth 1000000 in
set_option maxHeartbeats 1000000 in
theorem short_no (b : Nat) (s : ByteArray) (k : Nat) (hs : s.size ≤ 1048576) (h : rs s (k : Int) = none) (w : World) (hr : RdIs w b s k) :
    Calls Tryd.prog 71 #[.pointer (some ⟨b, 0, none⟩)] w fun e w' => e = .panicked [noSnapP] ∧ w.grownBy w' (some b) := by
  have HR := hid hr
  have cV' := fun d os => Calls.regrown_of (w := w) (d := d) (os := os) (implReadShort_any s k (by omega) _)
  rw [h, show rsAns s none = .tuple #[.string ByteArray.empty, .int .i64 0, .bool false] from rfl] at cV'
  have cV := hid cV'
  have c0 := hr.cell (j := 0) rfl
  have c1 := hr.cell (j := 1) rfl
  have q0 := cell_regrown c0
  have q1 := cell_regrown c1
  clear hr cV' h
  go_enter Tryd.func71, Tryd.ntmps71
  go_wp2
  refine wp_region_quiet_below (by kernel_rfl) (by kernel_rfl) ?_
  repeat (first | go_big_quiet_step (exact cV.out _ _) | quiet_step (exact cV.out _ _))
  refine wpQuiet_nil ?_
  intro _ hw'
  obtain ⟨⟨dq, osq⟩, hw''⟩ := hw'
  subst hw''
  have hbq := below_regrown w dq osq
  obtain ⟨W2, hW2⟩ : ∃ W2, grow (redrawn w dq) osq = W2 := ⟨_, rfl⟩
  rw [hW2] at hbq ⊢
  have G2 := hid (grown_of_below hbq (some b))
  clear hbq hW2 q0 q1 c0 c1 cV
  go_wp2_with fail
  refine (need_no _ _).mono ?_
  rintro e w1 ⟨rfl, hw⟩
  rw [hw]
  clear hw w1
  go_wp2
  exact ⟨rfl, rfl, G2.out⟩

set_option maxRecDepth 1000000 in
set_option maxHeartbeats 1000000 in
theorem unseal_yes (b : Nat) (s : ByteArray) (k : Nat) (hu : Uns s) (h2 : s.size ≤ 20000) (w : World) (hr : RdIs w b s k) (ht : Steps w) :
    Calls Tryd.prog 68 #[.pointer (some ⟨b, 0, none⟩)] w fun e w' => e = .returned (.tuple #[]) ∧ RdIs w' b (s.extract 0 (s.size - 4)) k ∧ w.grownBy w' (some b) := by
  have HR := hid hr
  have HT := hid ht
  have HU := hid hu
  have c0 := hr.cell (j := 0) rfl
  have h20 : (s.size : Int) ≤ 20000 := by omega
  clear hr ht hu
  go_enter Tryd.func68, Tryd.ntmps68
  go_wp2_with fail
  refine (need_yes _ _).mono ?_
  rintro e w1 ⟨rfl, hw⟩
  rw [hw]
  clear hw w1
  go_wp2_with fail
  refine (implUnsealed_any s (by omega) _ HT.out).mono ?_
  rintro e w1 ⟨(⟨_, rfl⟩ | ⟨hn, _⟩), b1⟩
  · have X1 : Hid (RdIs w1 b s k) := HR.out.on b1 HR.out.lt
    have G1 := hid (grown_of_below b1 (some b))
    have d0 := X1.out.cell (j := 0) rfl
    have f0 := X1.out.thaw 0
    obtain ⟨T, hT⟩ : ∃ T, s.extract 0 (s.size - 4) = T := ⟨_, rfl⟩
    rw [hT]
    have HTT := hid hT
    clear b1 c0 hT
    go_wp2_with fail
    refine (need_yes _ _).mono ?_
    rintro e w2 ⟨rfl, hw⟩
    rw [hw]
    clear hw w2
    go_wp2
    go_end0
    exact ⟨rfl, by rw [HTT.out]; exact X1.out.set 0 _, G1.out.trans (grownBy_set _ _ _ _)⟩
  · exact absurd HU.out hn

set_option maxRecDepth 1000000 in
set_option maxHeartbeats 1000000 in
theorem unseal_no (b : Nat) (s : ByteArray) (k : Nat) (hs : s.size ≤ 1048576) (hu : ¬ (Uns s ∧ s.size ≤ 20000)) (w : World) (hr : RdIs w b s k) (ht : Steps w) :
    Calls Tryd.prog 68 #[.pointer (some ⟨b, 0, none⟩)] w fun e w' => e = .panicked [noSnapP] ∧ w.grownBy w' (some b) := by
  have HT := hid ht
  have HU := hid hu
  have c0 := hr.cell (j := 0) rfl
  clear hr ht hu
  by_cases h20 : (s.size : Int) ≤ 20000
  · go_enter Tryd.func68, Tryd.ntmps68
    go_wp2_with fail
    refine (need_yes _ _).mono ?_
    rintro e w1 ⟨rfl, hw⟩
    rw [hw]
    clear hw w1
    go_wp2_with fail
    refine (implUnsealed_any s (by omega) _ HT.out).mono ?_
    rintro e w1 ⟨(⟨hn, _⟩ | ⟨_, rfl⟩), b1⟩
    · exact absurd ⟨hn, by omega⟩ HU.out
    · have G1 := hid (grown_of_below b1 (some b))
      clear b1 c0
      go_wp2_with fail
      refine (need_no _ _).mono ?_
      rintro e w2 ⟨rfl, hw⟩
      rw [hw]
      clear hw w2
      go_wp2
      exact ⟨rfl, rfl, G1.out⟩
  · go_enter Tryd.func68, Tryd.ntmps68
    go_wp2_with fail
    refine (need_no _ _).mono ?_
    rintro e w1 ⟨rfl, hw⟩
    rw [hw]
    clear hw w1
    go_wp2
    exact ⟨rfl, rfl, World.grownBy.refl _ _⟩

set_option maxRecDepth 1000000 in
set_option maxHeartbeats 1000000 in
theorem end_yes (b : Nat) (s : ByteArray) (k : Nat) (hk : k = s.size) (w : World) (hr : RdIs w b s k) :
    Calls Tryd.prog 72 #[.pointer (some ⟨b, 0, none⟩)] w fun e w' => e = .returned (.tuple #[]) ∧ w.grownBy w' none := by
  have c0 := hr.cell (j := 0) rfl
  have c1 := hr.cell (j := 1) rfl
  have cN := hid (fun r w => need_yes r w)
  subst hk
  clear hr
  go_enter Tryd.func72, Tryd.ntmps72
  go_wp2
  go_quiet (first | (go_at_call 79; refine Calls.quiet_of_same (cN.out _ _)) | fail)
  go_wp2
  go_end0
  exact ⟨rfl, grown_draws _ _ _⟩
set_option maxRecDepth 1000000 in
set_option maxHeartbeats 1000000 in
theorem end_no (b : Nat) (s : ByteArray) (k : Nat) (hk : k ≠ s.size) (w : World) (hr : RdIs w b s k) :
    Calls Tryd.prog 72 #[.pointer (some ⟨b, 0, none⟩)] w fun e w' => e = .panicked [noSnapP] ∧ w.grownBy w' none := by
  have c0 := hr.cell (j := 0) rfl
  have c1 := hr.cell (j := 1) rfl
  have cN := hid (fun r w => need_no r w)
  have hk2 : ¬ (k : Int) = (s.size : Int) := by omega
  have hk3 : ((k : Int) == (s.size : Int)) = false := by simp; omega
  clear hr
  go_enter Tryd.func72, Tryd.ntmps72
  go_wp2
  refine wp_region_any (by kernel_rfl) ?_
  refine wpAny_take (i := 0) (v := (.pointer (some ⟨b, 0, none⟩))) rfl (by kernel_rfl) (by kernel_rfl) (by kernel_rfl) (fun _ _ _ h => h) (Or.inl ⟨by rfl, by intro w; go_simp⟩) ?_
  refine wpAny_take (i := 1) (v := (.pointer (some ⟨b, 0, none⟩))) rfl (by kernel_rfl) (by kernel_rfl) (by kernel_rfl) (fun _ _ _ h => h) (Or.inl ⟨by rfl, by intro w; go_simp⟩) ?_
  refine wpAny_take (i := 2) (v := (.pointer (some ⟨b, 0, none⟩))) rfl (by kernel_rfl) (by kernel_rfl) (by kernel_rfl) (fun _ _ _ h => h) (Or.inl ⟨by rfl, by intro w; go_simp⟩) ?_
  refine wpAny_take (i := 3) (v := (.pointer (some ⟨b, 1, none⟩))) rfl (by kernel_rfl) (by kernel_rfl) (by kernel_rfl) (fun _ _ _ h => h) (Or.inl ⟨by rfl, by intro w; go_simp⟩) ?_
  refine wpAny_take (i := 5) (v := (.pointer (some ⟨b, 0, none⟩))) rfl (by kernel_rfl) (by kernel_rfl) (by kernel_rfl) (fun _ _ _ h => h) (Or.inl ⟨by rfl, by intro w; go_simp⟩) ?_
  refine wpAny_take (i := 6) (v := (.pointer (some ⟨b, 0, none⟩))) rfl (by kernel_rfl) (by kernel_rfl) (by kernel_rfl) (fun _ _ _ h => h) (Or.inl ⟨by rfl, by intro w; go_simp⟩) ?_
  refine wpAny_take (i := 7) (v := (.pointer (some ⟨b, 0, none⟩))) rfl (by kernel_rfl) (by kernel_rfl) (by kernel_rfl) (fun _ _ _ h => h) (Or.inl ⟨by rfl, by intro w; go_simp⟩) ?_
  refine wpAny_ready (rs := [4, 8]) (by kernel_rfl) (by simp) (AllReady.cons rfl (fun K hK => ?_) (AllReady.cons rfl (fun K hK => ?_) AllReady.nil))
  · go_simp
    refine hK _ _ ?_
    clear hK K
    refine wpAny_ready (rs := [8]) (by kernel_rfl) (by simp) (AllReady.cons rfl (fun K hK => ?_) AllReady.nil)
    go_simp
    refine hK _ _ ?_
    clear hK K
    refine wpAny_take (i := 9) (v := (.int .i64 (s.size : Int))) rfl (by kernel_rfl) (by kernel_rfl) (by kernel_rfl) (fun _ _ _ h => h) (Or.inl ⟨by rfl, by intro w; go_simp⟩) ?_
    refine wpAny_take (i := 10) (v := (.bool false)) rfl (by kernel_rfl) (by kernel_rfl) (by kernel_rfl) (fun _ _ _ h => h) (Or.inl ⟨by rfl, by intro w; go_simp⟩) ?_
    refine wpAny_ready (rs := [11]) (by kernel_rfl) (by simp) (AllReady.cons rfl (fun K hK => ?_) AllReady.nil)
    go_simp
    go_wp2_with (go_at_call 79; refine (cN.out _ _).mono ?_; rintro e w1 ⟨rfl, hw⟩; rw [hw]; clear hw w1)
    exact ⟨rfl, rfl, grown_draws _ _ 1⟩
  · go_simp
    refine hK _ _ ?_
    clear hK K
    refine wpAny_take (i := 9) (v := (.int .i64 (s.size : Int))) rfl (by kernel_rfl) (by kernel_rfl) (by kernel_rfl) (fun _ _ _ h => h) (Or.inl ⟨by rfl, by intro w; go_simp⟩) ?_
    refine wpAny_ready (rs := [4]) (by kernel_rfl) (by simp) (AllReady.cons rfl (fun K hK => ?_) AllReady.nil)
    go_simp
    refine hK _ _ ?_
    clear hK K
    refine wpAny_take (i := 10) (v := (.bool false)) rfl (by kernel_rfl) (by kernel_rfl) (by kernel_rfl) (fun _ _ _ h => h) (Or.inl ⟨by rfl, by intro w; go_simp⟩) ?_
    refine wpAny_ready (rs := [11]) (by kernel_rfl) (by simp) (AllReady.cons rfl (fun K hK => ?_) AllReady.nil)
    go_simp
    go_wp2_with (go_at_call 79; refine (cN.out _ _).mono ?_; rintro e w1 ⟨rfl, hw⟩; rw [hw]; clear hw w1)
    exact ⟨rfl, rfl, grown_draws _ _ 1⟩
end Go.Proofs.YtcneaidfhmbdmabDoor
