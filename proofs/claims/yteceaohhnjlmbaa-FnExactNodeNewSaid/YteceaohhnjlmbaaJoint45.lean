/-
  The walks of laws.markNode, heldNode at a node without entries, votes and peers.
-/
import Derived.Test.YteceaohhnjlmbaaJoint1
import Derived.Test.YteceaohhnjlmbaaJoint41
import Derived.Test.YteceaohhnjlmbaaJoint44
namespace Go.Proofs.Yteceaohhnjlmbaa
open Go.RowKit Go.Sort

set_option maxRecDepth 1000000 in
theorem markPeerS_none (a : Option Addr) (c : Nat) (m : Int) (w : World) : Calls Try.prog 43 #[.slice a 0 c, .int .i64 m] w fun e w' => e = .returned (.int .i64 m) ∧ w' = w := by
  go_enter Try.func43, Try.ntmps43
  go_wp2
  go_loopg [1, 5] 0 (fun _ y i wr => wr = w ∧ i = .int .i64 0 ∧ y = .int .i64 m)
  case atStart => exact ⟨rfl, rfl, rfl⟩
  case round =>
    obtain ⟨rfl, rfl, rfl⟩ := hrel
    go_wp2
    go_ret
    exact ⟨rfl, rfl⟩
set_option maxRecDepth 1000000 in
theorem heldPeerS_none (a : Option Addr) (c : Nat) (m : Int) (w : World) : Calls Try.prog 46 #[.slice a 0 c, .int .i64 m] w fun e w' => e = .returned (.int .i64 m) ∧ w' = w := by
  go_enter Try.func46, Try.ntmps46
  go_wp2
  go_loopg [1, 5] 0 (fun _ y i wr => wr = w ∧ i = .int .i64 0 ∧ y = .int .i64 m)
  case atStart => exact ⟨rfl, rfl, rfl⟩
  case round =>
    obtain ⟨rfl, rfl, rfl⟩ := hrel
    go_wp2
    go_ret
    exact ⟨rfl, rfl⟩
set_option maxRecDepth 1000000 in
theorem markLog_none (s t : Int) (a : Option Addr) (c : Nat) (m : Int) (w : World) : Calls Try.prog 42 #[.agg #[.int .i64 s, .int .i64 t, .slice a 0 c], .int .i64 m] w fun e w' => e = .returned (.int .i64 m) ∧ Below w.heap.size w w' := by
  have C := hid (fun w => markEntryS_none a c m w)
  have HB := hid (below_more (Below.refl w.heap.size w) (.cells #[.int .i64 s, .int .i64 t, .slice a 0 c] 33))
  go_enter Try.func42, Try.ntmps42
  go_wp2_with fail
  refine (C.out _).mono ?_
  rintro e w1 ⟨rfl, hw⟩
  rw [hw]
  clear hw C
  go_wp2
  go_ret
  exact ⟨rfl, HB.out⟩
/-- nothing but the conf's row was written -/
def MarkedC (lo : Nat) (v : Value) (w w' : World) : Prop :=
  (∀ j t cs, BlockIs w j t cs → v.ownBlock ≠ some j → BlockIs w' j t cs) ∧ w.heap.size ≤ w'.heap.size ∧ ∀ w0, w0.heap.size ≤ lo → Below w0.heap.size w0 w → Below w0.heap.size w0 w'
theorem MarkedC.box {lo j n : Nat} {v : Value} {w w' : World} {t : TypeId} {cs xs : List Value} (h : MarkedC lo v w w') (hb : BlockIs w j t cs) (h1 : w.ownsRow lo 3 1 v n xs) (t1 : t ≠ 3) : BlockIs w' j t cs := by
  refine h.1 j t cs hb (fun e => ?_)
  obtain ⟨cs', hb', _⟩ := row_block h1 e
  exact t1 (block_one hb hb').1
theorem MarkedC.row {lo lo2 size n : Nat} {v v2 : Value} {t : TypeId} {w w' : World} {xs : List Value} (h : MarkedC lo v w w') (hr : w.ownsRow lo2 t size v2 n xs) (h1 : ∀ g, v2.ownBlock = some g → v.ownBlock ≠ some g) : w'.ownsRow lo2 t size v2 n xs := by
  refine ⟨hr.1, hr.2.imp id ?_⟩
  rintro ⟨g, cap, cur, a, b, c, r⟩
  have hv : v2.ownBlock = some g := by rw [a]; rfl
  have := h.1 g t cur.toList (by unfold BlockIs; rw [c]) (h1 g hv)
  unfold BlockIs at this
  exact ⟨g, cap, cur, a, b, by rw [this], r⟩
set_option maxRecDepth 1000000 in
set_option maxHeartbeats 2000000 in
theorem markNew_own (lo : Nat) (I L : Int) (co eo : Option Addr) (cc ec : Nat) (C : List Int) (hl : C.length ≤ 1048576) (w : World) (h : w.ownsRow lo 3 1 (.slice co C.length cc) C.length (intCells C)) :
    Calls Try.prog 16 #[.agg #[.int .i64 I, .int .i64 0, .int .i64 0, .int .i64 0, .int .i64 0, .slice co C.length cc, .int .i64 0, .int .i64 0, .slice eo 0 ec, .int .i64 0, .int .i64 0, .int .i64 L, .slice none 0 0, .slice none 0 0], .int .i64 1] w fun e w' => e = .returned (.int .i64 ((1 + C.length : Nat) : Int)) ∧ IntsAt w' co (countFrom 1 C.length) ∧ MarkedC lo (.slice co C.length cc) w w' := by
  have bn := below_more (Below.refl w.heap.size w) (.cells #[.int .i64 I, .int .i64 0, .int .i64 0, .int .i64 0, .int .i64 0, .slice co C.length cc, .int .i64 0, .int .i64 0, .slice eo 0 ec, .int .i64 0, .int .i64 0, .int .i64 L, .slice none 0 0, .slice none 0 0] 36)
  have xn : BlockIs (w.alloc (.cells #[.int .i64 I, .int .i64 0, .int .i64 0, .int .i64 0, .int .i64 0, .slice co C.length cc, .int .i64 0, .int .i64 0, .slice eo 0 ec, .int .i64 0, .int .i64 0, .int .i64 L, .slice none 0 0, .slice none 0 0] 36)) w.heap.size 36 [.int .i64 I, .int .i64 0, .int .i64 0, .int .i64 0, .int .i64 0, .slice co C.length cc, .int .i64 0, .int .i64 0, .slice eo 0 ec, .int .i64 0, .int .i64 0, .int .i64 L, .slice none 0 0, .slice none 0 0] := heap_alloc_new w _
  have kn := row_ext h fun g cs h9 => h9.on bn h9.lt
  obtain ⟨W, hW⟩ : ∃ W, w.alloc (.cells #[.int .i64 I, .int .i64 0, .int .i64 0, .int .i64 0, .int .i64 0, .slice co C.length cc, .int .i64 0, .int .i64 0, .slice eo 0 ec, .int .i64 0, .int .i64 0, .int .i64 L, .slice none 0 0, .slice none 0 0] 36) = W := ⟨_, rfl⟩
  rw [hW] at bn xn kn
  have q5 := xn.cell (j := 5) rfl
  have BN := hid bn
  have XN := hid xn
  have KN := hid kn
  have CM : Hid (Calls Try.prog 15 #[.slice co C.length cc, .int .i64 1] W fun e w' => e = .returned (.int .i64 ((1 + C.length : Nat) : Int)) ∧ IntsAt w' co (countFrom 1 C.length) ∧ W.grownBy w' (Value.slice co C.length cc).ownBlock) := markC_own lo co cc 1 C (by omega) hl W kn
  have CL := hid (fun m w => markLog_none 0 0 eo ec m w)
  have CV := hid (fun m w => markIntS_nil none 0 m w)
  have CP := hid (fun m w => markPeerS_none none 0 m w)
  clear bn xn kn h
  obtain ⟨K, hK⟩ : ∃ K : Nat, 1 + C.length = K := ⟨_, rfl⟩
  rw [hK] at CM ⊢
  clear hK
  go_enter Try.func16, Try.ntmps16
  go_wp2_with fail
  refine Calls.mono CM.out ?_
  rintro e w1 ⟨rfl, s1, g1⟩
  have x1 : BlockIs w1 w.heap.size 36 [.int .i64 I, .int .i64 0, .int .i64 0, .int .i64 0, .int .i64 0, .slice co C.length cc, .int .i64 0, .int .i64 0, .slice eo 0 ec, .int .i64 0, .int .i64 0, .int .i64 L, .slice none 0 0, .slice none 0 0] := by
    have hb := XN.out
    unfold BlockIs at hb ⊢
    rw [g1.block w.heap.size XN.out.lt (fun e => by obtain ⟨cs2, h2, _⟩ := row_block KN.out e.symm; exact absurd (block_one XN.out h2).1 (by decide))]
    exact hb
  have S1 := hid s1
  have G1 := hid g1
  have X1 := hid x1
  have q6 := x1.cell (j := 6) rfl
  have q7 := x1.cell (j := 7) rfl
  have q8 := x1.cell (j := 8) rfl
  clear s1 g1 x1 q5 CM
  go_wp2_with fail
  refine Calls.mono (CL.out _ _) ?_
  rintro e w2 ⟨rfl, b2⟩
  have X2 := X1.out.on b2 X1.out.lt
  have q12 := X2.cell (j := 12) rfl
  have q13 := X2.cell (j := 13) rfl
  have B2 := hid b2
  clear b2 q6 q7 q8 X2 CL
  go_wp2_with fail
  refine Calls.mono (CV.out _ _) ?_
  rintro e w3 ⟨rfl, hw⟩
  rw [hw]
  clear hw w3 CV
  go_wp2_with fail
  refine Calls.mono (CP.out _ _) ?_
  rintro e w4 ⟨rfl, hw⟩
  rw [hw]
  clear hw w4 CP
  have HE : Hid (IntsAt w2 co (countFrom 1 C.length) ∧ MarkedC lo (.slice co C.length cc) w w2) := by
    refine ⟨S1.out.on B2.out, fun j t cs hb h1 => ?_, Nat.le_trans BN.out.size (Nat.le_trans G1.out.size B2.out.size), fun w0 hlo hb => ?_⟩
    · have b1 := hb.on BN.out hb.lt
      have b2 : BlockIs w1 j t cs := by unfold BlockIs; rw [G1.out.block j b1.lt (fun e => h1 e.symm)]; exact b1
      exact b2.on B2.out b2.lt
    · have b1 := hb.trans (BN.out.mono hb.size)
      have b2 := b1.grown G1.out b1.size (fun k e => by obtain ⟨_, _, h9⟩ := row_block KN.out e; omega)
      exact below_via b2 B2.out
  go_wp2
  go_ret
  exact ⟨rfl, HE.out⟩
set_option maxRecDepth 1000000 in
theorem heldNew_own (I L : Int) (co eo : Option Addr) (cc ec n : Nat) (hl : n ≤ 1048576) (w : World) (hb : IntsAt w co (countFrom 1 n)) :
    Calls Try.prog 17 #[.agg #[.int .i64 I, .int .i64 0, .int .i64 0, .int .i64 0, .int .i64 0, .slice co n cc, .int .i64 0, .int .i64 0, .slice eo 0 ec, .int .i64 0, .int .i64 0, .int .i64 L, .slice none 0 0, .slice none 0 0], .int .i64 1] w fun e w' => e = .returned (.int .i64 ((1 + n : Nat) : Int)) ∧ Below w.heap.size w w' := by
  have bn := below_more (Below.refl w.heap.size w) (.cells #[.int .i64 I, .int .i64 0, .int .i64 0, .int .i64 0, .int .i64 0, .slice co n cc, .int .i64 0, .int .i64 0, .slice eo 0 ec, .int .i64 0, .int .i64 0, .int .i64 L, .slice none 0 0, .slice none 0 0] 36)
  have xn : BlockIs (w.alloc (.cells #[.int .i64 I, .int .i64 0, .int .i64 0, .int .i64 0, .int .i64 0, .slice co n cc, .int .i64 0, .int .i64 0, .slice eo 0 ec, .int .i64 0, .int .i64 0, .int .i64 L, .slice none 0 0, .slice none 0 0] 36)) w.heap.size 36 [.int .i64 I, .int .i64 0, .int .i64 0, .int .i64 0, .int .i64 0, .slice co n cc, .int .i64 0, .int .i64 0, .slice eo 0 ec, .int .i64 0, .int .i64 0, .int .i64 L, .slice none 0 0, .slice none 0 0] := heap_alloc_new w _
  have hn := hb.on bn
  obtain ⟨W, hW⟩ : ∃ W, w.alloc (.cells #[.int .i64 I, .int .i64 0, .int .i64 0, .int .i64 0, .int .i64 0, .slice co n cc, .int .i64 0, .int .i64 0, .slice eo 0 ec, .int .i64 0, .int .i64 0, .int .i64 L, .slice none 0 0, .slice none 0 0] 36) = W := ⟨_, rfl⟩
  rw [hW] at bn xn hn
  have q5 := xn.cell (j := 5) rfl
  have q6 := xn.cell (j := 6) rfl
  have q7 := xn.cell (j := 7) rfl
  have q8 := xn.cell (j := 8) rfl
  have BN := hid bn
  have XN := hid xn
  have CM' := heldIntS_any co n cc 1 (by omega) hl W hn
  have CL' := fun w => heldLog_any 0 0 eo 0 ec (1 + n) (by omega) (by omega) w (fun q => absurd rfl q)
  have CV' := fun w => heldIntS_any none 0 0 (1 + n) (by omega) (by omega) w (fun q => absurd rfl q)
  have hp1 : ¬ ((1 + n : Nat) : Int) < 0 := by omega
  obtain ⟨K, hK⟩ : ∃ K : Nat, 1 + n = K := ⟨_, rfl⟩
  rw [hK] at CM' CL' CV' hp1 ⊢
  have CM := hid CM'
  have CL : Hid (∀ w, Calls Try.prog 45 #[.agg #[.int .i64 0, .int .i64 0, .slice eo 0 ec], .int .i64 (K : Nat)] w fun e w' => e = .returned (.int .i64 (K : Nat)) ∧ Below w.heap.size w w') := CL'
  have CV : Hid (∀ w, Calls Try.prog 44 #[.slice none 0 0, .int .i64 (K : Nat)] w fun e w' => e = .returned (.int .i64 (K : Nat)) ∧ w' = w) := CV'
  have CP := hid (fun m w => heldPeerS_none none 0 m w)
  clear bn xn hn hb hK CM' CL' CV'
  go_enter Try.func17, Try.ntmps17
  go_wp2_with fail
  refine Calls.mono CM.out ?_
  rintro e w1 ⟨rfl, hw⟩
  rw [hw]
  clear hw w1 CM
  go_wp2_with fail
  refine Calls.mono (CL.out _) ?_
  rintro e w2 ⟨rfl, b2⟩
  have X2 := XN.out.on b2 XN.out.lt
  have r12 := X2.cell (j := 12) rfl
  have r13 := X2.cell (j := 13) rfl
  have B2 := hid (below_via BN.out b2)
  clear b2 q5 q6 q7 q8 X2 CL
  go_wp2_with fail
  refine Calls.mono (CV.out _) ?_
  rintro e w3 ⟨rfl, hw⟩
  rw [hw]
  clear hw w3 CV
  go_wp2_with fail
  refine Calls.mono (CP.out _ _) ?_
  rintro e w4 ⟨rfl, hw⟩
  rw [hw]
  clear hw w4 CP
  go_wp2
  go_ret
  exact ⟨rfl, B2.out⟩
end Go.Proofs.Yteceaohhnjlmbaa
