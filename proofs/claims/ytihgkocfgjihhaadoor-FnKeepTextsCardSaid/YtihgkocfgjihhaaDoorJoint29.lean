/-
  The walks of spec.DrawKeepText, DrawReadKeep, DrawCommandText, DrawReadCommand: some keep, some command, some texts.
-/
import Derived.Test.YtihgkocfgjihhaaDoorJoint19
import Derived.Test.YtihgkocfgjihhaaDoorJoint20
import Derived.Test.YtihgkocfgjihhaaDoorJoint21
import Derived.Test.YtihgkocfgjihhaaDoorJoint22
import Derived.Test.YtihgkocfgjihhaaDoorJoint23
import Derived.Test.YtihgkocfgjihhaaDoorJoint24
import Derived.Test.YtihgkocfgjihhaaDoorJoint28
namespace Go.Proofs.YtihgkocfgjihhaaDoor
open Go.RowKit Go.Sort

theorem below_curX {w w1 w2 : World} {C : Nat} (hb : Below w.heap.size w w1) (hg : w1.grownBy w2 (some C)) (h : w.heap.size ≤ C) : Below w.heap.size w w2 :=
  hb.trans ⟨hg.os, hg.tape, hg.output, hg.size, fun k hk' => hg.block k (by have := hb.size; omega) (by intro e; simp at e; omega)⟩
theorem BlockIs.curX {w w' : World} {b C : Nat} {t : TypeId} {cs : List Value} (h : BlockIs w b t cs) (hg : w.grownBy w' (some C)) (hb : b ≠ C) : BlockIs w' b t cs := by
  unfold BlockIs
  rw [hg.block b h.lt (by simp; omega)]
  exact h
def KeepTextDrew (w : World) (e : Ending) (w' : World) : Prop := ∃ va vc vb vd ls li, e = .returned (.agg #[.slice va (List.length ls) vc, .slice vb (List.length li) vd]) ∧ (ls.length ≤ 100 ∧ li.length ≤ 100) ∧ KRows w' w.heap.size (.slice va ls.length vc) (.slice vb li.length vd) ls li ∧ Below w.heap.size w w'

set_option maxRecDepth 1000000 in
set_option maxHeartbeats 1000000 in
theorem drawKeepText_any (ao : Option Addr) (len cap : Nat) (hlen : len ≤ 1048576) (hcap : len ≤ cap) (w : World) (hr : Bytes w ao len) :
    Calls Tryd.prog 5 #[.slice ao len cap] w fun e w' => KeepTextDrew w e w' := by
  have be := below_more (Below.refl w.heap.size w) (.cells #[.slice none 0 0, .slice none 0 0] 27)
  have HBY := hid (bytes_on hr be)
  have x1 : BlockIs (w.alloc (.cells #[.slice none 0 0, .slice none 0 0] 27)) w.heap.size 27 [.slice none 0 0, .slice none 0 0] := heap_alloc_new w _
  clear hr
  obtain ⟨W0, hW0⟩ : ∃ W, w.alloc (.cells #[.slice none 0 0, .slice none 0 0] 27) = W := ⟨_, rfl⟩
  rw [hW0] at be x1 HBY
  have hlt := x1.lt
  have B0 := hid be
  have R0 := hid x1
  clear be x1
  go_enter Tryd.func5, Tryd.ntmps5
  go_wp2_with fail
  refine (l01New_any ao len cap hlen hcap _ HBY.out).mono ?_
  rintro e w1 ⟨rfl, k1, b1⟩
  obtain ⟨C, hC⟩ : ∃ C, W0.heap.size = C := ⟨_, rfl⟩
  rw [hC] at k1 ⊢
  have hC2 : w.heap.size < C := by omega
  have K1 := hid k1
  have B1 := hid (below_via B0.out b1)
  have R1 := hid (R0.out.on b1 R0.out.lt)
  clear k1 b1 B0 R0 HBY hW0 hC hlt
  go_wp2_with fail
  refine Calls.mono (l15Any_any C _ K1.out) ?_
  rintro e w2 ⟨va, vc, vb, vd, ls, li, rfl, hl, hq, k2, q2⟩
  have hw1 : w.heap.size ≤ w1.heap.size := B1.out.size
  have B2 := hid (below_curX B1.out q2 (by omega))
  have R2 := R1.out.curX q2 (by omega)
  have Q2 := hq.down hw1
  have z0 := R2.cell (j := 0) rfl
  have z1 := R2.cell (j := 1) rfl
  have f0 := R2.thaw 0
  have f1 := R2.thaw 1
  have BL := hid ((B2.out.setCell (p := ⟨w.heap.size, 0, none⟩) (Nat.le_refl _) (.slice va ls.length vc)).setCell (p := ⟨w.heap.size, 1, none⟩) (Nat.le_refl _) (.slice vb li.length vd))
  have QL := hid ((KRows.far (j := 0) Q2 R2 (by decide) (by decide) (.slice va ls.length vc)).far (j := 1) (R2.set 0 _) (by decide) (by decide) (.slice vb li.length vd))
  clear k2 q2 hq R2 Q2 B2 B1 R1 K1
  go_wp2
  refine bodyPost_ret (v := .agg #[.slice va ls.length vc, .slice vb li.length vd]) (by simp [results, Tryd.results5, go_sem, z0, z1]) rfl ?_
  exact ⟨va, vc, vb, vd, ls, li, rfl, hl, QL.out, BL.out⟩

set_option maxRecDepth 1000000 in
set_option maxHeartbeats 1000000 in
theorem drawReadKeep_any (ao : Option Addr) (len cap : Nat) (hlen : len ≤ 1048576) (hcap : len ≤ cap) (w : World) (hr : Bytes w ao len) :
    Calls Tryd.prog 10 #[.slice ao len cap] w fun e w' => ∃ s : ByteArray, e = .returned (.string s) ∧ s.size ≤ 100000 ∧ Below w.heap.size w w' := by
  have HR := hid hr
  clear hr
  go_enter Tryd.func10, Tryd.ntmps10
  go_wp2_with fail
  refine (l01New_any ao len cap hlen hcap _ HR.out).mono ?_
  rintro e w1 ⟨rfl, k1, b1⟩
  have K1 := hid k1
  have B1 := hid b1
  clear k1 b1
  go_wp2_with fail
  refine Calls.mono (l15Any_any w.heap.size _ K1.out) ?_
  rintro e w2 ⟨va, vc, vb, vd, ls, li, rfl, ⟨hl1, hl2⟩, hq, k2, q2⟩
  have K2 := hid k2
  have B2 := hid (below_curX B1.out q2 (Nat.le_refl _))
  have Q2 := hid hq
  clear k2 q2 hq K1 B1
  obtain ⟨t, ok, hka, _, ht, _⟩ := keep_told ls li
  have CT := hid (specKeepText_any va vb ls li vc vd (by omega) (by omega) w2 (sessionR_at Q2.out.1) (itemR_at Q2.out.2))
  rw [hka] at CT
  clear hka
  go_wp2_with fail
  refine Calls.mono CT.out ?_
  rintro e w3 ⟨rfl, b3⟩
  have K3 := hid (K2.out.below b3)
  have B3 := hid (below_via B2.out b3)
  clear b3 K2 B2 Q2 CT
  go_wp2_with fail
  refine (l02Spoilt_any w.heap.size t (by omega) _ K3.out).mono ?_
  rintro e w4 ⟨T, rfl, hT, k4, q4⟩
  have B4 := hid (below_curX B3.out q4 (Nat.le_refl _))
  clear k4 q4 K3 B3
  go_wp2
  go_ret
  exact ⟨T, rfl, by omega, B4.out⟩

theorem keep_cmd_facts {ls : List SessionD} {li : List ItemD} (h : keepOk ls li = true) (hy : Young 40 ls) : (ls.length ≤ 1048576 ∧ li.length ≤ 1048576) ∧ (∀ e ∈ li, itemFine e = true) ∧ (∀ s ∈ ls, (0 ≤ s.token ∧ s.token ≤ 1000000) ∧ 0 ≤ s.last ∧ s.last ≤ 999999) := by
  obtain ⟨⟨_, hsf, hl3⟩, _, hif, hl8⟩ := keep_facts h
  exact ⟨⟨by omega, by omega⟩, hif, fun s hs => by have h7 := session_bounds (hsf s hs); have h8 := hy s hs; omega⟩

set_option maxRecDepth 1000000 in
set_option maxHeartbeats 1000000 in
theorem drawCommandText_any (ao : Option Addr) (len cap : Nat) (hlen : len ≤ 1048576) (hcap : len ≤ cap) (w : World) (hr : Bytes w ao len) :
    Calls Tryd.prog 12 #[.slice ao len cap] w fun e w' => ∃ d : CommandD, e = .returned (.agg #[.int .i64 d.op, .int .i64 d.token, .int .i64 d.seq, .string d.key, .string d.val, .int .i64 d.ver]) ∧ Below w.heap.size w w' := by
  have be := below_more (Below.refl w.heap.size w) (.cells #[.int .i64 0, .int .i64 0, .int .i64 0, .string ⟨#[]⟩, .string ⟨#[]⟩, .int .i64 0] 37)
  have HBY := hid (bytes_on hr be)
  have x1 : BlockIs (w.alloc (.cells #[.int .i64 0, .int .i64 0, .int .i64 0, .string ⟨#[]⟩, .string ⟨#[]⟩, .int .i64 0] 37)) w.heap.size 37 [.int .i64 0, .int .i64 0, .int .i64 0, .string ⟨#[]⟩, .string ⟨#[]⟩, .int .i64 0] := heap_alloc_new w _
  clear hr
  obtain ⟨W0, hW0⟩ : ∃ W, w.alloc (.cells #[.int .i64 0, .int .i64 0, .int .i64 0, .string ⟨#[]⟩, .string ⟨#[]⟩, .int .i64 0] 37) = W := ⟨_, rfl⟩
  rw [hW0] at be x1 HBY
  have hlt := x1.lt
  have B0 := hid be
  have R0 := hid x1
  clear be x1
  go_enter Tryd.func12, Tryd.ntmps12
  go_wp2_with fail
  refine (l01New_any ao len cap hlen hcap _ HBY.out).mono ?_
  rintro e w1 ⟨rfl, k1, b1⟩
  obtain ⟨C, hC⟩ : ∃ C, W0.heap.size = C := ⟨_, rfl⟩
  rw [hC] at k1 ⊢
  have hC2 : w.heap.size < C := by omega
  have K1 := hid k1
  have hC1 : C < w1.heap.size := K1.out.lt
  have B1 := hid (below_via B0.out b1)
  have R1 := hid (R0.out.on b1 R0.out.lt)
  clear k1 b1 B0 R0 HBY hW0 hC hlt
  go_wp2_with fail
  refine Calls.mono (l15Keep_any C 8 (by omega) (by omega) _ K1.out) ?_
  rintro e w2 ⟨va, vc, vb, vd, ls, li, rfl, hko, hyo, hq, k2, q2⟩
  obtain ⟨⟨hl1, hl2⟩, hif, hla⟩ := keep_cmd_facts hko hyo
  have B2 := hid (below_curX B1.out q2 (by omega))
  have R2 := hid (R1.out.curX q2 (by omega))
  have K2 := hid k2
  have Q2 := hid (hq.down (show C + 1 ≤ w1.heap.size from hC1))
  have CC := hid (l15AnyCommand_any C (C + 1) va vb vc vd ls li hl1 hl2 hif hla w2 K2.out Q2.out (Nat.lt_succ_self _))
  clear k2 q2 hq B1 R1 K1 hko hyo hif hla
  go_wp2_with fail
  refine Calls.mono CC.out ?_
  rintro e w3 ⟨d, rfl, k3, q3⟩
  have B3 := hid (below_curX B2.out q3 (by omega))
  have R3 := R2.out.curX q3 (by omega)
  have z0 := R3.cell (j := 0) rfl
  have z1 := R3.cell (j := 1) rfl
  have z2 := R3.cell (j := 2) rfl
  have z3 := R3.cell (j := 3) rfl
  have z4 := R3.cell (j := 4) rfl
  have z5 := R3.cell (j := 5) rfl
  have f0 := R3.thaw 0
  have f1 := R3.thaw 1
  have f2 := R3.thaw 2
  have f3 := R3.thaw 3
  have f4 := R3.thaw 4
  have f5 := R3.thaw 5
  have BL := hid ((((((B3.out.setCell (p := ⟨w.heap.size, 0, none⟩) (Nat.le_refl _) (.int .i64 d.op)).setCell (p := ⟨w.heap.size, 1, none⟩) (Nat.le_refl _) (.int .i64 d.token)).setCell (p := ⟨w.heap.size, 2, none⟩) (Nat.le_refl _) (.int .i64 d.seq)).setCell (p := ⟨w.heap.size, 3, none⟩) (Nat.le_refl _) (.string d.key)).setCell (p := ⟨w.heap.size, 4, none⟩) (Nat.le_refl _) (.string d.val)).setCell (p := ⟨w.heap.size, 5, none⟩) (Nat.le_refl _) (.int .i64 d.ver))
  clear k3 q3 R3 B2 R2 Q2 K2 CC
  go_wp2
  refine bodyPost_ret (v := .agg #[.int .i64 d.op, .int .i64 d.token, .int .i64 d.seq, .string d.key, .string d.val, .int .i64 d.ver]) (by simp [results, Tryd.results12, go_sem, z0, z1, z2, z3, z4, z5]) rfl ?_
  exact ⟨d, rfl, BL.out⟩

set_option maxRecDepth 1000000 in
set_option maxHeartbeats 1000000 in
theorem drawReadCommand_any (ao : Option Addr) (len cap : Nat) (hlen : len ≤ 1048576) (hcap : len ≤ cap) (w : World) (hr : Bytes w ao len) :
    Calls Tryd.prog 15 #[.slice ao len cap] w fun e w' => ∃ s : ByteArray, e = .returned (.string s) ∧ s.size ≤ 100000 ∧ Below w.heap.size w w' := by
  have HR := hid hr
  clear hr
  go_enter Tryd.func15, Tryd.ntmps15
  go_wp2_with fail
  refine (l01New_any ao len cap hlen hcap _ HR.out).mono ?_
  rintro e w1 ⟨rfl, k1, b1⟩
  have K1 := hid k1
  have hC1 : w.heap.size < w1.heap.size := K1.out.lt
  have B1 := hid b1
  clear k1 b1
  go_wp2_with fail
  refine Calls.mono (l15Keep_any w.heap.size 8 (by omega) (by omega) _ K1.out) ?_
  rintro e w2 ⟨va, vc, vb, vd, ls, li, rfl, hko, hyo, hq, k2, q2⟩
  obtain ⟨⟨hl1, hl2⟩, hif, hla⟩ := keep_cmd_facts hko hyo
  have B2 := hid (below_curX B1.out q2 (Nat.le_refl _))
  have K2 := hid k2
  have Q2 := hid (hq.down (show w.heap.size + 1 ≤ w1.heap.size from hC1))
  have CC := hid (l15AnyCommand_any w.heap.size (w.heap.size + 1) va vb vc vd ls li hl1 hl2 hif hla w2 K2.out Q2.out (Nat.lt_succ_self _))
  clear k2 q2 hq B1 K1 hko hyo hif hla
  go_wp2_with fail
  refine Calls.mono CC.out ?_
  rintro e w3 ⟨d, rfl, k3, q3⟩
  have B3 := hid (below_curX B2.out q3 (Nat.le_refl _))
  have K3 := hid k3
  clear k3 q3 B2 Q2 K2 CC
  obtain ⟨t, ok, hka, _, ht, _⟩ := cmd_told d
  have CT := hid (specCommandText_any d w3)
  rw [hka] at CT
  clear hka
  go_wp2_with fail
  refine Calls.mono CT.out ?_
  rintro e w4 ⟨rfl, b4⟩
  have K4 := hid (K3.out.below b4)
  have B4 := hid (below_via B3.out b4)
  clear b4 K3 B3 CT
  go_wp2_with fail
  refine (l02Spoilt_any w.heap.size t (by omega) _ K4.out).mono ?_
  rintro e w5 ⟨T, rfl, hT, k5, q5⟩
  have B5 := hid (below_curX B4.out q5 (Nat.le_refl _))
  clear k5 q5 K4 B4
  go_wp2
  go_ret
  exact ⟨T, rfl, by omega, B5.out⟩
end Go.Proofs.YtihgkocfgjihhaaDoor
