/-
  The walks of laws.eqBits, eqBitsS: what is alike is found alike.
-/
import Derived.Test.YtpknpodmoeaggabBitsOwn
import Derived.Test.YtpknpodmoeaggabTextS
import Derived.Test.YtpknpodmoeaggabIntEq
import Derived.Lib.QuietBelow
import Derived.BigQuiet
namespace Go.Proofs.Ytpknpodmoeaggab
open Go.RowKit Go.Sort

set_option maxRecDepth 1000000 in
set_option maxHeartbeats 2000000 in
theorem eqBits_same (e : BitD) (r q : BitsD) (hs : SmallB e) (w : World) (h : HoldsB w e r) (h' : HoldsB w e q) :
    Calls Try.prog 42 #[.agg #[.int .i64 r.src, .int .i64 r.ident, .slice r.tx.ad r.tx.len r.tx.cap, .slice r.ax.ad r.ax.len r.ax.cap, .int .i64 r.total, .int .i64 r.lim], .agg #[.int .i64 q.src, .int .i64 q.ident, .slice q.tx.ad q.tx.len q.tx.cap, .slice q.ax.ad q.ax.len q.ax.cap, .int .i64 q.total, .int .i64 q.lim]] w fun e' w' => e' = .returned (.bool true) ∧ Below w.heap.size w w' := by
  obtain ⟨ta, tc, aa, ac, rfl, ht, ha⟩ := h
  obtain ⟨tb, td, ab, ad, rfl, hu, hb⟩ := h'
  obtain ⟨hs1, hs2, _⟩ := hs
  simp only [rawB]
  have hp0 : BlockIs (w.alloc (.cells #[.int .i64 e.src, .int .i64 e.ident, .slice ta e.texts.length tc, .slice aa e.ats.length ac, .int .i64 e.total, .int .i64 e.lim] 60)) w.heap.size 60 [.int .i64 e.src, .int .i64 e.ident, .slice ta e.texts.length tc, .slice aa e.ats.length ac, .int .i64 e.total, .int .i64 e.lim] := heap_alloc_new w _
  have hz0 : (w.alloc (.cells #[.int .i64 e.src, .int .i64 e.ident, .slice ta e.texts.length tc, .slice aa e.ats.length ac, .int .i64 e.total, .int .i64 e.lim] 60)).heap.size = w.heap.size + 1 := by simp [World.alloc, -World.alloc_eq]
  have b0 := below_more (Below.refl w.heap.size w) (.cells #[.int .i64 e.src, .int .i64 e.ident, .slice ta e.texts.length tc, .slice aa e.ats.length ac, .int .i64 e.total, .int .i64 e.lim] 60)
  obtain ⟨Wa, hWa⟩ : ∃ W, w.alloc (.cells #[.int .i64 e.src, .int .i64 e.ident, .slice ta e.texts.length tc, .slice aa e.ats.length ac, .int .i64 e.total, .int .i64 e.lim] 60) = W := ⟨_, rfl⟩
  rw [hWa] at hp0 hz0 b0
  have hq0 : BlockIs (Wa.alloc (.cells #[.int .i64 e.src, .int .i64 e.ident, .slice tb e.texts.length td, .slice ab e.ats.length ad, .int .i64 e.total, .int .i64 e.lim] 60)) (w.heap.size + 1) 60 [.int .i64 e.src, .int .i64 e.ident, .slice tb e.texts.length td, .slice ab e.ats.length ad, .int .i64 e.total, .int .i64 e.lim] := by
    have := heap_alloc_new Wa (.cells #[.int .i64 e.src, .int .i64 e.ident, .slice tb e.texts.length td, .slice ab e.ats.length ad, .int .i64 e.total, .int .i64 e.lim] 60)
    rw [hz0] at this
    exact this
  have bb0 := below_more (Below.refl Wa.heap.size Wa) (.cells #[.int .i64 e.src, .int .i64 e.ident, .slice tb e.texts.length td, .slice ab e.ats.length ad, .int .i64 e.total, .int .i64 e.lim] 60)
  obtain ⟨W0, hW0⟩ : ∃ W, Wa.alloc (.cells #[.int .i64 e.src, .int .i64 e.ident, .slice tb e.texts.length td, .slice ab e.ats.length ad, .int .i64 e.total, .int .i64 e.lim] 60) = W := ⟨_, rfl⟩
  rw [hW0] at hq0 bb0
  have P0 := hid (hp0.on bb0 hp0.lt)
  have Q0 := hid hq0
  have B0 := hid (below_via b0 bb0)
  have CT := hid (eqStringS_vals ta tb e.texts tc td (by omega) W0 (ht.on B0.out) (hu.on B0.out))
  have HA := hid ha
  have HB := hid hb
  clear hp0 hq0 b0 bb0 hz0
  rw [← hWa] at hW0
  clear hWa
  have p0 := P0.out.cell (j := 0) rfl
  have p1 := P0.out.cell (j := 1) rfl
  have p2 := P0.out.cell (j := 2) rfl
  have q0 := Q0.out.cell (j := 0) rfl
  have q1 := Q0.out.cell (j := 1) rfl
  have q2 := Q0.out.cell (j := 2) rfl
  go_enter Try.func42, Try.ntmps42
  go_wp2_with fail
  refine Calls.mono CT.out ?_
  rintro e9 w1 ⟨rfl, b1⟩
  have P1 := hid (P0.out.on b1 P0.out.lt)
  have Q1 := hid (Q0.out.on b1 Q0.out.lt)
  have B1 := hid (below_via B0.out b1)
  clear b1 CT p0 p1 p2 q0 q1 q2 P0 Q0 B0 hW0
  have p3 := P1.out.cell (j := 3) rfl
  have q3 := Q1.out.cell (j := 3) rfl
  have CI := hid (eqIntS_same aa ab e.ats ac ad (by omega) w1 (HA.out.on B1.out).ints (HB.out.on B1.out).ints)
  go_wp2_with fail
  refine Calls.mono CI.out ?_
  rintro e9 w2 ⟨rfl, b2⟩
  have P2 := hid (P1.out.on b2 P1.out.lt)
  have Q2 := hid (Q1.out.on b2 Q1.out.lt)
  have B2 := hid (below_via B1.out b2)
  clear b2 CI p3 q3 P1 Q1 B1
  have p4 := P2.out.cell (j := 4) rfl
  have q4 := Q2.out.cell (j := 4) rfl
  have p5 := P2.out.cell (j := 5) rfl
  have q5 := Q2.out.cell (j := 5) rfl
  go_wp2
  go_ret
  exact ⟨rfl, B2.out⟩
set_option maxRecDepth 1000000 in
set_option maxHeartbeats 2000000 in
theorem eqBitsS_same (ao bo : Option Addr) (l : List BitD) (cap cap' : Nat) (hl : l.length ≤ 140737488355328) (hs : ∀ e ∈ l, SmallB e) (w : World) (ha : BitsHold w ao l) (hb : BitsHold w bo l) :
    Calls Try.prog 21 #[.slice ao l.length cap, .slice bo l.length cap'] w fun e w' => e = .returned (.bool true) ∧ Below w.heap.size w w' := by
  have HA := hid ha
  have HB := hid hb
  have HSM := hid hs
  clear ha hb hs
  go_enter Try.func21, Try.ntmps21
  go_wp2
  go_loopg [5] l.length (fun g i wr => ∃ (k : Nat), k + g = l.length ∧ i = .int .i64 k ∧ Hid (Below w.heap.size w wr))
  case atStart => exact ⟨0, by omega, rfl, (show Below _ _ _ from Below.refl _ _)⟩
  case round =>
    obtain ⟨k, hkg, rfl, BR⟩ := hrel
    cases gk with
    | zero =>
      have hlt : ¬ (k : Int) < (l.length : Int) := by omega
      go_wp2
      go_ret
      exact ⟨rfl, BR.out⟩
    | succ g =>
      have hlt : k < l.length := by omega
      have hlt' : (k : Int) < (l.length : Int) := by omega
      obtain ⟨rs, hat, htwo⟩ := HA.out.on BR.out
      obtain ⟨qs, hbt, hbwo⟩ := HB.out.on BR.out
      have hl1 := htwo.length
      have hl2 := hbwo.length
      have hkr : k < rs.length := by omega
      have hkq : k < qs.length := by omega
      have hho := htwo.get k hlt hkr
      have hqo := hbwo.get k hlt hkq
      obtain ⟨b, off, rfl, hc⟩ := hat (by intro e; rw [e] at hkr; simp at hkr)
      obtain ⟨b', off', rfl, hc'⟩ := hbt (by intro e; rw [e] at hkq; simp at hkq)
      obtain ⟨x0, x1, x2, x3, x4, x5⟩ := hc k hkr
      obtain ⟨y0, y1, y2, y3, y4, y5⟩ := hc' k hkq
      obtain ⟨R, hR⟩ : ∃ R, rs[k] = R := ⟨_, rfl⟩
      obtain ⟨Q, hQ⟩ : ∃ R, qs[k] = R := ⟨_, rfl⟩
      rw [hR] at x0 x1 x2 x3 x4 x5 hho
      rw [hQ] at y0 y1 y2 y3 y4 y5 hqo
      have hsm := HSM.out _ (List.getElem_mem hlt)
      have X0 := cell_regrown x0
      have X1 := cell_regrown x1
      have X2 := cell_regrown x2
      have X3 := cell_regrown x3
      have X4 := cell_regrown x4
      have X5 := cell_regrown x5
      have Y0 := cell_regrown y0
      have Y1 := cell_regrown y1
      have Y2 := cell_regrown y2
      have Y3 := cell_regrown y3
      have Y4 := cell_regrown y4
      have Y5 := cell_regrown y5
      have C := hid (fun d os => Calls.regrown_of (w := wr) (d := d) (os := os) (eqBits_same l[k] R Q hsm _ (hho.on (below_regrown wr d os)) (hqo.on (below_regrown wr d os))))
      clear hat hbt htwo hbwo hl1 hl2 hc hc' hR hQ hho hqo hsm x0 x1 x2 x3 x4 x5 y0 y1 y2 y3 y4 y5
      go_wp2
      refine wp_region_quiet_below (by kernel_rfl) (by kernel_rfl) ?_
      repeat (first | go_big_quiet_step (first | (go_at_call 42; exact C.out _ _) | fail) | quiet_step (first | (go_at_call 42; exact C.out _ _) | fail))
      refine wpQuiet_nil ?_
      intro _ hw'
      obtain ⟨⟨dq, osq⟩, hw''⟩ := hw'
      subst hw''
      have BQ : Hid (Below w.heap.size w (grow (redrawn wr dq) osq)) := BR.out.trans ((below_regrown wr dq osq).mono BR.out.size)
      generalize grow (redrawn wr dq) osq = wq at BQ ⊢
      clear X0 X1 X2 X3 X4 X5 Y0 Y1 Y2 Y3 Y4 Y5 C
      go_wp2
      go_roundg g
      case measure => omega
      case rel => exact ⟨k + 1, by omega, by go_num, BQ⟩
end Go.Proofs.Ytpknpodmoeaggab
