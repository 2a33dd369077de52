/-
  For every slice of bytes, laws.FnPuts returns true: a drawn entry that is put into a drawn log is its last one, and what was ahead of it is left; nothing that was in memory is written.
-/
import Derived.Test.YtjkgjnpifdafaaaRows
import Derived.Test.YtjkgjnpifdafaaaJoint37
import Derived.Test.YtjkgjnpifdafaaaJoint45
import Derived.Test.YtjkgjnpifdafaaaJoint48
import Derived.Lib.QuietBelow
import Derived.WalkSmall
import Derived.WalkKit
import Derived.ProofKit
import Derived.OpenShut
import Derived.OpenVars
import Derived.Deep.DeepHandedRow
import Derived.Lib.LaidTab
import Derived.Stop.LaidErr
namespace Go.Proofs.Ytjkgjnpifdafaaa.fnPuts
open Go.ChangeShapes Go.WideShapes Go.ChangeAt Go.ChangeMaps Go.RowKit

theorem last_any (s t : Int) (ao : Option Addr) (n cap : Nat) (i : Int) (hi : s + (n : Int) = i) (hs : 0 ≤ s ∧ s ≤ 2000000) (hl : n ≤ 1048576) (w : World) :
    Calls Try.prog 24 #[.agg #[.int .i64 s, .int .i64 t, .slice ao n cap]] w fun e w' => e = .returned (.int .i64 i) ∧ Below w.heap.size w w' := by
  subst hi
  have HB := hid (below_more (Below.refl w.heap.size w) (.cells #[.int .i64 s, .int .i64 t, .slice ao n cap] 31))
  go_enter Try.func24, Try.ntmps24
  go_wp2
  go_ret
  exact ⟨rfl, HB.out⟩
theorem put_at {L : List EntD} {d : EntD} {k j : Nat} (hk : k ≤ L.length) (hj : j < k) (h1 : j < (L.take k ++ [d]).length) (h2 : j < L.length) : (L.take k ++ [d])[j] = L[j] := by
  rw [List.getElem_append_left (by simp; omega)]
  simp
set_option maxRecDepth 1000000 in
set_option maxHeartbeats 4000000 in
theorem walk (ao : Option Addr) (len cap : Nat) (hcap : len ≤ cap) (w : World) (hr : Bytes w ao len) :
    Calls Try.prog 6 #[.slice ao len cap] w fun e w' => e = .returned (.bool true) ∧ Below w.heap.size w w' := by
  have HR := hid hr
  clear hr
  by_cases hbig : 1048576 < len
  · go_enter Try.func6, Try.ntmps6
    go_wp2
    go_ret
    exact ⟨rfl, Below.refl _ _⟩
  have hlen : len ≤ 1048576 := by omega
  clear hbig
  go_enter Try.func6, Try.ntmps6
  go_wp2_with fail
  refine (big_no ao len cap hlen _).mono ?_
  rintro e w0 ⟨rfl, hw0⟩
  rw [hw0]
  clear hw0 w0
  go_wp2_with fail
  refine (drawLogPut_any ao len cap hlen hcap _ HR.out).mono ?_
  rintro e w1 ⟨s, t, va, vc, L, i, d, rfl, hL, hvc, hs, ht, hd, he, b1⟩
  have hsm : Hid (∀ f ∈ L, f.data.size ≤ 1048576) := fun f hf => Nat.le_trans (ht f hf).2.2 (by omega)
  clear ht
  have bx := below_more (below_more (Below.refl w1.heap.size w1) (.cells #[.int .i64 s, .int .i64 t, .slice va L.length vc] 31)) (.cells #[.int .i64 d.term, .int .i64 d.kind, .string d.data] 35)
  have hx0 : BlockIs (w1.alloc (.cells #[.int .i64 s, .int .i64 t, .slice va L.length vc] 31)) w1.heap.size 31 [.int .i64 s, .int .i64 t, .slice va L.length vc] := heap_alloc_new w1 _
  have hx1 := hx0.on (below_more (Below.refl _ _) (.cells #[.int .i64 d.term, .int .i64 d.kind, .string d.data] 35)) hx0.lt
  have hx2 : BlockIs ((w1.alloc (.cells #[.int .i64 s, .int .i64 t, .slice va L.length vc] 31)).alloc (.cells #[.int .i64 d.term, .int .i64 d.kind, .string d.data] 35)) (w1.heap.size + 1) 35 [.int .i64 d.term, .int .i64 d.kind, .string d.data] := by
    have := heap_alloc_new (w1.alloc (.cells #[.int .i64 s, .int .i64 t, .slice va L.length vc] 31)) (.cells #[.int .i64 d.term, .int .i64 d.kind, .string d.data] 35)
    rw [show (w1.alloc (.cells #[.int .i64 s, .int .i64 t, .slice va L.length vc] 31)).heap.size = w1.heap.size + 1 by simp [World.alloc, -World.alloc_eq]] at this
    exact this
  have B1 := hid (below_via b1 bx)
  have E1 := hid (he.on bx)
  have XL := hid hx1
  have XE := hid hx2
  clear hx0 hx1 hx2 bx b1 he
  have zl0 := XL.out.cell (j := 0) rfl
  have zl1 := XL.out.cell (j := 1) rfl
  have zl2 := XL.out.cell (j := 2) rfl
  have ze0 := XE.out.cell (j := 0) rfl
  have ze1 := XE.out.cell (j := 1) rfl
  have ze2 := XE.out.cell (j := 2) rfl
  go_wp2_with fail
  refine Calls.mono (implLogPut_any s t i d va L vc (by omega) (by omega) hsm.out (by omega) hvc _ E1.out) ?_
  rintro e w2 ⟨vo, vk, rfl, _, ho2, b2⟩
  obtain ⟨S, hS⟩ : ∃ S, (putAns s t L i d).1.1 = S := ⟨_, rfl⟩
  obtain ⟨T, hT⟩ : ∃ T, (putAns s t L i d).1.2.1 = T := ⟨_, rfl⟩
  obtain ⟨A, hA⟩ : ∃ A, (putAns s t L i d).1.2.2 = A := ⟨_, rfl⟩
  obtain ⟨ok, hok⟩ : ∃ ok, (putAns s t L i d).2 = ok := ⟨_, rfl⟩
  have CS := fun W he => specLogPut_any s t i d va L vc (by omega) hsm.out (by omega) hvc W he
  rw [hS, hT, hA, hok] at CS ⊢
  rw [hA] at ho2
  have bx := below_more (Below.refl w2.heap.size w2) (.cells #[.int .i64 S, .int .i64 T, .slice vo A.length vk] 31)
  have XN : Hid (BlockIs (w2.alloc (.cells #[.int .i64 S, .int .i64 T, .slice vo A.length vk] 31)) w2.heap.size 31 [.int .i64 S, .int .i64 T, .slice vo A.length vk]) := heap_alloc_new w2 _
  have b2' := below_via b2 bx
  have B2 := hid (below_via B1.out b2')
  have E2 := hid (E1.out.on b2')
  have N2 := hid (ho2.ents.on bx)
  have YL := hid (XL.out.on b2' XL.out.lt)
  have YE := hid (XE.out.on b2' XE.out.lt)
  clear zl0 zl1 zl2 ze0 ze1 ze2 XL XE B1 E1 b2 b2' bx ho2
  have zl0 := YL.out.cell (j := 0) rfl
  have zl1 := YL.out.cell (j := 1) rfl
  have zl2 := YL.out.cell (j := 2) rfl
  have ze0 := YE.out.cell (j := 0) rfl
  have ze1 := YE.out.cell (j := 1) rfl
  have ze2 := YE.out.cell (j := 2) rfl
  have CS2 := hid (CS _ E2.out)
  clear CS
  go_wp2_with fail
  with_reducible refine Calls.mono CS2.out ?_
  rintro e w3 ⟨vo', vk', rfl, _, _, b3⟩
  have bx := below_more (Below.refl w3.heap.size w3) (.cells #[.int .i64 S, .int .i64 T, .slice vo' A.length vk'] 31)
  have b3' := below_via b3 bx
  have B3 := hid (below_via B2.out b3')
  have E3 := hid (E2.out.on b3')
  have N3 := hid (N2.out.on b3')
  have UL := hid (YL.out.on b3' YL.out.lt)
  have UE := hid (YE.out.on b3' YE.out.lt)
  have UN := hid (XN.out.on b3' XN.out.lt)
  clear zl0 zl1 zl2 ze0 ze1 ze2 YL YE XN B2 E2 N2 b3 b3' bx CS2
  obtain ⟨W, hW⟩ : ∃ W, w3.alloc (.cells #[.int .i64 S, .int .i64 T, .slice vo' A.length vk'] 31) = W := ⟨_, rfl⟩
  rw [hW] at B3 E3 N3 UL UE UN
  have zn0 := UN.out.cell (j := 0) rfl
  have zn1 := UN.out.cell (j := 1) rfl
  have zn2 := UN.out.cell (j := 2) rfl
  by_cases hP : logOk s t L = true ∧ within i (s + 1) (s + L.length + 1) = true ∧ logOk s t (L.take (i - s - 1).toNat ++ [d]) = true
  · have hY := putAns_yes hP.1 hP.2.1 hP.2.2
    have hii := within_iff.1 hP.2.1
    have hbd := logOk_iff.1 hP.1
    have hO2 := hP.2.2
    rw [hY] at hS hT hA hok
    dsimp only at hS hT hA hok
    obtain ⟨k, hk⟩ : ∃ k : Nat, (i - s - 1).toNat = k := ⟨_, rfl⟩
    rw [hk] at hA hO2
    subst hS hT hok
    have hkl : k ≤ L.length := by omega
    have hAl : A.length = k + 1 := by rw [← hA]; simp; omega
    have hik : s + ((k + 1 : Nat) : Int) = i := by omega
    have hAe : A[k]'(by omega) = d := by subst hA; rw [List.getElem_append_right (by simp; omega)]; simp
    have HAJ : Hid (∀ j (h1 : j < A.length) (h2 : j < L.length), j < k → A[j] = L[j]) := fun j h1 h2 hj => by subst hA; exact put_at hkl hj h1 h2
    have HAS : Hid (∀ f ∈ A, f.data.size ≤ 1048576) := fun f hf => by
      rw [← hA] at hf
      rcases List.mem_append.1 hf with q | q
      · exact hsm.out f (List.mem_of_mem_take q)
      · rw [List.mem_singleton.1 q]; omega
    have HOK : Hid (logOk s t A = true) := (show _ = _ by rw [← hA]; exact hO2)
    obtain ⟨g, off, hvo, hc⟩ := N3.out (by intro e; rw [e] at hAl; simp at hAl)
    subst hvo
    have HCN := hid hc
    obtain ⟨n0, n1, n2⟩ := hc k (by omega)
    rw [hAe] at n0 n1 n2
    have CO' := fun d os => Calls.regrown_of (w := W) (d := d) (os := os) (specLogOk_any s t (some ⟨g, off, none⟩) A vk (by omega) HAS.out _ (N3.out.on (below_regrown W d os)))
    rw [HOK.out] at CO'
    have HAL := hid hAl
    rw [hAl] at CO' zn2 UN hW ⊢
    have CO := hid CO'
    have CL := hid (fun d os => Calls.regrown_of (w := W) (d := d) (os := os) (last_any s t (some ⟨g, off, none⟩) (k + 1) vk i hik (by omega) (by omega) _))
    have q0 := cell_regrown zn0
    have q1 := cell_regrown zn1
    have q2 := cell_regrown zn2
    have r0 := cell_regrown (UE.out.cell (j := 0) rfl)
    have r1 := cell_regrown (UE.out.cell (j := 1) rfl)
    have r2 := cell_regrown (UE.out.cell (j := 2) rfl)
    have m0 := cell_regrown n0
    have m1 := cell_regrown n1
    have m2 := cell_regrown n2
    clear n0 n1 n2 zn0 zn1 zn2 CO' hc hP hY hbd hii hO2 hA hAe hk hAl hik
    go_wp2
    refine wp_region_quiet_below (by kernel_rfl) (by kernel_rfl) ?_
    repeat (first | go_big_quiet_step (first | (go_at_call 24; exact CL.out _ _) | (go_at_call 25; exact CO.out _ _) | fail) | quiet_step (first | (go_at_call 24; exact CL.out _ _) | (go_at_call 25; exact CO.out _ _) | fail))
    refine wpQuiet_nil ?_
    intro _ hw'
    obtain ⟨⟨dq, osq⟩, hw''⟩ := hw'
    subst hw''
    have bq := below_regrown W dq osq
    have BQ := hid (below_via B3.out bq)
    have EL := hid (E3.out.on bq)
    have EN := hid (N3.out.on bq)
    have XL := hid (UL.out.on bq UL.out.lt)
    have XN := hid (UN.out.on bq UN.out.lt)
    generalize Go.Sort.grow (redrawn W dq) osq = w4 at bq BQ EL EN XL XN ⊢
    clear bq CO CL q0 q1 q2 r0 r1 r2 m0 m1 m2 B3 E3 N3 UL UN UE hW HCN
    go_wp2
    go_loopw [10] (fun y wr => ∃ j : Nat, j ≤ k ∧ y = .int .i64 j ∧ Hid (Below w.heap.size w wr) ∧ Hid (EntsAt wr va L) ∧ Hid (EntsAt wr (some ⟨g, off, none⟩) A) ∧ Hid (BlockIs wr w1.heap.size 31 [.int .i64 s, .int .i64 t, .slice va L.length vc]) ∧ Hid (BlockIs wr w2.heap.size 31 [.int .i64 s, .int .i64 t, .slice (some ⟨g, off, none⟩) (k + 1) vk])) (fun y _ => k + 1 - (intOf y).toNat)
    case atStart => exact ⟨0, by omega, rfl, BQ, EL, EN, XL, XN⟩
    case round =>
      clear BQ EL EN XL XN
      obtain ⟨j, hj, rfl, BQ, EL, EN, XL, XN⟩ := hrel
      have zn2 := XN.out.cell (j := 2) rfl
      have zl2 := XL.out.cell (j := 2) rfl
      by_cases hlt : j < k
      · have hjA : j < A.length := by have := HAL.out; omega
        have hjL : j < L.length := by omega
        obtain ⟨_, _, e1, hcn⟩ := EN.out (by intro e; rw [e] at hjA; simp at hjA)
        cases e1
        obtain ⟨gl, ol, rfl, hcl⟩ := EL.out (by intro e; rw [e] at hjL; simp at hjL)
        obtain ⟨a0, a1, a2⟩ := hcn j hjA
        obtain ⟨c0, c1, c2⟩ := hcl j hjL
        rw [HAJ.out j hjA hjL hlt] at a0 a1 a2
        obtain ⟨p0, hp0⟩ : ∃ p, L[j].term = p := ⟨_, rfl⟩
        obtain ⟨p1, hp1⟩ : ∃ p, L[j].kind = p := ⟨_, rfl⟩
        obtain ⟨p2, hp2⟩ : ∃ p, L[j].data = p := ⟨_, rfl⟩
        rw [hp0] at a0 c0
        rw [hp1] at a1 c1
        rw [hp2] at a2 c2
        have h1 : (j : Int) + 1 < ((k + 1 : Nat) : Int) := by omega
        have h2 : (j : Int) < ((k + 1 : Nat) : Int) := by omega
        have h3 : (j : Int) < (L.length : Int) := by omega
        have h4 : (0 : Int) ≤ (j : Int) := by omega
        clear hcn hcl hp0 hp1 hp2
        go_wp2
        go_quiet (fail)
        go_wp2
        go_roundw
        case rel => exact ⟨j + 1, by omega, by go_num, below_drewN BQ.out _, EL.out.on (below_drewN (Below.refl _ _) _), EN.out.on (below_drewN (Below.refl _ _) _), XL.out.on (below_drewN (Below.refl _ _) _) XL.out.lt, XN.out.on (below_drewN (Below.refl _ _) _) XN.out.lt⟩
        case measure => simp [intOf]; omega
      · obtain rfl : j = k := by omega
        go_wp2
        go_ret
        exact ⟨rfl, BQ.out⟩
  · have hN := putAns_no hP
    rw [hN] at hS hT hA hok
    dsimp only at hS hT hA hok
    subst hS hT hA hok
    simp only [List.length_nil] at hW zn2
    clear hP hN UL UE
    simp only [List.length_nil]
    have BB := B3
    go_wp2
    go_ret
    exact ⟨rfl, BB.out⟩

theorem own : ownKnob Try.prog.godebug = none := by kernel_rfl
theorem laidOut : laidOutB Try.prog = true := by kernel_rfl
theorem rowed : varsRowed Try.prog Rows.fnPutsSpec.vars = true := by kernel_rfl
set_option maxRecDepth 1000000 in
theorem contract (H : Type) (enc : TypeId × Value → H) (W : World) (base : Nat) (args : Array Value) (ds gs : List (DataW H)) (before : List MemPlace)
    (hval : ∀ (j : Nat) t v, Try.f6.params[j]? = some t → args[j]? = some v → Value.okWide Try.prog W .any base t v)
    (hW : DataW.Whole enc Try.prog Try.f6.params.toList Rows.fnPutsSpec.vars false W args.toList ds gs before) (_hL : laidMetH Try.prog Rows.fnPutsRow.laid W) :
    Calls Try.prog 6 args W fun e W' => ∃ v, e = .returned v ∧ Rows.fnPutsSpec.post enc Try.prog Try.f6 false true false false W args v W' := by
  have hW' := hW
  obtain ⟨p, q, hA0, hV0, rfl, hfz, hnd⟩ := hW
  have hV : DataW.TrodVars enc Try.prog W (fun _ => true) Rows.fnPutsSpec.vars gs q := hV0
  have hA : DataW.TrodAll enc Try.prog W 0 (fun _ => true) true Try.f6.params.toList args.toList ds p := hA0
  rw [Try.params6] at hA hval
  obtain ⟨v0, vs0, d0, ds0, p0, q0, hargs0, rfl, rfl, h0, r0⟩ := trodAll_cons hA
  obtain ⟨rfl, rfl, rfl⟩ := trodAll_nil r0
  obtain rfl : args = #[v0] := by cases args; simp_all
  obtain ⟨a0, len0, cap0, rfl⟩ := okWide_slice Try.underlying44 (hval 0 44 v0 rfl rfl)
  have k0 := h0
  have lt0 : ∀ x ∈ p0, x.block < W.heap.size := by obtain ⟨m, hm⟩ := k0; exact DataW.trod_lt m _ _ _ hm
  have hb0 : len0 ≤ cap0 ∧ Bytes W a0 len0 := by
    obtain ⟨fuel, hf⟩ := h0
    rcases open_ints Try.underlying44 Try.underlying5 (by kernel_rfl) hf with ⟨hcs, _⟩ | ⟨x, l, c, zs, hcs, _, hl, hm, hz, _, hcell, hwz⟩
    · simp [Value.cells] at hcs
      obtain ⟨rfl, rfl, rfl⟩ := hcs
      exact ⟨Nat.le_refl _, fun h => by omega⟩
    · simp [Value.cells] at hcs
      obtain ⟨rfl, rfl, rfl⟩ := hcs
      refine ⟨hl, fun hp => ?_⟩
      have hzl : zs.length = cap0 := by simpa using hz
      obtain ⟨b, off, rfl, hc⟩ := ints_at hcell (by omega)
      refine ⟨b, off, rfl, fun j hj => ?_⟩
      have hjz : j < zs.length := by omega
      have hb8 := bounds_u8 (hwz (zs.getD j 0) (by simp [List.getD, hjz]))
      exact ⟨zs.getD j 0, hb8.1, hb8.2, hc j hjz⟩
  clear hA0 hV0
  obtain ⟨rfl, rfl⟩ := trodVars_none hV
  refine (walk a0 len0 cap0 hb0.1 W hb0.2).mono fun e W' ⟨he, bel⟩ => ?_
  subst he
  exact ⟨_, rfl, _, _, _, [], _, [], hW', trodAll_mk1 (shut_bool Try.underlying4 _), trodAll_cons_mk (Below.trod laidOut (by kernel_rfl) (of_decide_eq_true (by kernel_rfl)) k0 bel lt0) (trodAll_mk0), rfl, bel.frame _, fun h => by cases h⟩

def put (cs : Array Value) : Obj → Obj
  | .cells _ t frozen => .cells cs t frozen
  | o => o

/-- a world for the witness: the tables hold what their initialisers lay -/
def laidWorld (w : World) : World := { w with heap := w.heap }
theorem laid_met (os : Os) : laidMet Try.prog Rows.fnPutsRow.laid ((laidWorld (World.holding Try.prog os ⟨#[], #[], []⟩)).forCall (fun _ _ => 0) ⟨#[], #[.slice none 0 0], []⟩).memory :=
  laidMet_of_run' 8 (by kernel_rfl) (by kernel_rfl)
theorem reads (os : Os) {H : Type} (enc : TypeId × Value → H) : ∃ places, DataW.whole enc Try.prog ((laidWorld (World.holding Try.prog os ⟨#[], #[], []⟩)).forCall (fun _ _ => 0) ⟨#[], #[.slice none 0 0], []⟩).memory Try.f6.params.toList Rows.fnPutsSpec.vars false #[Value.slice none 0 0].toList 8 = some ([.nil], [], places) :=
  ⟨[], by kernel_rfl⟩

set_option maxRecDepth 1000000 in
theorem lifted (os : Os) (started : os.Started) (H : Type) (enc : TypeId × Value → H) (F : Stop.Interp) :
    ReturnsInHanded {} Try.checked os 6 .any ((OpenSpec.ofChange Rows.fnPutsSpec).preRow enc Try.prog Try.f6 Rows.fnPutsRow.domain false Rows.fnPutsRow.laid) (((OpenSpec.ofChange Rows.fnPutsSpec).at F).post enc Try.prog Try.f6 false true false false) := by
  obtain ⟨places, hx⟩ := reads os enc
  refine returnsInHanded_of_row (C := Try.checked) (s := OpenSpec.ofChange Rows.fnPutsSpec) own started (by kernel_rfl) Try.func6
    (witness_row_at (enc := enc) (C := Try.checked) false (laidWorld (World.holding Try.prog os ⟨#[], #[], []⟩)) #[.slice none 0 0] rfl (by kernel_rfl) (by kernel_rfl) (by kernel_rfl)
      (OpenSpec.preRow_of_cond 8 hx (by kernel_rfl) (fun k hk => by cases hk) (by kernel_rfl) (laid_met os))) ?_
  intro W base args ds gs before hval hW _ _ _ hL _ _
  exact contract H enc W base args ds gs before hval hW hL

theorem said : Rows.FnPutsSaid :=
  OpenClaim.holds_of_cond 6 Try.f6 rfl rfl rfl rfl rfl rfl rfl ⟨rfl, rfl, rfl, rfl, rfl⟩ rfl rfl rfl rfl rfl (by kernel_rfl) Try.func6 (by kernel_rfl)
    (of_decide_eq_true (by kernel_rfl)) (by unfold Func.isWrapper; first | (rw [if_pos (by decide +kernel)]; kernel_rfl) | (rw [if_neg (by decide +kernel)]; exact ⟨rfl, rfl⟩))
    (fun os started H enc _ F => by rw [OpenClaim.pre_eq_preRow]; exact lifted os started H enc F)

end Go.Proofs.Ytjkgjnpifdafaaa.fnPuts
