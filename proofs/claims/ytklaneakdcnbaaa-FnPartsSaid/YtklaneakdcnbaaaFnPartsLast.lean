/-
  For every slice of bytes, laws.FnParts returns true: a datagram's parts join to it in whatever order, once, when all are there; nothing that was in memory is written.
-/
import Derived.Test.YtklaneakdcnbaaaRows
import Derived.Test.YtklaneakdcnbaaaJoint5
import Derived.Test.YtklaneakdcnbaaaJoint6
import Derived.Test.YtklaneakdcnbaaaJoint13
import Derived.Test.YtklaneakdcnbaaaJoint37
import Derived.Deep.DeepCutAuto
import Derived.Deep.RegionWith
import Derived.Deep.LoopGhost
import Derived.BigQuiet
import Derived.Lib.QuietBelow
import Derived.Deep.QuietTactic
import Derived.WalkSmall
import Derived.WalkKit
import Derived.ProofKit
import Derived.OpenShut
import Derived.OpenVars
import Derived.Deep.DeepHandedRow
import Derived.Lib.LaidTab
import Derived.Stop.LaidErr
namespace Go.Proofs.Ytklaneakdcnbaaa.fnParts
open Go.ChangeShapes Go.WideShapes Go.ChangeAt Go.ChangeMaps Go.RowKit

set_option maxRecDepth 1000000 in
set_option maxHeartbeats 8000000 in
theorem walk (ao : Option Addr) (len cap : Nat) (hcap : len ≤ cap) (w : World) (hr : Bytes w ao len) :
    Calls Try.prog 3 #[.slice ao len cap] w fun e w' => e = .returned (.bool true) ∧ Below w.heap.size w w' := by
  have HR := hid hr
  clear hr
  by_cases hbig : 1048576 < len
  · go_enter Try.func3, Try.ntmps3
    go_wp2
    go_ret
    exact ⟨rfl, Below.refl _ _⟩
  have hlen : len ≤ 1048576 := by omega
  clear hbig
  go_enter Try.func3, Try.ntmps3
  go_wp2_with fail
  refine (big_no ao len cap hlen _).mono ?_
  rintro e w0 ⟨rfl, hw0⟩
  rw [hw0]
  clear hw0 w0
  go_wp2_with fail
  refine (drawRightDgram_any ao len cap hlen hcap _ HR.out).mono ?_
  rintro e w1 ⟨d, rfl, hwd, b1⟩
  have HW := hid hwd
  have bx := below_more (Below.refl w1.heap.size w1) (.cells #[.int .i64 d.src, .int .i64 d.dst, .int .i64 d.ident, .int .i64 d.place, .bool d.more, .string d.body] 25)
  have hx : BlockIs (w1.alloc (.cells #[.int .i64 d.src, .int .i64 d.dst, .int .i64 d.ident, .int .i64 d.place, .bool d.more, .string d.body] 25)) w1.heap.size 25 [.int .i64 d.src, .int .i64 d.dst, .int .i64 d.ident, .int .i64 d.place, .bool d.more, .string d.body] := heap_alloc_new w1 _
  have B2 := hid (below_via b1 bx)
  obtain ⟨W2, hW2⟩ : ∃ W, w1.alloc (.cells #[.int .i64 d.src, .int .i64 d.dst, .int .i64 d.ident, .int .i64 d.place, .bool d.more, .string d.body] 25) = W := ⟨_, rfl⟩
  rw [hW2] at hx B2
  have X2 := hid hx
  have HR2 := hid (bytes_on HR.out B2.out)
  clear hwd b1 bx hx HR
  go_wp2_with fail
  refine (drawPlaces_any ao len cap hlen hcap _ HR2.out).mono ?_
  rintro e w3 ⟨p, rfl, hp, b3⟩
  obtain ⟨X, hX⟩ : ∃ x, w1.heap.size = x := ⟨_, rfl⟩
  rw [hX] at X2 ⊢
  obtain ⟨gp, pc, rfl, hpc, hcell⟩ := hp
  obtain ⟨z0, hz0, c0⟩ := hcell 0 (by omega)
  obtain ⟨z1, hz1, c1⟩ := hcell 1 (by omega)
  obtain ⟨z2, hz2, c2⟩ := hcell 2 (by omega)
  have PW : Hid (PartW w d X gp z0 z1 z2 w3) := (show PartW _ _ _ _ _ _ _ _ from ⟨X2.out.on b3 X2.out.lt, c0, c1, c2, below_via B2.out b3⟩)
  clear b3 hcell HR2 X2 B2 hX hW2 c1 c2
  obtain ⟨m3, hm3⟩ : ∃ m : Nat, m = z0 % 3 := ⟨_, rfl⟩
  obtain ⟨m8, hm8⟩ : ∃ m : Nat, m = z1 % 8 := ⟨_, rfl⟩
  have l3 : m3 < 3 := by omega
  have l8 : m8 < 8 := by omega
  have h3 : (z0 : Int).tmod 3 = (m3 : Int) := by rw [Int.tmod_eq_emod_of_nonneg (by omega)]; omega
  have h8 : (z1 : Int).tmod 8 = (m8 : Int) := by rw [Int.tmod_eq_emod_of_nonneg (by omega)]; omega
  have hwa : IntKind.i64.wrap (8 * (m3 : Int)) = 8 * (m3 : Int) := by rw [IntKind.wrap_i64]; omega
  have hwb : IntKind.i64.wrap (8 + 8 * (m3 : Int)) = 8 + 8 * (m3 : Int) := by rw [IntKind.wrap_i64]; omega
  have hwc : IntKind.i64.wrap (8 + 8 * (m3 : Int) + (m8 : Int)) = 8 + 8 * (m3 : Int) + (m8 : Int) := by rw [IntKind.wrap_i64]; omega
  obtain ⟨hok, hcut⟩ := cut_whole HW.out l3 l8
  have hbs : d.body.size ≤ 160 := by have := HW.out.2.2.2.2.2; omega
  have CI := hid (fun W => implCutDgram_any d (8 + 8 * (m3 : Int) + (m8 : Int)) (by omega) W)
  have CS := hid (fun W => specCutDgram_any d (8 + 8 * (m3 : Int) + (m8 : Int)) (by omega) W)
  unfold CutDid at CI CS
  obtain ⟨sz, hsz⟩ : ∃ s : Nat, 8 + 8 * m3 = s := ⟨_, rfl⟩
  have HS8 : Hid (8 ≤ sz ∧ sz % 8 = 0) := (show _ ∧ _ from ⟨by omega, by omega⟩)
  rw [hsz] at hcut
  obtain ⟨A, hA⟩ : ∃ A, cutD d (8 + 8 * (m3 : Int) + (m8 : Int)) = A := ⟨_, rfl⟩
  rw [hok, hA] at CI CS
  rw [hA] at hcut
  have hAn : A.length = nParts d sz := by rw [hcut, cutTo_length]
  have HAG : Hid (∀ m (h : m < A.length), A[m] = partAt d sz m) := (show ∀ m (h : m < A.length), A[m] = partAt d sz m by subst hcut; intro m h; exact cutTo_get h)
  have hpos := parts_pos HW.out (sz := sz) (by have := HS8.out; omega)
  have hn20 : nParts d sz ≤ 20 := nParts_le HS8.out.1 hbs
  obtain ⟨n, hn⟩ : ∃ n, nParts d sz = n := ⟨_, rfl⟩
  have HN := hid hn
  rw [hn] at hAn hpos hn20
  rw [hAn] at CI CS
  have HAN := hid hAn
  clear hok hcut hA hm3 hm8 hsz hn hAn
  have c1 := PW.out.p1
  have x0 := PW.out.x.cell (j := 0) rfl
  have x1 := PW.out.x.cell (j := 1) rfl
  have x2 := PW.out.x.cell (j := 2) rfl
  have x3 := PW.out.x.cell (j := 3) rfl
  have x4 := PW.out.x.cell (j := 4) rfl
  have x5 := PW.out.x.cell (j := 5) rfl
  have bd : Below w3.heap.size w3 w3.drew := below_drewN (Below.refl _ _) 1
  have C1 : Hid (Calls Try.prog 9 #[.agg #[.int .i64 d.src, .int .i64 d.dst, .int .i64 d.ident, .int .i64 d.place, .bool d.more, .string d.body], .int .i64 (8 + 8 * (m3 : Int) + (m8 : Int))] w3.drew fun e w' => ∃ va vc, e = .returned (.tuple #[.slice va n vc, .bool true]) ∧ Hid (DgramsAt w' va A) ∧ Hid (PartW w d X gp z0 z1 z2 w')) := by
    refine Calls.mono (CI.out _) ?_
    rintro e w' ⟨va, vc, rfl, _, ho, b⟩
    rw [← HAN.out] at ho
    exact ⟨va, vc, rfl, ho.dgrams, (PW.out.on bd).on b⟩
  clear CI bd
  go_upto_region 6 with fail
  go_cut [6, 7] (fun s6 s7 wx => ∃ va vc, s6 = .slice va n vc ∧ s7 = .bool true ∧ Hid (DgramsAt wx va A ∧ PartW w d X gp z0 z1 z2 wx))
  case first =>
    go_region_with (first | (go_at_call 9; refine Calls.mono C1.out ?_; rintro e w5 ⟨va, vc, rfl, HD5, HP5⟩))
    all_goals
      go_wp2_with fail
      go_meet
      exact ⟨va, vc, rfl, rfl, HD5.out, HP5.out⟩
  case rest =>
    obtain ⟨va, vc, rfl, rfl, H6⟩ := hcut
    have D6 := hid H6.out.1
    have P6 := hid H6.out.2
    clear H6 C1 PW c0 c1 x0 x1 x2 x3 x4 x5
    have c1 := P6.out.p1
    have x0 := P6.out.x.cell (j := 0) rfl
    have x1 := P6.out.x.cell (j := 1) rfl
    have x2 := P6.out.x.cell (j := 2) rfl
    have x3 := P6.out.x.cell (j := 3) rfl
    have x4 := P6.out.x.cell (j := 4) rfl
    have x5 := P6.out.x.cell (j := 5) rfl
    have bd : Below wc.heap.size wc wc.drew := below_drewN (Below.refl _ _) 1
    have C2 : Hid (Calls Try.prog 10 #[.agg #[.int .i64 d.src, .int .i64 d.dst, .int .i64 d.ident, .int .i64 d.place, .bool d.more, .string d.body], .int .i64 (8 + 8 * (m3 : Int) + (m8 : Int))] wc.drew fun e w' => ∃ vb vd, e = .returned (.tuple #[.slice vb n vd, .bool true]) ∧ Hid (PartL w d X gp z0 z1 z2 A va vb w')) := by
      refine Calls.mono (CS.out _) ?_
      rintro e w' ⟨vb, vd, rfl, _, ho, b⟩
      rw [← HAN.out] at ho
      exact ⟨vb, vd, rfl, ⟨(P6.out.on bd).on b, (D6.out.on bd).on b, ho.dgrams⟩⟩
    clear CS bd
    go_upto_region 7 with fail
    go_cut [8, 9] (fun s8 s9 wx => ∃ vb vd, s8 = .slice vb n vd ∧ s9 = .bool true ∧ Hid (PartL w d X gp z0 z1 z2 A va vb wx))
    case first =>
      go_region_with (first | (go_at_call 10; refine Calls.mono C2.out ?_; rintro e w5 ⟨vb, vd, rfl, HL5⟩))
      all_goals
        go_wp2_with fail
        go_meet
        exact ⟨vb, vd, rfl, rfl, HL5⟩
    case rest =>
      obtain ⟨vb, vd, rfl, rfl, L7⟩ := hcut
      clear C2 D6 P6 c1 x0 x1 x2 x3 x4 x5 h3 h8 hwa hwb hwc
      have bn := below_more (Below.refl wc.heap.size wc) (.cells #[] 41)
      have L8 := hid (L7.out.on bn)
      clear bn L7
      go_wp2
      go_loopg [10, 11] n (fun g v i wr => ∃ (k : Nat) (v1 : Option Addr) (v2 : Nat), k + g = n ∧ i = .int .i64 k ∧ v = .slice v1 (bitsL d sz z2 k).length v2 ∧ Hid (BitsHold wr v1 (bitsL d sz z2 k)) ∧ Hid (PartL w d X gp z0 z1 z2 A va vb wr))
      case atStart => exact ⟨0, _, _, by omega, rfl, by rw [bitsL_zero]; rfl, (show BitsHold _ _ _ by rw [bitsL_zero]; exact ⟨[], fun h => absurd rfl h, trivial⟩), L8⟩
      case round =>
        obtain ⟨k, v1, v2, hkg, rfl, rfl, BH, LR⟩ := hrel
        clear L8
        cases gk with
        | zero =>
          obtain rfl : k = n := by omega
          have hlt : ¬ (k : Int) < (k : Int) := by omega
          have h0 : (bitsL d sz z2 k).length = 0 := by rw [← HN.out, bitsL_end]; rfl
          rw [h0]
          go_wp2
          go_ret
          exact ⟨by simp, LR.out.base.b⟩
        | succ g =>
          have hlt : k < n := by omega
          have hlt' : (k : Int) < (n : Int) := by omega
          have hkA : k < A.length := by rw [HAN.out]; exact hlt
          have hne : A ≠ [] := by intro q; rw [q] at hkA; simp at hkA
          obtain ⟨m, hm⟩ : ∃ m, (k + z2) % n = m := ⟨_, rfl⟩
          have hmn : m < n := by rw [← hm]; exact Nat.mod_lt _ (by omega)
          have hmA : m < A.length := by rw [HAN.out]; exact hmn
          have hmn' : (m : Int) < (n : Int) := by omega
          have hn0 : ¬ (n : Int) = 0 := by omega
          have htm : ((k : Int) + (z2 : Int)).tmod (n : Int) = (m : Int) := by
            rw [Int.tmod_eq_emod_of_nonneg (by omega), ← hm]
            push_cast
            rfl
          have hwk : IntKind.i64.wrap ((k : Int) + (z2 : Int)) = (k : Int) + (z2 : Int) := by rw [IntKind.wrap_i64]; omega
          have HQO : Hid (dgramOk A[k] = true) := (show _ = _ by rw [HAG.out k hkA]; exact part_ok HW.out (by have := HS8.out; omega) HS8.out.2 (by rw [HN.out]; exact hlt))
          have HQS : Hid (A[k].body.size ≤ 160) := (show _ ≤ _ by have := (dgramOk_bd HQO.out).2.2.2.1; have := (dgramOk_bd HQO.out).2.2.2.2.2.1; omega)
          have HPS : Hid (A[m].body.size ≤ 160) := (show _ ≤ _ by
            have h9 : dgramOk A[m] = true := by rw [HAG.out m hmA]; exact part_ok HW.out (by have := HS8.out; omega) HS8.out.2 (by rw [HN.out]; exact hmn)
            have := (dgramOk_bd h9).2.2.2.1
            have := (dgramOk_bd h9).2.2.2.2.2.1
            omega)
          have JJ : Hid (joinB (bitsL d sz z2 k) A[m] 5 = if k + 1 = n then ([], d, true) else (bitsK d sz n z2 (k + 1), zeroG, false)) := (show _ = _ by
            have := join_step HW.out (sz := sz) (r := z2) (k := k) (by have := HS8.out; omega) HS8.out.2 (by rw [HN.out]; exact hlt)
            rw [HN.out, hm] at this
            rw [bitsL_in (by rw [HN.out]; exact hlt), HN.out, HAG.out m hmA]
            exact this)
          have J2 : Hid (k + 1 < n → joinB (bitsK d sz n z2 (k + 1)) A[m] 5 = (bitsK d sz n z2 (k + 1), zeroG, false)) := (show _ → _ from fun h => by
            have := join_again HW.out (sz := sz) (r := z2) (k := k) (by have := HS8.out; omega) HS8.out.2 (by rw [HN.out]; exact h)
            rw [HN.out, hm] at this
            rw [HAG.out m hmA]
            exact this)
          have FIT : Hid (∀ j, j ≤ n → ∀ e ∈ bitsK d sz n z2 j, SmallB e ∧ IntsWf e.ats ∧ e.total ≤ 1000000) := (show ∀ j, _ from fun j hj e he => bitsK_fit HW.out HS8.out.1 (k := j) (r := z2) (by rw [HN.out]; exact hj) e (by rw [HN.out]; exact he))
          have HBL : Hid (bitsL d sz z2 k = bitsK d sz n z2 k) := (show _ = _ by rw [bitsL_in (by rw [HN.out]; exact hlt), HN.out])
          obtain ⟨b1, o1, hva, hc1⟩ := LR.out.l1 hne
          obtain ⟨b2, o2, hvb, hc2⟩ := LR.out.l2 hne
          obtain ⟨s0, s1, s2, s3, s4, s5⟩ := hc1 k hkA
          obtain ⟨t0, t1, t2, t3, t4, t5⟩ := hc2 k hkA
          obtain ⟨r0, r1, r2, r3, r4, r5⟩ := hc1 m hmA
          have RC : Hid (∀ W, Below wr.heap.size wr W → W.cell? ⟨b1, o1 + m * 6, none⟩ = some (.int .i64 A[m].src) ∧ W.cell? ⟨b1, o1 + m * 6 + 1, none⟩ = some (.int .i64 A[m].dst) ∧ W.cell? ⟨b1, o1 + m * 6 + 2, none⟩ = some (.int .i64 A[m].ident) ∧ W.cell? ⟨b1, o1 + m * 6 + 3, none⟩ = some (.int .i64 A[m].place) ∧ W.cell? ⟨b1, o1 + m * 6 + 4, none⟩ = some (.bool A[m].more) ∧ W.cell? ⟨b1, o1 + m * 6 + 5, none⟩ = some (.string A[m].body)) := (show ∀ W, _ from fun W hb =>
            have f := fun {p : Addr} {v : Value} (h : wr.cell? p = some v) => (hb.cell (World.block_lt_of_cell? wr _ h)).trans h
            ⟨f r0, f r1, f r2, f r3, f r4, f r5⟩)
          obtain ⟨Q, hQ⟩ : ∃ Q, A[k] = Q := ⟨_, rfl⟩
          obtain ⟨P, hP⟩ : ∃ P, A[m] = P := ⟨_, rfl⟩
          rw [hQ] at s0 s1 s2 s3 s4 s5 t0 t1 t2 t3 t4 t5 HQO HQS
          rw [hP] at RC JJ J2 HPS
          subst hva hvb
          have C' := fun dd os => Calls.regrown_of (w := wr) (d := dd) (os := os) (implDgramOk_any Q (by have := HQS.out; omega) _)
          rw [HQO.out] at C'
          have CK := hid C'
          have S0 := cell_regrown s0
          have T0 := cell_regrown t0
          have S1 := cell_regrown s1
          have T1 := cell_regrown t1
          have S2 := cell_regrown s2
          have T2 := cell_regrown t2
          have S3 := cell_regrown s3
          have T3 := cell_regrown t3
          have S4 := cell_regrown s4
          have T4 := cell_regrown t4
          have S5 := cell_regrown s5
          have T5 := cell_regrown t5
          clear hne hc1 hc2 hQ hP hm C' HQO HQS r0 r1 r2 r3 r4 r5 s0 s1 s2 s3 s4 s5 t0 t1 t2 t3 t4 t5 hkA hmA
          go_wp2
          refine wp_region_quiet_below (by kernel_rfl) (by kernel_rfl) ?_
          repeat (first | go_big_quiet_step (first | (go_at_call 11; exact CK.out _ _) | fail) | quiet_step (first | (go_at_call 11; exact CK.out _ _) | fail))
          refine wpQuiet_nil ?_
          intro _ hw'
          obtain ⟨⟨dq, osq⟩, hw''⟩ := hw'
          subst hw''
          have bq := below_regrown wr dq osq
          generalize Go.Sort.grow (redrawn wr dq) osq = wq at bq ⊢
          have LQ := hid (LR.out.on bq)
          have BHQ := hid (BH.out.on bq)
          obtain ⟨r0, r1, r2, r3, r4, r5⟩ := RC.out wq bq
          have BQ := hid bq
          have q2 := LQ.out.base.p2
          clear bq CK LR BH S0 S1 S2 S3 S4 S5 T0 T1 T2 T3 T4 T5
          have CJ := hid (implJoinBits_any v1 (bitsL d sz z2 k) v2 P 5 (by rw [HBL.out]; have := (bitsK_one d sz n z2 k).1; omega) (fun e he => (FIT.out k (by omega) e (by rw [← HBL.out]; exact he)).1) (fun e he => (FIT.out k (by omega) e (by rw [← HBL.out]; exact he)).2.1) (fun e he => (FIT.out k (by omega) e (by rw [← HBL.out]; exact he)).2.2) (by have := HPS.out; omega) wq BHQ.out)
          rw [JJ.out] at CJ
          by_cases hkn : k + 1 = n
          · rw [if_pos hkn] at CJ
            have CJ2 : Hid (Calls Try.prog 12 #[.slice v1 (bitsL d sz z2 k).length v2, .agg #[.int .i64 P.src, .int .i64 P.dst, .int .i64 P.ident, .int .i64 P.place, .bool P.more, .string P.body], .int .i64 5] wq fun e w' => ∃ va vc, e = .returned (.tuple #[.slice va 0 vc, .agg #[.int .i64 d.src, .int .i64 d.dst, .int .i64 d.ident, .int .i64 d.place, .bool d.more, .string d.body], .bool true]) ∧ Hid (Below wq.heap.size wq w')) := by
              refine Calls.mono CJ.out ?_
              rintro e w' ⟨va, vc, rfl, _, b⟩
              exact ⟨va, vc, rfl, b⟩
            have hk1 : ((k : Int) + 1 == (n : Int)) = true := by rw [beq_iff_eq]; omega
            clear CJ JJ J2 FIT BHQ HPS RC BQ
            go_wp2_with fail
            refine Calls.mono CJ2.out ?_
            rintro e w5 ⟨va5, vc5, rfl, b5⟩
            have bn := below_more (Below.refl w5.heap.size w5) (.cells #[.int .i64 d.src, .int .i64 d.dst, .int .i64 d.ident, .int .i64 d.place, .bool d.more, .string d.body] 25)
            have hb9 : BlockIs (w5.alloc (.cells #[.int .i64 d.src, .int .i64 d.dst, .int .i64 d.ident, .int .i64 d.place, .bool d.more, .string d.body] 25)) w5.heap.size 25 [.int .i64 d.src, .int .i64 d.dst, .int .i64 d.ident, .int .i64 d.place, .bool d.more, .string d.body] := heap_alloc_new w5 _
            have L5 := hid ((LQ.out.on b5.out).on bn)
            obtain ⟨W5, hW5⟩ : ∃ W, w5.alloc (.cells #[.int .i64 d.src, .int .i64 d.dst, .int .i64 d.ident, .int .i64 d.place, .bool d.more, .string d.body] 25) = W := ⟨_, rfl⟩
            rw [hW5] at hb9 L5
            have y0 := hb9.cell (j := 0) rfl
            have y1 := hb9.cell (j := 1) rfl
            have y2 := hb9.cell (j := 2) rfl
            have y3 := hb9.cell (j := 3) rfl
            have y4 := hb9.cell (j := 4) rfl
            have y5 := hb9.cell (j := 5) rfl
            have x0 := L5.out.base.x.cell (j := 0) rfl
            have x1 := L5.out.base.x.cell (j := 1) rfl
            have x2 := L5.out.base.x.cell (j := 2) rfl
            have x3 := L5.out.base.x.cell (j := 3) rfl
            have x4 := L5.out.base.x.cell (j := 4) rfl
            have x5 := L5.out.base.x.cell (j := 5) rfl
            clear bn hb9 b5 LQ CJ2 r0 r1 r2 r3 r4 r5 q2
            have HEND : Hid (bitsL d sz z2 (k + 1) = []) := (show _ = _ by rw [hkn, ← HN.out, bitsL_end])
            go_wp2
            go_roundg g
            case measure => omega
            case rel => exact ⟨k + 1, va5, vc5, by omega, by go_num, by rw [HEND.out]; rfl, (show BitsHold _ _ _ by rw [HEND.out]; exact ⟨[], fun h => absurd rfl h, trivial⟩), L5⟩
          · rw [if_neg hkn] at CJ
            have CJ2 : Hid (Calls Try.prog 12 #[.slice v1 (bitsL d sz z2 k).length v2, .agg #[.int .i64 P.src, .int .i64 P.dst, .int .i64 P.ident, .int .i64 P.place, .bool P.more, .string P.body], .int .i64 5] wq fun e w' => ∃ va vc, e = .returned (.tuple #[.slice va 1 vc, .agg #[.int .i64 0, .int .i64 0, .int .i64 0, .int .i64 0, .bool false, .string ⟨#[]⟩], .bool false]) ∧ Hid (BitsHold w' va (bitsK d sz n z2 (k + 1))) ∧ Hid (Below wq.heap.size wq w')) := by
              refine Calls.mono CJ.out ?_
              rintro e w' ⟨va, vc, rfl, hh, b⟩
              exact ⟨va, vc, rfl, hh, b⟩
            have hk1 : ((k : Int) + 1 == (n : Int)) = false := by rw [beq_eq_false_iff_ne]; omega
            clear CJ JJ BHQ
            go_wp2_with fail
            refine Calls.mono CJ2.out ?_
            rintro e w5 ⟨va5, vc5, rfl, H5, b5⟩
            have bn := below_more (Below.refl w5.heap.size w5) (.cells #[.int .i64 0, .int .i64 0, .int .i64 0, .int .i64 0, .bool false, .string ⟨#[]⟩] 25)
            have hb9 : BlockIs (w5.alloc (.cells #[.int .i64 0, .int .i64 0, .int .i64 0, .int .i64 0, .bool false, .string ⟨#[]⟩] 25)) w5.heap.size 25 [.int .i64 0, .int .i64 0, .int .i64 0, .int .i64 0, .bool false, .string ⟨#[]⟩] := heap_alloc_new w5 _
            obtain ⟨W4, hW4⟩ : ∃ W, w5.alloc (.cells #[.int .i64 0, .int .i64 0, .int .i64 0, .int .i64 0, .bool false, .string ⟨#[]⟩] 25) = W := ⟨_, rfl⟩
            rw [hW4] at hb9 bn
            have bs := below_six bn (Nat.le_refl _) (.int .i64 0) (.int .i64 0) (.int .i64 0) (.int .i64 0) (.bool false) (.string ⟨#[]⟩)
            unfold sixth at bs
            obtain ⟨W5, hW5⟩ : ∃ W, (((((W4.setCell ⟨w5.heap.size, 0, none⟩ (.int .i64 0)).setCell ⟨w5.heap.size, 1, none⟩ (.int .i64 0)).setCell ⟨w5.heap.size, 2, none⟩ (.int .i64 0)).setCell ⟨w5.heap.size, 3, none⟩ (.int .i64 0)).setCell ⟨w5.heap.size, 4, none⟩ (.bool false)).setCell ⟨w5.heap.size, 5, none⟩ (.string ⟨#[]⟩) = W := ⟨_, rfl⟩
            rw [hW5] at bs
            have L5 := hid ((LQ.out.on b5.out).on bs)
            have K5 := hid (H5.out.on bs)
            have B5 := hid (below_via BQ.out (below_via b5.out bs))
            have y0 := hb9.cell (j := 0) rfl
            have y1 := hb9.cell (j := 1) rfl
            have y2 := hb9.cell (j := 2) rfl
            have y3 := hb9.cell (j := 3) rfl
            have y4 := hb9.cell (j := 4) rfl
            have y5 := hb9.cell (j := 5) rfl
            have yf0 := hb9.thaw 0
            have yf1 := hb9.thaw 1
            have yf2 := hb9.thaw 2
            have yf3 := hb9.thaw 3
            have yf4 := hb9.thaw 4
            have yf5 := hb9.thaw 5
            have p2 := L5.out.base.p2
            clear bn bs hb9 b5 LQ CJ2 r0 r1 r2 r3 r4 r5 q2 H5 BQ
            obtain ⟨r0, r1, r2, r3, r4, r5⟩ := RC.out W5 B5.out
            have CJ3 : Hid (Calls Try.prog 12 #[.slice va5 1 vc5, .agg #[.int .i64 P.src, .int .i64 P.dst, .int .i64 P.ident, .int .i64 P.place, .bool P.more, .string P.body], .int .i64 5] W5 fun e w' => ∃ va vc, e = .returned (.tuple #[.slice va 1 vc, .agg #[.int .i64 0, .int .i64 0, .int .i64 0, .int .i64 0, .bool false, .string ⟨#[]⟩], .bool false]) ∧ Hid (Below W5.heap.size W5 w')) := by
              have h9 := implJoinBits_any va5 (bitsK d sz n z2 (k + 1)) vc5 P 5 (by have := (bitsK_one d sz n z2 (k + 1)).1; omega) (fun e he => (FIT.out (k + 1) (by omega) e he).1) (fun e he => (FIT.out (k + 1) (by omega) e he).2.1) (fun e he => (FIT.out (k + 1) (by omega) e he).2.2) (by have := HPS.out; omega) W5 K5.out
              rw [J2.out (by omega)] at h9
              refine Calls.mono h9 ?_
              rintro e w' ⟨va, vc, rfl, hh, b⟩
              exact ⟨va, vc, rfl, b⟩
            clear J2 FIT HPS RC B5
            go_wp2_with fail
            refine Calls.mono CJ3.out ?_
            rintro e w6 ⟨va6, vc6, rfl, b6⟩
            have bn := below_more (Below.refl w6.heap.size w6) (.cells #[.int .i64 0, .int .i64 0, .int .i64 0, .int .i64 0, .bool false, .string ⟨#[]⟩] 25)
            have L6 := hid ((L5.out.on b6.out).on bn)
            have K6 := hid ((K5.out.on b6.out).on bn)
            clear bn b6 L5 K5 CJ3 r0 r1 r2 r3 r4 r5 p2 y0 y1 y2 y3 y4 y5 yf0 yf1 yf2 yf3 yf4 yf5
            have HNX : Hid (bitsL d sz z2 (k + 1) = bitsK d sz n z2 (k + 1)) := (show _ = _ by rw [bitsL_in (by rw [HN.out]; omega), HN.out])
            go_wp2
            go_roundg g
            case measure => omega
            case rel => exact ⟨k + 1, va5, vc5, by omega, by go_num, by rw [HNX.out]; rfl, (show BitsHold _ _ _ by rw [HNX.out]; exact K6.out), L6⟩

theorem own : ownKnob Try.prog.godebug = none := by kernel_rfl
theorem laidOut : laidOutB Try.prog = true := by kernel_rfl
theorem rowed : varsRowed Try.prog Rows.fnPartsSpec.vars = true := by kernel_rfl
set_option maxRecDepth 1000000 in
theorem contract (H : Type) (enc : TypeId × Value → H) (W : World) (base : Nat) (args : Array Value) (ds gs : List (DataW H)) (before : List MemPlace)
    (hval : ∀ (j : Nat) t v, Try.f3.params[j]? = some t → args[j]? = some v → Value.okWide Try.prog W .any base t v)
    (hW : DataW.Whole enc Try.prog Try.f3.params.toList Rows.fnPartsSpec.vars false W args.toList ds gs before) (_hL : laidMetH Try.prog Rows.fnPartsRow.laid W) :
    Calls Try.prog 3 args W fun e W' => ∃ v, e = .returned v ∧ Rows.fnPartsSpec.post enc Try.prog Try.f3 false true false false W args v W' := by
  have hW' := hW
  obtain ⟨p, q, hA0, hV0, rfl, hfz, hnd⟩ := hW
  have hV : DataW.TrodVars enc Try.prog W (fun _ => true) Rows.fnPartsSpec.vars gs q := hV0
  have hA : DataW.TrodAll enc Try.prog W 0 (fun _ => true) true Try.f3.params.toList args.toList ds p := hA0
  rw [Try.params3] at hA hval
  obtain ⟨v0, vs0, d0, ds0, p0, q0, hargs0, rfl, rfl, h0, r0⟩ := trodAll_cons hA
  obtain ⟨rfl, rfl, rfl⟩ := trodAll_nil r0
  obtain rfl : args = #[v0] := by cases args; simp_all
  obtain ⟨a0, len0, cap0, rfl⟩ := okWide_slice Try.underlying22 (hval 0 22 v0 rfl rfl)
  have k0 := h0
  have lt0 : ∀ x ∈ p0, x.block < W.heap.size := by obtain ⟨m, hm⟩ := k0; exact DataW.trod_lt m _ _ _ hm
  have hb0 : len0 ≤ cap0 ∧ Bytes W a0 len0 := by
    obtain ⟨fuel, hf⟩ := h0
    rcases open_ints Try.underlying22 Try.underlying5 (by kernel_rfl) hf with ⟨hcs, _⟩ | ⟨x, l, c, zs, hcs, _, hl, hm, hz, _, hcell, hwz⟩
    · simp [Value.cells] at hcs
      obtain ⟨rfl, rfl, rfl⟩ := hcs
      exact ⟨Nat.le_refl _, fun h => by omega⟩
    · simp [Value.cells] at hcs
      obtain ⟨rfl, rfl, rfl⟩ := hcs
      refine ⟨hl, fun hp => ?_⟩
      have hzl : zs.length = cap0 := by simpa using hz
      obtain ⟨b, off, rfl, hc⟩ := ints_at hcell (by omega)
      refine ⟨b, off, rfl, fun j hj => ?_⟩
      have hjz : j < zs.length := by omega
      have hb8 := bounds_u8 (hwz (zs.getD j 0) (by simp [List.getD, hjz]))
      exact ⟨zs.getD j 0, hb8.1, hb8.2, hc j hjz⟩
  clear hA0 hV0
  obtain ⟨rfl, rfl⟩ := trodVars_none hV
  refine (walk a0 len0 cap0 hb0.1 W hb0.2).mono fun e W' ⟨he, bel⟩ => ?_
  subst he
  exact ⟨_, rfl, _, _, _, [], _, [], hW', trodAll_mk1 (shut_bool Try.underlying4 _), trodAll_cons_mk (Below.trod laidOut (by kernel_rfl) (of_decide_eq_true (by kernel_rfl)) k0 bel lt0) (trodAll_mk0), rfl, bel.frame _, fun h => by cases h⟩

def put (cs : Array Value) : Obj → Obj
  | .cells _ t frozen => .cells cs t frozen
  | o => o

/-- a world for the witness: the tables hold what their initialisers lay -/
def laidWorld (w : World) : World := { w with heap := w.heap }
theorem laid_met (os : Os) : laidMet Try.prog Rows.fnPartsRow.laid ((laidWorld (World.holding Try.prog os ⟨#[], #[], []⟩)).forCall (fun _ _ => 0) ⟨#[], #[.slice none 0 0], []⟩).memory :=
  laidMet_of_run' 8 (by kernel_rfl) (by kernel_rfl)
theorem reads (os : Os) {H : Type} (enc : TypeId × Value → H) : ∃ places, DataW.whole enc Try.prog ((laidWorld (World.holding Try.prog os ⟨#[], #[], []⟩)).forCall (fun _ _ => 0) ⟨#[], #[.slice none 0 0], []⟩).memory Try.f3.params.toList Rows.fnPartsSpec.vars false #[Value.slice none 0 0].toList 8 = some ([.nil], [], places) :=
  ⟨[], by kernel_rfl⟩

set_option maxRecDepth 1000000 in
theorem lifted (os : Os) (started : os.Started) (H : Type) (enc : TypeId × Value → H) (F : Stop.Interp) :
    ReturnsInHanded {} Try.checked os 3 .any ((OpenSpec.ofChange Rows.fnPartsSpec).preRow enc Try.prog Try.f3 Rows.fnPartsRow.domain false Rows.fnPartsRow.laid) (((OpenSpec.ofChange Rows.fnPartsSpec).at F).post enc Try.prog Try.f3 false true false false) := by
  obtain ⟨places, hx⟩ := reads os enc
  refine returnsInHanded_of_row (C := Try.checked) (s := OpenSpec.ofChange Rows.fnPartsSpec) own started (by kernel_rfl) Try.func3
    (witness_row_at (enc := enc) (C := Try.checked) false (laidWorld (World.holding Try.prog os ⟨#[], #[], []⟩)) #[.slice none 0 0] rfl (by kernel_rfl) (by kernel_rfl) (by kernel_rfl)
      (OpenSpec.preRow_of_cond 8 hx (by kernel_rfl) (fun k hk => by cases hk) (by kernel_rfl) (laid_met os))) ?_
  intro W base args ds gs before hval hW _ _ _ hL _ _
  exact contract H enc W base args ds gs before hval hW hL

theorem said : Rows.FnPartsSaid :=
  OpenClaim.holds_of_cond 3 Try.f3 rfl rfl rfl rfl rfl rfl rfl ⟨rfl, rfl, rfl, rfl, rfl⟩ rfl rfl rfl rfl rfl (by kernel_rfl) Try.func3 (by kernel_rfl)
    (of_decide_eq_true (by kernel_rfl)) (by unfold Func.isWrapper; first | (rw [if_pos (by decide +kernel)]; kernel_rfl) | (rw [if_neg (by decide +kernel)]; exact ⟨rfl, rfl⟩))
    (fun os started H enc _ F => by rw [OpenClaim.pre_eq_preRow]; exact lifted os started H enc F)

end Go.Proofs.Ytklaneakdcnbaaa.fnParts
