/-
  The walk of spec.l13Body: a text that comes is taken or kept, then the early ones whose turn it is.
  spec.Hear: what comes, of whatever stream and segment.
-/
import Derived.Test.YtngcldjkpcmidaaJoint1
import Derived.Test.YtngcldjkpcmidaaJoint18
import Derived.Test.YtngcldjkpcmidaaJoint15
import Derived.Deep.QuietTactic
import Derived.BigQuiet
import Derived.Lib.QuietBelow
import Derived.Deep.DeepCutAuto
import Derived.Deep.LoopGhost
import Derived.Test.YtngcldjkpcmidaaJoint29
namespace Go.Proofs.Ytngcldjkpcmidaa
open Go.RowKit Go.Sort

theorem lates_take {w : World} {z : Option Addr} {l : List LateD} (h : LatesAt w z l) (t : Nat) : LatesAt w z (l.take t) := by
  intro h0
  have hl : l ≠ [] := by rintro rfl; exact h0 (by simp)
  obtain ⟨b, off, rfl, hc⟩ := h hl
  refine ⟨b, off, rfl, fun j hj => ?_⟩
  have hj2 : j < l.length := by rw [List.length_take] at hj; omega
  have := hc j hj2
  simpa using this
theorem lates_drop {w : World} {b off : Nat} {l : List LateD} (h : LatesAt w (some ⟨b, off, none⟩) l) (t : Nat) : LatesAt w (some ⟨b, off + t * 2, none⟩) (l.drop t) := by
  intro h0
  have hl : l ≠ [] := by rintro rfl; exact h0 (by simp)
  obtain ⟨b', off', he, hc⟩ := h hl
  cases he
  refine ⟨b, off + t * 2, rfl, fun j hj => ?_⟩
  have hj2 : t + j < l.length := by rw [List.length_drop] at hj; omega
  have := hc (t + j) hj2
  simp only [List.getElem_drop]
  rw [show off + t * 2 + j * 2 = off + (t + j) * 2 by omega]
  exact this
/-- all others come ahead of it -/
theorem not_after {ops : Array Oper} {k i : Nat} (h : ((List.range ops.size).all fun q => decide (q = k) || reachB ops 8 k q) = true) (hi : i < ops.size) (hne : i ≠ k) (hw : reachB ops 8 k i = false) : False := by
  rw [List.all_eq_true] at h
  have := h i (List.mem_range.2 hi)
  simp [hne, hw] at this
/-- the early texts are others now -/
theorem HsTo.late {lo g N : Nat} {w w1 W1 : World} {d : StrD} {ao : Option Addr} {cap : Nat} {l : List LateD} {va : Option Addr} {vc : Nat} (h : HsTo lo g w w1 d) (hb1 : BlockIs w1 g 31 [.int .i64 d.st, .int .i64 d.iss, .int .i64 d.una, .int .i64 d.rcv, .string d.wait, .int .i64 d.sent, .int .i64 d.fin, .bool d.pf, .string d.inn, .slice ao d.late.length cap, .bool d.owe, .int .i64 d.due, .int .i64 d.times]) (hN : N = w1.heap.size) (hB : Below N w1 W1) (hr : W1.ownsRow N 61 2 (.slice va l.length vc) l.length (lateCells l)) :
    HsTo lo g w (W1.setCell ⟨g, 9, none⟩ (.slice va l.length vc)) { d with late := l } := by
  subst hN
  have hg := h.1.1.1
  have hlt := hb1.lt
  have hb2 := hb1.on hB hlt
  refine ⟨⟨⟨hg, va, vc, hb2.set 9 _, ?_⟩, (h.1.2.trans (hB.mono h.1.1.lo)).setCell hg _⟩, fun p ty cs hp a b => ((h.2 p ty cs hp a b).on hB (h.2 p ty cs hp a b).lt).far (fun e => a e.symm) _⟩
  exact row_down (row_setCell hb2 hr (by decide) 9 _) h.1.1.lo
set_option maxRecDepth 1000000 in
set_option maxHeartbeats 8000000 in
theorem l13Body_any (lo g : Nat) (d : StrD) (num : Int) (text : ByteArray) (ht : text.size ≤ 8) (hi : d.inn.size ≤ 1000) (hf : FewL d.late) (w : World) (h : StIs w lo g d) :
    Calls Try.prog 36 #[.pointer (some ⟨g, 0, none⟩), .int .i64 num, .string text] w fun e w' => e = .returned (.tuple #[]) ∧ HsTo lo g w w' (bodyD num text d) := by
  have HFW := hid hf
  have hlen8 := hf.1
  have H0 := hid h.hs
  clear hf
  obtain ⟨_, ao0, cap0, hb0, _⟩ := h
  have c10 := hb0.cell (j := 10) rfl
  have f10 := hb0.thaw 10
  clear hb0
  obtain ⟨W0, hW0⟩ : ∃ W, w.setCell ⟨g, 10, none⟩ (.bool true) = W := ⟨_, rfl⟩
  have H1 : Hid (HsTo lo g w W0 (oweD d)) := by rw [← hW0]; exact H0.out.owe true
  clear H0
  obtain ⟨d1, hd1⟩ : ∃ x, oweD d = x := ⟨_, rfl⟩
  have HB : Hid (bodyD num text d = lateD (newsD num text d1).late.length (newsD num text d1)) := by show _ = _; rw [← hd1]; rfl
  have hl1 : d1.late = d.late := by rw [← hd1]; rfl
  have hn1 : d1.inn = d.inn := by rw [← hd1]; rfl
  rw [hd1] at H1
  clear hd1
  have HF1 : Hid (FewL d1.late) := by rw [hl1]; exact HFW.out
  have hi1 : d1.inn.size ≤ 1000 := by rw [hn1]; exact hi
  have hlen1 : d1.late.length ≤ 8 := HF1.out.1
  clear hl1 hn1 HFW hlen8 hi
  have HF2 : Hid (FewL (newsD num text d1).late) := newsD_few HF1.out ht
  have hi2 : (newsD num text d1).inn.size ≤ 1008 := by have := newsD_inn num text d1; omega
  obtain ⟨_, ao1, cap1, hb1, hr1⟩ := H1.out.1.1
  have c3 := hb1.cell (j := 3) rfl
  have c9 := hb1.cell (j := 9) rfl
  have HA1 := hid (OwnsL.at hr1)
  have X1 := hid hb1
  have R1 := hid hr1
  clear hb1 hr1
  obtain ⟨N1, hN1⟩ : ∃ N : Int, gapNum num d1.rcv = N := ⟨_, rfl⟩
  obtain ⟨N2, hN2⟩ : ∃ N : Int, gapNum d1.rcv num = N := ⟨_, rfl⟩
  have CG1 := hid (fun w => specGap_any num d1.rcv w)
  have CG2 := hid (fun w => specGap_any d1.rcv num w)
  rw [hN1] at CG1
  rw [hN2] at CG2
  have HNW : Hid (newsD num text d1 = if N1 < 32768 then takeD num text d1 else if N2 < 64 then keepD num text d1 else d1) := by show _ = _; rw [newsD, reached, hN1, hN2]; simp
  clear hN1 hN2
  go_enter Try.func36, Try.ntmps36
  go_wp2_with fail
  refine Calls.mono (CG1.out _) ?_
  rintro e w9 ⟨rfl, hw9⟩
  rw [hw9]
  clear hw9 w9 CG1
  go_upto_if 21 with fail
  go_cut [21] (fun _ wx => Hid (HsTo lo g w wx (newsD num text d1)))
  case first =>
    by_cases q1 : N1 < 32768
    · have HR : Hid (newsD num text d1 = takeD num text d1) := by show _ = _; rw [HNW.out, if_pos q1]
      have CT := hid (l13Take_any lo g d1 num text (by omega) (by omega) W0 H1.out.1.1)
      go_wp2_with fail
      refine Calls.mono CT.out ?_
      rintro e w2 ⟨rfl, h2⟩
      have H2 := hid (H1.out.trans h2)
      clear h2 CT
      go_wp2_with fail
      go_meet
      exact (show HsTo _ _ _ _ _ by rw [HR.out]; exact H2.out)
    by_cases q2 : N2 < 64
    rotate_left
    · have HR : Hid (newsD num text d1 = d1) := by show _ = _; rw [HNW.out, if_neg q1, if_neg q2]
      go_wp2_with fail
      refine Calls.mono (CG2.out _) ?_
      rintro e w9 ⟨rfl, hw9⟩
      rw [hw9]
      clear hw9 w9 CG2
      go_wp2_with fail
      go_meet
      exact (show HsTo _ _ _ _ _ by rw [HR.out]; exact H1.out)
    have HR : Hid (newsD num text d1 = keepD num text d1) := by show _ = _; rw [HNW.out, if_neg q1, if_pos q2]
    go_wp2_with fail
    refine Calls.mono (CG2.out _) ?_
    rintro e w9 ⟨rfl, hw9⟩
    rw [hw9]
    clear hw9 w9 CG2 HNW
    go_wp2_with fail
    go_loopg [6, 7] d1.late.length (fun q x i wr => wr = W0 ∧ ∃ k : Nat, k + q = d1.late.length ∧ i = .int .i64 k ∧ x = .bool (hasNum num (d1.late.take k)))
    case atStart => exact ⟨rfl, 0, by omega, rfl, rfl⟩
    case round =>
      obtain ⟨hwr, k, hkq, rfl, rfl⟩ := hrel
      rw [hwr]
      clear hwr wr
      cases gk with
      | succ q =>
        have hlt : k < d1.late.length := by omega
        have hlt' : (k : Int) < (d1.late.length : Int) := by omega
        have hne : d1.late ≠ [] := by intro e; rw [e] at hlt; simp at hlt
        obtain ⟨b, off, hao, hc⟩ := HA1.out hne
        obtain ⟨x0, _⟩ := hc k hlt
        have HH := hid (hasNum_take (num := num) hlt)
        rw [hao] at c9
        clear hc hao
        cases hh : hasNum num (d1.late.take k) with
        | true =>
          rw [hh] at HH
          clear hh
          go_wp2
          go_roundg q
          case measure => omega
          case rel => exact ⟨rfl, k + 1, by omega, by go_num, by rw [HH.out]; rfl⟩
        | false =>
          rw [hh] at HH
          clear hh
          by_cases qn : d1.late[k].num = num
          · have HQ : Hid (hasNum num (d1.late.take (k + 1)) = true) := by show _ = _; rw [HH.out, decide_eq_true qn]; rfl
            have qb : (d1.late[k].num == num) = true := by rw [beq_iff_eq]; exact qn
            clear qn HH
            go_wp2
            go_roundg q
            case measure => omega
            case rel => exact ⟨rfl, k + 1, by omega, by go_num, by rw [HQ.out]⟩
          · have HQ : Hid (hasNum num (d1.late.take (k + 1)) = false) := by show _ = _; rw [HH.out, decide_eq_false qn]; rfl
            have qb : (d1.late[k].num == num) = false := by rw [beq_eq_false_iff_ne]; exact qn
            clear HH
            go_wp2
            go_roundg q
            case measure => omega
            case rel => exact ⟨rfl, k + 1, by omega, by go_num, by rw [HQ.out]⟩
      | zero =>
        have hlt' : ¬ (k : Int) < (d1.late.length : Int) := by omega
        obtain rfl : k = d1.late.length := by omega
        rw [List.take_length]
        cases hh : hasNum num d1.late with
        | true =>
          have HK : Hid (keepD num text d1 = d1) := by show _ = _; rw [keepD, if_pos (Or.inl hh)]
          clear hh
          go_wp2_with fail
          go_meet
          exact (show HsTo _ _ _ _ _ by rw [HR.out, HK.out]; exact H1.out)
        | false =>
          by_cases q8 : (d1.late.length : Int) < 8
          rotate_left
          · have HK : Hid (keepD num text d1 = d1) := by show _ = _; rw [keepD, if_pos (Or.inr (by omega))]
            clear hh
            go_wp2_with fail
            go_meet
            exact (show HsTo _ _ _ _ _ by rw [HR.out, HK.out]; exact H1.out)
          · have HK : Hid (keepD num text d1 = { d1 with late := d1.late ++ [⟨num, text⟩] }) := by show _ = _; rw [keepD, if_neg]; rintro (h9 | h9); rw [hh] at h9; cases h9; omega
            clear hh
            have bn := below_more (Below.refl W0.heap.size W0) (.cells #[.int .i64 num, .string text] 61)
            have hnw : BlockIs (W0.alloc (.cells #[.int .i64 num, .string text] 61)) W0.heap.size 61 (lateCells [⟨num, text⟩] ++ []) := heap_alloc_new W0 _
            have HM := latesAt_of hnw
            have hrw := lateR_below R1.out bn
            have X2 := X1.out.on bn X1.out.lt
            have H2 := hid (H1.out.on bn)
            have hlo2 := H2.out.1.1.lo
            obtain ⟨W2, hW2⟩ : ∃ W, W0.alloc (.cells #[.int .i64 num, .string text] 61) = W := ⟨_, rfl⟩
            rw [hW2] at HM hrw X2 H2 hlo2
            clear bn hnw
            have hlt2 := X2.lt
            go_wp2_with (first | (at_builtin; refine wpList_append_lates rfl (.tmp 69) (.tmp 73) rfl rfl (base := lo) (L := d1.late) (M := [⟨num, text⟩]) (N := d1.late.length + 1) rfl rfl rfl (by simp) (by omega) hlo2 hrw HM ?_) | fail)
            intro va vc w3 h3 g3
            have X3 := lateR_other X2 hrw g3 (by decide)
            have k9 := X3.cell (j := 9) rfl
            have t9 := X3.thaw 9
            have H3 : Hid (HsTo lo g w (w3.setCell ⟨g, 9, none⟩ (.slice va (d1.late.length + 1) vc)) { d1 with late := d1.late ++ [⟨num, text⟩] }) := by
              refine ⟨⟨⟨H2.out.1.1.1, va, vc, ?_, ?_⟩, (lateR_down H2.out.1.2 hrw g3 (Nat.le_refl _) hlo2).setCell H2.out.1.1.1 _⟩, fun p ty cs hp a b => (lateR_other (H2.out.2 p ty cs hp a b) hrw g3 b).far (fun e => a e.symm) _⟩
              · have := X3.set 9 (.slice va (d1.late.length + 1) vc)
                rw [List.length_append, List.length_singleton]
                exact this
              · have := row_setCell X3 h3 (by decide) 9 (.slice va (d1.late.length + 1) vc)
                unfold OwnsL
                rw [List.length_append, List.length_singleton]
                exact this
            clear X3 h3 g3 hrw X2 HM H2
            go_wp2_with fail
            go_meet
            exact (show HsTo _ _ _ _ _ by rw [HR.out, HK.out]; exact H3.out)
  case rest =>
    have H2 := hid hcut.out
    clear hcut c3 c9 HA1 X1 R1 H1 CG2 HNW c10 f10 hW0 HF1 hi1 hlen1
    obtain ⟨d2, hd2⟩ : ∃ x, newsD num text d1 = x := ⟨_, rfl⟩
    rw [hd2] at HB HF2 hi2 H2
    clear hd2
    have hlen2 : d2.late.length ≤ 8 := HF2.out.1
    go_wp2_with fail
    go_loopg [8] 9 (fun q r wr => ∃ (n : Nat) (x : StrD), r = .int .i64 n ∧ n + q = 9 ∧ x.late.length + n ≤ 8 ∧ x.inn.size ≤ 1008 + 8 * n ∧ Hid (FewL x.late) ∧ Hid (HsTo lo g w wr x) ∧ Hid (bodyD num text d = lateD x.late.length x))
    case atStart => exact ⟨0, d2, rfl, rfl, by omega, by omega, HF2, H2, HB⟩
    case round =>
      obtain ⟨n, x, rfl, hnq, hxl, hxi, HX, HS, HD⟩ := hrel
      clear H2 HB HF2 hlen2 hi2
      have hn9 : (n : Int) < 9 := by omega
      obtain ⟨_, ao, cap, hb, hr⟩ := HS.out.1.1
      have XB := hid hb
      have HA := hid (OwnsL.at hr)
      have RB := hid hr
      have hcp := (OwnsL.own hr).2
      clear hb hr
      obtain ⟨len, hlen⟩ : ∃ n, x.late.length = n := ⟨_, rfl⟩
      have c9 := XB.out.cell (j := 9) rfl
      rw [hlen] at c9 hxl hcp
      go_wp2_with fail
      go_loopg [9, 10] len (fun q k i w3 => q ≤ len ∧ i = .int .i64 ((q : Int) - 1) ∧ k = .int .i64 (fromK x.rcv x.late q) ∧ Hid (Below wr.heap.size wr w3))
      case atStart => exact ⟨Nat.le_refl _, by go_num, by rw [← hlen, fromK_end], (show Below _ _ _ from Below.refl _ _)⟩
      case round =>
        obtain ⟨hql, rfl, rfl, B3⟩ := hrel
        clear c9
        cases gk with
        | succ q =>
          have hq0 : (0 : Int) ≤ ((q + 1 : Nat) : Int) - 1 := by omega
          have hqi : ((q + 1 : Nat) : Int) - 1 = (q : Int) := by omega
          rw [hqi] at hq0 ⊢
          have hlt : q < x.late.length := by omega
          have hqlt : (q : Int) < (len : Int) := by omega
          have hne : x.late ≠ [] := by intro e; rw [e] at hlt; simp at hlt
          have XB3 := XB.out.on B3.out XB.out.lt
          have k9 := XB3.cell (j := 9) rfl
          have k3 := XB3.cell (j := 3) rfl
          rw [hlen] at k9
          obtain ⟨b, off, hao, hc⟩ := (HA.out.on B3.out) hne
          obtain ⟨x0, _⟩ := hc q hlt
          rw [hao] at k9
          clear hc hao XB3
          have HST := hid (fromK_step (rcv := x.rcv) hlt)
          obtain ⟨G, hG⟩ : ∃ G, gapNum x.late[q].num x.rcv = G := ⟨_, rfl⟩
          have hrd : reached x.rcv x.late[q].num = decide (G < 32768) := by rw [reached, hG]
          have CG := hid (fun w => specGap_any x.late[q].num x.rcv w)
          rw [hG] at CG
          rw [hrd] at HST
          clear hG hrd
          go_upto_region 18 with fail
          go_cut [104] (fun c wx => c = .bool (decide (G < 32768)) ∧ Hid (Below wr.heap.size wr wx))
          case first =>
            go_quiet (first | (go_at_call 51; with_reducible refine Calls.quiet_of_same (CG.out _)) | fail)
            go_wp2_with fail
            go_meet
            exact ⟨rfl, below_drewN (Below.refl _ _) _⟩
          case rest =>
            obtain ⟨rfl, HC⟩ := hcut
            have B4 := hid (below_via B3.out HC.out)
            clear HC B3 CG x0 k9 k3
            by_cases qg : G < 32768
            · have HV : Hid (fromK x.rcv x.late q = (q : Int)) := by show _ = _; rw [HST.out, if_pos (decide_eq_true qg)]
              clear HST
              go_wp2
              go_roundg q
              case measure => omega
              case rel => exact ⟨by omega, by go_num, by rw [HV.out], B4⟩
            · have HV : Hid (fromK x.rcv x.late (q + 1) = fromK x.rcv x.late q) := by show _ = _; rw [HST.out, if_neg (by simpa using qg)]
              clear HST
              go_wp2
              go_roundg q
              case measure => omega
              case rel => exact ⟨by omega, by go_num, by rw [HV.out], B4⟩
        | zero =>
          have hq0 : ¬ (0 : Int) ≤ ((0 : Nat) : Int) - 1 := by omega
          have HV := hid (fromK_all x.rcv x.late)
          obtain ⟨t, htt⟩ : ∃ t, turnAt x.rcv x.late = t := ⟨_, rfl⟩
          rw [htt] at HV
          have XB3 := hid (XB.out.on B3.out XB.out.lt)
          have HS3 := hid (HS.out.on B3.out)
          have HA3 := hid (HA.out.on B3.out)
          clear XB HS HA RB B3
          by_cases htl : t < x.late.length
          rotate_left
          · have HV2 : Hid (fromK x.rcv x.late 0 = -1) := by show _ = _; rw [HV.out, if_neg htl]
            have HE : Hid (bodyD num text d = x) := by show _ = _; rw [HD.out, lateD_done (by rw [htt]; exact htl)]
            rw [HV2.out]
            clear HV HV2 htt htl hlen
            go_wp2
            refine bodyPost_ret (v := .tuple #[]) (by simp [results, Try.results36]) rfl ?_
            exact ⟨rfl, by rw [HE.out]; exact HS3.out⟩
          have HV2 : Hid (fromK x.rcv x.late 0 = (t : Int)) := by show _ = _; rw [HV.out, if_pos htl]
          have HE := hid (HD.out.trans (lateD_more htt htl))
          have h8 := HX.out.2 _ (List.getElem_mem htl)
          have HX2 := hid (HX.out.erase t)
          rw [HV2.out]
          clear HV HV2 htt HD
          have hne : x.late ≠ [] := by intro e; rw [e] at htl; simp at htl
          obtain ⟨b, off, hao, hc⟩ := HA3.out hne
          obtain ⟨x0, x1⟩ := hc t htl
          subst hao
          obtain ⟨y, hy⟩ : ∃ y, x.late[t] = y := ⟨_, rfl⟩
          rw [hy] at x0 x1 h8 HE
          have k9 := XB3.out.cell (j := 9) rfl
          rw [hlen] at k9 htl
          have htl' : (t : Int) < (len : Int) := by omega
          have ht0 : ¬ (t : Int) < 0 := by omega
          clear hc hy
          have bn := below_more (Below.refl wr.heap.size wr) (.cells #[.int .i64 y.num, .string y.text] 61)
          have hnw : BlockIs (wr.alloc (.cells #[.int .i64 y.num, .string y.text] 61)) wr.heap.size 61 [.int .i64 y.num, .string y.text] := heap_alloc_new wr _
          have XB4 := hid (XB3.out.on bn XB3.out.lt)
          have HS4 := hid (HS3.out.on bn)
          have HA4 := hid (HA3.out.on bn)
          obtain ⟨V0, hV0⟩ : ∃ V, wr.alloc (.cells #[.int .i64 y.num, .string y.text] 61) = V := ⟨_, rfl⟩
          rw [hV0] at hnw XB4 HS4 HA4
          have YB := hid hnw
          obtain ⟨yb, hyb⟩ : ∃ n, wr.heap.size = n := ⟨_, rfl⟩
          have k9b := XB4.out.cell (j := 9) rfl
          rw [hlen] at k9b
          rw [hyb] at YB
          clear bn hnw XB3 HS3 HA3
          obtain ⟨N, hN⟩ : ∃ N, V0.heap.size = N := ⟨_, rfl⟩
          have LT : Hid (V0.heap.size ≤ N) := (by show _ ≤ _; omega)
          have hgN : g < N := by rw [← hN]; exact XB4.out.lt
          have hybN : yb < N := by rw [← hN]; exact YB.out.lt
          have hln : x.late.length ≤ 8 := HX.out.1
          go_upto_region 22 with fail
          have hw64 : IntKind.i64.wrap ((t : Int) + 1) = (t : Int) + 1 := by simp [IntKind.wrap, IntKind.signed, IntKind.bits]; omega
          go_cut [] (fun wx => ∃ va vc V1, Hid (Below N V0 V1 ∧ V1.ownsRow N 61 2 (.slice va (len - 1) vc) (len - 1) (lateCells (x.late.eraseIdx t)) ∧ wx = V1.setCell ⟨g, 9, none⟩ (.slice va (len - 1) vc)))
          case first =>
            refine wp_region_chain_b (N := 140) (by kernel_rfl) (by kernel_rfl) rfl (by kernel_rfl) [(0, .pointer (some ⟨g, 0, none⟩)), (9, .int .i64 (t : Int))] (by intro p hp; simp only [List.mem_cons, List.not_mem_nil, or_false] at hp; rcases hp with rfl | rfl <;> rfl) (fun _ => True) (fun j v _ W => match j with | 0 => v = .pointer (some ⟨g, 0, none⟩) | 1 => ∃ p : Nat, v = .slice (some ⟨p, 0, none⟩) 0 0 ∧ W.ownsRow N 61 2 (.slice (some ⟨p, 0, none⟩) 0 0) 0 (lateCells []) | 2 => v = .pointer (some ⟨g, 0, none⟩) | 3 => v = .pointer (some ⟨g, 0, none⟩) | 4 => v = .pointer (some ⟨g, 9, none⟩) | 5 => v = .slice (some ⟨b, off, none⟩) len cap | 6 => v = .int .i64 (t : Int) | 7 => v = .slice (some ⟨b, off, none⟩) t cap | 8 => ∃ va vc, v = .slice va t vc ∧ W.ownsRow N 61 2 (.slice va t vc) t (lateCells (x.late.take t)) | 9 => v = .pointer (some ⟨g, 0, none⟩) | 10 => v = .pointer (some ⟨g, 0, none⟩) | 11 => v = .pointer (some ⟨g, 9, none⟩) | 12 => v = .slice (some ⟨b, off, none⟩) len cap | 13 => v = .int .i64 (t : Int) | 14 => v = .int .i64 ((t + 1 : Nat) : Int) | 15 => ∃ z c, v = .slice z (len - (t + 1)) c ∧ (z = some ⟨b, off, none⟩ ∧ len = t + 1 ∨ z = some ⟨b, off + (t + 1) * 2, none⟩) | 16 => ∃ va vc, v = .slice va (len - 1) vc ∧ W.ownsRow N 61 2 (.slice va (len - 1) vc) (len - 1) (lateCells (x.late.eraseIdx t)) | 17 => v = .pointer (some ⟨g, 0, none⟩) | 18 => v = .pointer (some ⟨g, 9, none⟩) | 19 => ∃ va vc V1, Below N V0 V1 ∧ V1.ownsRow N 61 2 (.slice va (len - 1) vc) (len - 1) (lateCells (x.late.eraseIdx t)) ∧ W = V1.setCell ⟨g, 9, none⟩ (.slice va (len - 1) vc) | _ => True) (fun i => i) (fun j i => decide ((j, i) ∈ ([(1, 8), (1, 16), (1, 19), (8, 16), (8, 19), (16, 19)] : List (Nat × Nat)))) (fun i X Y => (i ≠ 1 → i ≠ 8 → i ≠ 16 → i ≠ 19 → Y = X) ∧ (i ≠ 19 → Below N X Y)) (fun q9 W => match q9 with | 0 => Below N V0 W | _ => True) (fun m k => decide ((m, k) ∈ ([(0, 19)] : List (Nat × Nat)))) ?_ (fun _ => 0) (by kernel_rfl) (fun _ _ => rfl) ?_ trivial (fun q9 => match q9 with | 0 => below_drewN (Below.refl _ _) 1 | _ + 1 => trivial) ?_ ?_
            · intro i m x y hen hxy hm
              match m, hen, hm with
              | 0, hen, hm =>
                simp at hen
                exact hm.trans (hxy.2 hen)
              | n + 1, _, _ => exact trivial
            · intro i j v u x y hsz hij hdd hwt hxy hg
              match j, hg with
              | 0, hg => exact hg
              | 1, hg =>
                simp at hdd
                have hyx : y = x := hxy.1 hij (fun e => by subst e; simp at hdd) (fun e => by subst e; simp at hdd) (fun e => by subst e; simp at hdd)
                rw [hyx]
                exact hg
              | 2, hg => exact hg
              | 3, hg => exact hg
              | 4, hg => exact hg
              | 5, hg => exact hg
              | 6, hg => exact hg
              | 7, hg => exact hg
              | 8, hg =>
                simp at hdd
                have hyx : y = x := hxy.1 (fun e => by subst e; exact Bool.noConfusion (hwt.symm.trans (by kernel_rfl : reachB _ 8 8 1 = true))) hij (fun e => by subst e; simp at hdd) (fun e => by subst e; simp at hdd)
                rw [hyx]
                exact hg
              | 9, hg => exact hg
              | 10, hg => exact hg
              | 11, hg => exact hg
              | 12, hg => exact hg
              | 13, hg => exact hg
              | 14, hg => exact hg
              | 15, hg =>
                exact hg
              | 16, hg =>
                simp at hdd
                have hyx : y = x := hxy.1 (fun e => by subst e; exact Bool.noConfusion (hwt.symm.trans (by kernel_rfl : reachB _ 8 16 1 = true))) (fun e => by subst e; exact Bool.noConfusion (hwt.symm.trans (by kernel_rfl : reachB _ 8 16 8 = true))) hij (fun e => by subst e; simp at hdd)
                rw [hyx]
                exact hg
              | 17, hg => exact hg
              | 18, hg => exact hg
              | 19, hg =>
                exact (not_after (by kernel_rfl) hsz hij hwt).elim
              | n + 20, _ => exact trivial
            · refine ⟨?_, ?_, ?_, ?_, ?_, ?_, ?_, ?_, ?_, ?_, ?_, ?_, ?_, ?_, ?_, ?_, ?_, ?_, ?_, ?_, trivial⟩
              · intro A W hC hI hg hb
                have h0 : A.eval (.tmp 0) = .pointer (some ⟨g, 0, none⟩) := hb 0 _ (.head _) (chain_of (by kernel_rfl))
                exact does_value (v := .pointer (some ⟨g, 0, none⟩)) (w' := W) (by simp only [execOp, h0]; simp [go_sem]) ⟨rfl, trivial, fun _ _ _ _ => rfl, fun _ => Below.refl _ _⟩
              · intro A W hC hI hg hb
                have hbe : Below N V0 W := hI 0 (by kernel_rfl)
                have ba := below_more (Below.refl W.heap.size W) (.cells #[] 61)
                have hNW : N ≤ W.heap.size := Nat.le_trans (by omega) hbe.size
                exact does_value (v := .slice (some ⟨W.heap.size, 0, none⟩) 0 0) (w' := W.alloc (.cells #[] 61)) (by simp [execOp, go_sem]) ⟨⟨_, rfl, lateR_nil W N hNW⟩, trivial, fun h => absurd rfl h, fun _ => ba.mono hNW⟩
              · intro A W hC hI hg hb
                have h0 : A.eval (.tmp 0) = .pointer (some ⟨g, 0, none⟩) := hb 0 _ (.head _) (chain_of (by kernel_rfl))
                exact does_value (v := .pointer (some ⟨g, 0, none⟩)) (w' := W) (by simp only [execOp, h0]; simp [go_sem]) ⟨rfl, trivial, fun _ _ _ _ => rfl, fun _ => Below.refl _ _⟩
              · intro A W hC hI hg hb
                have h117 : A.eval (.tmp 117) = .pointer (some ⟨g, 0, none⟩) := hg 2 117 (by decide) rfl (by simp [Op.operands]) (by kernel_rfl) (by kernel_rfl) rfl
                exact does_value (v := .pointer (some ⟨g, 0, none⟩)) (w' := W) (by simp only [execOp, h117]; simp [go_sem]) ⟨rfl, trivial, fun _ _ _ _ => rfl, fun _ => Below.refl _ _⟩
              · intro A W hC hI hg hb
                have h118 : A.eval (.tmp 118) = .pointer (some ⟨g, 0, none⟩) := hg 3 118 (by decide) rfl (by simp [Op.operands]) (by kernel_rfl) (by kernel_rfl) rfl
                exact does_value (v := .pointer (some ⟨g, 9, none⟩)) (w' := W) (by simp only [execOp, h118]; simp [go_sem]) ⟨rfl, trivial, fun _ _ _ _ => rfl, fun _ => Below.refl _ _⟩
              · intro A W hC hI hg hb
                have h119 : A.eval (.tmp 119) = .pointer (some ⟨g, 9, none⟩) := hg 4 119 (by decide) rfl (by simp [Op.operands]) (by kernel_rfl) (by kernel_rfl) rfl
                have hbe : Below N V0 W := hI 0 (by kernel_rfl)
                have hc9 := (XB4.out.on (hbe.mono LT.out) XB4.out.lt).cell (j := 9) rfl
                rw [hlen] at hc9
                exact does_value (v := .slice (some ⟨b, off, none⟩) len cap) (w' := W) (by simp only [execOp, h119]; simp [go_sem, hc9]) ⟨rfl, trivial, fun _ _ _ _ => rfl, fun _ => Below.refl _ _⟩
              · intro A W hC hI hg hb
                have h9 : A.eval (.tmp 9) = .int .i64 (t : Int) := hb 9 _ (.tail _ (.head _)) (chain_of (by kernel_rfl))
                exact does_value (v := .int .i64 (t : Int)) (w' := W) (by simp only [execOp, h9]; simp [go_sem]) ⟨rfl, trivial, fun _ _ _ _ => rfl, fun _ => Below.refl _ _⟩
              · intro A W hC hI hg hb
                have h120 : A.eval (.tmp 120) = .slice (some ⟨b, off, none⟩) len cap := hg 5 120 (by decide) rfl (by simp [Op.operands]) (by kernel_rfl) (by kernel_rfl) rfl
                have h121 : A.eval (.tmp 121) = .int .i64 (t : Int) := hg 6 121 (by decide) rfl (by simp [Op.operands]) (by kernel_rfl) (by kernel_rfl) rfl
                simp [go_sem] at h120 h121
                have i1 : t ≤ cap := by omega
                exact does_value (v := .slice (some ⟨b, off, none⟩) t cap) (w' := W) (by simp [execOp, go_sem, h120, h121, i1]) ⟨rfl, trivial, fun _ _ _ _ => rfl, fun _ => Below.refl _ _⟩
              · intro A W hC hI hg hb
                have g1 := hg 1 116 (by decide) rfl (by simp [Op.operands, Call.operands]) (by kernel_rfl) (by kernel_rfl) rfl
                have h122 : A.eval (.tmp 122) = .slice (some ⟨b, off, none⟩) t cap := hg 7 122 (by decide) rfl (by simp [Op.operands, Call.operands]) (by kernel_rfl) (by kernel_rfl) rfl
                have hbe : Below N V0 W := hI 0 (by kernel_rfl)
                obtain ⟨p, h116, hrow⟩ := g1
                have hM : LatesAt W (some ⟨b, off, none⟩) (x.late.take t) := lates_take (HA4.out.on (hbe.mono LT.out)) t
                have hNW : N ≤ W.heap.size := Nat.le_trans (by omega) hbe.size
                have htk : (x.late.take t).length = t := by rw [List.length_take]; omega
                obtain ⟨v', W', hr, h2, h3⟩ := append_lates (c := cap) (L := []) (M := x.late.take t) (by rw [htk]; simp; omega) hNW hrow hM
                obtain ⟨va', vc', rfl⟩ := row_shape h2
                rw [List.nil_append, htk] at h2
                rw [List.nil_append, htk] at hr
                have hr1 : (Builtin.append_ #[29, 29] 29 #[.slice (some ⟨p, 0, none⟩) 0 0, .slice (some ⟨b, off, none⟩) t cap]).run Try.prog W = .ok (.slice va' t vc') W' := hr
                exact does_value (v := .slice va' t vc') (w' := W') (by simp only [execOp, resolve, invoke, builtin, Sem.run_bind, Sem.run_pure, Result.andThen_ok, List.map_toArray, List.map_cons, List.map_nil, h116, h122, hr1]) ⟨⟨va', vc', rfl, h2⟩, trivial, fun _ h => absurd rfl h, fun _ => lateR_down (Below.refl _ _) hrow h3 (Nat.le_refl _) hNW⟩
              · intro A W hC hI hg hb
                have h0 : A.eval (.tmp 0) = .pointer (some ⟨g, 0, none⟩) := hb 0 _ (.head _) (chain_of (by kernel_rfl))
                exact does_value (v := .pointer (some ⟨g, 0, none⟩)) (w' := W) (by simp only [execOp, h0]; simp [go_sem]) ⟨rfl, trivial, fun _ _ _ _ => rfl, fun _ => Below.refl _ _⟩
              · intro A W hC hI hg hb
                have h124 : A.eval (.tmp 124) = .pointer (some ⟨g, 0, none⟩) := hg 9 124 (by decide) rfl (by simp [Op.operands]) (by kernel_rfl) (by kernel_rfl) rfl
                exact does_value (v := .pointer (some ⟨g, 0, none⟩)) (w' := W) (by simp only [execOp, h124]; simp [go_sem]) ⟨rfl, trivial, fun _ _ _ _ => rfl, fun _ => Below.refl _ _⟩
              · intro A W hC hI hg hb
                have h125 : A.eval (.tmp 125) = .pointer (some ⟨g, 0, none⟩) := hg 10 125 (by decide) rfl (by simp [Op.operands]) (by kernel_rfl) (by kernel_rfl) rfl
                exact does_value (v := .pointer (some ⟨g, 9, none⟩)) (w' := W) (by simp only [execOp, h125]; simp [go_sem]) ⟨rfl, trivial, fun _ _ _ _ => rfl, fun _ => Below.refl _ _⟩
              · intro A W hC hI hg hb
                have h126 : A.eval (.tmp 126) = .pointer (some ⟨g, 9, none⟩) := hg 11 126 (by decide) rfl (by simp [Op.operands]) (by kernel_rfl) (by kernel_rfl) rfl
                have hbe : Below N V0 W := hI 0 (by kernel_rfl)
                have hc9 := (XB4.out.on (hbe.mono LT.out) XB4.out.lt).cell (j := 9) rfl
                rw [hlen] at hc9
                exact does_value (v := .slice (some ⟨b, off, none⟩) len cap) (w' := W) (by simp only [execOp, h126]; simp [go_sem, hc9]) ⟨rfl, trivial, fun _ _ _ _ => rfl, fun _ => Below.refl _ _⟩
              · intro A W hC hI hg hb
                have h9 : A.eval (.tmp 9) = .int .i64 (t : Int) := hb 9 _ (.tail _ (.head _)) (chain_of (by kernel_rfl))
                exact does_value (v := .int .i64 (t : Int)) (w' := W) (by simp only [execOp, h9]; simp [go_sem]) ⟨rfl, trivial, fun _ _ _ _ => rfl, fun _ => Below.refl _ _⟩
              · intro A W hC hI hg hb
                have h128 : A.eval (.tmp 128) = .int .i64 (t : Int) := hg 13 128 (by decide) rfl (by simp [Op.operands]) (by kernel_rfl) (by kernel_rfl) rfl
                exact does_value (v := .int .i64 ((t + 1 : Nat) : Int)) (w' := W) (by simp only [execOp, h128]; simp [go_sem, hw64]) ⟨rfl, trivial, fun _ _ _ _ => rfl, fun _ => Below.refl _ _⟩
              · intro A W hC hI hg hb
                have h127 : A.eval (.tmp 127) = .slice (some ⟨b, off, none⟩) len cap := hg 12 127 (by decide) rfl (by simp [Op.operands]) (by kernel_rfl) (by kernel_rfl) rfl
                have h129 : A.eval (.tmp 129) = .int .i64 ((t + 1 : Nat) : Int) := hg 14 129 (by decide) rfl (by simp [Op.operands]) (by kernel_rfl) (by kernel_rfl) rfl
                simp [go_sem] at h127 h129
                have i2 : ¬ (len : Int) < (t : Int) + 1 := by omega
                have i3 : (0 : Int) ≤ (t : Int) + 1 := by omega
                by_cases hce : cap = t + 1
                · exact does_value (v := .slice (some ⟨b, off, none⟩) (len - (t + 1)) (cap - (t + 1))) (w' := W) (by simp [execOp, go_sem, h127, h129, i2, i3, hce]) ⟨⟨_, _, rfl, Or.inl ⟨rfl, by omega⟩⟩, trivial, fun _ _ _ _ => rfl, fun _ => Below.refl _ _⟩
                · exact does_value (v := .slice (some ⟨b, off + (t + 1) * 2, none⟩) (len - (t + 1)) (cap - (t + 1))) (w' := W) (by simp [execOp, go_sem, h127, h129, i2, i3, hce]) ⟨⟨_, _, rfl, Or.inr rfl⟩, trivial, fun _ _ _ _ => rfl, fun _ => Below.refl _ _⟩
              · intro A W hC hI hg hb
                have g8 := hg 8 123 (by decide) rfl (by simp [Op.operands, Call.operands]) (by kernel_rfl) (by kernel_rfl) rfl
                have g15 := hg 15 130 (by decide) rfl (by simp [Op.operands, Call.operands]) (by kernel_rfl) (by kernel_rfl) rfl
                have hbe : Below N V0 W := hI 0 (by kernel_rfl)
                obtain ⟨va, vc, h123, hrow⟩ := g8
                obtain ⟨z, c, h130, hz⟩ := g15
                have htk : (x.late.take t).length = t := by rw [List.length_take]; omega
                have hdk : (x.late.drop (t + 1)).length = len - (t + 1) := by rw [List.length_drop, hlen]
                have hM : LatesAt W z (x.late.drop (t + 1)) := by
                  rcases hz with ⟨_, hle⟩ | hz
                  · intro h0; exact absurd (List.eq_nil_of_length_eq_zero (by omega)) h0
                  · rw [hz]; exact lates_drop (HA4.out.on (hbe.mono LT.out)) (t + 1)
                have hNW : N ≤ W.heap.size := Nat.le_trans (by omega) hbe.size
                obtain ⟨v', W', hr, h2, h3⟩ := append_lates (c := c) (v := .slice va t vc) (L := x.late.take t) (M := x.late.drop (t + 1)) (by omega) hNW (by rw [htk]; exact hrow) hM
                obtain ⟨va', vc', rfl⟩ := row_shape h2
                have hel : (x.late.take t ++ x.late.drop (t + 1)).length = len - 1 := by rw [List.length_append]; omega
                rw [hel, ← erase_split] at h2
                rw [hel, hdk] at hr
                have hr1 : (Builtin.append_ #[29, 29] 29 #[.slice va t vc, .slice z (len - (t + 1)) c]).run Try.prog W = .ok (.slice va' (len - 1) vc') W' := hr
                exact does_value (v := .slice va' (len - 1) vc') (w' := W') (by simp only [execOp, resolve, invoke, builtin, Sem.run_bind, Sem.run_pure, Result.andThen_ok, List.map_toArray, List.map_cons, List.map_nil, h123, h130, hr1]) ⟨⟨va', vc', rfl, h2⟩, trivial, fun _ _ h => absurd rfl h, fun _ => lateR_down (Below.refl _ _) hrow h3 (Nat.le_refl _) hNW⟩
              · intro A W hC hI hg hb
                have h115 : A.eval (.tmp 115) = .pointer (some ⟨g, 0, none⟩) := hg 0 115 (by decide) rfl (by simp [Op.operands]) (by kernel_rfl) (by kernel_rfl) rfl
                exact does_value (v := .pointer (some ⟨g, 0, none⟩)) (w' := W) (by simp only [execOp, h115]; simp [go_sem]) ⟨rfl, trivial, fun _ _ _ _ => rfl, fun _ => Below.refl _ _⟩
              · intro A W hC hI hg hb
                have h132 : A.eval (.tmp 132) = .pointer (some ⟨g, 0, none⟩) := hg 17 132 (by decide) rfl (by simp [Op.operands]) (by kernel_rfl) (by kernel_rfl) rfl
                exact does_value (v := .pointer (some ⟨g, 9, none⟩)) (w' := W) (by simp only [execOp, h132]; simp [go_sem]) ⟨rfl, trivial, fun _ _ _ _ => rfl, fun _ => Below.refl _ _⟩
              · intro A W hC hI hg hb
                have h133 : A.eval (.tmp 133) = .pointer (some ⟨g, 9, none⟩) := hg 18 133 (by decide) rfl (by simp [Op.operands]) (by kernel_rfl) (by kernel_rfl) rfl
                have g16 := hg 16 131 (by decide) rfl (by simp [Op.operands]) (by kernel_rfl) (by kernel_rfl) rfl
                have hbe : Below N V0 W := hI 0 (by kernel_rfl)
                obtain ⟨va, vc, h131, hrow⟩ := g16
                have hX := XB4.out.on (hbe.mono LT.out) XB4.out.lt
                have c2 := hX.cell (j := 9) rfl
                have f2 := hX.thaw 9
                exact does_skip (w' := W.setCell ⟨g, 9, none⟩ (.slice va (len - 1) vc)) (by simp only [execOp, h133, h131]; simp [go_sem, c2, f2]) ⟨⟨va, vc, W, hbe, hrow, rfl⟩, trivial, fun _ _ _ h => absurd rfl h, fun h => absurd rfl h⟩
            · intro vs wE _ _ hg
              obtain ⟨va, vc, V1, h1, h2, h3⟩ := hg 19 (by decide) (fun k => by simp)
              clear hg
              simp only [List.size_toArray, List.length_cons, List.length_nil, Nat.zero_add, Nat.reduceAdd]
              simp only [laidBy, if_true, dstAt, List.getElem?_toArray, List.getElem?_cons_succ, List.getElem?_cons_zero, Option.bind_some]
              simp only [Act.put, List.setIfInBounds_toArray, List.set_cons_succ, List.set_cons_zero]
              go_wp2_with fail
              go_meet
              exact ⟨va, vc, V1, ⟨h1, h2, (by first | exact h3 | rfl)⟩⟩
          case rest =>
            obtain ⟨va, vc, V1, HC⟩ := hcut
            obtain ⟨V2, hV2⟩ : ∃ V, V1.setCell ⟨g, 9, none⟩ (.slice va (len - 1) vc) = V := ⟨_, rfl⟩
            have hel : (x.late.eraseIdx t).length = len - 1 := by rw [List.length_eraseIdx_of_lt (by omega)]; omega
            have HS5 : Hid (HsTo lo g w V2 (dropD t x)) := by
              rw [← hV2]
              have := HsTo.late (l := x.late.eraseIdx t) (va := va) (vc := vc) HS4.out XB4.out hN.symm HC.out.1 (by rw [hel]; exact HC.out.2.1)
              rw [hel] at this
              exact this
            have YB5 : Hid (BlockIs V2 yb 61 [.int .i64 y.num, .string y.text]) := by rw [← hV2]; exact (YB.out.on (HC.out.1.mono LT.out) YB.out.lt).far (by have := XB4.out; intro e; have h9 := block_one YB.out (e ▸ this); exact absurd h9.1 (by decide)) _
            have hwx := HC.out.2.2
            rw [hV2] at hwx
            rw [hwx]
            clear hwx wc HC hV2 YB XB4 HS4 HA4 k9 k9b x0 x1 hel
            have y0 := YB5.out.cell (j := 0) rfl
            have y1 := YB5.out.cell (j := 1) rfl
            have CT := hid (l13Take_any lo g (dropD t x) y.num y.text (by omega) (show x.inn.size ≤ _ by omega) V2 HS5.out.1.1)
            go_wp2_with fail
            refine Calls.mono CT.out ?_
            rintro e w6 ⟨rfl, h6⟩
            have HS6 := hid (HS5.out.trans h6)
            have hil : (takeD y.num y.text (dropD t x)).inn.size ≤ 1008 + 8 * (n + 1) := by have := takeD_inn y.num y.text (dropD t x); have h7 : (dropD t x).inn.size = x.inn.size := rfl; omega
            have hlt2 : (takeD y.num y.text (dropD t x)).late = x.late.eraseIdx t := takeD_late _ _ _
            have hll : (takeD y.num y.text (dropD t x)).late.length + (n + 1) ≤ 8 := by rw [hlt2, List.length_eraseIdx_of_lt (by omega)]; omega
            have HX3 : Hid (FewL (takeD y.num y.text (dropD t x)).late) := by rw [hlt2]; exact HX2.out
            obtain ⟨x', hx'⟩ : ∃ z, takeD y.num y.text (dropD t x) = z := ⟨_, rfl⟩
            rw [hx'] at HS6 hil hll HX3 HE
            clear hx' hlt2 CT h6 HS5 YB5 y0 y1 HX2 HX
            go_wp2
            go_roundg (gk - 1)
            case measure => omega
            case rel => exact ⟨n + 1, x', by go_num, by omega, hll, hil, HX3, HS6, HE⟩
end Go.Proofs.Ytngcldjkpcmidaa

namespace Go.Proofs.Ytngcldjkpcmidaa
open Go.RowKit

theorem specHear_any (d : StrD) (ao : Option Addr) (cap : Nat) (hs : d.Small) (s : SegD) (hsb : s.body.size ≤ 1048576) (w : World) (ha : LatesAt w ao d.late) :
    Calls Try.prog 7 #[.agg #[.int .i64 d.st, .int .i64 d.iss, .int .i64 d.una, .int .i64 d.rcv, .string d.wait, .int .i64 d.sent, .int .i64 d.fin, .bool d.pf, .string d.inn, .slice ao d.late.length cap, .bool d.owe, .int .i64 d.due, .int .i64 d.times], .agg #[.int .i64 s.num, .int .i64 s.ack, .int .i64 s.flags, .string s.body]] w fun e w' => StrDid1 w (hearD s d) e w' := by
  refine specHear_with d ao cap hs s hsb (fun h1 h2 lo g => ?_) (fun h1 h2 => ?_) w ha
  · have hR := strOk_iff.1 h1
    have h8 := (segOk_iff.1 h2).2.2.2.1
    intro _ x W hl hi _ hx
    exact l13Body_any lo g x s.num s.body (by omega) (by rw [hi]; exact hR.inn) (by rw [hl]; exact hR.fewL) W hx
  · have hR := strOk_iff.1 h1
    have h8 := (segOk_iff.1 h2).2.2.2.1
    have := (hear0_few (s := s) hR.fewL (by omega)).2
    have := hR.inn
    omega
end Go.Proofs.Ytngcldjkpcmidaa
