/-
  The walk of impl.(*endpoint).takeLate: early texts whose turn it is are taken.
-/
import Derived.Test.YtngcldjkpcmidaaJoint43
import Derived.Test.YtngcldjkpcmidaaJoint44
import Derived.Deep.LoopGhost
namespace Go.Proofs.Ytngcldjkpcmidaa
open Go.RowKit

/-- the block of a row of early texts -/
theorem late_block {w : World} {lo : Nat} {l : List LateD} {va : Option Addr} {vc : Nat} (h : OwnsL w lo l va vc) (h0 : l ≠ []) : ∃ b r, va = some ⟨b, 0, none⟩ ∧ lo ≤ b ∧ l.length ≤ vc ∧ vc ≤ maxLen ∧ BlockIs w b 61 (lateCells l ++ r) ∧ l.length * 2 + r.length = vc * 2 := by
  unfold OwnsL at h
  rcases h.2 with ⟨_, hz⟩ | ⟨g, cp, cur, hv, hb, hh, hle, hm, hs, ht⟩
  · exact absurd (List.length_eq_zero_iff.1 hz) h0
  · simp only [Value.slice.injEq] at hv
    obtain ⟨rfl, _, rfl⟩ := hv
    have hcur : cur.toList = lateCells l ++ cur.toList.drop (l.length * 2) := by rw [← ht, List.take_append_drop]
    have hk : BlockIs w g 61 (lateCells l ++ cur.toList.drop (l.length * 2)) := by unfold BlockIs; rw [hh, ← hcur]
    refine ⟨g, _, rfl, hb, hle, hm, hk, ?_⟩
    have h1 : cur.toList.length = vc * 2 := by rw [Array.length_toList]; exact hs
    have h2 : l.length * 2 ≤ vc * 2 := Nat.mul_le_mul_right _ hle
    rw [List.length_drop, h1]
    omega
theorem late_row {w : World} {lo b : Nat} {l : List LateD} {vc : Nat} {r : List Value} (hb : BlockIs w b 61 (lateCells l ++ r)) (hlo : lo ≤ b) (hle : l.length ≤ vc) (hm : vc ≤ maxLen) (hs : l.length * 2 + r.length = vc * 2) : OwnsL w lo l (some ⟨b, 0, none⟩) vc := by
  unfold OwnsL
  refine ⟨by rw [lateCells_length], Or.inr ⟨b, vc, (lateCells l ++ r).toArray, rfl, hlo, ?_, hle, hm, ?_, ?_⟩⟩
  · unfold BlockIs at hb
    exact hb
  · simp only [List.size_toArray, List.length_append, lateCells_length]
    exact hs
  · show (lateCells l ++ r).take _ = _
    rw [← lateCells_length l, List.take_left']
    rfl
/-- an early text is out -/
theorem HrTo.dropped {lo g b t vc : Nat} {w w1 W1 : World} {d : StrD} {now : Int} {out : List SegD} {r q : List Value} {ao ov : Option Addr} {cap oc : Nat} (h : HrTo lo g w w1 d now out) (hep : BlockIs w1 g 54 [.int .i64 d.st, .int .i64 d.iss, .int .i64 d.una, .int .i64 d.rcv, .string d.wait, .int .i64 d.sent, .int .i64 d.fin, .bool d.pf, .string d.inn, .slice ao d.late.length cap, .bool d.owe, .int .i64 d.due, .int .i64 d.times, .int .i64 now, .slice ov out.length oc]) (hsg : w1.ownsRow lo 34 4 (.slice ov out.length oc) out.length (segCells out))
    (ht : t < d.late.length) (hlo : lo ≤ b) (hle : d.late.length ≤ vc) (hm : vc ≤ maxLen) (hs : d.late.length * 2 + r.length = vc * 2) (hq : q.length = 2) (hold : ∃ cs, BlockIs w1 b 61 cs)
    (hb : BlockIs W1 b 61 (lateCells (d.late.eraseIdx t) ++ (q ++ r))) (hk : ∀ p ty cs, p ≠ b → BlockIs w1 p ty cs → BlockIs W1 p ty cs) (hB : ∀ m, m ≤ b → Below m w1 W1) :
    HrTo lo g w (W1.setCell ⟨g, 9, none⟩ (.slice (some ⟨b, 0, none⟩) (d.late.length - 1) vc)) (dropD t d) now out := by
  obtain ⟨cs0, hold⟩ := hold
  have hgb : g ≠ b := by rintro rfl; exact absurd (block_one hep hold).1 (by decide)
  have hg := h.1.1.1
  have hel : (d.late.eraseIdx t).length = d.late.length - 1 := List.length_eraseIdx_of_lt ht
  have hep1 := hk g _ _ hgb hep
  have hl1 : OwnsL W1 lo (d.late.eraseIdx t) (some ⟨b, 0, none⟩) vc := late_row hb hlo (by omega) hm (by rw [hel, List.length_append, hq]; omega)
  have hl2 := hl1.setCell hep1 (by decide) 9 (.slice (some ⟨b, 0, none⟩) (d.late.length - 1) vc)
  have hs1 : W1.ownsRow lo 34 4 (.slice ov out.length oc) out.length (segCells out) := row_ext hsg (fun p cs hp => hk p _ cs (fun e => by subst e; exact absurd (block_one hp hold).1 (by decide)) hp)
  refine ⟨⟨⟨hg, some ⟨b, 0, none⟩, vc, ov, oc, ?_, hl2, row_setCell hep1 hs1 (by decide) 9 _⟩, (h.1.2.trans (hB lo hlo)).setCell hg _⟩, ?_⟩
  · have := hep1.set 9 (.slice (some ⟨b, 0, none⟩) (d.late.length - 1) vc)
    show BlockIs _ _ _ [_, _, _, _, _, _, _, _, _, .slice (some ⟨b, 0, none⟩) (d.late.eraseIdx t).length vc, _, _, _, _, _]
    rw [hel]
    exact this
  · intro p ty cs hp a1 a2
    have hp1 := h.2 p ty cs hp a1 a2
    have hpb : p ≠ b := by rintro rfl; exact a2 (block_one hp1 hold).1
    exact (hk p ty cs hpb hp1).far (fun e => by subst e; exact a1 (block_one hp1 hep).1) _
set_option maxRecDepth 1000000 in
set_option maxHeartbeats 8000000 in
theorem takeLate_any (lo g : Nat) (d : StrD) (now : Int) (out : List SegD) (hf : FewL d.late) (hi : d.inn.size ≤ 1100) (w : World) (h : EpIs w lo g d now out) :
    Calls Try.prog 66 #[.pointer (some ⟨g, 0, none⟩)] w fun e w' => e = .returned (.tuple #[]) ∧ HrTo lo g w w' (lateD d.late.length d) now out := by
  have H0 := hid h.hr
  have HF := hid hf
  have h8 := hf.1
  clear h hf
  go_enter Try.func66, Try.ntmps66
  go_wp2_with fail
  go_loopg [2] d.late.length (fun q _ wr => ∃ x : StrD, x.late.length = q ∧ q ≤ 8 ∧ x.inn.size + 8 * q ≤ 1164 ∧ Hid (FewL x.late) ∧ Hid (HrTo lo g w wr x now out) ∧ Hid (lateD x.late.length x = lateD d.late.length d))
  case atStart => exact ⟨d, rfl, h8, by omega, HF, H0, rfl⟩
  case round =>
    obtain ⟨x, hq, hq8, hxi, HX, HS, HD⟩ := hrel
    clear H0 HF
    obtain ⟨_, ao, cap, ov, oc, hb, hr, hsg⟩ := HS.out.1.1
    have XB := hid hb
    have RL := hid hr
    have SG := hid hsg
    have c9 := hb.cell (j := 9) rfl
    clear hb hr hsg
    have CI := hid (indexTurn_any lo g x now out x.late ao cap (by omega) wr HS.out.1.1 (OwnsL.at RL.out))
    obtain ⟨t, htt⟩ : ∃ t, turnAt x.rcv x.late = t := ⟨_, rfl⟩
    unfold turnI at CI
    rw [htt] at CI
    obtain ⟨len, hlen⟩ : ∃ n, x.late.length = n := ⟨_, rfl⟩
    have HQ := hid (hlen.symm.trans hq)
    have HLEN := hid hlen
    have hl8 : len ≤ 8 := by omega
    have hli : x.inn.size + 8 * len ≤ 1164 := by omega
    rw [hlen] at c9 CI
    clear hq
    by_cases htl : t < x.late.length
    rotate_left
    · have HE : Hid (lateD d.late.length d = x) := by show _ = _; rw [← HD.out, lateD_done (by rw [htt]; exact htl)]
      rw [if_neg (by omega)] at CI
      clear htt htl hlen
      go_wp2_with fail
      refine Calls.mono CI.out ?_
      rintro e w2 ⟨rfl, b2⟩
      have HS2 := hid (HS.out.on b2)
      clear b2 CI
      go_wp2
      refine bodyPost_ret (v := .tuple #[]) (by simp [results, Try.results66]) rfl ?_
      exact ⟨rfl, by rw [HE.out]; exact HS2.out⟩
    rw [if_pos (by omega)] at CI
    have HE := hid (HD.out.symm.trans (lateD_more htt htl))
    have hy8 := HX.out.2 _ (List.getElem_mem htl)
    have HX2 := hid (HX.out.erase t)
    clear htt HD
    clear hlen
    go_wp2_with fail
    refine Calls.mono CI.out ?_
    rintro e w2 ⟨rfl, b2⟩
    have hlen := HLEN.out
    have HS2 := hid (HS.out.on b2)
    have XB2 := hid (XB.out.on b2 XB.out.lt)
    have RL2 := hid (RL.out.on b2)
    have SG2 := hid (segR_below SG.out b2)
    clear b2 CI HS XB RL SG c9
    have hne : x.late ≠ [] := by intro e; rw [e] at htl; simp at htl
    obtain ⟨b, off, hao, hc⟩ := (OwnsL.at RL2.out) hne
    obtain ⟨x0, x1⟩ := hc t htl
    subst hao
    obtain ⟨y, hy⟩ : ∃ y, x.late[t] = y := ⟨_, rfl⟩
    rw [hy] at x0 x1 hy8 HE
    clear hc hy
    have c9 := XB2.out.cell (j := 9) rfl
    rw [hlen] at c9
    have htl2 : t < len := by omega
    have htl' : (t : Int) < (len : Int) := by omega
    have ht0 : ¬ (t : Int) < 0 := by omega
    have bn := below_more (Below.refl w2.heap.size w2) (.cells #[.int .i64 y.num, .string y.text] 61)
    have hnw : BlockIs (w2.alloc (.cells #[.int .i64 y.num, .string y.text] 61)) w2.heap.size 61 [.int .i64 y.num, .string y.text] := heap_alloc_new w2 _
    have HS3 := hid (HS2.out.on bn)
    have XB3 := hid (XB2.out.on bn XB2.out.lt)
    have RL3 := hid (RL2.out.on bn)
    have SG3 := hid (segR_below SG2.out bn)
    have hrl2 := RL2.out
    obtain ⟨b', r, hab, hlob, hle, hcm, hbk, hsz⟩ := late_block RL2.out hne
    have hbb : b = b' ∧ off = 0 := by simpa using hab
    obtain ⟨rfl, rfl⟩ := hbb
    rw [Nat.zero_add] at x0 x1
    have hblt := hbk.lt
    have hbk3 := hbk.on bn hbk.lt
    obtain ⟨V0, hV0⟩ : ∃ V, w2.alloc (.cells #[.int .i64 y.num, .string y.text] 61) = V := ⟨_, rfl⟩
    rw [hV0] at hnw HS3 XB3 RL3 SG3 hbk3
    have k9 := XB3.out.cell (j := 9) rfl
    rw [hlen] at k9
    have YB := hid hnw
    obtain ⟨yb, hyb⟩ : ∃ n, w2.heap.size = n := ⟨_, rfl⟩
    have HYB := hid hyb
    have hyne : yb ≠ b := by omega
    rw [hyb] at YB
    clear bn hnw HS2 XB2 RL2 SG2 hab hbk hblt hrl2 hyb
    have hw64 : IntKind.i64.wrap ((t : Int) + 1) = (t : Int) + 1 := by simp [IntKind.wrap, IntKind.signed, IntKind.bits]; omega
    have CD := hid (deleteLate_any b x.late cap t r htl (by omega) hle (by unfold maxLen at hcm; omega) V0 hbk3)
    rw [hlen, show ((t + 1 : Nat) : Int) = (t : Int) + 1 by omega] at CD
    have HBK := hid hbk3
    clear hbk3 hlen
    go_wp2_with fail
    refine Calls.mono CD.out ?_
    rintro e w4 ⟨rfl, q, hq2, hb4, hk4, hB4⟩
    have hlen := HLEN.out
    have HS4 := hid (HrTo.dropped (t := t) (vc := cap) (q := q) (r := r) HS3.out XB3.out SG3.out htl hlob hle hcm hsz hq2 ⟨_, HBK.out⟩ hb4 hk4 hB4)
    have hgb : g ≠ b := by rintro rfl; exact absurd (block_one XB3.out HBK.out).1 (by decide)
    have XB4 := hk4 _ _ _ hgb XB3.out
    have m9 := XB4.cell (j := 9) rfl
    have n9 := XB4.thaw 9
    have YB4 := hk4 _ _ _ hyne YB.out
    rw [hlen] at HS4 m9
    obtain ⟨V5, hV5⟩ : ∃ V, w4.setCell ⟨g, 9, none⟩ (.slice (some ⟨b, 0, none⟩) (len - 1) cap) = V := ⟨_, rfl⟩
    have YB5 : Hid (BlockIs V5 yb 61 [.int .i64 y.num, .string y.text]) := by rw [← hV5]; exact YB4.far (by rintro rfl; exact absurd (block_one XB4 YB4).1 (by decide)) _
    rw [hV5] at HS4
    have y0 := YB5.out.cell (j := 0) rfl
    have y1 := YB5.out.cell (j := 1) rfl
    rw [← HYB.out] at y0 y1
    clear hb4 hk4 hB4 XB4 YB4 CD HS3 XB3 RL3 SG3 HBK YB x0 x1 c9 k9
    have CT := hid (takeNew_any lo g (dropD t x) now out y.num y.text (by omega) (show x.inn.size ≤ _ by omega) V5 HS4.out.1.1)
    go_wp2_with fail
    refine Calls.mono CT.out ?_
    rintro e w6 ⟨rfl, h6⟩
    have HS6 := hid (HS4.out.trans h6)
    have hil : (takeD y.num y.text (dropD t x)).inn.size + 8 * (len - 1) ≤ 1164 := by have := takeD_inn y.num y.text (dropD t x); have h7 : (dropD t x).inn.size = x.inn.size := rfl; omega
    have hlt2 : (takeD y.num y.text (dropD t x)).late = x.late.eraseIdx t := takeD_late _ _ _
    have hll : (takeD y.num y.text (dropD t x)).late.length = len - 1 := by rw [hlt2, List.length_eraseIdx_of_lt htl, hlen]
    have HX3 : Hid (FewL (takeD y.num y.text (dropD t x)).late) := by rw [hlt2]; exact HX2.out
    obtain ⟨x', hx'⟩ : ∃ z, takeD y.num y.text (dropD t x) = z := ⟨_, rfl⟩
    rw [hx'] at HS6 hil hll HX3 HE
    have hgk := HQ.out
    clear hlen
    clear hx' hlt2 CT h6 HS4 YB5 y0 y1 HX2 HX m9 n9 hV5
    go_wp2
    go_roundg (len - 1)
    case measure => omega
    case rel => exact ⟨x', hll, by omega, hil, HX3, HS6, HE.out.symm⟩
end Go.Proofs.Ytngcldjkpcmidaa
