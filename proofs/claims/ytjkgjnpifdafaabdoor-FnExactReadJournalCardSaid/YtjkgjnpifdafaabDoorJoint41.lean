/-
  The walk of impl.told at the first record of a file.
  The walk of impl.VarText: what it answers.
-/
import Derived.Test.YtjkgjnpifdafaabDoorJoint40
import Derived.Test.YtjkgjnpifdafaabDoorJoint10
import Derived.Deep.Cut
import Derived.Test.YtjkgjnpifdafaabDoorRows
import Derived.Test.YtjkgjnpifdafaabDoorJoint1
import Derived.WalkKit
namespace Go.Proofs.YtjkgjnpifdafaabDoor
open Go.RowKit

set_option maxRecDepth 1000000 in
set_option maxHeartbeats 4000000 in
theorem told_first (jd : JouD) (vo : Option Addr) (vc lo : Nat) (r : ByteArray) (hr : r.size ≤ 1048576) (w : World) :
    Calls Tryd.prog 58 #[.agg #[.int .i64 jd.n, .int .i64 jd.tm, .int .i64 jd.vt, .int .i64 jd.s, .int .i64 jd.t, .slice vo jd.l.length vc], .string r, .bool true] w fun e w' => TellDid (tellFirst jd r) lo w e w' := by
  have h2 := two_jour w (.cells #[.int .i64 jd.n, .int .i64 jd.tm, .int .i64 jd.vt, .int .i64 jd.s, .int .i64 jd.t, .slice vo jd.l.length vc] 34) (.cells #[.int .i64 0, .int .i64 0, .int .i64 0, .int .i64 0, .int .i64 0, .slice none 0 0] 34)
  have J0 : Hid (BlockIs _ w.heap.size 34 [.int .i64 jd.n, .int .i64 jd.tm, .int .i64 jd.vt, .int .i64 jd.s, .int .i64 jd.t, .slice vo jd.l.length vc]) := h2.2.2.1
  have P0 : Hid (BlockIs _ (w.heap.size + 1) 34 [.int .i64 0, .int .i64 0, .int .i64 0, .int .i64 0, .int .i64 0, .slice none 0 0]) := h2.2.2.2
  have B0 := hid h2.1
  clear h2
  obtain ⟨W, hW⟩ : ∃ W, (w.alloc (.cells #[.int .i64 jd.n, .int .i64 jd.tm, .int .i64 jd.vt, .int .i64 jd.s, .int .i64 jd.t, .slice vo jd.l.length vc] 34)).alloc (.cells #[.int .i64 0, .int .i64 0, .int .i64 0, .int .i64 0, .int .i64 0, .slice none 0 0] 34) = W := ⟨_, rfl⟩
  rw [hW] at J0 P0 B0
  have hle1 : w.heap.size ≤ w.heap.size + 1 := Nat.le_succ _
  have hne : w.heap.size + 1 ≠ w.heap.size := by omega
  have hne2 : w.heap.size ≠ w.heap.size + 1 := by omega
  go_enter Tryd.func58, Tryd.ntmps58
  go_wp2_with fail
  refine (readPair_any 66 r hr _).mono ?_
  rintro e w1 ⟨⟨x, y, rfl, hx, hy, hxy⟩, hw⟩
  rw [hw]
  clear hw w1
  have c0 := J0.out.cell (j := 0) rfl
  have c1 := J0.out.cell (j := 1) rfl
  have c2 := J0.out.cell (j := 2) rfl
  have c3 := J0.out.cell (j := 3) rfl
  have c4 := J0.out.cell (j := 4) rfl
  have c5 := J0.out.cell (j := 5) rfl
  have f3 := J0.out.thaw 3
  have f4 := J0.out.thaw 4
  have f5 := J0.out.thaw 5
  have JA := hid (((J0.out.set 3 (.int .i64 (x : Int))).set 4 (.int .i64 (y : Int))).set 5 (.slice none 0 0))
  have PA := hid (((P0.out.far (b := w.heap.size) (j := 3) hne2 (.int .i64 (x : Int))).far (b := w.heap.size) (j := 4) hne2 (.int .i64 (y : Int))).far (b := w.heap.size) (j := 5) hne2 (.slice none 0 0))
  have BA := hid (((B0.out.setCell (p := ⟨w.heap.size, 3, none⟩) (Nat.le_refl _) (.int .i64 (x : Int))).setCell (p := ⟨w.heap.size, 4, none⟩) (Nat.le_refl _) (.int .i64 (y : Int))).setCell (p := ⟨w.heap.size, 5, none⟩) (Nat.le_refl _) (.slice none 0 0))
  obtain ⟨bk, hbk⟩ : ∃ z, (readTwo 66 r).isSome = z := ⟨_, rfl⟩
  rw [hbk]
  go_upto_region 4 with fail
  obtain ⟨W1, hW1⟩ : ∃ z, ((W.setCell ⟨w.heap.size, 3, none⟩ (.int .i64 (x : Int))).setCell ⟨w.heap.size, 4, none⟩ (.int .i64 (y : Int))).setCell ⟨w.heap.size, 5, none⟩ (.slice none 0 0) = z := ⟨_, rfl⟩
  rw [hW1] at JA PA BA ⊢
  clear c0 c1 c2 c3 c4 c5 f3 f4 f5 J0 P0 B0 hW hW1
  have JA : Hid (BlockIs W1 w.heap.size 34 [.int .i64 jd.n, .int .i64 jd.tm, .int .i64 jd.vt, .int .i64 x, .int .i64 y, .slice none 0 0]) := JA
  have c0 := JA.out.cell (j := 0) rfl
  have c1 := JA.out.cell (j := 1) rfl
  have c2 := JA.out.cell (j := 2) rfl
  have c3 := JA.out.cell (j := 3) rfl
  have c4 := JA.out.cell (j := 4) rfl
  have c5 := JA.out.cell (j := 5) rfl
  cases bk with
  | false =>
    have p0 := PA.out.cell (j := 0) rfl
    have p1 := PA.out.cell (j := 1) rfl
    have p2 := PA.out.cell (j := 2) rfl
    have p3 := PA.out.cell (j := 3) rfl
    have p4 := PA.out.cell (j := 4) rfl
    have p5 := PA.out.cell (j := 5) rfl
    have q0 := PA.out.thaw 0
    have q1 := PA.out.thaw 1
    have q2 := PA.out.thaw 2
    have q3 := PA.out.thaw 3
    have q4 := PA.out.thaw 4
    have q5 := PA.out.thaw 5
    have h0 : tellFirst jd r = none := by
      unfold tellFirst
      cases h : readTwo 66 r with
      | none => rfl
      | some p => rw [h] at hbk; cases hbk
    clear JA
    go_region
    have BL := hid ((((((BA.out.setCell (p := ⟨w.heap.size + 1, 0, none⟩) hle1 (.int .i64 jd.n)).setCell (p := ⟨w.heap.size + 1, 1, none⟩) hle1 (.int .i64 jd.tm)).setCell (p := ⟨w.heap.size + 1, 2, none⟩) hle1 (.int .i64 jd.vt)).setCell (p := ⟨w.heap.size + 1, 3, none⟩) hle1 (.int .i64 (x : Int))).setCell (p := ⟨w.heap.size + 1, 4, none⟩) hle1 (.int .i64 (y : Int))).setCell (p := ⟨w.heap.size + 1, 5, none⟩) hle1 (.slice none 0 0)).drew
    go_wp2
    refine bodyPost_ret (v := .tuple #[.agg #[.int .i64 jd.n, .int .i64 jd.tm, .int .i64 jd.vt, .int .i64 x, .int .i64 y, .slice none 0 0], .bool false]) (by simp [results, Tryd.results58, go_sem, p0, p1, p2, p3, p4, p5]) rfl ?_
    rw [h0]
    exact ⟨⟨jd.n, jd.tm, jd.vt, x, y, []⟩, none, 0, rfl, Nat.le_refl _, Or.inl rfl, BL.out, fun k q => by cases q⟩
  | true =>
    obtain ⟨ok, hok⟩ : ∃ z, logOk x y [] = z := ⟨_, rfl⟩
    have h0 : tellFirst jd r = if ok = true then some ⟨jd.n, jd.tm, jd.vt, x, y, []⟩ else none := by
      unfold tellFirst
      cases h : readTwo 66 r with
      | none => rw [h] at hbk; cases hbk
      | some p =>
        obtain ⟨a, b⟩ := p
        obtain ⟨rfl, rfl⟩ := hxy a b h
        simp only [hok]
    clear hbk hxy
    have CL := implLogOk_any x y none [] 0 (by simp) W1.drew (fun h => absurd rfl h)
    rw [hok] at CL
    have bd : Below W1.heap.size W1 W1.drew := (Below.refl _ _).drew
    have CL := hid CL
    clear hok
    go_region_with (go_at_call 43; refine CL.out.mono ?_; rintro e w2 ⟨rfl, b2⟩; have b2 := below_via bd b2; have J2 := hid (JA.out.on b2 JA.out.lt); have P2 := hid (PA.out.on b2 PA.out.lt); have B2 := hid (below_via BA.out b2); clear b2; have d0 := J2.out.cell (j := 0) rfl; have d1 := J2.out.cell (j := 1) rfl; have d2 := J2.out.cell (j := 2) rfl; have d3 := J2.out.cell (j := 3) rfl; have d4 := J2.out.cell (j := 4) rfl; have d5 := J2.out.cell (j := 5) rfl; have p0 := P2.out.cell (j := 0) rfl; have q0 := P2.out.thaw 0; have p1 := P2.out.cell (j := 1) rfl; have q1 := P2.out.thaw 1; have p2 := P2.out.cell (j := 2) rfl; have q2 := P2.out.thaw 2; have p3 := P2.out.cell (j := 3) rfl; have q3 := P2.out.thaw 3; have p4 := P2.out.cell (j := 4) rfl; have q4 := P2.out.thaw 4; have p5 := P2.out.cell (j := 5) rfl; have q5 := P2.out.thaw 5)
    all_goals
      have BL := hid ((((((B2.out.setCell (p := ⟨w.heap.size + 1, 0, none⟩) hle1 (.int .i64 jd.n)).setCell (p := ⟨w.heap.size + 1, 1, none⟩) hle1 (.int .i64 jd.tm)).setCell (p := ⟨w.heap.size + 1, 2, none⟩) hle1 (.int .i64 jd.vt)).setCell (p := ⟨w.heap.size + 1, 3, none⟩) hle1 (.int .i64 (x : Int))).setCell (p := ⟨w.heap.size + 1, 4, none⟩) hle1 (.int .i64 (y : Int))).setCell (p := ⟨w.heap.size + 1, 5, none⟩) hle1 (.slice none 0 0))
      go_wp2
      refine bodyPost_ret (v := .tuple #[.agg #[.int .i64 jd.n, .int .i64 jd.tm, .int .i64 jd.vt, .int .i64 x, .int .i64 y, .slice none 0 0], .bool ok]) (by simp [results, Tryd.results58, go_sem, p0, p1, p2, p3, p4, p5]) rfl ?_
      rw [h0]
      refine ⟨⟨jd.n, jd.tm, jd.vt, x, y, []⟩, none, 0, ?_, Nat.le_refl _, Or.inl rfl, BL.out, ?_⟩
      · cases ok <;> rfl
      · intro k q
        cases ok
        · simp at q
        · simp at q
          exact q.symm ▸ rfl
end Go.Proofs.YtjkgjnpifdafaabDoor

namespace Go.Proofs.YtjkgjnpifdafaabDoor
open Go.RowKit

theorem varI_info5 : (Tryd.prog.info? 5).map (fun i => (i.zero, i.size, i.bytes)) = some (some (.int .u8 0), 1, 1) := by kernel_rfl

set_option maxHeartbeats 400000 in
set_option maxRecDepth 1000000 in
theorem implVarText_yes (n : Nat) (hn : n ≤ 1000000000) (w : World) :
    Calls Tryd.prog 45 #[.int .i64 n] w fun e w' => e = .returned (.tuple #[.string ⟨(vb n).toArray⟩, .bool true]) ∧ Below w.heap.size w w' := by
  obtain ⟨i0, hi, hz0, hz1, hz2⟩ := info_parts varI_info5
  go_enter Tryd.func45, Tryd.ntmps45
  go_wp2
  go_loopw [0, 4] (fun x v wr => ∃ (m : Nat) (acc : List UInt8), m ≤ n ∧ x = .int .i64 m ∧ acc ++ vb m = vb n ∧ wr.ownsRow w.heap.size 5 1 v acc.length (cs acc) ∧ Below w.heap.size w wr) (fun x _ _ => (intOf x).toNat)
  case atStart => exact ⟨n, [], Nat.le_refl _, rfl, rfl, World.ownsRow_nil _ _ _ _, Below.refl _ _⟩
  case round =>
    obtain ⟨m, acc, hm, rfl, hacc, hown, hb⟩ := hrel
    have hlen : acc.length + (vb m).length ≤ n + 1 := by rw [← List.length_append, hacc]; exact vb_le n
    have hp := vb_pos m
    have HA : Hid (acc ++ vb m = vb n) := hacc
    clear hacc
    have hsz := hb.size
    by_cases hlt : 127 < m
    · go_wp2_with (at_builtin; refine wpList_append_own _ rfl (.tmp 13) (.tmp 18) 72 rfl w.heap.size 5 i0 (.int .u8 0) 1 1 Tryd.underlying72 hi hz0 hz1 hz2 rfl (by decide) _ _ _ rfl (hown.alloc _) ⟨wr.heap.size, 0, none⟩ 1 1 [.int .u8 ((m : Int) % 128 + 128)] rfl rfl ?c1 ?c2 ?c3 ?c4 ?c5 ?_)
      case c1 => intro j u hj; match j, hj with | 0, hj => simp at hj; subst hj; simp [Addr.add]
      case c2 => intro u hu; simp at hu; subst hu; rfl
      case c3 => unfold maxLen; omega
      case c4 => omega
      case c5 => simp; omega
      intro v' w1 hown' hgrow _
      have R := var_step hlt HA.out hown hown' hgrow hb
      clear hown' hgrow hown hb
      go_wp2
      go_roundw
      case rel => exact ⟨m / 128, acc ++ [UInt8.ofNat (m % 128 + 128)], by omega, by go_num, R.1, R.2.1, R.2.2⟩
      case measure => simp [intOf]; omega
    · go_wp2_with (at_builtin; refine wpList_append_own _ rfl (.tmp 22) (.tmp 25) 72 rfl w.heap.size 5 i0 (.int .u8 0) 1 1 Tryd.underlying72 hi hz0 hz1 hz2 rfl (by decide) _ _ _ rfl (hown.alloc _) ⟨wr.heap.size, 0, none⟩ 1 1 [.int .u8 (m : Int)] rfl rfl ?d1 ?d2 ?d3 ?d4 ?d5 ?_)
      case d1 => intro j u hj; match j, hj with | 0, hj => simp at hj; subst hj; simp [Addr.add]
      case d2 => intro u hu; simp at hu; subst hu; rfl
      case d3 => unfold maxLen; omega
      case d4 => omega
      case d5 => simp; omega
      intro v' w1 hown' hgrow _
      have R := var_end (by omega) HA.out hown hown' hgrow hb
      have hcv := text_of_row (P := Tryd.prog) Tryd.underlying72 Tryd.underlying5 Tryd.underlying9 R.1
      clear hown' hgrow hown hb
      go_wp2
      go_ret2
      exact ⟨rfl, R.2⟩

theorem implVarText_no (n : Int) (hn : n < 0 ∨ 1000000000 < n) (w : World) :
    Calls Tryd.prog 45 #[.int .i64 n] w fun e w' => e = .returned (.tuple #[.string ByteArray.empty, .bool false]) ∧ Below w.heap.size w w' := by
  by_cases h0 : n < 0
  · go_enter Tryd.func45, Tryd.ntmps45
    go_wp2
    go_ret2
    exact ⟨rfl, Below.refl _ _⟩
  · have h1 : 1000000000 < n := by omega
    go_enter Tryd.func45, Tryd.ntmps45
    go_wp2
    go_ret2
    exact ⟨rfl, Below.refl _ _⟩
end Go.Proofs.YtjkgjnpifdafaabDoor
