/-
  The walk of impl.told: the journal behind one more record of its file.
  The walk of impl.told at the first record of a file.
-/
import Derived.Test.YtbifkpkhpaellaaGreatDoorJoint14
import Derived.Test.YtbifkpkhpaellaaGreatDoorJoint55
import Derived.Test.YtbifkpkhpaellaaGreatDoorJoint50
import Derived.Test.YtbifkpkhpaellaaGreatDoorJoint52
import Derived.Test.YtbifkpkhpaellaaGreatDoorJoint57
import Derived.Test.YtbifkpkhpaellaaGreatDoorJoint58
import Derived.Deep.RegionWith
import Derived.Deep.Cut
namespace Go.Proofs.YtbifkpkhpaellaaGreatDoor
open Go.RowKit

/-- a journal that is told, with a flag; without it, it is any one -/
def TellDid (o : Option JouD) (lo : Nat) (w : World) (e : Ending) (w' : World) : Prop := ∃ (j : JouD) (vo : Option Addr) (vc : Nat), e = .returned (.tuple #[.agg #[.int .i64 j.n, .int .i64 j.tm, .int .i64 j.vt, .int .i64 j.s, .int .i64 j.t, .slice vo j.l.length vc], .bool o.isSome]) ∧ j.l.length ≤ vc ∧ OwnAt w' 110 (entCells j.l) j.l.length vo lo w'.heap.size ∧ Below w.heap.size w w' ∧ ∀ k, o = some k → j = k

theorem own_to {x y : World} {t : TypeId} {cs : List Value} {n : Nat} {va : Option Addr} {lo : Nat} (h : OwnAt x t cs n va lo x.heap.size) (hb : Below x.heap.size x y) : OwnAt y t cs n va lo y.heap.size :=
  h.imp id fun ⟨g, r, a, b, c, d⟩ => ⟨g, r, a, b, Nat.lt_of_lt_of_le c hb.size, d.on hb d.lt⟩
/-- a cell of a block of another type is written -/
theorem own_past {x : World} {t tb : TypeId} {cs cb : List Value} {n : Nat} {va : Option Addr} {lo b j : Nat} {u : Value} (h : OwnAt x t cs n va lo x.heap.size) (hb : BlockIs x b tb cb) (ht : tb ≠ t) : OwnAt (x.setCell ⟨b, j, none⟩ u) t cs n va lo (x.setCell ⟨b, j, none⟩ u).heap.size := by
  rw [World.size_setCell]
  exact h.imp id fun ⟨g, r, a, c, d, e⟩ => ⟨g, r, a, c, d, e.far (by intro q; subst q; exact ht (block_one hb e).1) u⟩
theorem two_jour (w : World) (o p : Obj) : Below w.heap.size w ((w.alloc o).alloc p) ∧ ((w.alloc o).alloc p).heap.size = w.heap.size + 2 ∧ ((w.alloc o).alloc p).heap[w.heap.size]? = some o ∧ ((w.alloc o).alloc p).heap[w.heap.size + 1]? = some p := by
  refine ⟨below_more (below_more (Below.refl _ w) _) _, by simp [World.alloc, -World.alloc_eq], ?_, ?_⟩
  · show ((w.heap.push o).push p)[w.heap.size]? = some o
    rw [Array.getElem?_push, if_neg (by simp), Array.getElem?_push, if_pos rfl]
  · show ((w.heap.push o).push p)[w.heap.size + 1]? = some p
    rw [Array.getElem?_push, if_pos (by simp)]

set_option maxRecDepth 1000000 in
set_option maxHeartbeats 4000000 in
theorem told_more (jd : JouD) (vo : Option Addr) (vc lo : Nat) (r : ByteArray) (hr : r.size ≤ 1048576) (hs64 : -9223372036854775808 ≤ jd.s ∧ jd.s ≤ 9223372036854775807) (hl : jd.l.length ≤ 1048576) (hsm : ∀ f ∈ jd.l, f.data.size ≤ 1048576) (hvc : jd.l.length ≤ vc) (w : World) (hlo : lo ≤ w.heap.size) (ho : OwnAt w 110 (entCells jd.l) jd.l.length vo lo w.heap.size) :
    Calls Tryz.prog 77 #[.agg #[.int .i64 jd.n, .int .i64 jd.tm, .int .i64 jd.vt, .int .i64 jd.s, .int .i64 jd.t, .slice vo jd.l.length vc], .string r, .bool false] w fun e w' => TellDid (tellMore jd r) lo w e w' := by
  have HSM := hid hsm
  have HLO := hid hlo
  have h2 := two_jour w (.cells #[.int .i64 jd.n, .int .i64 jd.tm, .int .i64 jd.vt, .int .i64 jd.s, .int .i64 jd.t, .slice vo jd.l.length vc] 30) (.cells #[.int .i64 0, .int .i64 0, .int .i64 0, .int .i64 0, .int .i64 0, .slice none 0 0] 30)
  have J0 : Hid (BlockIs _ w.heap.size 30 [.int .i64 jd.n, .int .i64 jd.tm, .int .i64 jd.vt, .int .i64 jd.s, .int .i64 jd.t, .slice vo jd.l.length vc]) := h2.2.2.1
  have P0 : Hid (BlockIs _ (w.heap.size + 1) 30 [.int .i64 0, .int .i64 0, .int .i64 0, .int .i64 0, .int .i64 0, .slice none 0 0]) := h2.2.2.2
  have B0 := hid h2.1
  have O0 := hid (own_to ho h2.1)
  clear h2 ho hsm hlo
  obtain ⟨W, hW⟩ : ∃ W, (w.alloc (.cells #[.int .i64 jd.n, .int .i64 jd.tm, .int .i64 jd.vt, .int .i64 jd.s, .int .i64 jd.t, .slice vo jd.l.length vc] 30)).alloc (.cells #[.int .i64 0, .int .i64 0, .int .i64 0, .int .i64 0, .int .i64 0, .slice none 0 0] 30) = W := ⟨_, rfl⟩
  rw [hW] at J0 P0 B0 O0
  have p0 := P0.out.cell (j := 0) rfl
  have p1 := P0.out.cell (j := 1) rfl
  have p2 := P0.out.cell (j := 2) rfl
  have p3 := P0.out.cell (j := 3) rfl
  have p4 := P0.out.cell (j := 4) rfl
  have p5 := P0.out.cell (j := 5) rfl
  have q0 := P0.out.thaw 0
  have q1 := P0.out.thaw 1
  have q2 := P0.out.thaw 2
  have q3 := P0.out.thaw 3
  have q4 := P0.out.thaw 4
  have q5 := P0.out.thaw 5
  have hle1 : w.heap.size ≤ w.heap.size + 1 := Nat.le_succ _
  have hne : w.heap.size + 1 ≠ w.heap.size := by omega
  go_enter Tryz.func77, Tryz.ntmps77
  go_wp2_with fail
  refine (readPair_any 72 r hr _).mono ?_
  rintro e w1 ⟨⟨x, y, rfl, hx, hy, hxy⟩, hw⟩
  rw [hw]
  clear hw w1
  cases h2 : readTwo 72 r with
  | some p =>
    obtain ⟨a, b⟩ := p
    obtain ⟨rfl, rfl⟩ := hxy a b h2
    rw [show (some (x, y) : Option (Nat × Nat)).isSome = true from rfl]
    go_wp2_with fail
    refine (headOk_any x y _).mono ?_
    rintro e w1 ⟨rfl, hw⟩
    rw [hw]
    clear hw w1
    cases hh : (within x 0 100000 && within y 0 4) with
    | true =>
      have HR := hid (tell_head (j := jd) h2 hh)
      have c0 := J0.out.cell (j := 0) rfl
      have c1 := J0.out.cell (j := 1) rfl
      have c2 := J0.out.cell (j := 2) rfl
      have c3 := J0.out.cell (j := 3) rfl
      have c4 := J0.out.cell (j := 4) rfl
      have c5 := J0.out.cell (j := 5) rfl
      have f1 := J0.out.thaw 1
      have f2 := J0.out.thaw 2
      have hne2 : w.heap.size ≠ w.heap.size + 1 := by omega
      have JA := (J0.out.set 1 (.int .i64 (x : Int))).set 2 (.int .i64 (y : Int))
      have PA := (P0.out.far (b := w.heap.size) (j := 1) hne2 (.int .i64 (x : Int))).far (b := w.heap.size) (j := 2) hne2 (.int .i64 (y : Int))
      have OA := own_past (j := 2) (u := .int .i64 (y : Int)) (own_past (j := 1) (u := .int .i64 (x : Int)) O0.out J0.out (by decide)) (J0.out.set 1 (.int .i64 (x : Int))) (by decide)
      have OL := hid (own_past (j := 5) (u := .slice vo jd.l.length vc) (own_past (j := 4) (u := .int .i64 jd.t) (own_past (j := 3) (u := .int .i64 jd.s) (own_past (j := 2) (u := .int .i64 (y : Int)) (own_past (j := 1) (u := .int .i64 (x : Int)) (own_past (j := 0) (u := .int .i64 jd.n) OA PA (by decide)) (PA.set 0 _) (by decide)) ((PA.set 0 _).set 1 _) (by decide)) (((PA.set 0 _).set 1 _).set 2 _) (by decide)) ((((PA.set 0 _).set 1 _).set 2 _).set 3 _) (by decide)) (((((PA.set 0 _).set 1 _).set 2 _).set 3 _).set 4 _) (by decide))
      have BL := hid ((((((((B0.out.setCell (p := ⟨w.heap.size, 1, none⟩) (Nat.le_refl _) (.int .i64 (x : Int))).setCell (p := ⟨w.heap.size, 2, none⟩) (Nat.le_refl _) (.int .i64 (y : Int))).setCell (p := ⟨w.heap.size + 1, 0, none⟩) hle1 (.int .i64 jd.n)).setCell (p := ⟨w.heap.size + 1, 1, none⟩) hle1 (.int .i64 (x : Int))).setCell (p := ⟨w.heap.size + 1, 2, none⟩) hle1 (.int .i64 (y : Int))).setCell (p := ⟨w.heap.size + 1, 3, none⟩) hle1 (.int .i64 jd.s)).setCell (p := ⟨w.heap.size + 1, 4, none⟩) hle1 (.int .i64 jd.t)).setCell (p := ⟨w.heap.size + 1, 5, none⟩) hle1 (.slice vo jd.l.length vc))
      clear h2 hh hxy JA PA OA O0 B0 J0 P0
      go_wp2
      refine bodyPost_ret (v := .tuple #[.agg #[.int .i64 jd.n, .int .i64 (x : Int), .int .i64 (y : Int), .int .i64 jd.s, .int .i64 jd.t, .slice vo jd.l.length vc], .bool true]) (by simp [results, Tryz.results77, go_sem, p0, p1, p2, p3, p4, p5]) rfl ?_
      rw [HR.out]
      exact ⟨{ jd with tm := x, vt := y }, vo, vc, rfl, hvc, OL.out, BL.out, fun k q => by cases q; rfl⟩
    | false =>
      have h3 : readEntry r = none := two_entry (by decide) h2
      have HR := hid (tell_bad (j := jd) h2 hh)
      clear h2 hh hxy
      go_wp2_with fail
      refine (implReadEntry_any r hr _).mono ?_
      rintro e w1 ⟨he, b1⟩
      rw [h3, reAns] at he
      subst he
      clear h3
      have b1 := below_more b1 (.cells #[.int .i64 0, .int .i64 0, .string ByteArray.empty] 110)
      have P1 := hid (P0.out.on b1 P0.out.lt)
      have BX := hid (below_via B0.out b1)
      clear p0 p1 p2 p3 p4 p5 q0 q1 q2 q3 q4 q5 b1 P0 B0 O0 J0 hW
      have p0 := P1.out.cell (j := 0) rfl
      have p1 := P1.out.cell (j := 1) rfl
      have p2 := P1.out.cell (j := 2) rfl
      have p3 := P1.out.cell (j := 3) rfl
      have p4 := P1.out.cell (j := 4) rfl
      have p5 := P1.out.cell (j := 5) rfl
      have q0 := P1.out.thaw 0
      have q1 := P1.out.thaw 1
      have q2 := P1.out.thaw 2
      have q3 := P1.out.thaw 3
      have q4 := P1.out.thaw 4
      have q5 := P1.out.thaw 5
      have BL := hid ((((((BX.out.setCell (p := ⟨w.heap.size + 1, 0, none⟩) hle1 (.int .i64 0)).setCell (p := ⟨w.heap.size + 1, 1, none⟩) hle1 (.int .i64 0)).setCell (p := ⟨w.heap.size + 1, 2, none⟩) hle1 (.int .i64 0)).setCell (p := ⟨w.heap.size + 1, 3, none⟩) hle1 (.int .i64 0)).setCell (p := ⟨w.heap.size + 1, 4, none⟩) hle1 (.int .i64 0)).setCell (p := ⟨w.heap.size + 1, 5, none⟩) hle1 (.slice none 0 0))
      clear P1 BX
      go_wp2
      refine bodyPost_ret (v := .tuple #[.agg #[.int .i64 0, .int .i64 0, .int .i64 0, .int .i64 0, .int .i64 0, .slice none 0 0], .bool false]) (by simp [results, Tryz.results77, go_sem, p0, p1, p2, p3, p4, p5]) rfl ?_
      rw [HR.out]
      exact ⟨⟨0, 0, 0, 0, 0, []⟩, none, 0, rfl, Nat.le_refl _, Or.inl rfl, BL.out, fun k q => by cases q⟩
  | none =>
    rw [show (none : Option (Nat × Nat)).isSome = false from rfl]
    clear hxy
    go_wp2_with fail
    refine (implReadEntry_any r hr _).mono ?_
    rintro e w1 ⟨he, b1⟩
    cases h3 : readEntry r with
    | none =>
      rw [h3, reAns] at he
      subst he
      have HR := hid (tell_no (j := jd) h2 h3)
      clear h2 h3
      have b1 := below_more b1 (.cells #[.int .i64 0, .int .i64 0, .string ByteArray.empty] 110)
      have P1 := hid (P0.out.on b1 P0.out.lt)
      have BX := hid (below_via B0.out b1)
      clear p0 p1 p2 p3 p4 p5 q0 q1 q2 q3 q4 q5 b1 P0 B0 O0 J0 hW
      have p0 := P1.out.cell (j := 0) rfl
      have p1 := P1.out.cell (j := 1) rfl
      have p2 := P1.out.cell (j := 2) rfl
      have p3 := P1.out.cell (j := 3) rfl
      have p4 := P1.out.cell (j := 4) rfl
      have p5 := P1.out.cell (j := 5) rfl
      have q0 := P1.out.thaw 0
      have q1 := P1.out.thaw 1
      have q2 := P1.out.thaw 2
      have q3 := P1.out.thaw 3
      have q4 := P1.out.thaw 4
      have q5 := P1.out.thaw 5
      have BL := hid ((((((BX.out.setCell (p := ⟨w.heap.size + 1, 0, none⟩) hle1 (.int .i64 0)).setCell (p := ⟨w.heap.size + 1, 1, none⟩) hle1 (.int .i64 0)).setCell (p := ⟨w.heap.size + 1, 2, none⟩) hle1 (.int .i64 0)).setCell (p := ⟨w.heap.size + 1, 3, none⟩) hle1 (.int .i64 0)).setCell (p := ⟨w.heap.size + 1, 4, none⟩) hle1 (.int .i64 0)).setCell (p := ⟨w.heap.size + 1, 5, none⟩) hle1 (.slice none 0 0))
      clear P1 BX
      go_wp2
      refine bodyPost_ret (v := .tuple #[.agg #[.int .i64 0, .int .i64 0, .int .i64 0, .int .i64 0, .int .i64 0, .slice none 0 0], .bool false]) (by simp [results, Tryz.results77, go_sem, p0, p1, p2, p3, p4, p5]) rfl ?_
      rw [HR.out]
      exact ⟨⟨0, 0, 0, 0, 0, []⟩, none, 0, rfl, Nat.le_refl _, Or.inl rfl, BL.out, fun k q => by cases q⟩
    | some p =>
      obtain ⟨i, d⟩ := p
      rw [h3, reAns] at he
      subst he
      have HD := hid (readE_small h3 hr)
      have HR := hid (tell_put (j := jd) h2 h3)
      have E1 : BlockIs (w1.alloc (.cells #[.int .i64 d.term, .int .i64 d.kind, .string d.data] 110)) w1.heap.size 110 [.int .i64 d.term, .int .i64 d.kind, .string d.data] := heap_alloc_new w1 _
      have b1 := below_more b1 (.cells #[.int .i64 d.term, .int .i64 d.kind, .string d.data] 110)
      have e0 := E1.cell (j := 0) rfl
      have e1 := E1.cell (j := 1) rfl
      have e2 := E1.cell (j := 2) rfl
      have J1 := hid (J0.out.on b1 J0.out.lt)
      have P1 := hid (P0.out.on b1 P0.out.lt)
      have B1 := hid (below_via B0.out b1)
      have O1 := hid (own_to O0.out b1)
      clear h2 h3 p0 p1 p2 p3 p4 p5 q0 q1 q2 q3 q4 q5 b1 P0 B0 O0 J0 hW
      have c0 := J1.out.cell (j := 0) rfl
      have c1 := J1.out.cell (j := 1) rfl
      have c2 := J1.out.cell (j := 2) rfl
      have c3 := J1.out.cell (j := 3) rfl
      have c4 := J1.out.cell (j := 4) rfl
      have c5 := J1.out.cell (j := 5) rfl
      go_wp2_with fail
      refine (implLogPut_any jd.s jd.t i d vo jd.l vc hs64 hl HSM.out HD.out hvc _ O1.out.ents).mono ?_
      rintro e w2 ⟨po, pc, rfl, hpc, o2, b2⟩
      obtain ⟨S, hS⟩ : ∃ x, (putAns jd.s jd.t jd.l i d).1.1 = x := ⟨_, rfl⟩
      obtain ⟨T, hT⟩ : ∃ x, (putAns jd.s jd.t jd.l i d).1.2.1 = x := ⟨_, rfl⟩
      obtain ⟨A, hA⟩ : ∃ x, (putAns jd.s jd.t jd.l i d).1.2.2 = x := ⟨_, rfl⟩
      obtain ⟨ok, hok⟩ : ∃ x, (putAns jd.s jd.t jd.l i d).2 = x := ⟨_, rfl⟩
      rw [hS, hT, hA, hok] at HR
      rw [hA] at hpc o2
      rw [hS, hT, hA, hok]
      have J2 := hid (J1.out.on b2 J1.out.lt)
      have P2 := hid (P1.out.on b2 P1.out.lt)
      have B2 := hid (below_via B1.out b2)
      have O2 := hid (o2.down (Nat.le_trans HLO.out B1.out.size) (Nat.le_refl _))
      clear hS hT hA hok HD HSM e0 e1 e2 E1 c0 c1 c2 c3 c4 c5 J1 P1 B1 O1 o2 b2 hl hs64 hvc
      have c0 := J2.out.cell (j := 0) rfl
      have c1 := J2.out.cell (j := 1) rfl
      have c2 := J2.out.cell (j := 2) rfl
      have c3 := J2.out.cell (j := 3) rfl
      have c4 := J2.out.cell (j := 4) rfl
      have c5 := J2.out.cell (j := 5) rfl
      have f3 := J2.out.thaw 3
      have f4 := J2.out.thaw 4
      have f5 := J2.out.thaw 5
      have p0 := P2.out.cell (j := 0) rfl
      have p1 := P2.out.cell (j := 1) rfl
      have p2 := P2.out.cell (j := 2) rfl
      have p3 := P2.out.cell (j := 3) rfl
      have p4 := P2.out.cell (j := 4) rfl
      have p5 := P2.out.cell (j := 5) rfl
      have q0 := P2.out.thaw 0
      have q1 := P2.out.thaw 1
      have q2 := P2.out.thaw 2
      have q3 := P2.out.thaw 3
      have q4 := P2.out.thaw 4
      have q5 := P2.out.thaw 5
      have hne2 : w.heap.size ≠ w.heap.size + 1 := by omega
      have JA := ((J2.out.set 3 (.int .i64 S)).set 4 (.int .i64 T)).set 5 (.slice po A.length pc)
      have PA := ((P2.out.far (b := w.heap.size) (j := 3) hne2 (.int .i64 S)).far (b := w.heap.size) (j := 4) hne2 (.int .i64 T)).far (b := w.heap.size) (j := 5) hne2 (.slice po A.length pc)
      have OA := own_past (j := 5) (u := .slice po A.length pc) (own_past (j := 4) (u := .int .i64 T) (own_past (j := 3) (u := .int .i64 S) O2.out J2.out (by decide)) (J2.out.set 3 (.int .i64 S)) (by decide)) ((J2.out.set 3 (.int .i64 S)).set 4 (.int .i64 T)) (by decide)
      have OL := hid (own_past (j := 5) (u := .slice po A.length pc) (own_past (j := 4) (u := .int .i64 T) (own_past (j := 3) (u := .int .i64 S) (own_past (j := 2) (u := .int .i64 jd.vt) (own_past (j := 1) (u := .int .i64 jd.tm) (own_past (j := 0) (u := .int .i64 jd.n) OA PA (by decide)) (PA.set 0 _) (by decide)) ((PA.set 0 _).set 1 _) (by decide)) (((PA.set 0 _).set 1 _).set 2 _) (by decide)) ((((PA.set 0 _).set 1 _).set 2 _).set 3 _) (by decide)) (((((PA.set 0 _).set 1 _).set 2 _).set 3 _).set 4 _) (by decide))
      have BL := hid (((((((((B2.out.setCell (p := ⟨w.heap.size, 3, none⟩) (Nat.le_refl _) (.int .i64 S)).setCell (p := ⟨w.heap.size, 4, none⟩) (Nat.le_refl _) (.int .i64 T)).setCell (p := ⟨w.heap.size, 5, none⟩) (Nat.le_refl _) (.slice po A.length pc)).setCell (p := ⟨w.heap.size + 1, 0, none⟩) hle1 (.int .i64 jd.n)).setCell (p := ⟨w.heap.size + 1, 1, none⟩) hle1 (.int .i64 jd.tm)).setCell (p := ⟨w.heap.size + 1, 2, none⟩) hle1 (.int .i64 jd.vt)).setCell (p := ⟨w.heap.size + 1, 3, none⟩) hle1 (.int .i64 S)).setCell (p := ⟨w.heap.size + 1, 4, none⟩) hle1 (.int .i64 T)).setCell (p := ⟨w.heap.size + 1, 5, none⟩) hle1 (.slice po A.length pc))
      clear JA PA OA O2 B2 J2 P2
      go_wp2
      refine bodyPost_ret (v := .tuple #[.agg #[.int .i64 jd.n, .int .i64 jd.tm, .int .i64 jd.vt, .int .i64 S, .int .i64 T, .slice po A.length pc], .bool ok]) (by simp [results, Tryz.results77, go_sem, p0, p1, p2, p3, p4, p5]) rfl ?_
      rw [HR.out]
      refine ⟨⟨jd.n, jd.tm, jd.vt, S, T, A⟩, po, pc, ?_, hpc, OL.out, BL.out, ?_⟩
      · cases ok <;> rfl
      · intro k q
        cases ok
        · simp at q
        · simp at q
          exact q.symm ▸ rfl
end Go.Proofs.YtbifkpkhpaellaaGreatDoor

namespace Go.Proofs.YtbifkpkhpaellaaGreatDoor
open Go.RowKit

set_option maxRecDepth 1000000 in
set_option maxHeartbeats 4000000 in
theorem told_first (jd : JouD) (vo : Option Addr) (vc lo : Nat) (r : ByteArray) (hr : r.size ≤ 1048576) (w : World) :
    Calls Tryz.prog 77 #[.agg #[.int .i64 jd.n, .int .i64 jd.tm, .int .i64 jd.vt, .int .i64 jd.s, .int .i64 jd.t, .slice vo jd.l.length vc], .string r, .bool true] w fun e w' => TellDid (tellFirst jd r) lo w e w' := by
  have h2 := two_jour w (.cells #[.int .i64 jd.n, .int .i64 jd.tm, .int .i64 jd.vt, .int .i64 jd.s, .int .i64 jd.t, .slice vo jd.l.length vc] 30) (.cells #[.int .i64 0, .int .i64 0, .int .i64 0, .int .i64 0, .int .i64 0, .slice none 0 0] 30)
  have J0 : Hid (BlockIs _ w.heap.size 30 [.int .i64 jd.n, .int .i64 jd.tm, .int .i64 jd.vt, .int .i64 jd.s, .int .i64 jd.t, .slice vo jd.l.length vc]) := h2.2.2.1
  have P0 : Hid (BlockIs _ (w.heap.size + 1) 30 [.int .i64 0, .int .i64 0, .int .i64 0, .int .i64 0, .int .i64 0, .slice none 0 0]) := h2.2.2.2
  have B0 := hid h2.1
  clear h2
  obtain ⟨W, hW⟩ : ∃ W, (w.alloc (.cells #[.int .i64 jd.n, .int .i64 jd.tm, .int .i64 jd.vt, .int .i64 jd.s, .int .i64 jd.t, .slice vo jd.l.length vc] 30)).alloc (.cells #[.int .i64 0, .int .i64 0, .int .i64 0, .int .i64 0, .int .i64 0, .slice none 0 0] 30) = W := ⟨_, rfl⟩
  rw [hW] at J0 P0 B0
  have hle1 : w.heap.size ≤ w.heap.size + 1 := Nat.le_succ _
  have hne : w.heap.size + 1 ≠ w.heap.size := by omega
  have hne2 : w.heap.size ≠ w.heap.size + 1 := by omega
  go_enter Tryz.func77, Tryz.ntmps77
  go_wp2_with fail
  refine (readPair_any 66 r hr _).mono ?_
  rintro e w1 ⟨⟨x, y, rfl, hx, hy, hxy⟩, hw⟩
  rw [hw]
  clear hw w1
  have c0 := J0.out.cell (j := 0) rfl
  have c1 := J0.out.cell (j := 1) rfl
  have c2 := J0.out.cell (j := 2) rfl
  have c3 := J0.out.cell (j := 3) rfl
  have c4 := J0.out.cell (j := 4) rfl
  have c5 := J0.out.cell (j := 5) rfl
  have f3 := J0.out.thaw 3
  have f4 := J0.out.thaw 4
  have f5 := J0.out.thaw 5
  have JA := hid (((J0.out.set 3 (.int .i64 (x : Int))).set 4 (.int .i64 (y : Int))).set 5 (.slice none 0 0))
  have PA := hid (((P0.out.far (b := w.heap.size) (j := 3) hne2 (.int .i64 (x : Int))).far (b := w.heap.size) (j := 4) hne2 (.int .i64 (y : Int))).far (b := w.heap.size) (j := 5) hne2 (.slice none 0 0))
  have BA := hid (((B0.out.setCell (p := ⟨w.heap.size, 3, none⟩) (Nat.le_refl _) (.int .i64 (x : Int))).setCell (p := ⟨w.heap.size, 4, none⟩) (Nat.le_refl _) (.int .i64 (y : Int))).setCell (p := ⟨w.heap.size, 5, none⟩) (Nat.le_refl _) (.slice none 0 0))
  obtain ⟨bk, hbk⟩ : ∃ z, (readTwo 66 r).isSome = z := ⟨_, rfl⟩
  rw [hbk]
  go_upto_region 4 with fail
  obtain ⟨W1, hW1⟩ : ∃ z, ((W.setCell ⟨w.heap.size, 3, none⟩ (.int .i64 (x : Int))).setCell ⟨w.heap.size, 4, none⟩ (.int .i64 (y : Int))).setCell ⟨w.heap.size, 5, none⟩ (.slice none 0 0) = z := ⟨_, rfl⟩
  rw [hW1] at JA PA BA ⊢
  clear c0 c1 c2 c3 c4 c5 f3 f4 f5 J0 P0 B0 hW hW1
  have JA : Hid (BlockIs W1 w.heap.size 30 [.int .i64 jd.n, .int .i64 jd.tm, .int .i64 jd.vt, .int .i64 x, .int .i64 y, .slice none 0 0]) := JA
  have c0 := JA.out.cell (j := 0) rfl
  have c1 := JA.out.cell (j := 1) rfl
  have c2 := JA.out.cell (j := 2) rfl
  have c3 := JA.out.cell (j := 3) rfl
  have c4 := JA.out.cell (j := 4) rfl
  have c5 := JA.out.cell (j := 5) rfl
  cases bk with
  | false =>
    have p0 := PA.out.cell (j := 0) rfl
    have p1 := PA.out.cell (j := 1) rfl
    have p2 := PA.out.cell (j := 2) rfl
    have p3 := PA.out.cell (j := 3) rfl
    have p4 := PA.out.cell (j := 4) rfl
    have p5 := PA.out.cell (j := 5) rfl
    have q0 := PA.out.thaw 0
    have q1 := PA.out.thaw 1
    have q2 := PA.out.thaw 2
    have q3 := PA.out.thaw 3
    have q4 := PA.out.thaw 4
    have q5 := PA.out.thaw 5
    have h0 : tellFirst jd r = none := by
      unfold tellFirst
      cases h : readTwo 66 r with
      | none => rfl
      | some p => rw [h] at hbk; cases hbk
    clear JA
    go_region
    have BL := hid ((((((BA.out.setCell (p := ⟨w.heap.size + 1, 0, none⟩) hle1 (.int .i64 jd.n)).setCell (p := ⟨w.heap.size + 1, 1, none⟩) hle1 (.int .i64 jd.tm)).setCell (p := ⟨w.heap.size + 1, 2, none⟩) hle1 (.int .i64 jd.vt)).setCell (p := ⟨w.heap.size + 1, 3, none⟩) hle1 (.int .i64 (x : Int))).setCell (p := ⟨w.heap.size + 1, 4, none⟩) hle1 (.int .i64 (y : Int))).setCell (p := ⟨w.heap.size + 1, 5, none⟩) hle1 (.slice none 0 0)).drew
    go_wp2
    refine bodyPost_ret (v := .tuple #[.agg #[.int .i64 jd.n, .int .i64 jd.tm, .int .i64 jd.vt, .int .i64 x, .int .i64 y, .slice none 0 0], .bool false]) (by simp [results, Tryz.results77, go_sem, p0, p1, p2, p3, p4, p5]) rfl ?_
    rw [h0]
    exact ⟨⟨jd.n, jd.tm, jd.vt, x, y, []⟩, none, 0, rfl, Nat.le_refl _, Or.inl rfl, BL.out, fun k q => by cases q⟩
  | true =>
    obtain ⟨ok, hok⟩ : ∃ z, logOk x y [] = z := ⟨_, rfl⟩
    have h0 : tellFirst jd r = if ok = true then some ⟨jd.n, jd.tm, jd.vt, x, y, []⟩ else none := by
      unfold tellFirst
      cases h : readTwo 66 r with
      | none => rw [h] at hbk; cases hbk
      | some p =>
        obtain ⟨a, b⟩ := p
        obtain ⟨rfl, rfl⟩ := hxy a b h
        simp only [hok]
    clear hbk hxy
    have CL := implLogOk_any x y none [] 0 (by simp) W1.drew (fun h => absurd rfl h)
    rw [hok] at CL
    have bd : Below W1.heap.size W1 W1.drew := (Below.refl _ _).drew
    have CL := hid CL
    clear hok
    go_region_with (go_at_call 94; refine CL.out.mono ?_; rintro e w2 ⟨rfl, b2⟩; have b2 := below_via bd b2; have J2 := hid (JA.out.on b2 JA.out.lt); have P2 := hid (PA.out.on b2 PA.out.lt); have B2 := hid (below_via BA.out b2); clear b2; have d0 := J2.out.cell (j := 0) rfl; have d1 := J2.out.cell (j := 1) rfl; have d2 := J2.out.cell (j := 2) rfl; have d3 := J2.out.cell (j := 3) rfl; have d4 := J2.out.cell (j := 4) rfl; have d5 := J2.out.cell (j := 5) rfl; have p0 := P2.out.cell (j := 0) rfl; have q0 := P2.out.thaw 0; have p1 := P2.out.cell (j := 1) rfl; have q1 := P2.out.thaw 1; have p2 := P2.out.cell (j := 2) rfl; have q2 := P2.out.thaw 2; have p3 := P2.out.cell (j := 3) rfl; have q3 := P2.out.thaw 3; have p4 := P2.out.cell (j := 4) rfl; have q4 := P2.out.thaw 4; have p5 := P2.out.cell (j := 5) rfl; have q5 := P2.out.thaw 5)
    all_goals
      have BL := hid ((((((B2.out.setCell (p := ⟨w.heap.size + 1, 0, none⟩) hle1 (.int .i64 jd.n)).setCell (p := ⟨w.heap.size + 1, 1, none⟩) hle1 (.int .i64 jd.tm)).setCell (p := ⟨w.heap.size + 1, 2, none⟩) hle1 (.int .i64 jd.vt)).setCell (p := ⟨w.heap.size + 1, 3, none⟩) hle1 (.int .i64 (x : Int))).setCell (p := ⟨w.heap.size + 1, 4, none⟩) hle1 (.int .i64 (y : Int))).setCell (p := ⟨w.heap.size + 1, 5, none⟩) hle1 (.slice none 0 0))
      go_wp2
      refine bodyPost_ret (v := .tuple #[.agg #[.int .i64 jd.n, .int .i64 jd.tm, .int .i64 jd.vt, .int .i64 x, .int .i64 y, .slice none 0 0], .bool ok]) (by simp [results, Tryz.results77, go_sem, p0, p1, p2, p3, p4, p5]) rfl ?_
      rw [h0]
      refine ⟨⟨jd.n, jd.tm, jd.vt, x, y, []⟩, none, 0, ?_, Nat.le_refl _, Or.inl rfl, BL.out, ?_⟩
      · cases ok <;> rfl
      · intro k q
        cases ok
        · simp at q
        · simp at q
          exact q.symm ▸ rfl
end Go.Proofs.YtbifkpkhpaellaaGreatDoor
