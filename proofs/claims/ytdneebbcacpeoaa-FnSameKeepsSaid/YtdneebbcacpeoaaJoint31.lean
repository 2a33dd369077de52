/-
  The walk of spec.DrawSameKeep: two keeps of few rows, in memory of the call's own.
-/
import Derived.Test.YtdneebbcacpeoaaJoint28
import Derived.Test.YtdneebbcacpeoaaJoint29
import Derived.Test.YtdneebbcacpeoaaJoint30
namespace Go.Proofs.Ytdneebbcacpeoaa
open Go.RowKit Go.Sort

def SameKeepDrew (w : World) (e : Ending) (w' : World) : Prop := ∃ va vc vb vd ls li va2 vc2 vb2 vd2 ms mi, e = .returned (.tuple #[.agg #[.slice va (List.length ls) vc, .slice vb (List.length li) vd], .agg #[.slice va2 (List.length ms) vc2, .slice vb2 (List.length mi) vd2]]) ∧ (ls.length ≤ 100 ∧ li.length ≤ 100 ∧ ms.length ≤ 100 ∧ mi.length ≤ 100) ∧ KRows w' w.heap.size (.slice va ls.length vc) (.slice vb li.length vd) ls li ∧ KRows w' w.heap.size (.slice va2 ms.length vc2) (.slice vb2 mi.length vd2) ms mi ∧ Below w.heap.size w w'
theorem val_set (l : List ItemD) (x : ByteArray) : ∃ M : List ItemD, M.length = l.length ∧ (itemCells l).set 1 (.string x) = itemCells M := by
  cases l with
  | nil => exact ⟨[], rfl, rfl⟩
  | cons e0 r => exact ⟨⟨e0.key, x, e0.ver⟩ :: r, rfl, rfl⟩
theorem last_set (l : List SessionD) (x : Int) : ∃ M : List SessionD, M.length = l.length ∧ (sessionCells l).set 1 (.int .i64 x) = sessionCells M := by
  cases l with
  | nil => exact ⟨[], rfl, rfl⟩
  | cons e0 r => exact ⟨⟨e0.token, x, e0.reply⟩ :: r, rfl, rfl⟩
theorem two_keepS (w : World) (o p : Obj) : Below w.heap.size w ((w.alloc o).alloc p) ∧ ((w.alloc o).alloc p).heap.size = w.heap.size + 2 ∧ ((w.alloc o).alloc p).heap[w.heap.size]? = some o ∧ ((w.alloc o).alloc p).heap[w.heap.size + 1]? = some p := by
  refine ⟨below_more (below_more (Below.refl _ w) o) p, by simp [World.alloc, -World.alloc_eq], ?_, ?_⟩
  · show ((w.heap.push _).push _)[w.heap.size]? = some _
    rw [Array.getElem?_push, if_neg (by simp), Array.getElem?_push, if_pos rfl]
  · show ((w.heap.push _).push _)[w.heap.size + 1]? = some _
    rw [Array.getElem?_push, if_pos (by simp)]
theorem below_curK {w w1 w2 : World} {C : Nat} (hb : Below w.heap.size w w1) (hg : w1.grownBy w2 (some C)) (h : w.heap.size ≤ C) : Below w.heap.size w w2 :=
  hb.trans ⟨hg.os, hg.tape, hg.output, hg.size, fun k hk' => hg.block k (by have := hb.size; omega) (by intro e; simp at e; omega)⟩
theorem BlockIs.cur2 {w w' : World} {b C : Nat} {t : TypeId} {cs : List Value} (h : BlockIs w b t cs) (hg : w.grownBy w' (some C)) (hb : b ≠ C) : BlockIs w' b t cs := by
  unfold BlockIs
  rw [hg.block b h.lt (by simp; omega)]
  exact h

set_option maxRecDepth 1000000 in
set_option maxHeartbeats 4000000 in
theorem drawSameKeep_any (ao : Option Addr) (len cap : Nat) (hlen : len ≤ 1048576) (hcap : len ≤ cap) (w : World) (hr : Bytes w ao len) :
    Calls Try.prog 5 #[.slice ao len cap] w fun e w' => SameKeepDrew w e w' := by
  obtain ⟨be, hsz, hr1, hr2⟩ := two_keepS w (.cells #[.slice none 0 0, .slice none 0 0] 27) (.cells #[.slice none 0 0, .slice none 0 0] 27)
  have HBY := hid (bytes_on hr be)
  clear hr
  have x1 : BlockIs ((w.alloc (.cells #[.slice none 0 0, .slice none 0 0] 27)).alloc (.cells #[.slice none 0 0, .slice none 0 0] 27)) w.heap.size 27 [.slice none 0 0, .slice none 0 0] := hr1
  have x2 : BlockIs ((w.alloc (.cells #[.slice none 0 0, .slice none 0 0] 27)).alloc (.cells #[.slice none 0 0, .slice none 0 0] 27)) (w.heap.size + 1) 27 [.slice none 0 0, .slice none 0 0] := hr2
  obtain ⟨W0, hW0⟩ : ∃ W, (w.alloc (.cells #[.slice none 0 0, .slice none 0 0] 27)).alloc (.cells #[.slice none 0 0, .slice none 0 0] 27) = W := ⟨_, rfl⟩
  rw [hW0] at be hsz x1 x2 HBY
  have B0 := hid be
  have R10 := hid x1
  have R20 := hid x2
  clear be hr1 hr2 x1 x2
  go_enter Try.func5, Try.ntmps5
  go_wp2_with fail
  refine (l01New_any ao len cap hlen hcap _ HBY.out).mono ?_
  rintro e w1 ⟨rfl, k1, b1⟩
  obtain ⟨C, hC⟩ : ∃ C, W0.heap.size = C := ⟨_, rfl⟩
  rw [hC] at k1 ⊢
  have hC2 : w.heap.size + 1 < C := by omega
  have K1 := hid k1
  have B1 := hid (below_via B0.out b1)
  have R11 := hid (R10.out.on b1 R10.out.lt)
  have R21 := hid (R20.out.on b1 R20.out.lt)
  clear k1 b1 B0 R10 R20 HBY hsz hW0 hC
  go_wp2_with fail
  refine Calls.mono (l15Any_any C _ K1.out) ?_
  rintro e w2 ⟨va, vc, vb, vd, ls, li, rfl, ⟨hl, hl2⟩, hq, k2, q2⟩
  have hC1 : C < w1.heap.size := K1.out.lt
  have K2 := hid k2
  have B2 := hid (below_curK B1.out q2 (by omega))
  have R12 := hid (R11.out.cur2 q2 (by omega))
  have R22 := hid (R21.out.cur2 q2 (by omega))
  have Q2 := hid (hq.down (show C + 1 ≤ w1.heap.size from hC1))
  clear k2 q2 hq K1 B1 R11 R21 hC1
  have ba := below_more (Below.refl w2.heap.size w2) (.cells #[.slice none 0 0, .slice none 0 0] 27)
  have hx : BlockIs (w2.alloc (.cells #[.slice none 0 0, .slice none 0 0] 27)) w2.heap.size 27 [.slice none 0 0, .slice none 0 0] := heap_alloc_new w2 _
  have MR1xa := hid R12.out.lt
  have MR2xa := hid R22.out.lt
  have MCxa := hid K2.out.lt
  have T := hid (K2.out.below ba)
  have T2 := hid (below_via B2.out ba)
  have R1T := hid (R12.out.on ba R12.out.lt)
  have R2T := hid (R22.out.on ba R22.out.lt)
  have QT := hid (Q2.out.on ba)
  clear ba K2 B2 R12 R22 Q2
  obtain ⟨Wxa, hWxa⟩ : ∃ W, w2.alloc (.cells #[.slice none 0 0, .slice none 0 0] 27) = W := ⟨_, rfl⟩
  rw [hWxa] at hx T T2 R1T R2T QT
  have hloxa : w.heap.size ≤ w2.heap.size := by have := MCxa.out; omega
  obtain ⟨xa, hxa⟩ : ∃ b, w2.heap.size = b := ⟨_, rfl⟩
  rw [hxa] at hx hloxa MCxa MR1xa MR2xa
  have c0 := hx.cell (j := 0) rfl
  have c1 := hx.cell (j := 1) rfl
  have f0 := hx.thaw 0
  have f1 := hx.thaw 1
  have Kxa := hid ((T.out.set (b := xa) (j := 0) (v := .slice va ls.length vc) MCxa.out).set (b := xa) (j := 1) (v := .slice vb li.length vd) MCxa.out)
  have Bxa := hid ((T2.out.setCell (p := ⟨xa, 0, none⟩) hloxa (.slice va ls.length vc)).setCell (p := ⟨xa, 1, none⟩) hloxa (.slice vb li.length vd))
  have R1xa := hid ((R1T.out.far (b := xa) (j := 0) (by have := MR1xa.out; omega) (.slice va ls.length vc)).far (b := xa) (j := 1) (by have := MR1xa.out; omega) (.slice vb li.length vd))
  have R2xa := hid ((R2T.out.far (b := xa) (j := 0) (by have := MR2xa.out; omega) (.slice va ls.length vc)).far (b := xa) (j := 1) (by have := MR2xa.out; omega) (.slice vb li.length vd))
  have Qxa := hid ((KRows.far (j := 0) QT.out hx (by decide) (by decide) (.slice va ls.length vc)).far (j := 1) (hx.set 0 _) (by decide) (by decide) (.slice vb li.length vd))
  have Xxa := hid ((hx.set 0 (.slice va ls.length vc)).set 1 (.slice vb li.length vd))
  clear hx T T2 R1T R2T QT
  go_wp2_with fail
  refine Calls.mono (l15Copy_any va vb ls li vc vd (by omega) (by omega) _ (sessionR_at Qxa.out.1) (itemR_at Qxa.out.2)) ?_
  rintro e w3 ⟨va2, vc2, vb2, vd2, rfl, hq, b3⟩
  have AH0 := Qxa.out.ahead
  obtain ⟨W3, hW3⟩ : ∃ W, (Wxa.setCell ⟨xa, 0, none⟩ (.slice va ls.length vc)).setCell ⟨xa, 1, none⟩ (.slice vb li.length vd) = W := ⟨_, rfl⟩
  rw [hW3] at hq b3 AH0 Kxa Bxa R1xa R2xa Qxa Xxa
  have hxaW : xa < W3.heap.size := Xxa.out.lt
  have AH := hid AH0
  have K3 := hid (Kxa.out.below b3)
  have B3 := hid (below_via Bxa.out b3)
  have R13 := hid (R1xa.out.on b3 R1xa.out.lt)
  have R23 := hid (R2xa.out.on b3 R2xa.out.lt)
  have Q3 := hid (Qxa.out.on b3)
  have X3 := hid (Xxa.out.on b3 Xxa.out.lt)
  obtain ⟨NA, hNA⟩ : ∃ n, W3.heap.size = n := ⟨_, rfl⟩
  rw [hNA] at hq AH hxaW
  have P3 := hid hq
  clear hq b3 AH0 Kxa Bxa R1xa R2xa Qxa Xxa c0 c1 f0 f1 hWxa hxa hW3
  have ba := below_more (Below.refl w3.heap.size w3) (.cells #[.slice none 0 0, .slice none 0 0] 27)
  have hx : BlockIs (w3.alloc (.cells #[.slice none 0 0, .slice none 0 0] 27)) w3.heap.size 27 [.slice none 0 0, .slice none 0 0] := heap_alloc_new w3 _
  have MR1xb := hid R13.out.lt
  have MR2xb := hid R23.out.lt
  have MAxb := hid X3.out.lt
  have MCxb := hid K3.out.lt
  have T := hid (K3.out.below ba)
  have T2 := hid (below_via B3.out ba)
  have R1T := hid (R13.out.on ba R13.out.lt)
  have R2T := hid (R23.out.on ba R23.out.lt)
  have AT := hid (X3.out.on ba X3.out.lt)
  have QT := hid (Q3.out.on ba)
  have PT := hid (P3.out.on ba)
  clear ba K3 B3 R13 R23 X3 Q3 P3
  obtain ⟨Wxb, hWxb⟩ : ∃ W, w3.alloc (.cells #[.slice none 0 0, .slice none 0 0] 27) = W := ⟨_, rfl⟩
  rw [hWxb] at hx T T2 R1T R2T AT QT PT
  have hloxb : w.heap.size ≤ w3.heap.size := by have := MCxb.out; omega
  obtain ⟨xb, hxb⟩ : ∃ b, w3.heap.size = b := ⟨_, rfl⟩
  rw [hxb] at hx hloxb MCxb MR1xb MR2xb MAxb
  have c0 := hx.cell (j := 0) rfl
  have c1 := hx.cell (j := 1) rfl
  have f0 := hx.thaw 0
  have f1 := hx.thaw 1
  have Kxb := hid ((T.out.set (b := xb) (j := 0) (v := .slice va2 ls.length vc2) MCxb.out).set (b := xb) (j := 1) (v := .slice vb2 li.length vd2) MCxb.out)
  have Bxb := hid ((T2.out.setCell (p := ⟨xb, 0, none⟩) hloxb (.slice va2 ls.length vc2)).setCell (p := ⟨xb, 1, none⟩) hloxb (.slice vb2 li.length vd2))
  have R1xb := hid ((R1T.out.far (b := xb) (j := 0) (by have := MR1xb.out; omega) (.slice va2 ls.length vc2)).far (b := xb) (j := 1) (by have := MR1xb.out; omega) (.slice vb2 li.length vd2))
  have R2xb := hid ((R2T.out.far (b := xb) (j := 0) (by have := MR2xb.out; omega) (.slice va2 ls.length vc2)).far (b := xb) (j := 1) (by have := MR2xb.out; omega) (.slice vb2 li.length vd2))
  have Axb := hid ((AT.out.far (b := xb) (j := 0) (by have := MAxb.out; omega) (.slice va2 ls.length vc2)).far (b := xb) (j := 1) (by have := MAxb.out; omega) (.slice vb2 li.length vd2))
  have Qxb := hid ((KRows.far (j := 0) QT.out hx (by decide) (by decide) (.slice va2 ls.length vc2)).far (j := 1) (hx.set 0 _) (by decide) (by decide) (.slice vb2 li.length vd2))
  have Pxb := hid ((KRows.far (j := 0) PT.out hx (by decide) (by decide) (.slice va2 ls.length vc2)).far (j := 1) (hx.set 0 _) (by decide) (by decide) (.slice vb2 li.length vd2))
  have Xxb := hid ((hx.set 0 (.slice va2 ls.length vc2)).set 1 (.slice vb2 li.length vd2))
  clear hx T T2 R1T R2T AT QT PT
  go_wp2_with fail
  refine Calls.mono (l01Below_any C 4 (by omega) (by omega) _ Kxb.out) ?_
  rintro e w4 ⟨y, rfl, y00, y01, k4, q4⟩
  have hxaC : C < xa := MCxa.out
  have hxbC : C < xb := MCxb.out
  have hab : xa < xb := MAxb.out
  have K := hid k4
  have B := hid (below_curK Bxb.out q4 (by omega))
  have R1 := hid (R1xb.out.cur2 q4 (by omega))
  have R2 := hid (R2xb.out.cur2 q4 (by omega))
  have XA := hid (Axb.out.cur q4 hxaC)
  have QA := hid (Qxb.out.cur q4 (by omega))
  have XB := hid (Xxb.out.cur q4 hxbC)
  have QB := hid (Pxb.out.cur q4 (by omega))
  clear k4 q4 Kxb Bxb R1xb R2xb Axb Qxb Xxb Pxb c0 c1 f0 f1 hWxb hxb hNA MCxa MCxb MAxb
  by_cases y0 : y = 0
  · subst y0
    have c0 := XB.out.cell (j := 0) rfl
    have c1 := XB.out.cell (j := 1) rfl
    go_wp2_with fail
    refine Calls.mono (l15Any_any C _ K.out) ?_
    rintro e w5 ⟨va9, vc9, vb9, vd9, ms, mi, rfl, ⟨hm, hm2⟩, hq, k5, q5⟩
    have hx := XB.out.cur q5 hxbC
    have f0 := hx.thaw 0
    have f1 := hx.thaw 1
    have e0 := hx.cell (j := 0) rfl
    have e1 := hx.cell (j := 1) rfl
    have hB4 := B.out.size
    have K2 := hid ((k5.set (b := xb) (j := 0) (v := .slice va9 ms.length vc9) hxbC).set (b := xb) (j := 1) (v := .slice vb9 mi.length vd9) hxbC)
    have B2 := hid (((below_curK B.out q5 (by omega)).setCell (p := ⟨xb, 0, none⟩) (by show w.heap.size ≤ xb; omega) (.slice va9 ms.length vc9)).setCell (p := ⟨xb, 1, none⟩) (by show w.heap.size ≤ xb; omega) (.slice vb9 mi.length vd9))
    have R12 := hid (((R1.out.cur2 q5 (by omega)).far (b := xb) (j := 0) (by omega) (.slice va9 ms.length vc9)).far (b := xb) (j := 1) (by omega) (.slice vb9 mi.length vd9))
    have R22 := hid (((R2.out.cur2 q5 (by omega)).far (b := xb) (j := 0) (by omega) (.slice va9 ms.length vc9)).far (b := xb) (j := 1) (by omega) (.slice vb9 mi.length vd9))
    have XA2 := hid (((XA.out.cur q5 hxaC).far (b := xb) (j := 0) (by omega) (.slice va9 ms.length vc9)).far (b := xb) (j := 1) (by omega) (.slice vb9 mi.length vd9))
    have QA2 := hid ((KRows.far (j := 0) (QA.out.cur q5 (by omega)) hx (by decide) (by decide) (.slice va9 ms.length vc9)).far (j := 1) (hx.set 0 _) (by decide) (by decide) (.slice vb9 mi.length vd9))
    have QB2 := hid ((KRows.far (j := 0) (hq.down hB4) hx (by decide) (by decide) (.slice va9 ms.length vc9)).far (j := 1) (hx.set 0 _) (by decide) (by decide) (.slice vb9 mi.length vd9))
    have XB2 := hid ((hx.set 0 (.slice va9 ms.length vc9)).set 1 (.slice vb9 mi.length vd9))
    clear hq k5 q5 hx K B R1 R2 XA QA XB QB c0 c1
    have K := K2
    have B := B2
    have R1 := R12
    have R2 := R22
    have XA := XA2
    have QA := QA2
    have XB := XB2
    have QB := QB2
    clear K2 B2 R12 R22 XA2 QA2 XB2 QB2
    go_wp2
    refine wp_region_from (N := 47) (by kernel_rfl) (by kernel_rfl) rfl (by kernel_rfl) (fun W => Below w.heap.size w W ∧ BlockIs W xa 27 [.slice va ls.length vc, .slice vb li.length vd] ∧ BlockIs W xb 27 [.slice va9 ms.length vc9, .slice vb9 mi.length vd9] ∧ KRows W (C + 1) (.slice va ls.length vc) (.slice vb li.length vd) ls li ∧ KRows W w.heap.size (.slice va9 ms.length vc9) (.slice vb9 mi.length vd9) ms mi) (fun j v _ W => match j with | 0 => v = .agg #[.slice va ls.length vc, .slice vb li.length vd] | 1 => v = .agg #[.slice va9 ms.length vc9, .slice vb9 mi.length vd9] | 2 => BlockIs W w.heap.size 27 [.slice va ls.length vc, .slice vb li.length vd] | 3 => BlockIs W (w.heap.size + 1) 27 [.slice va9 ms.length vc9, .slice vb9 mi.length vd9] | _ => True) (fun i => i) (fun _ _ => false) (fun i x y => ∀ g ty cs, BlockIs x g ty cs → (i = 2 → g ≠ w.heap.size) → (i = 3 → g ≠ w.heap.size + 1) → BlockIs y g ty cs) (fun q9 W => match q9 with | 0 => BlockIs W w.heap.size 27 [.slice none 0 0, .slice none 0 0] | 1 => BlockIs W (w.heap.size + 1) 27 [.slice none 0 0, .slice none 0 0] | _ => True) (fun m k => decide ((m, k) ∈ ([(0, 2), (1, 3)] : List (Nat × Nat)))) ?_ (fun _ => 0) (by kernel_rfl) (fun _ _ => rfl) ?_ ⟨below_via B.out (below_drewN (Below.refl _ _) 1), XA.out.on (below_drewN (Below.refl _ _) 1) XA.out.lt, XB.out.on (below_drewN (Below.refl _ _) 1) XB.out.lt, QA.out.on (below_drewN (Below.refl _ _) 1), QB.out.on (below_drewN (Below.refl _ _) 1)⟩ (fun q9 => match q9 with | 0 => R1.out.on (below_drewN (Below.refl _ _) 1) R1.out.lt | 1 => R2.out.on (below_drewN (Below.refl _ _) 1) R2.out.lt | _ + 2 => trivial) ?_ ?_
    · intro i m x9 y9 hen hxy hm
      match m, hen, hm with
      | 0, hen, hm =>
        simp at hen
        exact hxy _ _ _ hm (fun e => absurd e hen) (fun _ => by omega)
      | 1, hen, hm =>
        simp at hen
        exact hxy _ _ _ hm (fun _ => by omega) (fun e => absurd e hen)
      | n + 2, _, _ => exact trivial
    · intro i j v u x9 y9 hij hdd hwt hxy hg
      match j, hg with
      | 0, hg => exact hg
      | 1, hg => exact hg
      | 2, hg =>
        exact hxy _ _ _ hg (fun e => absurd e hij) (fun _ => by omega)
      | 3, hg =>
        exact hxy _ _ _ hg (fun _ => by omega) (fun e => absurd e hij)
      | n + 4, _ => exact trivial
    · refine ⟨?_, ?_, ?_, ?_, trivial⟩
      · intro A W hC hI hg hb
        have h5 : A.eval (.tmp 5) = .pointer (some ⟨xa, 0, none⟩) := hb 5 (base_of (by kernel_rfl))
        obtain ⟨hb1, hxa1, hxb1, hqa, hqb⟩ := hC
        have hc0 := hxa1.cell (j := 0) rfl
        have hc1 := hxa1.cell (j := 1) rfl
        exact does_value (v := .agg #[.slice va ls.length vc, .slice vb li.length vd]) (w' := W) (by simp only [execOp, h5]; simp [go_sem, hc0, hc1]) ⟨rfl, ⟨hb1, hxa1, hxb1, hqa, hqb⟩, fun _ _ _ h _ _ => h⟩
      · intro A W hC hI hg hb
        have h6 : A.eval (.tmp 6) = .pointer (some ⟨xb, 0, none⟩) := hb 6 (base_of (by kernel_rfl))
        obtain ⟨hb1, hxa1, hxb1, hqa, hqb⟩ := hC
        have hc0 := hxb1.cell (j := 0) rfl
        have hc1 := hxb1.cell (j := 1) rfl
        exact does_value (v := .agg #[.slice va9 ms.length vc9, .slice vb9 mi.length vd9]) (w' := W) (by simp only [execOp, h6]; simp [go_sem, hc0, hc1]) ⟨rfl, ⟨hb1, hxa1, hxb1, hqa, hqb⟩, fun _ _ _ h _ _ => h⟩
      · intro A W hC hI hg hb
        have h2 : A.eval (.tmp 2) = .pointer (some ⟨w.heap.size, 0, none⟩) := hb 2 (base_of (by kernel_rfl))
        have h45 : A.eval (.tmp 45) = .agg #[.slice va ls.length vc, .slice vb li.length vd] := hg 0 45 (by decide) rfl (by simp [Op.operands]) (by kernel_rfl) rfl
        have hz : BlockIs W w.heap.size 27 [.slice none 0 0, .slice none 0 0] := hI 0 (by kernel_rfl)
        obtain ⟨hb1, hxa1, hxb1, hqa, hqb⟩ := hC
        have c0 := hz.cell (j := 0) rfl
        have c1 := hz.cell (j := 1) rfl
        have f0 := hz.thaw 0
        have f1 := hz.thaw 1
        have far : ∀ p ty cs, BlockIs W p ty cs → p ≠ w.heap.size → BlockIs ((W.setCell ⟨w.heap.size, 0, none⟩ (.slice va ls.length vc)).setCell ⟨w.heap.size, 1, none⟩ (.slice vb li.length vd)) p ty cs := fun p ty cs hp hne => (hp.far (by omega) _).far (by omega) _
        exact does_skip (w' := (W.setCell ⟨w.heap.size, 0, none⟩ (.slice va ls.length vc)).setCell ⟨w.heap.size, 1, none⟩ (.slice vb li.length vd)) (by simp only [execOp, h2, h45]; simp [go_sem, c0, c1, f0, f1]) ⟨(hz.set 0 (.slice va ls.length vc)).set 1 (.slice vb li.length vd), ⟨(hb1.setCell (Nat.le_refl _) _).setCell (Nat.le_refl _) _, far _ _ _ hxa1 (by omega), far _ _ _ hxb1 (by omega), (KRows.far (j := 0) hqa hz (by decide) (by decide) _).far (j := 1) (hz.set 0 _) (by decide) (by decide) _, (KRows.far (j := 0) hqb hz (by decide) (by decide) _).far (j := 1) (hz.set 0 _) (by decide) (by decide) _⟩, fun p ty cs hp h2 h3 => far p ty cs hp (h2 rfl)⟩
      · intro A W hC hI hg hb
        have h3 : A.eval (.tmp 3) = .pointer (some ⟨w.heap.size + 1, 0, none⟩) := hb 3 (base_of (by kernel_rfl))
        have h46 : A.eval (.tmp 46) = .agg #[.slice va9 ms.length vc9, .slice vb9 mi.length vd9] := hg 1 46 (by decide) rfl (by simp [Op.operands]) (by kernel_rfl) rfl
        have hz : BlockIs W (w.heap.size + 1) 27 [.slice none 0 0, .slice none 0 0] := hI 1 (by kernel_rfl)
        obtain ⟨hb1, hxa1, hxb1, hqa, hqb⟩ := hC
        have c0 := hz.cell (j := 0) rfl
        have c1 := hz.cell (j := 1) rfl
        have f0 := hz.thaw 0
        have f1 := hz.thaw 1
        have far : ∀ p ty cs, BlockIs W p ty cs → p ≠ w.heap.size + 1 → BlockIs ((W.setCell ⟨w.heap.size + 1, 0, none⟩ (.slice va9 ms.length vc9)).setCell ⟨w.heap.size + 1, 1, none⟩ (.slice vb9 mi.length vd9)) p ty cs := fun p ty cs hp hne => (hp.far (by omega) _).far (by omega) _
        exact does_skip (w' := (W.setCell ⟨w.heap.size + 1, 0, none⟩ (.slice va9 ms.length vc9)).setCell ⟨w.heap.size + 1, 1, none⟩ (.slice vb9 mi.length vd9)) (by simp only [execOp, h3, h46]; simp [go_sem, c0, c1, f0, f1]) ⟨(hz.set 0 (.slice va9 ms.length vc9)).set 1 (.slice vb9 mi.length vd9), ⟨(hb1.setCell (Nat.le_succ _) _).setCell (Nat.le_succ _) _, far _ _ _ hxa1 (by omega), far _ _ _ hxb1 (by omega), (KRows.far (j := 0) hqa hz (by decide) (by decide) _).far (j := 1) (hz.set 0 _) (by decide) (by decide) _, (KRows.far (j := 0) hqb hz (by decide) (by decide) _).far (j := 1) (hz.set 0 _) (by decide) (by decide) _⟩, fun p ty cs hp h2 h3 => far p ty cs hp (h3 rfl)⟩
    · intro vs wE hC hI hg
      have h1 := hg 2 (by decide) (fun k => by simp)
      have h2 := hg 3 (by decide) (fun k => by simp)
      clear hg hI
      obtain ⟨hb1, _, _, hqa, hqb⟩ := hC
      have h1 : BlockIs wE w.heap.size 27 [.slice va ls.length vc, .slice vb li.length vd] := h1
      have h2 : BlockIs wE (w.heap.size + 1) 27 [.slice va9 ms.length vc9, .slice vb9 mi.length vd9] := h2
      have z0 := h1.cell (j := 0) rfl
      have z1 := h1.cell (j := 1) rfl
      have z2 := h2.cell (j := 0) rfl
      have z3 := h2.cell (j := 1) rfl
      have HF := hid (And.intro hb1 (And.intro hqa hqb))
      clear h1 h2 hb1 hqa hqb K B R1 R2 XA XB QA QB
      change Exit.then _ _ _ (laidBy _ vs _ 4 _) wE
      simp only [laidBy, if_true, dstAt, List.getElem?_toArray, List.getElem?_cons_succ, List.getElem?_cons_zero, Option.bind_some]
      simp only [Act.put, List.setIfInBounds_toArray, List.set_cons_succ, List.set_cons_zero]
      go_wp2
      refine bodyPost_ret (v := .tuple #[.agg #[.slice va ls.length vc, .slice vb li.length vd], .agg #[.slice va9 ms.length vc9, .slice vb9 mi.length vd9]]) (by simp [results, Try.results5, go_sem, z0, z1, z2, z3]) rfl ?_
      exact ⟨_, _, _, _, ls, li, _, _, _, _, ms, mi, rfl, ⟨by omega, by omega, by omega, by omega⟩, HF.out.2.1.down (by omega), HF.out.2.2, HF.out.1⟩
  by_cases y1 : y = 1
  · subst y1
    have c0 := XB.out.cell (j := 0) rfl
    have c1 := XB.out.cell (j := 1) rfl
    by_cases hp : (0 : Int) < (li.length : Int)
    · have hpos : 0 < li.length := by omega
      have hne : ¬ li = [] := fun e => by subst e; simp at hpos
      obtain ⟨g, rr, hvb, hgl, hB⟩ := row_blockK hpos QB.out.2
      subst hvb
      have hc2 : w4.cell? ⟨g, 1, none⟩ = some (.string li[0].val) := hB.cell (row_at itemEnc 3 (fun _ => rfl) li rr 0 1 hpos (by omega))
      have hf2 := hB.thaw 1
      have K2 := hid (K.out.set (b := g) (j := 1) (v := .string ⟨#[111, 116, 104, 101, 114]⟩) (by omega))
      have B2 := hid (B.out.setCell (p := ⟨g, 1, none⟩) (by show w.heap.size ≤ g; omega) (.string ⟨#[111, 116, 104, 101, 114]⟩))
      have R12 := hid (R1.out.far (b := g) (j := 1) (fun e => by subst e; have h9 := (block_one R1.out hB).1; revert h9; decide) (.string ⟨#[111, 116, 104, 101, 114]⟩))
      have R22 := hid (R2.out.far (b := g) (j := 1) (fun e => by subst e; have h9 := (block_one R2.out hB).1; revert h9; decide) (.string ⟨#[111, 116, 104, 101, 114]⟩))
      have XA2 := hid (XA.out.far (b := g) (j := 1) (fun e => by subst e; have h9 := (block_one XA.out hB).1; revert h9; decide) (.string ⟨#[111, 116, 104, 101, 114]⟩))
      have XB2 := hid (XB.out.far (b := g) (j := 1) (fun e => by subst e; have h9 := (block_one XB.out hB).1; revert h9; decide) (.string ⟨#[111, 116, 104, 101, 114]⟩))
      have QA2 := hid (QA.out.behind (b := g) (j := 1) AH.out hgl (.string ⟨#[111, 116, 104, 101, 114]⟩))
      obtain ⟨M, hML, hMC⟩ := val_set li ⟨#[111, 116, 104, 101, 114]⟩
      have QB2 : Hid (KRows (w4.setCell ⟨g, 1, none⟩ (.string ⟨#[111, 116, 104, 101, 114]⟩)) w.heap.size (.slice va2 ls.length vc2) (.slice (some ⟨g, 0, none⟩) M.length vd2) ls M) := (show KRows _ _ _ _ _ _ from ⟨row_down (row_farK QB.out.1 hB (by decide) _) (show w.heap.size ≤ NA by omega), by rw [← hMC, hML]; exact row_down (row_setK QB.out.2 _) (show w.heap.size ≤ NA by omega)⟩)
      have XBM : Hid (BlockIs (w4.setCell ⟨g, 1, none⟩ (.string ⟨#[111, 116, 104, 101, 114]⟩)) xb 27 [.slice va2 ls.length vc2, .slice (some ⟨g, 0, none⟩) M.length vd2]) := by rw [hML]; exact XB2
      have HLM := hid hML
      clear K B R1 R2 XA QA XB QB XB2 hB hMC hML
      go_wp2_with fail
      have K := K2
      have B := B2
      have R1 := R12
      have R2 := R22
      have XA := XA2
      have QA := QA2
      have QB := QB2
      have XB := XBM
      clear XBM K2 B2 R12 R22 XA2 QA2 QB2
      go_wp2
      refine wp_region_from (N := 47) (by kernel_rfl) (by kernel_rfl) rfl (by kernel_rfl) (fun W => Below w.heap.size w W ∧ BlockIs W xa 27 [.slice va ls.length vc, .slice vb li.length vd] ∧ BlockIs W xb 27 [.slice va2 ls.length vc2, .slice (some ⟨g, 0, none⟩) M.length vd2] ∧ KRows W (C + 1) (.slice va ls.length vc) (.slice vb li.length vd) ls li ∧ KRows W w.heap.size (.slice va2 ls.length vc2) (.slice (some ⟨g, 0, none⟩) M.length vd2) ls M) (fun j v _ W => match j with | 0 => v = .agg #[.slice va ls.length vc, .slice vb li.length vd] | 1 => v = .agg #[.slice va2 ls.length vc2, .slice (some ⟨g, 0, none⟩) M.length vd2] | 2 => BlockIs W w.heap.size 27 [.slice va ls.length vc, .slice vb li.length vd] | 3 => BlockIs W (w.heap.size + 1) 27 [.slice va2 ls.length vc2, .slice (some ⟨g, 0, none⟩) M.length vd2] | _ => True) (fun i => i) (fun _ _ => false) (fun i x y => ∀ g ty cs, BlockIs x g ty cs → (i = 2 → g ≠ w.heap.size) → (i = 3 → g ≠ w.heap.size + 1) → BlockIs y g ty cs) (fun q9 W => match q9 with | 0 => BlockIs W w.heap.size 27 [.slice none 0 0, .slice none 0 0] | 1 => BlockIs W (w.heap.size + 1) 27 [.slice none 0 0, .slice none 0 0] | _ => True) (fun m k => decide ((m, k) ∈ ([(0, 2), (1, 3)] : List (Nat × Nat)))) ?_ (fun _ => 0) (by kernel_rfl) (fun _ _ => rfl) ?_ ⟨below_via B.out (below_drewN (Below.refl _ _) 1), XA.out.on (below_drewN (Below.refl _ _) 1) XA.out.lt, XB.out.on (below_drewN (Below.refl _ _) 1) XB.out.lt, QA.out.on (below_drewN (Below.refl _ _) 1), QB.out.on (below_drewN (Below.refl _ _) 1)⟩ (fun q9 => match q9 with | 0 => R1.out.on (below_drewN (Below.refl _ _) 1) R1.out.lt | 1 => R2.out.on (below_drewN (Below.refl _ _) 1) R2.out.lt | _ + 2 => trivial) ?_ ?_
      · intro i m x9 y9 hen hxy hm
        match m, hen, hm with
        | 0, hen, hm =>
          simp at hen
          exact hxy _ _ _ hm (fun e => absurd e hen) (fun _ => by omega)
        | 1, hen, hm =>
          simp at hen
          exact hxy _ _ _ hm (fun _ => by omega) (fun e => absurd e hen)
        | n + 2, _, _ => exact trivial
      · intro i j v u x9 y9 hij hdd hwt hxy hg
        match j, hg with
        | 0, hg => exact hg
        | 1, hg => exact hg
        | 2, hg =>
          exact hxy _ _ _ hg (fun e => absurd e hij) (fun _ => by omega)
        | 3, hg =>
          exact hxy _ _ _ hg (fun _ => by omega) (fun e => absurd e hij)
        | n + 4, _ => exact trivial
      · refine ⟨?_, ?_, ?_, ?_, trivial⟩
        · intro A W hC hI hg hb
          have h5 : A.eval (.tmp 5) = .pointer (some ⟨xa, 0, none⟩) := hb 5 (base_of (by kernel_rfl))
          obtain ⟨hb1, hxa1, hxb1, hqa, hqb⟩ := hC
          have hc0 := hxa1.cell (j := 0) rfl
          have hc1 := hxa1.cell (j := 1) rfl
          exact does_value (v := .agg #[.slice va ls.length vc, .slice vb li.length vd]) (w' := W) (by simp only [execOp, h5]; simp [go_sem, hc0, hc1]) ⟨rfl, ⟨hb1, hxa1, hxb1, hqa, hqb⟩, fun _ _ _ h _ _ => h⟩
        · intro A W hC hI hg hb
          have h6 : A.eval (.tmp 6) = .pointer (some ⟨xb, 0, none⟩) := hb 6 (base_of (by kernel_rfl))
          obtain ⟨hb1, hxa1, hxb1, hqa, hqb⟩ := hC
          have hc0 := hxb1.cell (j := 0) rfl
          have hc1 := hxb1.cell (j := 1) rfl
          exact does_value (v := .agg #[.slice va2 ls.length vc2, .slice (some ⟨g, 0, none⟩) M.length vd2]) (w' := W) (by simp only [execOp, h6]; simp [go_sem, hc0, hc1]) ⟨rfl, ⟨hb1, hxa1, hxb1, hqa, hqb⟩, fun _ _ _ h _ _ => h⟩
        · intro A W hC hI hg hb
          have h2 : A.eval (.tmp 2) = .pointer (some ⟨w.heap.size, 0, none⟩) := hb 2 (base_of (by kernel_rfl))
          have h45 : A.eval (.tmp 45) = .agg #[.slice va ls.length vc, .slice vb li.length vd] := hg 0 45 (by decide) rfl (by simp [Op.operands]) (by kernel_rfl) rfl
          have hz : BlockIs W w.heap.size 27 [.slice none 0 0, .slice none 0 0] := hI 0 (by kernel_rfl)
          obtain ⟨hb1, hxa1, hxb1, hqa, hqb⟩ := hC
          have c0 := hz.cell (j := 0) rfl
          have c1 := hz.cell (j := 1) rfl
          have f0 := hz.thaw 0
          have f1 := hz.thaw 1
          have far : ∀ p ty cs, BlockIs W p ty cs → p ≠ w.heap.size → BlockIs ((W.setCell ⟨w.heap.size, 0, none⟩ (.slice va ls.length vc)).setCell ⟨w.heap.size, 1, none⟩ (.slice vb li.length vd)) p ty cs := fun p ty cs hp hne => (hp.far (by omega) _).far (by omega) _
          exact does_skip (w' := (W.setCell ⟨w.heap.size, 0, none⟩ (.slice va ls.length vc)).setCell ⟨w.heap.size, 1, none⟩ (.slice vb li.length vd)) (by simp only [execOp, h2, h45]; simp [go_sem, c0, c1, f0, f1]) ⟨(hz.set 0 (.slice va ls.length vc)).set 1 (.slice vb li.length vd), ⟨(hb1.setCell (Nat.le_refl _) _).setCell (Nat.le_refl _) _, far _ _ _ hxa1 (by omega), far _ _ _ hxb1 (by omega), (KRows.far (j := 0) hqa hz (by decide) (by decide) _).far (j := 1) (hz.set 0 _) (by decide) (by decide) _, (KRows.far (j := 0) hqb hz (by decide) (by decide) _).far (j := 1) (hz.set 0 _) (by decide) (by decide) _⟩, fun p ty cs hp h2 h3 => far p ty cs hp (h2 rfl)⟩
        · intro A W hC hI hg hb
          have h3 : A.eval (.tmp 3) = .pointer (some ⟨w.heap.size + 1, 0, none⟩) := hb 3 (base_of (by kernel_rfl))
          have h46 : A.eval (.tmp 46) = .agg #[.slice va2 ls.length vc2, .slice (some ⟨g, 0, none⟩) M.length vd2] := hg 1 46 (by decide) rfl (by simp [Op.operands]) (by kernel_rfl) rfl
          have hz : BlockIs W (w.heap.size + 1) 27 [.slice none 0 0, .slice none 0 0] := hI 1 (by kernel_rfl)
          obtain ⟨hb1, hxa1, hxb1, hqa, hqb⟩ := hC
          have c0 := hz.cell (j := 0) rfl
          have c1 := hz.cell (j := 1) rfl
          have f0 := hz.thaw 0
          have f1 := hz.thaw 1
          have far : ∀ p ty cs, BlockIs W p ty cs → p ≠ w.heap.size + 1 → BlockIs ((W.setCell ⟨w.heap.size + 1, 0, none⟩ (.slice va2 ls.length vc2)).setCell ⟨w.heap.size + 1, 1, none⟩ (.slice (some ⟨g, 0, none⟩) M.length vd2)) p ty cs := fun p ty cs hp hne => (hp.far (by omega) _).far (by omega) _
          exact does_skip (w' := (W.setCell ⟨w.heap.size + 1, 0, none⟩ (.slice va2 ls.length vc2)).setCell ⟨w.heap.size + 1, 1, none⟩ (.slice (some ⟨g, 0, none⟩) M.length vd2)) (by simp only [execOp, h3, h46]; simp [go_sem, c0, c1, f0, f1]) ⟨(hz.set 0 (.slice va2 ls.length vc2)).set 1 (.slice (some ⟨g, 0, none⟩) M.length vd2), ⟨(hb1.setCell (Nat.le_succ _) _).setCell (Nat.le_succ _) _, far _ _ _ hxa1 (by omega), far _ _ _ hxb1 (by omega), (KRows.far (j := 0) hqa hz (by decide) (by decide) _).far (j := 1) (hz.set 0 _) (by decide) (by decide) _, (KRows.far (j := 0) hqb hz (by decide) (by decide) _).far (j := 1) (hz.set 0 _) (by decide) (by decide) _⟩, fun p ty cs hp h2 h3 => far p ty cs hp (h3 rfl)⟩
      · intro vs wE hC hI hg
        have h1 := hg 2 (by decide) (fun k => by simp)
        have h2 := hg 3 (by decide) (fun k => by simp)
        clear hg hI
        obtain ⟨hb1, _, _, hqa, hqb⟩ := hC
        have h1 : BlockIs wE w.heap.size 27 [.slice va ls.length vc, .slice vb li.length vd] := h1
        have h2 : BlockIs wE (w.heap.size + 1) 27 [.slice va2 ls.length vc2, .slice (some ⟨g, 0, none⟩) M.length vd2] := h2
        have z0 := h1.cell (j := 0) rfl
        have z1 := h1.cell (j := 1) rfl
        have z2 := h2.cell (j := 0) rfl
        have z3 := h2.cell (j := 1) rfl
        have HF := hid (And.intro hb1 (And.intro hqa hqb))
        clear h1 h2 hb1 hqa hqb K B R1 R2 XA XB QA QB
        change Exit.then _ _ _ (laidBy _ vs _ 4 _) wE
        simp only [laidBy, if_true, dstAt, List.getElem?_toArray, List.getElem?_cons_succ, List.getElem?_cons_zero, Option.bind_some]
        simp only [Act.put, List.setIfInBounds_toArray, List.set_cons_succ, List.set_cons_zero]
        go_wp2
        refine bodyPost_ret (v := .tuple #[.agg #[.slice va ls.length vc, .slice vb li.length vd], .agg #[.slice va2 ls.length vc2, .slice (some ⟨g, 0, none⟩) M.length vd2]]) (by simp [results, Try.results5, go_sem, z0, z1, z2, z3]) rfl ?_
        exact ⟨_, _, _, _, ls, li, _, _, _, _, ls, M, rfl, ⟨by omega, by omega, by omega, by have := HLM.out; omega⟩, HF.out.2.1.down (by omega), HF.out.2.2, HF.out.1⟩
    · skip
      have QB2 := hid (QB.out.down (show w.heap.size ≤ NA by omega))
      clear QB
      have QB := QB2
      clear QB2
      go_wp2
      refine wp_region_from (N := 47) (by kernel_rfl) (by kernel_rfl) rfl (by kernel_rfl) (fun W => Below w.heap.size w W ∧ BlockIs W xa 27 [.slice va ls.length vc, .slice vb li.length vd] ∧ BlockIs W xb 27 [.slice va2 ls.length vc2, .slice vb2 li.length vd2] ∧ KRows W (C + 1) (.slice va ls.length vc) (.slice vb li.length vd) ls li ∧ KRows W w.heap.size (.slice va2 ls.length vc2) (.slice vb2 li.length vd2) ls li) (fun j v _ W => match j with | 0 => v = .agg #[.slice va ls.length vc, .slice vb li.length vd] | 1 => v = .agg #[.slice va2 ls.length vc2, .slice vb2 li.length vd2] | 2 => BlockIs W w.heap.size 27 [.slice va ls.length vc, .slice vb li.length vd] | 3 => BlockIs W (w.heap.size + 1) 27 [.slice va2 ls.length vc2, .slice vb2 li.length vd2] | _ => True) (fun i => i) (fun _ _ => false) (fun i x y => ∀ g ty cs, BlockIs x g ty cs → (i = 2 → g ≠ w.heap.size) → (i = 3 → g ≠ w.heap.size + 1) → BlockIs y g ty cs) (fun q9 W => match q9 with | 0 => BlockIs W w.heap.size 27 [.slice none 0 0, .slice none 0 0] | 1 => BlockIs W (w.heap.size + 1) 27 [.slice none 0 0, .slice none 0 0] | _ => True) (fun m k => decide ((m, k) ∈ ([(0, 2), (1, 3)] : List (Nat × Nat)))) ?_ (fun _ => 0) (by kernel_rfl) (fun _ _ => rfl) ?_ ⟨below_via B.out (below_drewN (Below.refl _ _) 1), XA.out.on (below_drewN (Below.refl _ _) 1) XA.out.lt, XB.out.on (below_drewN (Below.refl _ _) 1) XB.out.lt, QA.out.on (below_drewN (Below.refl _ _) 1), QB.out.on (below_drewN (Below.refl _ _) 1)⟩ (fun q9 => match q9 with | 0 => R1.out.on (below_drewN (Below.refl _ _) 1) R1.out.lt | 1 => R2.out.on (below_drewN (Below.refl _ _) 1) R2.out.lt | _ + 2 => trivial) ?_ ?_
      · intro i m x9 y9 hen hxy hm
        match m, hen, hm with
        | 0, hen, hm =>
          simp at hen
          exact hxy _ _ _ hm (fun e => absurd e hen) (fun _ => by omega)
        | 1, hen, hm =>
          simp at hen
          exact hxy _ _ _ hm (fun _ => by omega) (fun e => absurd e hen)
        | n + 2, _, _ => exact trivial
      · intro i j v u x9 y9 hij hdd hwt hxy hg
        match j, hg with
        | 0, hg => exact hg
        | 1, hg => exact hg
        | 2, hg =>
          exact hxy _ _ _ hg (fun e => absurd e hij) (fun _ => by omega)
        | 3, hg =>
          exact hxy _ _ _ hg (fun _ => by omega) (fun e => absurd e hij)
        | n + 4, _ => exact trivial
      · refine ⟨?_, ?_, ?_, ?_, trivial⟩
        · intro A W hC hI hg hb
          have h5 : A.eval (.tmp 5) = .pointer (some ⟨xa, 0, none⟩) := hb 5 (base_of (by kernel_rfl))
          obtain ⟨hb1, hxa1, hxb1, hqa, hqb⟩ := hC
          have hc0 := hxa1.cell (j := 0) rfl
          have hc1 := hxa1.cell (j := 1) rfl
          exact does_value (v := .agg #[.slice va ls.length vc, .slice vb li.length vd]) (w' := W) (by simp only [execOp, h5]; simp [go_sem, hc0, hc1]) ⟨rfl, ⟨hb1, hxa1, hxb1, hqa, hqb⟩, fun _ _ _ h _ _ => h⟩
        · intro A W hC hI hg hb
          have h6 : A.eval (.tmp 6) = .pointer (some ⟨xb, 0, none⟩) := hb 6 (base_of (by kernel_rfl))
          obtain ⟨hb1, hxa1, hxb1, hqa, hqb⟩ := hC
          have hc0 := hxb1.cell (j := 0) rfl
          have hc1 := hxb1.cell (j := 1) rfl
          exact does_value (v := .agg #[.slice va2 ls.length vc2, .slice vb2 li.length vd2]) (w' := W) (by simp only [execOp, h6]; simp [go_sem, hc0, hc1]) ⟨rfl, ⟨hb1, hxa1, hxb1, hqa, hqb⟩, fun _ _ _ h _ _ => h⟩
        · intro A W hC hI hg hb
          have h2 : A.eval (.tmp 2) = .pointer (some ⟨w.heap.size, 0, none⟩) := hb 2 (base_of (by kernel_rfl))
          have h45 : A.eval (.tmp 45) = .agg #[.slice va ls.length vc, .slice vb li.length vd] := hg 0 45 (by decide) rfl (by simp [Op.operands]) (by kernel_rfl) rfl
          have hz : BlockIs W w.heap.size 27 [.slice none 0 0, .slice none 0 0] := hI 0 (by kernel_rfl)
          obtain ⟨hb1, hxa1, hxb1, hqa, hqb⟩ := hC
          have c0 := hz.cell (j := 0) rfl
          have c1 := hz.cell (j := 1) rfl
          have f0 := hz.thaw 0
          have f1 := hz.thaw 1
          have far : ∀ p ty cs, BlockIs W p ty cs → p ≠ w.heap.size → BlockIs ((W.setCell ⟨w.heap.size, 0, none⟩ (.slice va ls.length vc)).setCell ⟨w.heap.size, 1, none⟩ (.slice vb li.length vd)) p ty cs := fun p ty cs hp hne => (hp.far (by omega) _).far (by omega) _
          exact does_skip (w' := (W.setCell ⟨w.heap.size, 0, none⟩ (.slice va ls.length vc)).setCell ⟨w.heap.size, 1, none⟩ (.slice vb li.length vd)) (by simp only [execOp, h2, h45]; simp [go_sem, c0, c1, f0, f1]) ⟨(hz.set 0 (.slice va ls.length vc)).set 1 (.slice vb li.length vd), ⟨(hb1.setCell (Nat.le_refl _) _).setCell (Nat.le_refl _) _, far _ _ _ hxa1 (by omega), far _ _ _ hxb1 (by omega), (KRows.far (j := 0) hqa hz (by decide) (by decide) _).far (j := 1) (hz.set 0 _) (by decide) (by decide) _, (KRows.far (j := 0) hqb hz (by decide) (by decide) _).far (j := 1) (hz.set 0 _) (by decide) (by decide) _⟩, fun p ty cs hp h2 h3 => far p ty cs hp (h2 rfl)⟩
        · intro A W hC hI hg hb
          have h3 : A.eval (.tmp 3) = .pointer (some ⟨w.heap.size + 1, 0, none⟩) := hb 3 (base_of (by kernel_rfl))
          have h46 : A.eval (.tmp 46) = .agg #[.slice va2 ls.length vc2, .slice vb2 li.length vd2] := hg 1 46 (by decide) rfl (by simp [Op.operands]) (by kernel_rfl) rfl
          have hz : BlockIs W (w.heap.size + 1) 27 [.slice none 0 0, .slice none 0 0] := hI 1 (by kernel_rfl)
          obtain ⟨hb1, hxa1, hxb1, hqa, hqb⟩ := hC
          have c0 := hz.cell (j := 0) rfl
          have c1 := hz.cell (j := 1) rfl
          have f0 := hz.thaw 0
          have f1 := hz.thaw 1
          have far : ∀ p ty cs, BlockIs W p ty cs → p ≠ w.heap.size + 1 → BlockIs ((W.setCell ⟨w.heap.size + 1, 0, none⟩ (.slice va2 ls.length vc2)).setCell ⟨w.heap.size + 1, 1, none⟩ (.slice vb2 li.length vd2)) p ty cs := fun p ty cs hp hne => (hp.far (by omega) _).far (by omega) _
          exact does_skip (w' := (W.setCell ⟨w.heap.size + 1, 0, none⟩ (.slice va2 ls.length vc2)).setCell ⟨w.heap.size + 1, 1, none⟩ (.slice vb2 li.length vd2)) (by simp only [execOp, h3, h46]; simp [go_sem, c0, c1, f0, f1]) ⟨(hz.set 0 (.slice va2 ls.length vc2)).set 1 (.slice vb2 li.length vd2), ⟨(hb1.setCell (Nat.le_succ _) _).setCell (Nat.le_succ _) _, far _ _ _ hxa1 (by omega), far _ _ _ hxb1 (by omega), (KRows.far (j := 0) hqa hz (by decide) (by decide) _).far (j := 1) (hz.set 0 _) (by decide) (by decide) _, (KRows.far (j := 0) hqb hz (by decide) (by decide) _).far (j := 1) (hz.set 0 _) (by decide) (by decide) _⟩, fun p ty cs hp h2 h3 => far p ty cs hp (h3 rfl)⟩
      · intro vs wE hC hI hg
        have h1 := hg 2 (by decide) (fun k => by simp)
        have h2 := hg 3 (by decide) (fun k => by simp)
        clear hg hI
        obtain ⟨hb1, _, _, hqa, hqb⟩ := hC
        have h1 : BlockIs wE w.heap.size 27 [.slice va ls.length vc, .slice vb li.length vd] := h1
        have h2 : BlockIs wE (w.heap.size + 1) 27 [.slice va2 ls.length vc2, .slice vb2 li.length vd2] := h2
        have z0 := h1.cell (j := 0) rfl
        have z1 := h1.cell (j := 1) rfl
        have z2 := h2.cell (j := 0) rfl
        have z3 := h2.cell (j := 1) rfl
        have HF := hid (And.intro hb1 (And.intro hqa hqb))
        clear h1 h2 hb1 hqa hqb K B R1 R2 XA XB QA QB
        change Exit.then _ _ _ (laidBy _ vs _ 4 _) wE
        simp only [laidBy, if_true, dstAt, List.getElem?_toArray, List.getElem?_cons_succ, List.getElem?_cons_zero, Option.bind_some]
        simp only [Act.put, List.setIfInBounds_toArray, List.set_cons_succ, List.set_cons_zero]
        go_wp2
        refine bodyPost_ret (v := .tuple #[.agg #[.slice va ls.length vc, .slice vb li.length vd], .agg #[.slice va2 ls.length vc2, .slice vb2 li.length vd2]]) (by simp [results, Try.results5, go_sem, z0, z1, z2, z3]) rfl ?_
        exact ⟨_, _, _, _, ls, li, _, _, _, _, ls, li, rfl, ⟨by omega, by omega, by omega, by omega⟩, HF.out.2.1.down (by omega), HF.out.2.2, HF.out.1⟩
  by_cases y2 : y = 2
  · subst y2
    have c0 := XB.out.cell (j := 0) rfl
    have c1 := XB.out.cell (j := 1) rfl
    by_cases hp : (0 : Int) < (ls.length : Int)
    · have hpos : 0 < ls.length := by omega
      have hne : ¬ ls = [] := fun e => by subst e; simp at hpos
      obtain ⟨g, rr, hva, hgl, _⟩ := row_blockK hpos QB.out.1
      subst hva
      go_wp2
      refine wp_region_from (N := 47) (by kernel_rfl) (by kernel_rfl) rfl (by kernel_rfl) (fun W => CurAt W C ∧ Below w.heap.size w W ∧ BlockIs W w.heap.size 27 [.slice none 0 0, .slice none 0 0] ∧ BlockIs W (w.heap.size + 1) 27 [.slice none 0 0, .slice none 0 0] ∧ BlockIs W xa 27 [.slice va ls.length vc, .slice vb li.length vd] ∧ BlockIs W xb 27 [.slice (some ⟨g, 0, none⟩) ls.length vc2, .slice vb2 li.length vd2] ∧ KRows W (C + 1) (.slice va ls.length vc) (.slice vb li.length vd) ls li ∧ W.ownsRow NA 39 3 (.slice vb2 li.length vd2) li.length (itemCells li)) (fun j v _ W => match j with | 0 => v = .pointer (some ⟨xb, 0, none⟩) | 1 => v = .slice (some ⟨g, 0, none⟩) ls.length vc2 | 2 => v = .pointer (some ⟨xb, 0, none⟩) | 3 => v = .slice (some ⟨g, 0, none⟩) ls.length vc2 | 4 => v = .pointer (some ⟨g, 0, none⟩) | 5 => v = .pointer (some ⟨g, 1, none⟩) | 6 => v = .int .i64 ls[0].last | 7 => ∃ x : Int, v = .int .i64 x | 8 => v = .pointer (some ⟨g, 0, none⟩) | 9 => v = .pointer (some ⟨g, 1, none⟩) | 10 => ∃ x : Int, W.ownsRow NA 41 3 (.slice (some ⟨g, 0, none⟩) ls.length vc2) ls.length ((sessionCells ls).set 1 (.int .i64 x)) | _ => True) (fun i => i) (fun _ _ => false) (fun i x y => ∀ g ty cs, BlockIs x g ty cs → (i = 10 → ty ≠ 41) → BlockIs y g ty cs) (fun q9 W => match q9 with | 0 => W.ownsRow NA 41 3 (.slice (some ⟨g, 0, none⟩) ls.length vc2) ls.length (sessionCells ls) | _ => True) (fun m k => decide ((m, k) ∈ ([(0, 10)] : List (Nat × Nat)))) ?_ (fun _ => 0) (by kernel_rfl) (fun _ _ => rfl) ?_ ⟨K.out.below (below_drewN (Below.refl _ _) 1), below_via B.out (below_drewN (Below.refl _ _) 1), R1.out.on (below_drewN (Below.refl _ _) 1) R1.out.lt, R2.out.on (below_drewN (Below.refl _ _) 1) R2.out.lt, XA.out.on (below_drewN (Below.refl _ _) 1) XA.out.lt, XB.out.on (below_drewN (Below.refl _ _) 1) XB.out.lt, QA.out.on (below_drewN (Below.refl _ _) 1), row_onK QB.out.2 (below_drewN (Below.refl _ _) 1)⟩ (fun q9 => match q9 with | 0 => row_onK QB.out.1 (below_drewN (Below.refl _ _) 1) | _ + 1 => trivial) ?_ ?_
      · intro i m x9 y9 hen hxy hm
        match m, hen, hm with
        | 0, hen, hm =>
          simp at hen
          exact row_extK hm fun g cs h => hxy _ _ _ h (fun e => absurd e hen)
        | n + 1, _, _ => exact trivial
      · intro i j v u x9 y9 hij hdd hwt hxy hg
        match j, hg with
        | 0, hg => exact hg
        | 1, hg => exact hg
        | 2, hg => exact hg
        | 3, hg => exact hg
        | 4, hg => exact hg
        | 5, hg => exact hg
        | 6, hg => exact hg
        | 7, hg => exact hg
        | 8, hg => exact hg
        | 9, hg => exact hg
        | 10, hg =>
          obtain ⟨x, e1⟩ := hg
          exact ⟨x, row_extK e1 fun g cs h => hxy _ _ _ h (fun e => absurd e hij)⟩
        | n + 11, _ => exact trivial
      · refine ⟨?_, ?_, ?_, ?_, ?_, ?_, ?_, ?_, ?_, ?_, ?_, trivial⟩
        · intro A W hC hI hg hb
          have h6 : A.eval (.tmp 6) = .pointer (some ⟨xb, 0, none⟩) := hb 6 (base_of (by kernel_rfl))
          exact does_value (v := .pointer (some ⟨xb, 0, none⟩)) (w' := W) (by simp only [execOp, h6]; simp [go_sem]) ⟨rfl, hC, fun _ _ _ h _ => h⟩
        · intro A W hC hI hg hb
          have h35 : A.eval (.tmp 35) = .pointer (some ⟨xb, 0, none⟩) := hg 0 35 (by decide) rfl (by simp [Op.operands]) (by kernel_rfl) rfl
          obtain ⟨hk, hbw, hr1, hr2, hxa1, hxb1, hqa, ho⟩ := hC
          have hc := hxb1.cell (j := 0) rfl
          exact does_value (v := .slice (some ⟨g, 0, none⟩) ls.length vc2) (w' := W) (by simp only [execOp, h35]; simp [go_sem, hc]) ⟨rfl, ⟨hk, hbw, hr1, hr2, hxa1, hxb1, hqa, ho⟩, fun _ _ _ h _ => h⟩
        · intro A W hC hI hg hb
          have h6 : A.eval (.tmp 6) = .pointer (some ⟨xb, 0, none⟩) := hb 6 (base_of (by kernel_rfl))
          exact does_value (v := .pointer (some ⟨xb, 0, none⟩)) (w' := W) (by simp only [execOp, h6]; simp [go_sem]) ⟨rfl, hC, fun _ _ _ h _ => h⟩
        · intro A W hC hI hg hb
          have h37 : A.eval (.tmp 37) = .pointer (some ⟨xb, 0, none⟩) := hg 2 37 (by decide) rfl (by simp [Op.operands]) (by kernel_rfl) rfl
          obtain ⟨hk, hbw, hr1, hr2, hxa1, hxb1, hqa, ho⟩ := hC
          have hc := hxb1.cell (j := 0) rfl
          exact does_value (v := .slice (some ⟨g, 0, none⟩) ls.length vc2) (w' := W) (by simp only [execOp, h37]; simp [go_sem, hc]) ⟨rfl, ⟨hk, hbw, hr1, hr2, hxa1, hxb1, hqa, ho⟩, fun _ _ _ h _ => h⟩
        · intro A W hC hI hg hb
          have h38 : A.eval (.tmp 38) = .slice (some ⟨g, 0, none⟩) ls.length vc2 := hg 3 38 (by decide) rfl (by simp [Op.operands]) (by kernel_rfl) rfl
          simp [go_sem] at h38
          exact does_value (v := .pointer (some ⟨g, 0, none⟩)) (w' := W) (by simp [execOp, go_sem, h38, hne]) ⟨rfl, hC, fun _ _ _ h _ => h⟩
        · intro A W hC hI hg hb
          have h39 : A.eval (.tmp 39) = .pointer (some ⟨g, 0, none⟩) := hg 4 39 (by decide) rfl (by simp [Op.operands]) (by kernel_rfl) rfl
          exact does_value (v := .pointer (some ⟨g, 1, none⟩)) (w' := W) (by simp only [execOp, h39]; simp [go_sem]) ⟨rfl, hC, fun _ _ _ h _ => h⟩
        · intro A W hC hI hg hb
          have h40 : A.eval (.tmp 40) = .pointer (some ⟨g, 1, none⟩) := hg 5 40 (by decide) rfl (by simp [Op.operands]) (by kernel_rfl) rfl
          have hrow : W.ownsRow NA 41 3 (.slice (some ⟨g, 0, none⟩) ls.length vc2) ls.length (sessionCells ls) := hI 0 (by kernel_rfl)
          obtain ⟨g', r', eg, _, hbk⟩ := row_blockK hpos hrow
          cases eg
          have hc2 : W.cell? ⟨g, 1, none⟩ = some (.int .i64 ls[0].last) := hbk.cell (row_at sessionEnc 3 (fun _ => rfl) ls r' 0 1 hpos (by omega))
          exact does_value (v := .int .i64 ls[0].last) (w' := W) (by simp only [execOp, h40]; simp [go_sem, hc2]) ⟨rfl, hC, fun _ _ _ h _ => h⟩
        · intro A W hC hI hg hb
          have h41 : A.eval (.tmp 41) = .int .i64 ls[0].last := hg 6 41 (by decide) rfl (by simp [Op.operands]) (by kernel_rfl) rfl
          exact does_value (v := .int .i64 (IntKind.i64.wrap (ls[0].last + 1))) (w' := W) (by simp only [execOp, h41]; simp [go_sem]) ⟨⟨_, rfl⟩, hC, fun _ _ _ h _ => h⟩
        · intro A W hC hI hg hb
          have h36 : A.eval (.tmp 36) = .slice (some ⟨g, 0, none⟩) ls.length vc2 := hg 1 36 (by decide) rfl (by simp [Op.operands]) (by kernel_rfl) rfl
          simp [go_sem] at h36
          exact does_value (v := .pointer (some ⟨g, 0, none⟩)) (w' := W) (by simp [execOp, go_sem, h36, hne]) ⟨rfl, hC, fun _ _ _ h _ => h⟩
        · intro A W hC hI hg hb
          have h43 : A.eval (.tmp 43) = .pointer (some ⟨g, 0, none⟩) := hg 8 43 (by decide) rfl (by simp [Op.operands]) (by kernel_rfl) rfl
          exact does_value (v := .pointer (some ⟨g, 1, none⟩)) (w' := W) (by simp only [execOp, h43]; simp [go_sem]) ⟨rfl, hC, fun _ _ _ h _ => h⟩
        · intro A W hC hI hg hb
          have h44 : A.eval (.tmp 44) = .pointer (some ⟨g, 1, none⟩) := hg 9 44 (by decide) rfl (by simp [Op.operands]) (by kernel_rfl) rfl
          have g7 := hg 7 42 (by decide) rfl (by simp [Op.operands]) (by kernel_rfl) rfl
          obtain ⟨x, e8⟩ := g7
          obtain ⟨hk, hbw, hr1, hr2, hxa1, hxb1, hqa, ho⟩ := hC
          have hrow : W.ownsRow NA 41 3 (.slice (some ⟨g, 0, none⟩) ls.length vc2) ls.length (sessionCells ls) := hI 0 (by kernel_rfl)
          obtain ⟨g', r', eg, _, hbk⟩ := row_blockK hpos hrow
          cases eg
          have hc2 : W.cell? ⟨g, 1, none⟩ = some (.int .i64 ls[0].last) := hbk.cell (row_at sessionEnc 3 (fun _ => rfl) ls r' 0 1 hpos (by omega))
          have hf2 := hbk.thaw 1
          have far : ∀ p ty cs, BlockIs W p ty cs → ty ≠ 41 → BlockIs (W.setCell ⟨g, 1, none⟩ (.int .i64 x)) p ty cs := fun p ty cs hp9 hne9 => hp9.far (fun e => by subst e; exact hne9 (block_one hp9 hbk).1) _
          exact does_skip (w' := W.setCell ⟨g, 1, none⟩ (.int .i64 x)) (by simp only [execOp, h44, e8]; simp [go_sem, hc2, hf2]) ⟨⟨x, row_setK hrow (.int .i64 x)⟩, ⟨hk.set (by omega), hbw.setCell (by show w.heap.size ≤ g; omega) _, far _ _ _ hr1 (by decide), far _ _ _ hr2 (by decide), far _ _ _ hxa1 (by decide), far _ _ _ hxb1 (by decide), hqa.behind AH.out hgl _, row_farK ho hbk (by decide) _⟩, fun p ty cs hp9 hne9 => far p ty cs hp9 (hne9 rfl)⟩
      · intro vs wE hC hI hg
        obtain ⟨x, hrow⟩ := hg 10 (by decide) (fun k => by simp)
        clear hg hI
        obtain ⟨hk, hbw, hr1, hr2, hxa1, hxb1, hqa, ho⟩ := hC
        change Exit.inBlock 0 (Exit.then _ _) _ (laidBy _ vs _ 11 _) wE
        simp only [laidBy, if_true, dstAt, List.getElem?_toArray, List.getElem?_cons_succ, List.getElem?_cons_zero, Option.bind_some]
        simp only [Act.put, List.setIfInBounds_toArray, List.set_cons_succ, List.set_cons_zero]
        obtain ⟨M, hML, hMC⟩ := last_set ls x
        rw [hMC, ← hML] at hrow
        have HLM := hid hML
        have XBM : Hid (BlockIs wE xb 27 [.slice (some ⟨g, 0, none⟩) M.length vc2, .slice vb2 li.length vd2]) := by rw [hML]; exact hid hxb1
        clear K B R1 R2 XA QA XB QB hMC hML c0 c1
        have K := hid hk
        have B := hid hbw
        have R1 := hid hr1
        have R2 := hid hr2
        have XA := hid hxa1
        have QA := hid hqa
        have XB := XBM
        have QB : Hid (KRows wE w.heap.size (.slice (some ⟨g, 0, none⟩) M.length vc2) (.slice vb2 li.length vd2) M li) := (show KRows _ _ _ _ _ _ from ⟨row_down hrow (by omega), row_down ho (by omega)⟩)
        clear hk hbw hr1 hr2 hxa1 hxb1 hqa hrow ho XBM
        go_wp2
        refine wp_region_from (N := 47) (by kernel_rfl) (by kernel_rfl) rfl (by kernel_rfl) (fun W => Below w.heap.size w W ∧ BlockIs W xa 27 [.slice va ls.length vc, .slice vb li.length vd] ∧ BlockIs W xb 27 [.slice (some ⟨g, 0, none⟩) M.length vc2, .slice vb2 li.length vd2] ∧ KRows W (C + 1) (.slice va ls.length vc) (.slice vb li.length vd) ls li ∧ KRows W w.heap.size (.slice (some ⟨g, 0, none⟩) M.length vc2) (.slice vb2 li.length vd2) M li) (fun j v _ W => match j with | 0 => v = .agg #[.slice va ls.length vc, .slice vb li.length vd] | 1 => v = .agg #[.slice (some ⟨g, 0, none⟩) M.length vc2, .slice vb2 li.length vd2] | 2 => BlockIs W w.heap.size 27 [.slice va ls.length vc, .slice vb li.length vd] | 3 => BlockIs W (w.heap.size + 1) 27 [.slice (some ⟨g, 0, none⟩) M.length vc2, .slice vb2 li.length vd2] | _ => True) (fun i => i) (fun _ _ => false) (fun i x y => ∀ g ty cs, BlockIs x g ty cs → (i = 2 → g ≠ w.heap.size) → (i = 3 → g ≠ w.heap.size + 1) → BlockIs y g ty cs) (fun q9 W => match q9 with | 0 => BlockIs W w.heap.size 27 [.slice none 0 0, .slice none 0 0] | 1 => BlockIs W (w.heap.size + 1) 27 [.slice none 0 0, .slice none 0 0] | _ => True) (fun m k => decide ((m, k) ∈ ([(0, 2), (1, 3)] : List (Nat × Nat)))) ?_ (fun _ => 0) (by kernel_rfl) (fun _ _ => rfl) ?_ ⟨below_via B.out (below_drewN (Below.refl _ _) 1), XA.out.on (below_drewN (Below.refl _ _) 1) XA.out.lt, XB.out.on (below_drewN (Below.refl _ _) 1) XB.out.lt, QA.out.on (below_drewN (Below.refl _ _) 1), QB.out.on (below_drewN (Below.refl _ _) 1)⟩ (fun q9 => match q9 with | 0 => R1.out.on (below_drewN (Below.refl _ _) 1) R1.out.lt | 1 => R2.out.on (below_drewN (Below.refl _ _) 1) R2.out.lt | _ + 2 => trivial) ?_ ?_
        · intro i m x9 y9 hen hxy hm
          match m, hen, hm with
          | 0, hen, hm =>
            simp at hen
            exact hxy _ _ _ hm (fun e => absurd e hen) (fun _ => by omega)
          | 1, hen, hm =>
            simp at hen
            exact hxy _ _ _ hm (fun _ => by omega) (fun e => absurd e hen)
          | n + 2, _, _ => exact trivial
        · intro i j v u x9 y9 hij hdd hwt hxy hg
          match j, hg with
          | 0, hg => exact hg
          | 1, hg => exact hg
          | 2, hg =>
            exact hxy _ _ _ hg (fun e => absurd e hij) (fun _ => by omega)
          | 3, hg =>
            exact hxy _ _ _ hg (fun _ => by omega) (fun e => absurd e hij)
          | n + 4, _ => exact trivial
        · refine ⟨?_, ?_, ?_, ?_, trivial⟩
          · intro A W hC hI hg hb
            have h5 : A.eval (.tmp 5) = .pointer (some ⟨xa, 0, none⟩) := hb 5 (base_of (by kernel_rfl))
            obtain ⟨hb1, hxa1, hxb1, hqa, hqb⟩ := hC
            have hc0 := hxa1.cell (j := 0) rfl
            have hc1 := hxa1.cell (j := 1) rfl
            exact does_value (v := .agg #[.slice va ls.length vc, .slice vb li.length vd]) (w' := W) (by simp only [execOp, h5]; simp [go_sem, hc0, hc1]) ⟨rfl, ⟨hb1, hxa1, hxb1, hqa, hqb⟩, fun _ _ _ h _ _ => h⟩
          · intro A W hC hI hg hb
            have h6 : A.eval (.tmp 6) = .pointer (some ⟨xb, 0, none⟩) := hb 6 (base_of (by kernel_rfl))
            obtain ⟨hb1, hxa1, hxb1, hqa, hqb⟩ := hC
            have hc0 := hxb1.cell (j := 0) rfl
            have hc1 := hxb1.cell (j := 1) rfl
            exact does_value (v := .agg #[.slice (some ⟨g, 0, none⟩) M.length vc2, .slice vb2 li.length vd2]) (w' := W) (by simp only [execOp, h6]; simp [go_sem, hc0, hc1]) ⟨rfl, ⟨hb1, hxa1, hxb1, hqa, hqb⟩, fun _ _ _ h _ _ => h⟩
          · intro A W hC hI hg hb
            have h2 : A.eval (.tmp 2) = .pointer (some ⟨w.heap.size, 0, none⟩) := hb 2 (base_of (by kernel_rfl))
            have h45 : A.eval (.tmp 45) = .agg #[.slice va ls.length vc, .slice vb li.length vd] := hg 0 45 (by decide) rfl (by simp [Op.operands]) (by kernel_rfl) rfl
            have hz : BlockIs W w.heap.size 27 [.slice none 0 0, .slice none 0 0] := hI 0 (by kernel_rfl)
            obtain ⟨hb1, hxa1, hxb1, hqa, hqb⟩ := hC
            have c0 := hz.cell (j := 0) rfl
            have c1 := hz.cell (j := 1) rfl
            have f0 := hz.thaw 0
            have f1 := hz.thaw 1
            have far : ∀ p ty cs, BlockIs W p ty cs → p ≠ w.heap.size → BlockIs ((W.setCell ⟨w.heap.size, 0, none⟩ (.slice va ls.length vc)).setCell ⟨w.heap.size, 1, none⟩ (.slice vb li.length vd)) p ty cs := fun p ty cs hp hne => (hp.far (by omega) _).far (by omega) _
            exact does_skip (w' := (W.setCell ⟨w.heap.size, 0, none⟩ (.slice va ls.length vc)).setCell ⟨w.heap.size, 1, none⟩ (.slice vb li.length vd)) (by simp only [execOp, h2, h45]; simp [go_sem, c0, c1, f0, f1]) ⟨(hz.set 0 (.slice va ls.length vc)).set 1 (.slice vb li.length vd), ⟨(hb1.setCell (Nat.le_refl _) _).setCell (Nat.le_refl _) _, far _ _ _ hxa1 (by omega), far _ _ _ hxb1 (by omega), (KRows.far (j := 0) hqa hz (by decide) (by decide) _).far (j := 1) (hz.set 0 _) (by decide) (by decide) _, (KRows.far (j := 0) hqb hz (by decide) (by decide) _).far (j := 1) (hz.set 0 _) (by decide) (by decide) _⟩, fun p ty cs hp h2 h3 => far p ty cs hp (h2 rfl)⟩
          · intro A W hC hI hg hb
            have h3 : A.eval (.tmp 3) = .pointer (some ⟨w.heap.size + 1, 0, none⟩) := hb 3 (base_of (by kernel_rfl))
            have h46 : A.eval (.tmp 46) = .agg #[.slice (some ⟨g, 0, none⟩) M.length vc2, .slice vb2 li.length vd2] := hg 1 46 (by decide) rfl (by simp [Op.operands]) (by kernel_rfl) rfl
            have hz : BlockIs W (w.heap.size + 1) 27 [.slice none 0 0, .slice none 0 0] := hI 1 (by kernel_rfl)
            obtain ⟨hb1, hxa1, hxb1, hqa, hqb⟩ := hC
            have c0 := hz.cell (j := 0) rfl
            have c1 := hz.cell (j := 1) rfl
            have f0 := hz.thaw 0
            have f1 := hz.thaw 1
            have far : ∀ p ty cs, BlockIs W p ty cs → p ≠ w.heap.size + 1 → BlockIs ((W.setCell ⟨w.heap.size + 1, 0, none⟩ (.slice (some ⟨g, 0, none⟩) M.length vc2)).setCell ⟨w.heap.size + 1, 1, none⟩ (.slice vb2 li.length vd2)) p ty cs := fun p ty cs hp hne => (hp.far (by omega) _).far (by omega) _
            exact does_skip (w' := (W.setCell ⟨w.heap.size + 1, 0, none⟩ (.slice (some ⟨g, 0, none⟩) M.length vc2)).setCell ⟨w.heap.size + 1, 1, none⟩ (.slice vb2 li.length vd2)) (by simp only [execOp, h3, h46]; simp [go_sem, c0, c1, f0, f1]) ⟨(hz.set 0 (.slice (some ⟨g, 0, none⟩) M.length vc2)).set 1 (.slice vb2 li.length vd2), ⟨(hb1.setCell (Nat.le_succ _) _).setCell (Nat.le_succ _) _, far _ _ _ hxa1 (by omega), far _ _ _ hxb1 (by omega), (KRows.far (j := 0) hqa hz (by decide) (by decide) _).far (j := 1) (hz.set 0 _) (by decide) (by decide) _, (KRows.far (j := 0) hqb hz (by decide) (by decide) _).far (j := 1) (hz.set 0 _) (by decide) (by decide) _⟩, fun p ty cs hp h2 h3 => far p ty cs hp (h3 rfl)⟩
        · intro vs wE hC hI hg
          have h1 := hg 2 (by decide) (fun k => by simp)
          have h2 := hg 3 (by decide) (fun k => by simp)
          clear hg hI
          obtain ⟨hb1, _, _, hqa, hqb⟩ := hC
          have h1 : BlockIs wE w.heap.size 27 [.slice va ls.length vc, .slice vb li.length vd] := h1
          have h2 : BlockIs wE (w.heap.size + 1) 27 [.slice (some ⟨g, 0, none⟩) M.length vc2, .slice vb2 li.length vd2] := h2
          have z0 := h1.cell (j := 0) rfl
          have z1 := h1.cell (j := 1) rfl
          have z2 := h2.cell (j := 0) rfl
          have z3 := h2.cell (j := 1) rfl
          have HF := hid (And.intro hb1 (And.intro hqa hqb))
          clear h1 h2 hb1 hqa hqb K B R1 R2 XA XB QA QB
          change Exit.then _ _ _ (laidBy _ vs _ 4 _) wE
          simp only [laidBy, if_true, dstAt, List.getElem?_toArray, List.getElem?_cons_succ, List.getElem?_cons_zero, Option.bind_some]
          simp only [Act.put, List.setIfInBounds_toArray, List.set_cons_succ, List.set_cons_zero]
          go_wp2
          refine bodyPost_ret (v := .tuple #[.agg #[.slice va ls.length vc, .slice vb li.length vd], .agg #[.slice (some ⟨g, 0, none⟩) M.length vc2, .slice vb2 li.length vd2]]) (by simp [results, Try.results5, go_sem, z0, z1, z2, z3]) rfl ?_
          exact ⟨_, _, _, _, ls, li, _, _, _, _, M, li, rfl, ⟨by omega, by omega, by have := HLM.out; omega, by omega⟩, HF.out.2.1.down (by omega), HF.out.2.2, HF.out.1⟩
    · skip
      have QB2 := hid (QB.out.down (show w.heap.size ≤ NA by omega))
      clear QB
      have QB := QB2
      clear QB2
      go_wp2
      refine wp_region_from (N := 47) (by kernel_rfl) (by kernel_rfl) rfl (by kernel_rfl) (fun W => Below w.heap.size w W ∧ BlockIs W xa 27 [.slice va ls.length vc, .slice vb li.length vd] ∧ BlockIs W xb 27 [.slice va2 ls.length vc2, .slice vb2 li.length vd2] ∧ KRows W (C + 1) (.slice va ls.length vc) (.slice vb li.length vd) ls li ∧ KRows W w.heap.size (.slice va2 ls.length vc2) (.slice vb2 li.length vd2) ls li) (fun j v _ W => match j with | 0 => v = .agg #[.slice va ls.length vc, .slice vb li.length vd] | 1 => v = .agg #[.slice va2 ls.length vc2, .slice vb2 li.length vd2] | 2 => BlockIs W w.heap.size 27 [.slice va ls.length vc, .slice vb li.length vd] | 3 => BlockIs W (w.heap.size + 1) 27 [.slice va2 ls.length vc2, .slice vb2 li.length vd2] | _ => True) (fun i => i) (fun _ _ => false) (fun i x y => ∀ g ty cs, BlockIs x g ty cs → (i = 2 → g ≠ w.heap.size) → (i = 3 → g ≠ w.heap.size + 1) → BlockIs y g ty cs) (fun q9 W => match q9 with | 0 => BlockIs W w.heap.size 27 [.slice none 0 0, .slice none 0 0] | 1 => BlockIs W (w.heap.size + 1) 27 [.slice none 0 0, .slice none 0 0] | _ => True) (fun m k => decide ((m, k) ∈ ([(0, 2), (1, 3)] : List (Nat × Nat)))) ?_ (fun _ => 0) (by kernel_rfl) (fun _ _ => rfl) ?_ ⟨below_via B.out (below_drewN (Below.refl _ _) 1), XA.out.on (below_drewN (Below.refl _ _) 1) XA.out.lt, XB.out.on (below_drewN (Below.refl _ _) 1) XB.out.lt, QA.out.on (below_drewN (Below.refl _ _) 1), QB.out.on (below_drewN (Below.refl _ _) 1)⟩ (fun q9 => match q9 with | 0 => R1.out.on (below_drewN (Below.refl _ _) 1) R1.out.lt | 1 => R2.out.on (below_drewN (Below.refl _ _) 1) R2.out.lt | _ + 2 => trivial) ?_ ?_
      · intro i m x9 y9 hen hxy hm
        match m, hen, hm with
        | 0, hen, hm =>
          simp at hen
          exact hxy _ _ _ hm (fun e => absurd e hen) (fun _ => by omega)
        | 1, hen, hm =>
          simp at hen
          exact hxy _ _ _ hm (fun _ => by omega) (fun e => absurd e hen)
        | n + 2, _, _ => exact trivial
      · intro i j v u x9 y9 hij hdd hwt hxy hg
        match j, hg with
        | 0, hg => exact hg
        | 1, hg => exact hg
        | 2, hg =>
          exact hxy _ _ _ hg (fun e => absurd e hij) (fun _ => by omega)
        | 3, hg =>
          exact hxy _ _ _ hg (fun _ => by omega) (fun e => absurd e hij)
        | n + 4, _ => exact trivial
      · refine ⟨?_, ?_, ?_, ?_, trivial⟩
        · intro A W hC hI hg hb
          have h5 : A.eval (.tmp 5) = .pointer (some ⟨xa, 0, none⟩) := hb 5 (base_of (by kernel_rfl))
          obtain ⟨hb1, hxa1, hxb1, hqa, hqb⟩ := hC
          have hc0 := hxa1.cell (j := 0) rfl
          have hc1 := hxa1.cell (j := 1) rfl
          exact does_value (v := .agg #[.slice va ls.length vc, .slice vb li.length vd]) (w' := W) (by simp only [execOp, h5]; simp [go_sem, hc0, hc1]) ⟨rfl, ⟨hb1, hxa1, hxb1, hqa, hqb⟩, fun _ _ _ h _ _ => h⟩
        · intro A W hC hI hg hb
          have h6 : A.eval (.tmp 6) = .pointer (some ⟨xb, 0, none⟩) := hb 6 (base_of (by kernel_rfl))
          obtain ⟨hb1, hxa1, hxb1, hqa, hqb⟩ := hC
          have hc0 := hxb1.cell (j := 0) rfl
          have hc1 := hxb1.cell (j := 1) rfl
          exact does_value (v := .agg #[.slice va2 ls.length vc2, .slice vb2 li.length vd2]) (w' := W) (by simp only [execOp, h6]; simp [go_sem, hc0, hc1]) ⟨rfl, ⟨hb1, hxa1, hxb1, hqa, hqb⟩, fun _ _ _ h _ _ => h⟩
        · intro A W hC hI hg hb
          have h2 : A.eval (.tmp 2) = .pointer (some ⟨w.heap.size, 0, none⟩) := hb 2 (base_of (by kernel_rfl))
          have h45 : A.eval (.tmp 45) = .agg #[.slice va ls.length vc, .slice vb li.length vd] := hg 0 45 (by decide) rfl (by simp [Op.operands]) (by kernel_rfl) rfl
          have hz : BlockIs W w.heap.size 27 [.slice none 0 0, .slice none 0 0] := hI 0 (by kernel_rfl)
          obtain ⟨hb1, hxa1, hxb1, hqa, hqb⟩ := hC
          have c0 := hz.cell (j := 0) rfl
          have c1 := hz.cell (j := 1) rfl
          have f0 := hz.thaw 0
          have f1 := hz.thaw 1
          have far : ∀ p ty cs, BlockIs W p ty cs → p ≠ w.heap.size → BlockIs ((W.setCell ⟨w.heap.size, 0, none⟩ (.slice va ls.length vc)).setCell ⟨w.heap.size, 1, none⟩ (.slice vb li.length vd)) p ty cs := fun p ty cs hp hne => (hp.far (by omega) _).far (by omega) _
          exact does_skip (w' := (W.setCell ⟨w.heap.size, 0, none⟩ (.slice va ls.length vc)).setCell ⟨w.heap.size, 1, none⟩ (.slice vb li.length vd)) (by simp only [execOp, h2, h45]; simp [go_sem, c0, c1, f0, f1]) ⟨(hz.set 0 (.slice va ls.length vc)).set 1 (.slice vb li.length vd), ⟨(hb1.setCell (Nat.le_refl _) _).setCell (Nat.le_refl _) _, far _ _ _ hxa1 (by omega), far _ _ _ hxb1 (by omega), (KRows.far (j := 0) hqa hz (by decide) (by decide) _).far (j := 1) (hz.set 0 _) (by decide) (by decide) _, (KRows.far (j := 0) hqb hz (by decide) (by decide) _).far (j := 1) (hz.set 0 _) (by decide) (by decide) _⟩, fun p ty cs hp h2 h3 => far p ty cs hp (h2 rfl)⟩
        · intro A W hC hI hg hb
          have h3 : A.eval (.tmp 3) = .pointer (some ⟨w.heap.size + 1, 0, none⟩) := hb 3 (base_of (by kernel_rfl))
          have h46 : A.eval (.tmp 46) = .agg #[.slice va2 ls.length vc2, .slice vb2 li.length vd2] := hg 1 46 (by decide) rfl (by simp [Op.operands]) (by kernel_rfl) rfl
          have hz : BlockIs W (w.heap.size + 1) 27 [.slice none 0 0, .slice none 0 0] := hI 1 (by kernel_rfl)
          obtain ⟨hb1, hxa1, hxb1, hqa, hqb⟩ := hC
          have c0 := hz.cell (j := 0) rfl
          have c1 := hz.cell (j := 1) rfl
          have f0 := hz.thaw 0
          have f1 := hz.thaw 1
          have far : ∀ p ty cs, BlockIs W p ty cs → p ≠ w.heap.size + 1 → BlockIs ((W.setCell ⟨w.heap.size + 1, 0, none⟩ (.slice va2 ls.length vc2)).setCell ⟨w.heap.size + 1, 1, none⟩ (.slice vb2 li.length vd2)) p ty cs := fun p ty cs hp hne => (hp.far (by omega) _).far (by omega) _
          exact does_skip (w' := (W.setCell ⟨w.heap.size + 1, 0, none⟩ (.slice va2 ls.length vc2)).setCell ⟨w.heap.size + 1, 1, none⟩ (.slice vb2 li.length vd2)) (by simp only [execOp, h3, h46]; simp [go_sem, c0, c1, f0, f1]) ⟨(hz.set 0 (.slice va2 ls.length vc2)).set 1 (.slice vb2 li.length vd2), ⟨(hb1.setCell (Nat.le_succ _) _).setCell (Nat.le_succ _) _, far _ _ _ hxa1 (by omega), far _ _ _ hxb1 (by omega), (KRows.far (j := 0) hqa hz (by decide) (by decide) _).far (j := 1) (hz.set 0 _) (by decide) (by decide) _, (KRows.far (j := 0) hqb hz (by decide) (by decide) _).far (j := 1) (hz.set 0 _) (by decide) (by decide) _⟩, fun p ty cs hp h2 h3 => far p ty cs hp (h3 rfl)⟩
      · intro vs wE hC hI hg
        have h1 := hg 2 (by decide) (fun k => by simp)
        have h2 := hg 3 (by decide) (fun k => by simp)
        clear hg hI
        obtain ⟨hb1, _, _, hqa, hqb⟩ := hC
        have h1 : BlockIs wE w.heap.size 27 [.slice va ls.length vc, .slice vb li.length vd] := h1
        have h2 : BlockIs wE (w.heap.size + 1) 27 [.slice va2 ls.length vc2, .slice vb2 li.length vd2] := h2
        have z0 := h1.cell (j := 0) rfl
        have z1 := h1.cell (j := 1) rfl
        have z2 := h2.cell (j := 0) rfl
        have z3 := h2.cell (j := 1) rfl
        have HF := hid (And.intro hb1 (And.intro hqa hqb))
        clear h1 h2 hb1 hqa hqb K B R1 R2 XA XB QA QB
        change Exit.then _ _ _ (laidBy _ vs _ 4 _) wE
        simp only [laidBy, if_true, dstAt, List.getElem?_toArray, List.getElem?_cons_succ, List.getElem?_cons_zero, Option.bind_some]
        simp only [Act.put, List.setIfInBounds_toArray, List.set_cons_succ, List.set_cons_zero]
        go_wp2
        refine bodyPost_ret (v := .tuple #[.agg #[.slice va ls.length vc, .slice vb li.length vd], .agg #[.slice va2 ls.length vc2, .slice vb2 li.length vd2]]) (by simp [results, Try.results5, go_sem, z0, z1, z2, z3]) rfl ?_
        exact ⟨_, _, _, _, ls, li, _, _, _, _, ls, li, rfl, ⟨by omega, by omega, by omega, by omega⟩, HF.out.2.1.down (by omega), HF.out.2.2, HF.out.1⟩
  have y0' : (y == 0) = false := by simpa using y0
  have y1' : (y == 1) = false := by simpa using y1
  have y2' : (y == 2) = false := by simpa using y2
  have QB2 := hid (QB.out.down (show w.heap.size ≤ NA by omega))
  clear QB
  have QB := QB2
  clear QB2
  go_wp2
  refine wp_region_from (N := 47) (by kernel_rfl) (by kernel_rfl) rfl (by kernel_rfl) (fun W => Below w.heap.size w W ∧ BlockIs W xa 27 [.slice va ls.length vc, .slice vb li.length vd] ∧ BlockIs W xb 27 [.slice va2 ls.length vc2, .slice vb2 li.length vd2] ∧ KRows W (C + 1) (.slice va ls.length vc) (.slice vb li.length vd) ls li ∧ KRows W w.heap.size (.slice va2 ls.length vc2) (.slice vb2 li.length vd2) ls li) (fun j v _ W => match j with | 0 => v = .agg #[.slice va ls.length vc, .slice vb li.length vd] | 1 => v = .agg #[.slice va2 ls.length vc2, .slice vb2 li.length vd2] | 2 => BlockIs W w.heap.size 27 [.slice va ls.length vc, .slice vb li.length vd] | 3 => BlockIs W (w.heap.size + 1) 27 [.slice va2 ls.length vc2, .slice vb2 li.length vd2] | _ => True) (fun i => i) (fun _ _ => false) (fun i x y => ∀ g ty cs, BlockIs x g ty cs → (i = 2 → g ≠ w.heap.size) → (i = 3 → g ≠ w.heap.size + 1) → BlockIs y g ty cs) (fun q9 W => match q9 with | 0 => BlockIs W w.heap.size 27 [.slice none 0 0, .slice none 0 0] | 1 => BlockIs W (w.heap.size + 1) 27 [.slice none 0 0, .slice none 0 0] | _ => True) (fun m k => decide ((m, k) ∈ ([(0, 2), (1, 3)] : List (Nat × Nat)))) ?_ (fun _ => 0) (by kernel_rfl) (fun _ _ => rfl) ?_ ⟨below_via B.out (below_drewN (Below.refl _ _) 1), XA.out.on (below_drewN (Below.refl _ _) 1) XA.out.lt, XB.out.on (below_drewN (Below.refl _ _) 1) XB.out.lt, QA.out.on (below_drewN (Below.refl _ _) 1), QB.out.on (below_drewN (Below.refl _ _) 1)⟩ (fun q9 => match q9 with | 0 => R1.out.on (below_drewN (Below.refl _ _) 1) R1.out.lt | 1 => R2.out.on (below_drewN (Below.refl _ _) 1) R2.out.lt | _ + 2 => trivial) ?_ ?_
  · intro i m x9 y9 hen hxy hm
    match m, hen, hm with
    | 0, hen, hm =>
      simp at hen
      exact hxy _ _ _ hm (fun e => absurd e hen) (fun _ => by omega)
    | 1, hen, hm =>
      simp at hen
      exact hxy _ _ _ hm (fun _ => by omega) (fun e => absurd e hen)
    | n + 2, _, _ => exact trivial
  · intro i j v u x9 y9 hij hdd hwt hxy hg
    match j, hg with
    | 0, hg => exact hg
    | 1, hg => exact hg
    | 2, hg =>
      exact hxy _ _ _ hg (fun e => absurd e hij) (fun _ => by omega)
    | 3, hg =>
      exact hxy _ _ _ hg (fun _ => by omega) (fun e => absurd e hij)
    | n + 4, _ => exact trivial
  · refine ⟨?_, ?_, ?_, ?_, trivial⟩
    · intro A W hC hI hg hb
      have h5 : A.eval (.tmp 5) = .pointer (some ⟨xa, 0, none⟩) := hb 5 (base_of (by kernel_rfl))
      obtain ⟨hb1, hxa1, hxb1, hqa, hqb⟩ := hC
      have hc0 := hxa1.cell (j := 0) rfl
      have hc1 := hxa1.cell (j := 1) rfl
      exact does_value (v := .agg #[.slice va ls.length vc, .slice vb li.length vd]) (w' := W) (by simp only [execOp, h5]; simp [go_sem, hc0, hc1]) ⟨rfl, ⟨hb1, hxa1, hxb1, hqa, hqb⟩, fun _ _ _ h _ _ => h⟩
    · intro A W hC hI hg hb
      have h6 : A.eval (.tmp 6) = .pointer (some ⟨xb, 0, none⟩) := hb 6 (base_of (by kernel_rfl))
      obtain ⟨hb1, hxa1, hxb1, hqa, hqb⟩ := hC
      have hc0 := hxb1.cell (j := 0) rfl
      have hc1 := hxb1.cell (j := 1) rfl
      exact does_value (v := .agg #[.slice va2 ls.length vc2, .slice vb2 li.length vd2]) (w' := W) (by simp only [execOp, h6]; simp [go_sem, hc0, hc1]) ⟨rfl, ⟨hb1, hxa1, hxb1, hqa, hqb⟩, fun _ _ _ h _ _ => h⟩
    · intro A W hC hI hg hb
      have h2 : A.eval (.tmp 2) = .pointer (some ⟨w.heap.size, 0, none⟩) := hb 2 (base_of (by kernel_rfl))
      have h45 : A.eval (.tmp 45) = .agg #[.slice va ls.length vc, .slice vb li.length vd] := hg 0 45 (by decide) rfl (by simp [Op.operands]) (by kernel_rfl) rfl
      have hz : BlockIs W w.heap.size 27 [.slice none 0 0, .slice none 0 0] := hI 0 (by kernel_rfl)
      obtain ⟨hb1, hxa1, hxb1, hqa, hqb⟩ := hC
      have c0 := hz.cell (j := 0) rfl
      have c1 := hz.cell (j := 1) rfl
      have f0 := hz.thaw 0
      have f1 := hz.thaw 1
      have far : ∀ p ty cs, BlockIs W p ty cs → p ≠ w.heap.size → BlockIs ((W.setCell ⟨w.heap.size, 0, none⟩ (.slice va ls.length vc)).setCell ⟨w.heap.size, 1, none⟩ (.slice vb li.length vd)) p ty cs := fun p ty cs hp hne => (hp.far (by omega) _).far (by omega) _
      exact does_skip (w' := (W.setCell ⟨w.heap.size, 0, none⟩ (.slice va ls.length vc)).setCell ⟨w.heap.size, 1, none⟩ (.slice vb li.length vd)) (by simp only [execOp, h2, h45]; simp [go_sem, c0, c1, f0, f1]) ⟨(hz.set 0 (.slice va ls.length vc)).set 1 (.slice vb li.length vd), ⟨(hb1.setCell (Nat.le_refl _) _).setCell (Nat.le_refl _) _, far _ _ _ hxa1 (by omega), far _ _ _ hxb1 (by omega), (KRows.far (j := 0) hqa hz (by decide) (by decide) _).far (j := 1) (hz.set 0 _) (by decide) (by decide) _, (KRows.far (j := 0) hqb hz (by decide) (by decide) _).far (j := 1) (hz.set 0 _) (by decide) (by decide) _⟩, fun p ty cs hp h2 h3 => far p ty cs hp (h2 rfl)⟩
    · intro A W hC hI hg hb
      have h3 : A.eval (.tmp 3) = .pointer (some ⟨w.heap.size + 1, 0, none⟩) := hb 3 (base_of (by kernel_rfl))
      have h46 : A.eval (.tmp 46) = .agg #[.slice va2 ls.length vc2, .slice vb2 li.length vd2] := hg 1 46 (by decide) rfl (by simp [Op.operands]) (by kernel_rfl) rfl
      have hz : BlockIs W (w.heap.size + 1) 27 [.slice none 0 0, .slice none 0 0] := hI 1 (by kernel_rfl)
      obtain ⟨hb1, hxa1, hxb1, hqa, hqb⟩ := hC
      have c0 := hz.cell (j := 0) rfl
      have c1 := hz.cell (j := 1) rfl
      have f0 := hz.thaw 0
      have f1 := hz.thaw 1
      have far : ∀ p ty cs, BlockIs W p ty cs → p ≠ w.heap.size + 1 → BlockIs ((W.setCell ⟨w.heap.size + 1, 0, none⟩ (.slice va2 ls.length vc2)).setCell ⟨w.heap.size + 1, 1, none⟩ (.slice vb2 li.length vd2)) p ty cs := fun p ty cs hp hne => (hp.far (by omega) _).far (by omega) _
      exact does_skip (w' := (W.setCell ⟨w.heap.size + 1, 0, none⟩ (.slice va2 ls.length vc2)).setCell ⟨w.heap.size + 1, 1, none⟩ (.slice vb2 li.length vd2)) (by simp only [execOp, h3, h46]; simp [go_sem, c0, c1, f0, f1]) ⟨(hz.set 0 (.slice va2 ls.length vc2)).set 1 (.slice vb2 li.length vd2), ⟨(hb1.setCell (Nat.le_succ _) _).setCell (Nat.le_succ _) _, far _ _ _ hxa1 (by omega), far _ _ _ hxb1 (by omega), (KRows.far (j := 0) hqa hz (by decide) (by decide) _).far (j := 1) (hz.set 0 _) (by decide) (by decide) _, (KRows.far (j := 0) hqb hz (by decide) (by decide) _).far (j := 1) (hz.set 0 _) (by decide) (by decide) _⟩, fun p ty cs hp h2 h3 => far p ty cs hp (h3 rfl)⟩
  · intro vs wE hC hI hg
    have h1 := hg 2 (by decide) (fun k => by simp)
    have h2 := hg 3 (by decide) (fun k => by simp)
    clear hg hI
    obtain ⟨hb1, _, _, hqa, hqb⟩ := hC
    have h1 : BlockIs wE w.heap.size 27 [.slice va ls.length vc, .slice vb li.length vd] := h1
    have h2 : BlockIs wE (w.heap.size + 1) 27 [.slice va2 ls.length vc2, .slice vb2 li.length vd2] := h2
    have z0 := h1.cell (j := 0) rfl
    have z1 := h1.cell (j := 1) rfl
    have z2 := h2.cell (j := 0) rfl
    have z3 := h2.cell (j := 1) rfl
    have HF := hid (And.intro hb1 (And.intro hqa hqb))
    clear h1 h2 hb1 hqa hqb K B R1 R2 XA XB QA QB
    change Exit.then _ _ _ (laidBy _ vs _ 4 _) wE
    simp only [laidBy, if_true, dstAt, List.getElem?_toArray, List.getElem?_cons_succ, List.getElem?_cons_zero, Option.bind_some]
    simp only [Act.put, List.setIfInBounds_toArray, List.set_cons_succ, List.set_cons_zero]
    go_wp2
    refine bodyPost_ret (v := .tuple #[.agg #[.slice va ls.length vc, .slice vb li.length vd], .agg #[.slice va2 ls.length vc2, .slice vb2 li.length vd2]]) (by simp [results, Try.results5, go_sem, z0, z1, z2, z3]) rfl ?_
    exact ⟨_, _, _, _, ls, li, _, _, _, _, ls, li, rfl, ⟨by omega, by omega, by omega, by omega⟩, HF.out.2.1.down (by omega), HF.out.2.2, HF.out.1⟩
end Go.Proofs.Ytdneebbcacpeoaa
