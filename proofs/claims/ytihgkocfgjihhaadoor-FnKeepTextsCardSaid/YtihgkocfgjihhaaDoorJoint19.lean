/-
  The walk of spec.l15Keep: a right keep behind few commands, in memory of the call's own.
  The walk of spec.l01Long: a text of so many bytes.
  The walk of spec.l15Any: any keep of few rows, in memory of the call's own.
-/
import Derived.Test.YtihgkocfgjihhaaDoorJoint11
import Derived.Test.YtihgkocfgjihhaaDoorJoint1
import Derived.Test.YtihgkocfgjihhaaDoorJoint18
import Derived.Deep.LoopGhost
import Derived.Test.YtihgkocfgjihhaaDoorJoint2
import Derived.Test.YtihgkocfgjihhaaDoorJoint12
namespace Go.Proofs.YtihgkocfgjihhaaDoor
open Go.RowKit Go.Sort

/-- a keep that is right, its Tokens and Lasts small -/
def KeepDid (C : Nat) (w : World) (e : Ending) (w' : World) : Prop := ∃ va vc vb vd ls li, e = .returned (.agg #[.slice va (List.length ls) vc, .slice vb (List.length li) vd]) ∧ keepOk ls li = true ∧ Young 40 ls ∧ KRows w' w.heap.size (.slice va ls.length vc) (.slice vb li.length vd) ls li ∧ CurAt w' C ∧ w.grownBy w' (some C)
theorem row_fromK {x y : World} {base size n : Nat} {t : TypeId} {v : Value} {xs : List Value} (h : x.ownsRow base t size v n xs) (hb : ∀ g cs, base ≤ g → BlockIs x g t cs → BlockIs y g t cs) : y.ownsRow base t size v n xs := by
  refine ⟨h.1, h.2.imp id ?_⟩
  rintro ⟨g, cap, cur, a, b, c, r⟩
  have := hb g cur.toList b (by unfold BlockIs; rw [c])
  unfold BlockIs at this
  exact ⟨g, cap, cur, a, b, by rw [this], r⟩
theorem KRows.ext {x y : World} {lo C : Nat} {v u : Value} {ls : List SessionD} {li : List ItemD} (h : KRows x lo v u ls li) (hC : C < lo) (hb : ∀ g ty cs, BlockIs x g ty cs → C < g → ty ≠ 27 → BlockIs y g ty cs) : KRows y lo v u ls li :=
  ⟨row_fromK h.1 fun g cs hg hq => hb g _ cs hq (by omega) (by decide), row_fromK h.2 fun g cs hg hq => hb g _ cs hq (by omega) (by decide)⟩
/-- a right command is done -/
theorem perform_fine {ls : List SessionD} {li : List ItemD} {n : Nat} {x : CommandD} (hn : n ≤ 40) (hk : keepOk ls li = true) (hy : Young n ls) (hx : commandOk x = true) :
    ∃ d : KeepD, performD ls li ((n : Int) + 2) x = d ∧ d.ok = true ∧ keepOk d.ss d.is = true ∧ Young ((n + 1 : Nat) : Int) d.ss := by
  have hm : mayDo ls li ((n : Int) + 2) x = true := by
    simp only [mayDo, within, hk, hx, Bool.true_and, Bool.and_true, Bool.and_eq_true, decide_eq_true_eq]
    omega
  have hd := done_right hm
  refine ⟨_, rfl, ?_⟩
  rw [performD, if_pos hm]
  exact ⟨hd.2.2, hd.1, by have := young_done (li := li) (x := x) (Int.natCast_nonneg n) hy; rw [Int.natCast_add]; exact this⟩

set_option maxRecDepth 1000000 in
set_option maxHeartbeats 4000000 in
theorem l15Keep_any (C : Nat) (size : Int) (hs0 : 0 < size) (hs1 : size ≤ 40) (w : World) (hc : CurAt w C) :
    Calls Tryd.prog 36 #[.pointer (some ⟨C, 0, none⟩), .int .i64 size] w fun e w' => KeepDid C w e w' := by
  have hCl := hc.lt
  have HP := hid (fun (ls : List SessionD) (li : List ItemD) (n : Nat) (x : CommandD) h1 h2 h3 h4 => perform_fine (ls := ls) (li := li) (n := n) (x := x) h1 h2 h3 h4)
  have h0 := specKeepNew_any
  have be := below_more (Below.refl w.heap.size w) (.cells #[.slice none 0 0, .slice none 0 0] 27)
  have xr0 : BlockIs (w.alloc (.cells #[.slice none 0 0, .slice none 0 0] 27)) w.heap.size 27 [.slice none 0 0, .slice none 0 0] := heap_alloc_new w _
  obtain ⟨W0, hW0⟩ : ∃ W, w.alloc (.cells #[.slice none 0 0, .slice none 0 0] 27) = W := ⟨_, rfl⟩
  rw [hW0] at be xr0
  have K0 := hid (hc.below be)
  have G0 := hid (grown_below (World.grownBy.refl w (some C)) be)
  have R0 := hid xr0
  clear hc be xr0
  go_enter Tryd.func36, Tryd.ntmps36
  go_wp2_with fail
  refine Calls.mono (h0 _) ?_
  rintro e w1 ⟨g1, rfl, hg1, hi1, b1⟩
  have K1 := hid (K0.out.below b1)
  have G1 := hid (grown_below G0.out b1)
  have R1 := hid (R0.out.on b1 R0.out.lt)
  have I1 := hid hi1
  clear b1 K0 G0 R0 hW0 h0 hi1
  have CP := specPerform_any none (some ⟨g1, 0, none⟩) [] [rootI] 0 1 1 ⟨1, 0, 0, ⟨#[]⟩, ⟨#[]⟩, 0⟩ (by decide) (by decide) w1 (fun h => absurd rfl h) (itemsAt_of (l := [rootI]) (r := []) (by rw [List.append_nil]; exact I1.out))
  rw [first_keep] at CP
  unfold PerfDid at CP
  go_wp2_with fail
  refine Calls.mono CP ?_
  rintro e w2 ⟨va, vc, vb, vd, rfl, hk2, b2⟩
  clear CP I1
  have X0v : True := trivial
  have ba := below_more (Below.refl w2.heap.size w2) (.cells #[.slice none 0 0, .slice none 0 0] 27)
  have hx : BlockIs (w2.alloc (.cells #[.slice none 0 0, .slice none 0 0] 27)) w2.heap.size 27 [.slice none 0 0, .slice none 0 0] := heap_alloc_new w2 _
  have K2 := hid ((K1.out.below b2).below ba)
  have G2 := hid (grown_below (grown_below G1.out b2) ba)
  have R2 := hid ((R1.out.on b2 R1.out.lt).on ba (R1.out.on b2 R1.out.lt).lt)
  have Q2 := hid ((hk2.down (show w.heap.size ≤ w1.heap.size from G1.out.size)).on ba)
  have MX : Hid (w.heap.size < w2.heap.size) := (show _ < _ from (R1.out.on b2 R1.out.lt).lt)
  clear hk2 b2 K1 G1 R1 ba X0v hg1
  obtain ⟨W2, hW2⟩ : ∃ W, w2.alloc (.cells #[.slice none 0 0, .slice none 0 0] 27) = W := ⟨_, rfl⟩
  rw [hW2] at K2 G2 R2 Q2 hx
  obtain ⟨xb, hxb⟩ : ∃ b, w2.heap.size = b := ⟨_, rfl⟩
  have NX : Hid (C < xb) := (show _ < _ by have := MX.out; omega)
  have LX : Hid (w.heap.size ≤ xb) := (show _ ≤ _ by have := MX.out; omega)
  have c0 := hx.cell (j := 0) rfl
  have c1 := hx.cell (j := 1) rfl
  have f0 := hx.thaw 0
  have f1 := hx.thaw 1
  have HXX := hid hx
  clear hx
  rw [hxb] at MX
  have K3 := hid ((K2.out.set (b := xb) (j := 0) (v := .slice va 1 vc) NX.out).set (b := xb) (j := 1) (v := .slice vb 1 vd) NX.out)
  have G3 := hid (grown_far (b := xb) (j := 1) (v := .slice vb 1 vd) (grown_far (b := xb) (j := 0) (v := .slice va 1 vc) G2.out LX.out) LX.out)
  have R3 := hid ((R2.out.far (b := xb) (j := 0) (by have := MX.out; omega) (.slice va 1 vc)).far (b := xb) (j := 1) (by have := MX.out; omega) (.slice vb 1 vd))
  have HXY : BlockIs W2 xb 27 [.slice none 0 0, .slice none 0 0] := by rw [← hxb]; exact HXX.out
  have X3 := hid ((HXY.set 0 (.slice va 1 vc)).set 1 (.slice vb 1 vd))
  have Q3 := hid ((KRows.far (j := 0) Q2.out HXY (by decide) (by decide) (.slice va 1 vc)).far (j := 1) (HXY.set 0 _) (by decide) (by decide) (.slice vb 1 vd))
  clear HXY HXX K2 G2 R2 Q2
  rw [hxb] at c0 c1 f0 f1
  go_wp2_with fail
  go_loopg [8] 40 (fun q i wr => ∃ (n : Nat), ∃ va vc vb vd, ∃ (ls : List SessionD) (li : List ItemD), n + q = 40 ∧ i = .int .i64 (n : Int) ∧ Hid (keepOk ls li = true ∧ Young (n : Int) ls) ∧ Hid (CurAt wr C) ∧ Hid (w.grownBy wr (some C)) ∧ Hid (BlockIs wr w.heap.size 27 [.slice none 0 0, .slice none 0 0]) ∧ Hid (BlockIs wr xb 27 [.slice va ls.length vc, .slice vb li.length vd]) ∧ Hid (KRows wr w.heap.size (.slice va ls.length vc) (.slice vb li.length vd) ls li))
  case atStart => exact ⟨0, va, vc, vb, vd, [⟨1, 0, ⟨#[]⟩⟩], [rootI], by omega, rfl, ⟨first_right, first_young⟩, K3, G3, R3, X3, Q3⟩
  case round =>
    clear K3 G3 R3 X3 Q3 c0 c1 f0 f1 hW2 hxb
    obtain ⟨n, va, vc, vb, vd, ls, li, hnq, rfl, HO, K4, G4, R4, X4, Q4⟩ := hrel
    go_wp2_with fail
    refine Calls.mono (l01Below_any C size (by omega) (by omega) _ K4.out) ?_
    rintro e w3 ⟨y, rfl, y0, y1, k5, q5⟩
    have K5 := hid k5
    have G5 := hid (G4.out.trans q5)
    have R5 := hid (R4.out.cur q5 hCl)
    have X5 := hid (X4.out.cur q5 NX.out)
    have Q5 := hid (Q4.out.cur q5 hCl)
    clear k5 q5 K4 G4 R4 X4 Q4
    by_cases hny : (n : Int) < y
    · obtain ⟨q, rfl⟩ : ∃ q, gk = q + 1 := ⟨gk - 1, by omega⟩
      obtain ⟨⟨ha, hsf, hl3⟩, hai, hif, hl8⟩ := keep_facts HO.out.1
      have hl : ls.length ≤ 1048576 := by omega
      have hl2 : li.length ≤ 1048576 := by omega
      have HLA : Hid (∀ s ∈ ls, (0 ≤ s.token ∧ s.token ≤ 1000000) ∧ 0 ≤ s.last ∧ s.last ≤ 999999) := (show ∀ _ ∈ _, _ from fun s hs => by have h7 := session_bounds (hsf s hs); have h8 := HO.out.2 s hs; omega)
      have HIF := hid hif
      have HPn : Hid (∀ d, commandOk d = true → ∃ D : KeepD, performD ls li ((n : Int) + 2) d = D ∧ D.ok = true ∧ keepOk D.ss D.is = true ∧ Young ((n + 1 : Nat) : Int) D.ss) := (show ∀ _, _ from fun d hd => HP.out ls li n d (by omega) HO.out.1 HO.out.2 hd)
      clear ha hsf hl3 hai hif hl8
      go_wp2
      refine wp_region_each (N := 40) (by kernel_rfl) (by kernel_rfl) rfl (by kernel_rfl) (fun W => CurAt W C ∧ w.grownBy W (some C) ∧ BlockIs W w.heap.size 27 [.slice none 0 0, .slice none 0 0] ∧ BlockIs W xb 27 [.slice va ls.length vc, .slice vb li.length vd] ∧ KRows W w.heap.size (.slice va ls.length vc) (.slice vb li.length vd) ls li) (fun j v u W => match j with | 0 => v = .agg #[.slice va ls.length vc, .slice vb li.length vd] | 1 => v = .int .i64 (n : Int) | 2 => v = .int .i64 ((n : Int) + 2) | 3 => v = .pointer (some ⟨C, 0, none⟩) | 4 => v = .agg #[.slice va ls.length vc, .slice vb li.length vd] | 5 => ∃ d : CommandD, v = .agg #[.int .i64 d.op, .int .i64 d.token, .int .i64 d.seq, .string d.key, .string d.val, .int .i64 d.ver] ∧ commandOk d = true | 6 => ∃ (D : KeepD) (va9 : Option Addr) (vc9 : Nat) (vb9 : Option Addr) (vd9 : Nat), v = .tuple #[.agg #[.slice va9 D.ss.length vc9, .slice vb9 D.is.length vd9], .string D.reply, .bool true] ∧ keepOk D.ss D.is = true ∧ Young ((n + 1 : Nat) : Int) D.ss ∧ KRows W w.heap.size (.slice va9 D.ss.length vc9) (.slice vb9 D.is.length vd9) D.ss D.is | 7 => ∃ (D : KeepD) (va9 : Option Addr) (vc9 : Nat) (vb9 : Option Addr) (vd9 : Nat), v = .tuple #[.agg #[.slice va9 D.ss.length vc9, .slice vb9 D.is.length vd9], .string D.reply, .bool true] ∧ keepOk D.ss D.is = true ∧ Young ((n + 1 : Nat) : Int) D.ss ∧ KRows W w.heap.size (.slice va9 D.ss.length vc9) (.slice vb9 D.is.length vd9) D.ss D.is | 8 => ∃ (D : KeepD) (va9 : Option Addr) (vc9 : Nat) (vb9 : Option Addr) (vd9 : Nat), v = .agg #[.slice va9 D.ss.length vc9, .slice vb9 D.is.length vd9] ∧ keepOk D.ss D.is = true ∧ Young ((n + 1 : Nat) : Int) D.ss ∧ KRows W w.heap.size (.slice va9 D.ss.length vc9) (.slice vb9 D.is.length vd9) D.ss D.is | 9 => ∃ r9 : ByteArray, v = .string r9 | 10 => v = .bool true | 11 => ∃ b : Nat, v = .pointer (some ⟨b, 0, none⟩) ∧ xb < b ∧ BlockIs W b 27 [.slice none 0 0, .slice none 0 0] | 12 => ∃ (b : Nat) (D : KeepD) (va9 : Option Addr) (vc9 : Nat) (vb9 : Option Addr) (vd9 : Nat), u = .pointer (some ⟨b, 0, none⟩) ∧ xb < b ∧ BlockIs W b 27 [.slice va9 D.ss.length vc9, .slice vb9 D.is.length vd9] ∧ keepOk D.ss D.is = true ∧ Young ((n + 1 : Nat) : Int) D.ss ∧ KRows W w.heap.size (.slice va9 D.ss.length vc9) (.slice vb9 D.is.length vd9) D.ss D.is | 13 => ∃ r9 : ByteArray, v = .string r9 | 14 => v = .bool true | _ => True) (fun i => if i = 12 then 11 else i) (fun j i => decide ((j, i) ∈ ([(11, 12)] : List (Nat × Nat)))) (fun i X9 Y9 => (i ≠ 12 → ∀ g ty cs, BlockIs X9 g ty cs → C < g → BlockIs Y9 g ty cs) ∧ ∀ g ty cs, BlockIs X9 g ty cs → C < g → ty ≠ 27 → BlockIs Y9 g ty cs) (fun i => if i = 12 then 9 else 0) (by kernel_rfl) (fun i hi => by have : 15 ≤ i := hi; simp; omega) ?_ ⟨K5.out.below (below_drewN (Below.refl _ _) 1), grown_below G5.out (below_drewN (Below.refl _ _) 1), R5.out.on (below_drewN (Below.refl _ _) 1) R5.out.lt, X5.out.on (below_drewN (Below.refl _ _) 1) X5.out.lt, Q5.out.on (below_drewN (Below.refl _ _) 1)⟩ ?_ ?_
      · intro i j v u x9 y9 hij hdd hwt hxy hg
        match j, hg with
        | 0, hg => exact hg
        | 1, hg => exact hg
        | 2, hg => exact hg
        | 3, hg => exact hg
        | 4, hg => exact hg
        | 5, hg => exact hg
        | 6, hg =>
          obtain ⟨D, va9, vc9, vb9, vd9, e8, hko, hy, hk9⟩ := hg
          exact ⟨D, va9, vc9, vb9, vd9, e8, hko, hy, hk9.ext hCl fun g ty cs h hb hne => hxy.2 g ty cs h hb hne⟩
        | 7, hg =>
          obtain ⟨D, va9, vc9, vb9, vd9, e8, hko, hy, hk9⟩ := hg
          exact ⟨D, va9, vc9, vb9, vd9, e8, hko, hy, hk9.ext hCl fun g ty cs h hb hne => hxy.2 g ty cs h hb hne⟩
        | 8, hg =>
          obtain ⟨D, va9, vc9, vb9, vd9, e8, hko, hy, hk9⟩ := hg
          exact ⟨D, va9, vc9, vb9, vd9, e8, hko, hy, hk9.ext hCl fun g ty cs h hb hne => hxy.2 g ty cs h hb hne⟩
        | 9, hg => exact hg
        | 10, hg => exact hg
        | 11, hg =>
          obtain ⟨b, e1, e2, e3⟩ := hg
          exact ⟨b, e1, e2, hxy.1 (fun e9 => by subst e9; simp at hdd) _ _ _ e3 (by have := NX.out; omega)⟩
        | 12, hg =>
          obtain ⟨b, D, va9, vc9, vb9, vd9, e1, e2, e3, hko, hy, hk9⟩ := hg
          exact ⟨b, D, va9, vc9, vb9, vd9, e1, e2, hxy.1 hij _ _ _ e3 (by have := NX.out; omega), hko, hy, hk9.ext hCl fun g ty cs h hb hne => hxy.2 g ty cs h hb hne⟩
        | 13, hg => exact hg
        | 14, hg => exact hg
        | n + 15, _ => exact trivial
      · refine ⟨?_, ?_, ?_, ?_, ?_, ?_, ?_, ?_, ?_, ?_, ?_, ?_, ?_, ?_, ?_, trivial⟩
        · intro A W hC hg hb
          have h5 : A.eval (.tmp 5) = .pointer (some ⟨xb, 0, none⟩) := hb 5 (base_of (by kernel_rfl))
          obtain ⟨hk, hgr, hR, hX, hQ⟩ := hC
          have hc0 := hX.cell (j := 0) rfl
          have hc1 := hX.cell (j := 1) rfl
          exact does_value (v := .agg #[.slice va ls.length vc, .slice vb li.length vd]) (w' := W) (by simp only [execOp, h5]; simp [go_sem, hc0, hc1]) ⟨rfl, ⟨hk, hgr, hR, hX, hQ⟩, fun _ _ _ _ h _ => h, fun _ _ _ h _ _ => h⟩
        · intro A W hC hg hb
          have h8 : A.eval (.tmp 8) = .int .i64 (n : Int) := hb 8 (base_of (by kernel_rfl))
          exact does_value (v := .int .i64 (n : Int)) (w' := W) (by simp only [execOp, h8]; simp [go_sem]) ⟨rfl, hC, fun _ _ _ _ h _ => h, fun _ _ _ h _ _ => h⟩
        · intro A W hC hg hb
          have h28 : A.eval (.tmp 28) = .int .i64 (n : Int) := hg 1 28 (by decide) rfl (by simp [Op.operands]) (by kernel_rfl) rfl
          have hw2 : IntKind.i64.wrap ((n : Int) + 2) = (n : Int) + 2 := by rw [IntKind.wrap_i64]; omega
          exact does_value (v := .int .i64 ((n : Int) + 2)) (w' := W) (by simp only [execOp, h28]; simp [go_sem, hw2]) ⟨rfl, hC, fun _ _ _ _ h _ => h, fun _ _ _ h _ _ => h⟩
        · intro A W hC hg hb
          have h0 : A.eval (.tmp 0) = .pointer (some ⟨C, 0, none⟩) := hb 0 (base_of (by kernel_rfl))
          exact does_value (v := .pointer (some ⟨C, 0, none⟩)) (w' := W) (by simp only [execOp, h0]; simp [go_sem]) ⟨rfl, hC, fun _ _ _ _ h _ => h, fun _ _ _ h _ _ => h⟩
        · intro A W hC hg hb
          have h5 : A.eval (.tmp 5) = .pointer (some ⟨xb, 0, none⟩) := hb 5 (base_of (by kernel_rfl))
          obtain ⟨hk, hgr, hR, hX, hQ⟩ := hC
          have hc0 := hX.cell (j := 0) rfl
          have hc1 := hX.cell (j := 1) rfl
          exact does_value (v := .agg #[.slice va ls.length vc, .slice vb li.length vd]) (w' := W) (by simp only [execOp, h5]; simp [go_sem, hc0, hc1]) ⟨rfl, ⟨hk, hgr, hR, hX, hQ⟩, fun _ _ _ _ h _ => h, fun _ _ _ h _ _ => h⟩
        · intro A W hC hg hb
          have h30 : A.eval (.tmp 30) = .pointer (some ⟨C, 0, none⟩) := hg 3 30 (by decide) rfl (by simp [Op.operands, Call.operands]) (by kernel_rfl) rfl
          have h31 : A.eval (.tmp 31) = .agg #[.slice va ls.length vc, .slice vb li.length vd] := hg 4 31 (by decide) rfl (by simp [Op.operands, Call.operands]) (by kernel_rfl) rfl
          simp [go_sem] at h30 h31
          obtain ⟨hk, hgr, hR, hX, hQ⟩ := hC
          refine does_enter (f := 63) (args := #[.pointer (some ⟨C, 0, none⟩), .agg #[.slice va ls.length vc, .slice vb li.length vd]]) (w' := W) (by simp [go_sem, h30, h31]) ?_
          refine (l15Command_any C w.heap.size va vb vc vd ls li hl hl2 HIF.out HLA.out W hk hQ hCl).mono ?_
          rintro e9 W' ⟨d, rfl, hd, k', q'⟩
          exact ⟨_, rfl, ⟨d, rfl, hd⟩, ⟨k', hgr.trans q', hR.cur q' hCl, hX.cur q' NX.out, hQ.cur q' hCl⟩, fun _ _ _ _ h hb => h.cur q' hb, fun _ _ _ h hb _ => h.cur q' hb⟩
        · intro A W hC hg hb
          have h27 : A.eval (.tmp 27) = .agg #[.slice va ls.length vc, .slice vb li.length vd] := hg 0 27 (by decide) rfl (by simp [Op.operands, Call.operands]) (by kernel_rfl) rfl
          have h29 : A.eval (.tmp 29) = .int .i64 ((n : Int) + 2) := hg 2 29 (by decide) rfl (by simp [Op.operands, Call.operands]) (by kernel_rfl) rfl
          have g5 := hg 5 32 (by decide) rfl (by simp [Op.operands, Call.operands]) (by kernel_rfl) rfl
          obtain ⟨d, e5, hd⟩ := g5
          obtain ⟨hk, hgr, hR, hX, hQ⟩ := hC
          obtain ⟨D, hD, ho, hko, hy⟩ := HPn.out d hd
          have cp := specPerform_any va vb ls li vc vd ((n : Int) + 2) d hl hl2 W (sessionR_at hQ.1) (itemR_at hQ.2)
          rw [hD] at cp
          unfold PerfDid at cp
          rw [ho] at cp
          simp [go_sem] at h27 h29 e5
          refine does_enter (f := 64) (args := #[.agg #[.slice va ls.length vc, .slice vb li.length vd], .int .i64 ((n : Int) + 2), .agg #[.int .i64 d.op, .int .i64 d.token, .int .i64 d.seq, .string d.key, .string d.val, .int .i64 d.ver]]) (w' := W) (by simp [go_sem, h27, h29, e5]) ?_
          refine Calls.mono cp ?_
          rintro e9 W' ⟨va9, vc9, vb9, vd9, rfl, hk9, hb9⟩
          exact ⟨_, rfl, ⟨D, va9, vc9, vb9, vd9, rfl, hko, hy, hk9.down hgr.size⟩, ⟨hk.below hb9, grown_below hgr hb9, hR.on hb9 hR.lt, hX.on hb9 hX.lt, hQ.on hb9⟩, fun _ _ _ _ h _ => h.on hb9 h.lt, fun _ _ _ h _ _ => h.on hb9 h.lt⟩
        · intro A W hC hg hb
          have g6 := hg 6 33 (by decide) rfl (by simp [Op.operands]) (by kernel_rfl) rfl
          obtain ⟨D, va9, vc9, vb9, vd9, e8, hko, hy, hk9⟩ := g6
          exact does_value (v := .tuple #[.agg #[.slice va9 D.ss.length vc9, .slice vb9 D.is.length vd9], .string D.reply, .bool true]) (w' := W) (by simp only [execOp, e8]; simp [go_sem]) ⟨⟨D, va9, vc9, vb9, vd9, rfl, hko, hy, hk9⟩, hC, fun _ _ _ _ h _ => h, fun _ _ _ h _ _ => h⟩
        · intro A W hC hg hb
          have g7 := hg 7 26 (by decide) rfl (by simp [Op.operands]) (by kernel_rfl) rfl
          obtain ⟨D, va9, vc9, vb9, vd9, e8, hko, hy, hk9⟩ := g7
          exact does_value (v := .agg #[.slice va9 D.ss.length vc9, .slice vb9 D.is.length vd9]) (w' := W) (by simp only [execOp, e8]; simp [go_sem]) ⟨⟨D, va9, vc9, vb9, vd9, rfl, hko, hy, hk9⟩, hC, fun _ _ _ _ h _ => h, fun _ _ _ h _ _ => h⟩
        · intro A W hC hg hb
          have g7 := hg 7 26 (by decide) rfl (by simp [Op.operands]) (by kernel_rfl) rfl
          obtain ⟨D, va9, vc9, vb9, vd9, e8, hko, hy, hk9⟩ := g7
          exact does_value (v := .string D.reply) (w' := W) (by simp only [execOp, e8]; simp [go_sem]) ⟨⟨_, rfl⟩, hC, fun _ _ _ _ h _ => h, fun _ _ _ h _ _ => h⟩
        · intro A W hC hg hb
          have g7 := hg 7 26 (by decide) rfl (by simp [Op.operands]) (by kernel_rfl) rfl
          obtain ⟨D, va9, vc9, vb9, vd9, e8, hko, hy, hk9⟩ := g7
          exact does_value (v := .bool true) (w' := W) (by simp only [execOp, e8]; simp [go_sem]) ⟨rfl, hC, fun _ _ _ _ h _ => h, fun _ _ _ h _ _ => h⟩
        · intro A W hC hg hb
          obtain ⟨hk, hgr, hR, hX, hQ⟩ := hC
          have ba := below_more (Below.refl W.heap.size W) (.cells #[.slice none 0 0, .slice none 0 0] 27)
          exact does_value (v := .pointer (some ⟨W.heap.size, 0, none⟩)) (w' := W.alloc (.cells #[.slice none 0 0, .slice none 0 0] 27)) (by simp [execOp, go_sem]) ⟨⟨_, rfl, hX.lt, heap_alloc_new W _⟩, ⟨hk.below ba, grown_below hgr ba, hR.on ba hR.lt, hX.on ba hX.lt, hQ.on ba⟩, fun _ _ _ _ h _ => h.on ba h.lt, fun _ _ _ h _ _ => h.on ba h.lt⟩
        · intro A W hC hg hb
          have g11 := hg 11 9 (by decide) rfl (by simp [Op.operands]) (by kernel_rfl) rfl
          have g8 := hg 8 34 (by decide) rfl (by simp [Op.operands]) (by kernel_rfl) rfl
          obtain ⟨D, va9, vc9, vb9, vd9, e8, hko, hy, hk9⟩ := g8
          obtain ⟨b, e9, hbx, hXb⟩ := g11
          obtain ⟨hk, hgr, hR, hX, hQ⟩ := hC
          have c0 := hXb.cell (j := 0) rfl
          have c1 := hXb.cell (j := 1) rfl
          have f0 := hXb.thaw 0
          have f1 := hXb.thaw 1
          have hX3 := (hXb.set 0 (.slice va9 D.ss.length vc9)).set 1 (.slice vb9 D.is.length vd9)
          have hNb : C < b := by have := NX.out; omega
          have hLb : w.heap.size ≤ b := by have := LX.out; omega
          have hrb : w.heap.size ≠ b := by have := MX.out; omega
          have hxb9 : xb ≠ b := by omega
          exact does_skip (w' := ((W.setCell ⟨b, 0, none⟩ (.slice va9 D.ss.length vc9)).setCell ⟨b, 1, none⟩ (.slice vb9 D.is.length vd9))) (by simp only [execOp, e9, e8]; simp [go_sem, c0, c1, f0, f1]) ⟨⟨b, D, va9, vc9, vb9, vd9, e9, hbx, hX3, hko, hy, (KRows.far (j := 0) hk9 hXb (by decide) (by decide) _).far (j := 1) (hXb.set 0 _) (by decide) (by decide) _⟩, ⟨(hk.set hNb).set hNb, grown_far (grown_far hgr hLb) hLb, (hR.far (by omega) _).far (by omega) _, (hX.far (by omega) _).far (by omega) _, (KRows.far (j := 0) hQ hXb (by decide) (by decide) _).far (j := 1) (hXb.set 0 _) (by decide) (by decide) _⟩, fun hne => absurd rfl hne, fun g ty cs hq _ hne => (hq.far (fun e7 => by subst e7; exact hne (block_one hq hXb).1) _).far (fun e7 => by subst e7; exact hne (block_one hq hXb).1) _⟩
        · intro A W hC hg hb
          have g9 := hg 9 35 (by decide) rfl (by simp [Op.operands]) (by kernel_rfl) rfl
          obtain ⟨r9, e8⟩ := g9
          exact does_value (v := .string r9) (w' := W) (by simp only [execOp, e8]; simp [go_sem]) ⟨⟨_, rfl⟩, hC, fun _ _ _ _ h _ => h, fun _ _ _ h _ _ => h⟩
        · intro A W hC hg hb
          have h36 : A.eval (.tmp 36) = .bool true := hg 10 36 (by decide) rfl (by simp [Op.operands]) (by kernel_rfl) rfl
          exact does_value (v := .bool true) (w' := W) (by simp only [execOp, h36]; simp [go_sem]) ⟨rfl, hC, fun _ _ _ _ h _ => h, fun _ _ _ h _ _ => h⟩
      · intro vs wE hC hg
        obtain ⟨b, D, va9, vc9, vb9, vd9, h1, hbx, hB, hko, hyo, hQ9⟩ := hg 12 (by decide) (fun k => by simp)
        have h1b : vs 11 = .pointer (some ⟨b, 0, none⟩) := h1
        have h2b : vs 14 = .bool true := hg 14 (by decide) (fun k => by simp)
        clear hg h1 K5 G5 R5 X5 Q5
        change Exit.then _ _ _ (laidBy _ vs _ 15 _) wE
        simp only [laidBy, if_true, dstAt, List.getElem?_toArray, List.getElem?_cons_succ, List.getElem?_cons_zero, Option.bind_some]
        simp only [Act.put, List.setIfInBounds_toArray, List.set_cons_succ, List.set_cons_zero]
        rw [h1b, h2b]
        obtain ⟨hk, hgr, hR, hX, hQ⟩ := hC
        have c0 := hB.cell (j := 0) rfl
        have c1 := hB.cell (j := 1) rfl
        have x0 := hX.cell (j := 0) rfl
        have x1 := hX.cell (j := 1) rfl
        have f0 := hX.thaw 0
        have f1 := hX.thaw 1
        have K6 := hid ((hk.set (b := xb) (j := 0) (v := .slice va9 D.ss.length vc9) NX.out).set (b := xb) (j := 1) (v := .slice vb9 D.is.length vd9) NX.out)
        have G6 := hid (grown_far (b := xb) (j := 1) (v := .slice vb9 D.is.length vd9) (grown_far (b := xb) (j := 0) (v := .slice va9 D.ss.length vc9) hgr LX.out) LX.out)
        have R6 := hid ((hR.far (b := xb) (j := 0) (by have := MX.out; omega) (.slice va9 D.ss.length vc9)).far (b := xb) (j := 1) (by have := MX.out; omega) (.slice vb9 D.is.length vd9))
        have X6 := hid ((hX.set 0 (.slice va9 D.ss.length vc9)).set 1 (.slice vb9 D.is.length vd9))
        have Q6 := hid ((KRows.far (j := 0) hQ9 hX (by decide) (by decide) (.slice va9 D.ss.length vc9)).far (j := 1) (hX.set 0 _) (by decide) (by decide) (.slice vb9 D.is.length vd9))
        have O6 := hid (And.intro hko hyo)
        clear hk hgr hR hX hQ hB hko hyo hQ9 HPn HIF HLA HO
        go_wp2_with fail
        go_roundg q
        case measure => omega
        case rel => exact ⟨n + 1, va9, vc9, vb9, vd9, D.ss, D.is, by omega, by go_num, O6, K6, G6, R6, X6, Q6⟩
    · have c0 := X5.out.cell (j := 0) rfl
      have c1 := X5.out.cell (j := 1) rfl
      have z0 := R5.out.cell (j := 0) rfl
      have z1 := R5.out.cell (j := 1) rfl
      have f0 := R5.out.thaw 0
      have f1 := R5.out.thaw 1
      have KL := hid ((K5.out.set (b := w.heap.size) (j := 0) (v := .slice va ls.length vc) hCl).set (b := w.heap.size) (j := 1) (v := .slice vb li.length vd) hCl)
      have GL := hid (grown_far (b := w.heap.size) (j := 1) (v := .slice vb li.length vd) (grown_far (b := w.heap.size) (j := 0) (v := .slice va ls.length vc) G5.out (Nat.le_refl _)) (Nat.le_refl _))
      have QL := hid ((KRows.far (j := 0) Q5.out R5.out (by decide) (by decide) (.slice va ls.length vc)).far (j := 1) (R5.out.set 0 _) (by decide) (by decide) (.slice vb li.length vd))
      have hn40 : (n : Int) ≤ 40 := by omega
      clear K5 G5 X5 Q5 R5
      go_wp2
      refine bodyPost_ret (v := .agg #[.slice va ls.length vc, .slice vb li.length vd]) (by simp [results, Tryd.results36, go_sem, z0, z1]) rfl ?_
      exact ⟨va, vc, vb, vd, ls, li, rfl, HO.out.1, HO.out.2.up hn40, QL.out, KL.out, GL.out⟩
end Go.Proofs.YtihgkocfgjihhaaDoor

namespace Go.Proofs.YtihgkocfgjihhaaDoor
open Go.RowKit

theorem curLong_info5 : (Tryd.prog.info? 5).map (fun i => (i.zero, i.size, i.bytes)) = some (some (.int .u8 0), 1, 1) := by kernel_rfl

theorem zeros_cs (n : Nat) : (madeCells #[Value.int .u8 0] n).toList = cs (List.replicate n 0) := by
  apply List.ext_getElem?
  intro i
  simp only [madeCells, cs, Array.toList_map, List.getElem?_map, List.getElem?_replicate]
  by_cases h : i < n
  · simp [h, Nat.mod_one]
  · simp [h]

set_option maxRecDepth 1000000 in
set_option maxHeartbeats 1000000 in
theorem l01Long_any (n : Nat) (hn : n ≤ 1000000) (x : Int) (x0 : 0 ≤ x) (x1 : x ≤ 255) (w : World) :
    Calls Tryd.prog 47 #[.int .i64 n, .int .u8 x] w fun e w' => ∃ s : ByteArray, e = .returned (.string s) ∧ s.size = n ∧ Below w.heap.size w w' := by
  obtain ⟨i0, hi, hz0, hz1, hz2⟩ := info_parts curLong_info5
  go_enter Tryd.func47, Tryd.ntmps47
  go_wp2_with (at_make; refine wpList_make_full _ rfl (.tmp 7) (.tmp 7) 22 rfl w.heap.size 5 i0 (.int .u8 0) 1 Tryd.underlying22 hi hz0 hz1 _ _ _ _ n rfl rfl rfl rfl ?b2 ?b3 ?b4 ?_)
  case b2 => rw [hz2]; omega
  case b3 => unfold maxLen; omega
  case b4 => exact Nat.le_refl _
  intro w0 hown0 hgrow0
  rw [zeros_cs] at hown0
  have hb0 : Below w.heap.size w w0 := (Below.refl _ _).grown hgrow0 (Nat.le_refl _) (fun k h => by cases h)
  clear hgrow0
  go_wp2
  go_loopw [6] (fun i wr => ∃ (k : Nat) (l : List UInt8), k ≤ n ∧ i = .int .i64 k ∧ l.length = n ∧ wr.ownsRow w.heap.size 5 1 (.slice (some ⟨w.heap.size, 0, none⟩) n n) n (cs l) ∧ Below w.heap.size w wr) (fun i _ => n - (intOf i).toNat)
  case atStart => exact ⟨0, List.replicate n 0, Nat.zero_le _, rfl, by simp, hown0, hb0⟩
  case round =>
    obtain ⟨k, l, hk, rfl, hl, hown, hb⟩ := hrel
    clear hown0 hb0
    have HL := (show Hid _ from hl)
    clear hl
    by_cases hlt : k < n
    · obtain ⟨u0, hc0, hf0⟩ := at_row hown k hlt
      have k1 : (k : Int) < (n : Int) := by omega
      have HO : Hid ((wr.setCell ⟨w.heap.size, k, none⟩ (.int .u8 x)).ownsRow w.heap.size 5 1 (.slice (some ⟨w.heap.size, 0, none⟩) n n) n (cs (l.set k (UInt8.ofNat x.toNat)))) := by
        have h1 := ownsRow_set hown (g := w.heap.size) rfl k (.int .u8 x)
        have h2 : (cs l).set k (.int .u8 x) = cs (l.set k (UInt8.ofNat x.toNat)) := by
          have e : Value.int .u8 x = .int .u8 ((UInt8.ofNat x.toNat).toNat : Int) := by rw [UInt8.toNat_ofNat']; congr 1; omega
          rw [e]
          simp only [cs, List.map_set]
        rw [h2] at h1
        exact h1
      have HB := (show Hid _ from hb.setCell (p := ⟨w.heap.size, k, none⟩) (Nat.le_refl _) (.int .u8 x))
      clear hown hb
      go_wp2
      go_roundw
      case rel => exact ⟨k + 1, l.set k (UInt8.ofNat x.toNat), by omega, by go_num, by simp [HL.out], HO.out, HB.out⟩
      case measure => simp [intOf]; omega
    · have hown2 : wr.ownsRow w.heap.size 5 1 (.slice (some ⟨w.heap.size, 0, none⟩) n n) l.length (cs l) := by rw [HL.out]; exact hown
      have hcv := text_of_row (P := Tryd.prog) Tryd.underlying22 Tryd.underlying5 Tryd.underlying9 hown2
      clear hown hown2
      go_wp2
      go_ret
      exact ⟨_, rfl, by simp [ByteArray.size, HL.out], hb⟩
end Go.Proofs.YtihgkocfgjihhaaDoor

namespace Go.Proofs.YtihgkocfgjihhaaDoor
open Go.RowKit Go.Sort

/-- some keep of few rows -/
def AnyKeepDid (C : Nat) (w : World) (e : Ending) (w' : World) : Prop := ∃ va vc vb vd ls li, e = .returned (.agg #[.slice va (List.length ls) vc, .slice vb (List.length li) vd]) ∧ (ls.length ≤ 100 ∧ li.length ≤ 100) ∧ KRows w' w.heap.size (.slice va ls.length vc) (.slice vb li.length vd) ls li ∧ CurAt w' C ∧ w.grownBy w' (some C)
theorem grown_rowA {w W W' : World} {C : Nat} {r : Option Nat} (h : w.grownBy W (some C)) (hg : W.grownBy W' r) (hr : ∀ j, r = some j → w.heap.size ≤ j) : w.grownBy W' (some C) :=
  ⟨hg.os.trans h.os, hg.tape.trans h.tape, hg.output.trans h.output, Nat.le_trans h.size hg.size, fun j hj hne => by
    rw [hg.block j (by have := h.size; omega) (fun e => by have := hr j e.symm; omega)]
    exact h.block j hj hne⟩
theorem strs_block {W : World} {g : Nat} {t : TypeId} {zs : List ByteArray} (h : BlockIs W g t (zs.map Value.string)) : Strs W g zs := fun j hj => h.cell (by simp [hj])
theorem ints_block {W : World} {g : Nat} {t : TypeId} {zs : List Int} (h : BlockIs W g t (zs.map (Value.int .i64))) : Ints W g zs := fun j hj => h.cell (by simp [hj])
theorem item_more {W : World} {v : Value} {base g : Nat} {L : List ItemD} {d : ItemD} (hn : L.length ≤ 1000) (hbase : base ≤ W.heap.size) (hr : W.ownsRow base 58 3 v L.length (itemCells L)) (hM : BlockIs W g 58 (itemEnc d)) :
    ∃ va' vc' W', (Builtin.append_ #[25, 25] 25 #[v, .slice (some ⟨g, 0, none⟩) 1 1]).run Tryd.prog W = .ok (.slice va' (L ++ [d]).length vc') W' ∧ W'.ownsRow base 58 3 (.slice va' (L ++ [d]).length vc') (L ++ [d]).length (itemCells (L ++ [d])) ∧ W.grownBy W' v.ownBlock := by
  obtain ⟨v', W', h1, h2, h3⟩ := append_items (c := 1) (M := [d]) (by simp; omega) hbase hr (itemsAt_of (l := [d]) (r := []) (t := 58) (g := g) (by simpa [itemCells] using hM))
  obtain ⟨va', vc', rfl⟩ := row_shape h2
  exact ⟨va', vc', W', h1, h2, h3⟩
theorem session_more {W : World} {v : Value} {base g : Nat} {L : List SessionD} {d : SessionD} (hn : L.length ≤ 1000) (hbase : base ≤ W.heap.size) (hr : W.ownsRow base 55 3 v L.length (sessionCells L)) (hM : BlockIs W g 55 (sessionEnc d)) :
    ∃ va' vc' W', (Builtin.append_ #[24, 24] 24 #[v, .slice (some ⟨g, 0, none⟩) 1 1]).run Tryd.prog W = .ok (.slice va' (L ++ [d]).length vc') W' ∧ W'.ownsRow base 55 3 (.slice va' (L ++ [d]).length vc') (L ++ [d]).length (sessionCells (L ++ [d])) ∧ W.grownBy W' v.ownBlock := by
  obtain ⟨v', W', h1, h2, h3⟩ := append_sessions (c := 1) (M := [d]) (by simp; omega) hbase hr (sessionsAt_of (l := [d]) (r := []) (t := 55) (g := g) (by simpa [sessionCells] using hM))
  obtain ⟨va', vc', rfl⟩ := row_shape h2
  exact ⟨va', vc', W', h1, h2, h3⟩

set_option maxRecDepth 1000000 in
set_option maxHeartbeats 8000000 in
theorem l15Any_any (C : Nat) (w : World) (hc : CurAt w C) :
    Calls Tryd.prog 18 #[.pointer (some ⟨C, 0, none⟩)] w fun e w' => AnyKeepDid C w e w' := by
  have hCl := hc.lt
  have be := below_more (Below.refl w.heap.size w) (.cells #[.slice none 0 0, .slice none 0 0] 27)
  have xr0 : BlockIs (w.alloc (.cells #[.slice none 0 0, .slice none 0 0] 27)) w.heap.size 27 [.slice none 0 0, .slice none 0 0] := heap_alloc_new w _
  obtain ⟨W0, hW0⟩ : ∃ W, w.alloc (.cells #[.slice none 0 0, .slice none 0 0] 27) = W := ⟨_, rfl⟩
  rw [hW0] at be xr0
  have K0 := hid (hc.below be)
  have G0 := hid (grown_below (World.grownBy.refl w (some C)) be)
  have R0 := hid xr0
  clear hc be xr0
  go_enter Tryd.func18, Tryd.ntmps18
  go_wp2_with fail
  refine Calls.mono (l15Keep_any C 14 (by omega) (by omega) _ K0.out) ?_
  rintro e w1 ⟨va1, vc1, vb1, vd1, ls, li, rfl, hko, _, hq1, k1, q1⟩
  obtain ⟨⟨_, _, hl3⟩, _, _, hl8⟩ := keep_facts hko
  have K1 := hid k1
  have G1 := hid (G0.out.trans q1)
  have R1 := hid (R0.out.cur q1 hCl)
  clear k1 q1 K0 G0 R0 hW0 hko
  go_wp2_with fail
  refine Calls.mono (l15Copy_any va1 vb1 ls li vc1 vd1 (by omega) (by omega) w1 (sessionR_at hq1.1) (itemR_at hq1.2)) ?_
  rintro e w2 ⟨va, vc, vb, vd, rfl, hk2, b2⟩
  clear hq1
  have ba := below_more (Below.refl w2.heap.size w2) (.cells #[.slice none 0 0, .slice none 0 0] 27)
  have hx : BlockIs (w2.alloc (.cells #[.slice none 0 0, .slice none 0 0] 27)) w2.heap.size 27 [.slice none 0 0, .slice none 0 0] := heap_alloc_new w2 _
  have K2 := hid ((K1.out.below b2).below ba)
  have G2 := hid (grown_below (grown_below G1.out b2) ba)
  have R2 := hid ((R1.out.on b2 R1.out.lt).on ba (R1.out.on b2 R1.out.lt).lt)
  have Q2 := hid ((hk2.down (show w.heap.size ≤ w1.heap.size from G1.out.size)).on ba)
  have MX : Hid (w.heap.size < w2.heap.size) := (show _ < _ from (R1.out.on b2 R1.out.lt).lt)
  clear hk2 b2 K1 G1 R1 ba
  obtain ⟨W2, hW2⟩ : ∃ W, w2.alloc (.cells #[.slice none 0 0, .slice none 0 0] 27) = W := ⟨_, rfl⟩
  rw [hW2] at K2 G2 R2 Q2 hx
  obtain ⟨xb, hxb⟩ : ∃ b, w2.heap.size = b := ⟨_, rfl⟩
  have NX : Hid (C < xb) := (show _ < _ by have := MX.out; omega)
  have LX : Hid (w.heap.size ≤ xb) := (show _ ≤ _ by have := MX.out; omega)
  have c0 := hx.cell (j := 0) rfl
  have c1 := hx.cell (j := 1) rfl
  have f0 := hx.thaw 0
  have f1 := hx.thaw 1
  have HXX := hid hx
  clear hx
  rw [hxb] at MX
  have K3 := hid ((K2.out.set (b := xb) (j := 0) (v := .slice va ls.length vc) NX.out).set (b := xb) (j := 1) (v := .slice vb li.length vd) NX.out)
  have G3 := hid (grown_far (b := xb) (j := 1) (v := .slice vb li.length vd) (grown_far (b := xb) (j := 0) (v := .slice va ls.length vc) G2.out LX.out) LX.out)
  have R3 := hid ((R2.out.far (b := xb) (j := 0) (by have := MX.out; omega) (.slice va ls.length vc)).far (b := xb) (j := 1) (by have := MX.out; omega) (.slice vb li.length vd))
  have HXY : BlockIs W2 xb 27 [.slice none 0 0, .slice none 0 0] := by rw [← hxb]; exact HXX.out
  have X3 := hid ((HXY.set 0 (.slice va ls.length vc)).set 1 (.slice vb li.length vd))
  have Q3 := hid ((KRows.far (j := 0) Q2.out HXY (by decide) (by decide) (.slice va ls.length vc)).far (j := 1) (HXY.set 0 _) (by decide) (by decide) (.slice vb li.length vd))
  clear HXY HXX K2 G2 R2 Q2
  rw [hxb] at c0 c1 f0 f1
  go_wp2_with fail
  refine Calls.mono (l01Below_any C 16 (by omega) (by omega) _ K3.out) ?_
  rintro e w4 ⟨y, rfl, y00, y01, k4, q4⟩
  have K := hid k4
  have G := hid (G3.out.trans q4)
  have R := hid (R3.out.cur q4 hCl)
  have X := hid (X3.out.cur q4 NX.out)
  have Q := hid (Q3.out.cur q4 hCl)
  clear k4 q4 K3 G3 R3 X3 Q3 c0 c1 f0 f1 hW2 hxb
  by_cases y0 : y = 0
  · subst y0
    have c0 := X.out.cell (j := 0) rfl
    have c1 := X.out.cell (j := 1) rfl
    have z0 := R.out.cell (j := 0) rfl
    have z1 := R.out.cell (j := 1) rfl
    have f0 := R.out.thaw 0
    have f1 := R.out.thaw 1
    clear c0 c1 z0 z1 f0 f1
    go_wp2
    refine wp_region_from (N := 80) (by kernel_rfl) (by kernel_rfl) rfl (by kernel_rfl) (fun W => CurAt W C ∧ w.grownBy W (some C) ∧ BlockIs W w.heap.size 27 [.slice none 0 0, .slice none 0 0] ∧ W.ownsRow w.heap.size 55 3 (.slice va ls.length vc) ls.length (sessionCells ls)) (fun j v u W => match j with | 0 => v = .pointer (some ⟨xb, 1, none⟩) | 1 => v = .slice vb li.length vd | 2 => v = .pointer (some ⟨C, 0, none⟩) | 3 => ∃ g : Nat, v = .slice (some ⟨g, 0, none⟩) 4 4 ∧ C < g ∧ BlockIs W g 9 [.string ⟨#[]⟩, .string ⟨#[122]⟩, .string ⟨#[97]⟩, .string ⟨#[49, 50, 51, 52, 53, 54, 55, 56, 57]⟩] | 4 => ∃ s : ByteArray, v = .string s | 5 => ∃ d : ItemD, v = .agg #[.string d.key, .string d.val, .int .i64 d.ver] | 6 => ∃ (g : Nat) (d : ItemD), v = .slice (some ⟨g, 0, none⟩) 1 1 ∧ C < g ∧ BlockIs W g 58 (itemEnc d) | 7 => ∃ (va' : Option Addr) (vc' : Nat) (d : ItemD), v = .slice va' (li ++ [d]).length vc' ∧ W.ownsRow w.heap.size 58 3 (.slice va' (li ++ [d]).length vc') (li ++ [d]).length (itemCells (li ++ [d])) | 8 => v = .pointer (some ⟨xb, 1, none⟩) | 9 => ∃ (va' : Option Addr) (vc' : Nat) (d : ItemD), u = .slice va' (li ++ [d]).length vc' ∧ W.ownsRow w.heap.size 58 3 (.slice va' (li ++ [d]).length vc') (li ++ [d]).length (itemCells (li ++ [d])) ∧ BlockIs W xb 27 [.slice va ls.length vc, .slice va' (li ++ [d]).length vc'] | _ => True) (fun i => if i = 9 then 7 else i) (fun j i => decide ((j, i) ∈ ([(6, 7)] : List (Nat × Nat)))) (fun i x y => x.heap.size ≤ y.heap.size ∧ ∀ g ty cs, BlockIs x g ty cs → C < g → (i = 7 → ty ≠ 58) → (i = 9 → ty ≠ 27) → BlockIs y g ty cs) (fun q9 W => match q9 with | 0 => W.ownsRow w.heap.size 58 3 (.slice vb li.length vd) li.length (itemCells li) | 1 => BlockIs W xb 27 [.slice va ls.length vc, .slice vb li.length vd] | _ => True) (fun m k => decide ((m, k) ∈ ([(0, 7), (1, 9)] : List (Nat × Nat)))) ?_ (fun i => if i = 9 then 18 else 0) (by kernel_rfl) (fun i hi => by have : 10 ≤ i := hi; simp; omega) ?_ ⟨K.out.below (below_drewN (Below.refl _ _) 1), grown_below G.out (below_drewN (Below.refl _ _) 1), R.out.on (below_drewN (Below.refl _ _) 1) R.out.lt, row_onK Q.out.1 (below_drewN (Below.refl _ _) 1)⟩ (fun q9 => match q9 with | 0 => row_onK Q.out.2 (below_drewN (Below.refl _ _) 1) | 1 => X.out.on (below_drewN (Below.refl _ _) 1) X.out.lt | _ + 2 => trivial) ?_ ?_
    · intro i m x9 y9 hen hxy hm
      match m, hen, hm with
      | 0, hen, hm =>
        simp at hen
        exact row_fromK hm fun g cs hg h => hxy.2 _ _ _ h (by omega) (fun e => absurd e hen) (fun _ => by decide)
      | 1, hen, hm =>
        simp at hen
        exact hxy.2 _ _ _ hm NX.out (fun _ => by decide) (fun e => absurd e hen)
      | n + 2, _, _ => exact trivial
    · intro i j v u x9 y9 hij hdd hwt hxy hg
      match j, hg with
      | 0, hg => exact hg
      | 1, hg => exact hg
      | 2, hg => exact hg
      | 3, hg =>
        obtain ⟨g, e1, hlt, e2⟩ := hg
        exact ⟨g, e1, hlt, hxy.2 _ _ _ e2 hlt (fun _ => by decide) (fun _ => by decide)⟩
      | 4, hg => exact hg
      | 5, hg => exact hg
      | 6, hg =>
        obtain ⟨g, d, e1, hlt, e2⟩ := hg
        simp at hdd
        exact ⟨g, d, e1, hlt, hxy.2 _ _ _ e2 hlt (fun e => absurd e hdd) (fun _ => by decide)⟩
      | 7, hg =>
        obtain ⟨va', vc', d, e1, e2⟩ := hg
        exact ⟨va', vc', d, e1, row_fromK e2 fun g cs hg h => hxy.2 _ _ _ h (by omega) (fun e => absurd e hij) (fun _ => by decide)⟩
      | 8, hg => exact hg
      | 9, hg =>
        obtain ⟨va', vc', d, e1, e2, e3⟩ := hg
        have h6 : i ≠ 7 := by rintro rfl; exact Bool.noConfusion (hwt.symm.trans (by kernel_rfl : waitsB _ 9 7 = true))
        exact ⟨va', vc', d, e1, row_fromK e2 fun g cs hg h => hxy.2 _ _ _ h (by omega) (fun e => absurd e h6) (fun _ => by decide), hxy.2 _ _ _ e3 NX.out (fun _ => by decide) (fun e => absurd e hij)⟩
      | n + 10, _ => exact trivial
    · refine ⟨?_, ?_, ?_, ?_, ?_, ?_, ?_, ?_, ?_, ?_, trivial⟩
      · intro A W hC hI hg hb
        have h3 : A.eval (.tmp 3) = .pointer (some ⟨xb, 0, none⟩) := hb 3 (base_of (by kernel_rfl))
        exact does_value (v := .pointer (some ⟨xb, 1, none⟩)) (w' := W) (by simp only [execOp, h3]; simp [go_sem]) ⟨rfl, hC, Nat.le_refl _, fun _ _ _ h _ _ _ => h⟩
      · intro A W hC hI hg hb
        have h11 : A.eval (.tmp 11) = .pointer (some ⟨xb, 1, none⟩) := hg 0 11 (by decide) rfl (by simp [Op.operands]) (by kernel_rfl) rfl
        have hb1 : BlockIs W xb 27 [.slice va ls.length vc, .slice vb li.length vd] := hI 1 (by kernel_rfl)
        have hc := hb1.cell (j := 1) rfl
        exact does_value (v := .slice vb li.length vd) (w' := W) (by simp only [execOp, h11]; simp [go_sem, hc]) ⟨rfl, hC, Nat.le_refl _, fun _ _ _ h _ _ _ => h⟩
      · intro A W hC hI hg hb
        have h0 : A.eval (.tmp 0) = .pointer (some ⟨C, 0, none⟩) := hb 0 (base_of (by kernel_rfl))
        exact does_value (v := .pointer (some ⟨C, 0, none⟩)) (w' := W) (by simp only [execOp, h0]; simp [go_sem]) ⟨rfl, hC, Nat.le_refl _, fun _ _ _ h _ _ _ => h⟩
      · intro A W hC hI hg hb
        obtain ⟨hk, hgr, hr, ho⟩ := hC
        have ba := below_more (Below.refl W.heap.size W) (.cells #[.string ⟨#[]⟩, .string ⟨#[122]⟩, .string ⟨#[97]⟩, .string ⟨#[49, 50, 51, 52, 53, 54, 55, 56, 57]⟩] 9)
        exact does_value (v := .slice (some ⟨W.heap.size, 0, none⟩) 4 4) (w' := W.alloc (.cells #[.string ⟨#[]⟩, .string ⟨#[122]⟩, .string ⟨#[97]⟩, .string ⟨#[49, 50, 51, 52, 53, 54, 55, 56, 57]⟩] 9)) (by simp [execOp, go_sem]) ⟨⟨_, rfl, hk.lt, heap_alloc_new W _⟩, ⟨hk.below ba, grown_below hgr ba, hr.on ba hr.lt, row_onK ho ba⟩, ba.size, fun g ty cs h _ _ _ => h.on ba h.lt⟩
      · intro A W hC hI hg hb
        have h13 : A.eval (.tmp 13) = .pointer (some ⟨C, 0, none⟩) := hg 2 13 (by decide) rfl (by simp [Op.operands, Call.operands]) (by kernel_rfl) rfl
        have g3 := hg 3 14 (by decide) rfl (by simp [Op.operands, Call.operands]) (by kernel_rfl) rfl
        obtain ⟨g, e8, hlt, hbl⟩ := g3
        obtain ⟨hk, hgr, hr, ho⟩ := hC
        simp [go_sem] at h13 e8
        refine does_enter (f := 45) (args := #[.pointer (some ⟨C, 0, none⟩), .slice (some ⟨g, 0, none⟩) 4 4]) (w' := W) (by simp [go_sem, h13, e8]) ?_
        refine (l01Pick_any C g ([⟨#[]⟩, ⟨#[122]⟩, ⟨#[97]⟩, ⟨#[49, 50, 51, 52, 53, 54, 55, 56, 57]⟩] : List ByteArray) 4 (by decide) (by decide) hlt W hk (strs_block hbl)).mono ?_
        rintro e W' ⟨j, hj, rfl, k', q'⟩
        exact ⟨_, rfl, ⟨_, rfl⟩, ⟨k', hgr.trans q', hr.cur q' hCl, row_fromK ho fun g cs hg h => h.cur q' (by omega)⟩, q'.size, fun g ty cs h hg _ _ => h.cur q' hg⟩
      · intro A W hC hI hg hb
        have g4 := hg 4 15 (by decide) rfl (by simp [Op.operands]) (by kernel_rfl) rfl
        obtain ⟨s, e8⟩ := g4
        simp [go_sem] at e8
        exact does_value (v := .agg #[.string s, .string ⟨#[]⟩, .int .i64 1]) (w' := W) (by simp [execOp, go_sem, e8]) ⟨⟨⟨s, ⟨#[]⟩, 1⟩, rfl⟩, hC, Nat.le_refl _, fun _ _ _ h _ _ _ => h⟩
      · intro A W hC hI hg hb
        have g5 := hg 5 16 (by decide) rfl (by simp [Op.operands]) (by kernel_rfl) rfl
        obtain ⟨d, e8⟩ := g5
        obtain ⟨hk, hgr, hr, ho⟩ := hC
        have hb1 : BlockIs W xb 27 [.slice va ls.length vc, .slice vb li.length vd] := hI 1 (by kernel_rfl)
        have ba := below_more (Below.refl W.heap.size W) (.cells #[.string d.key, .string d.val, .int .i64 d.ver] 58)
        simp [go_sem] at e8
        exact does_value (v := .slice (some ⟨W.heap.size, 0, none⟩) 1 1) (w' := W.alloc (.cells #[.string d.key, .string d.val, .int .i64 d.ver] 58)) (by simp [execOp, go_sem, e8]) ⟨⟨_, d, rfl, hk.lt, heap_alloc_new W _⟩, ⟨hk.below ba, grown_below hgr ba, hr.on ba hr.lt, row_onK ho ba⟩, ba.size, fun g ty cs h _ _ _ => h.on ba h.lt⟩
      · intro A W hC hI hg hb
        have h12 : A.eval (.tmp 12) = .slice vb li.length vd := hg 1 12 (by decide) rfl (by simp [Op.operands, Call.operands]) (by kernel_rfl) rfl
        have g6 := hg 6 17 (by decide) rfl (by simp [Op.operands, Call.operands]) (by kernel_rfl) rfl
        obtain ⟨g, d, e8, hlt, hbl⟩ := g6
        obtain ⟨hk, hgr, hr, ho⟩ := hC
        have hrow : W.ownsRow w.heap.size 58 3 (.slice vb li.length vd) li.length (itemCells li) := hI 0 (by kernel_rfl)
        obtain ⟨va', vc', W', hr7, h2, h3⟩ := item_more (by omega) hgr.size hrow hbl
        have hown : ∀ j, (Value.slice vb li.length vd).ownBlock = some j → w.heap.size ≤ j := fun j hj => (row_block hrow hj).elim fun _ h => h.2
        have far : ∀ p ty cs, BlockIs W p ty cs → ty ≠ 58 → BlockIs W' p ty cs := fun p ty cs hp hne => block_grown hp hrow h3 hne
        refine does_value (v := .slice va' (li ++ [d]).length vc') (w' := W') (by simp only [execOp, resolve, invoke, builtin, Sem.run_bind, Sem.run_pure, Result.andThen_ok, List.map_toArray, List.map_cons, List.map_nil, h12, e8, hr7]) ⟨⟨va', vc', d, rfl, h2⟩, ⟨hk.kept h3 (fun j hj => by have := hown j hj; omega), grown_rowA hgr h3 hown, far _ _ _ hr (by decide), row_extK ho fun g cs h => far _ _ _ h (by decide)⟩, h3.size, fun p ty cs hp _ hne _ => far p ty cs hp (hne rfl)⟩
      · intro A W hC hI hg hb
        have h3 : A.eval (.tmp 3) = .pointer (some ⟨xb, 0, none⟩) := hb 3 (base_of (by kernel_rfl))
        exact does_value (v := .pointer (some ⟨xb, 1, none⟩)) (w' := W) (by simp only [execOp, h3]; simp [go_sem]) ⟨rfl, hC, Nat.le_refl _, fun _ _ _ h _ _ _ => h⟩
      · intro A W hC hI hg hb
        have h19 : A.eval (.tmp 19) = .pointer (some ⟨xb, 1, none⟩) := hg 8 19 (by decide) rfl (by simp [Op.operands]) (by kernel_rfl) rfl
        have g7 := hg 7 18 (by decide) rfl (by simp [Op.operands]) (by kernel_rfl) rfl
        obtain ⟨va', vc', d, h18, hrow⟩ := g7
        have hb1 : BlockIs W xb 27 [.slice va ls.length vc, .slice vb li.length vd] := hI 1 (by kernel_rfl)
        obtain ⟨hk, hgr, hr, ho⟩ := hC
        have c2 := hb1.cell (j := 1) rfl
        have f2 := hb1.thaw 1
        have far : ∀ p ty cs, BlockIs W p ty cs → ty ≠ 27 → BlockIs (W.setCell ⟨xb, 1, none⟩ (.slice va' (li ++ [d]).length vc')) p ty cs := fun p ty cs hp hne => hp.far (by intro e; subst e; exact hne (block_one hp hb1).1) _
        exact does_skip (w' := W.setCell ⟨xb, 1, none⟩ (.slice va' (li ++ [d]).length vc')) (by simp only [execOp, h19, h18]; simp [go_sem, c2, f2]) ⟨⟨va', vc', d, h18, row_fromK hrow fun g cs _ h => far g _ _ h (by decide), hb1.set 1 _⟩, ⟨hk.set NX.out, grown_far hgr LX.out, hr.far (by have := MX.out; omega) _, row_extK ho fun g cs h => far _ _ _ h (by decide)⟩, by simp [World.size_setCell], fun p ty cs hp _ _ hne => far p ty cs hp (hne rfl)⟩
    · intro vs wE hC hI hg
      obtain ⟨va', vc', d, hu, ho, hb⟩ := hg 9 (by decide) (fun k => by simp)
      clear hg hI hu
      obtain ⟨hk, hgr, hr, hoth⟩ := hC
      change Exit.inBlock 0 (Exit.then _ _) _ (laidBy _ vs _ 10 _) wE
      simp only [laidBy, if_true, dstAt, List.getElem?_toArray, List.getElem?_cons_succ, List.getElem?_cons_zero, Option.bind_some]
      simp only [Act.put, List.setIfInBounds_toArray, List.set_cons_succ, List.set_cons_zero]
      have HLN : (li ++ [d]).length = li.length + 1 := by simp
      obtain ⟨M, hM⟩ : ∃ M, li ++ [d] = M := ⟨_, rfl⟩
      rw [hM] at ho hb HLN
      have HLM := hid HLN
      clear K G R X Q hM HLN
      have K := hid hk
      have G := hid hgr
      have R := hid hr
      have X := hid hb
      have Q : Hid (KRows wE w.heap.size (.slice va ls.length vc) (.slice va' M.length vc') ls M) := ⟨hoth, ho⟩
      clear hk hgr hr hb ho hoth
      have c0 := X.out.cell (j := 0) rfl
      have c1 := X.out.cell (j := 1) rfl
      have z0 := R.out.cell (j := 0) rfl
      have z1 := R.out.cell (j := 1) rfl
      have f0 := R.out.thaw 0
      have f1 := R.out.thaw 1
      have KL := hid ((K.out.set (b := w.heap.size) (j := 0) (v := .slice va ls.length vc) hCl).set (b := w.heap.size) (j := 1) (v := .slice va' M.length vc') hCl)
      have GL := hid (grown_far (b := w.heap.size) (j := 1) (v := .slice va' M.length vc') (grown_far (b := w.heap.size) (j := 0) (v := .slice va ls.length vc) G.out (Nat.le_refl _)) (Nat.le_refl _))
      have QL := hid ((KRows.far (j := 0) Q.out R.out (by decide) (by decide) (.slice va ls.length vc)).far (j := 1) (R.out.set 0 _) (by decide) (by decide) (.slice va' M.length vc'))
      clear K G X Q R
      go_wp2
      refine bodyPost_ret (v := .agg #[.slice va ls.length vc, .slice va' M.length vc']) (by simp [results, Tryd.results18, go_sem, z0, z1]) rfl ?_
      exact ⟨_, _, _, _, ls, M, rfl, ⟨by have := HLM.out; omega, by have := HLM.out; omega⟩, QL.out, KL.out, GL.out⟩
  by_cases y1 : y = 1
  · subst y1
    go_wp2
    refine wp_region_from (N := 80) (by kernel_rfl) (by kernel_rfl) rfl (by kernel_rfl) (fun W => CurAt W C ∧ w.grownBy W (some C) ∧ BlockIs W w.heap.size 27 [.slice none 0 0, .slice none 0 0] ∧ W.ownsRow w.heap.size 58 3 (.slice vb li.length vd) li.length (itemCells li)) (fun j v u W => match j with | 0 => v = .pointer (some ⟨xb, 0, none⟩) | 1 => v = .slice va ls.length vc | 2 => v = .pointer (some ⟨C, 0, none⟩) | 3 => ∃ x : Int, v = .int .i64 x | 4 => v = .pointer (some ⟨C, 0, none⟩) | 5 => ∃ x : Int, v = .int .i64 x | 6 => ∃ d : SessionD, v = .agg #[.int .i64 d.token, .int .i64 d.last, .string d.reply] | 7 => ∃ (g : Nat) (d : SessionD), v = .slice (some ⟨g, 0, none⟩) 1 1 ∧ C < g ∧ BlockIs W g 55 (sessionEnc d) | 8 => ∃ (va' : Option Addr) (vc' : Nat) (d : SessionD), v = .slice va' (ls ++ [d]).length vc' ∧ W.ownsRow w.heap.size 55 3 (.slice va' (ls ++ [d]).length vc') (ls ++ [d]).length (sessionCells (ls ++ [d])) | 9 => v = .pointer (some ⟨xb, 0, none⟩) | 10 => ∃ (va' : Option Addr) (vc' : Nat) (d : SessionD), u = .slice va' (ls ++ [d]).length vc' ∧ W.ownsRow w.heap.size 55 3 (.slice va' (ls ++ [d]).length vc') (ls ++ [d]).length (sessionCells (ls ++ [d])) ∧ BlockIs W xb 27 [.slice va' (ls ++ [d]).length vc', .slice vb li.length vd] | _ => True) (fun i => if i = 10 then 8 else i) (fun j i => decide ((j, i) ∈ ([(7, 8)] : List (Nat × Nat)))) (fun i x y => x.heap.size ≤ y.heap.size ∧ ∀ g ty cs, BlockIs x g ty cs → C < g → (i = 8 → ty ≠ 55) → (i = 10 → ty ≠ 27) → BlockIs y g ty cs) (fun q9 W => match q9 with | 0 => W.ownsRow w.heap.size 55 3 (.slice va ls.length vc) ls.length (sessionCells ls) | 1 => BlockIs W xb 27 [.slice va ls.length vc, .slice vb li.length vd] | _ => True) (fun m k => decide ((m, k) ∈ ([(0, 8), (1, 10)] : List (Nat × Nat)))) ?_ (fun i => if i = 10 then 30 else 0) (by kernel_rfl) (fun i hi => by have : 11 ≤ i := hi; simp; omega) ?_ ⟨K.out.below (below_drewN (Below.refl _ _) 1), grown_below G.out (below_drewN (Below.refl _ _) 1), R.out.on (below_drewN (Below.refl _ _) 1) R.out.lt, row_onK Q.out.2 (below_drewN (Below.refl _ _) 1)⟩ (fun q9 => match q9 with | 0 => row_onK Q.out.1 (below_drewN (Below.refl _ _) 1) | 1 => X.out.on (below_drewN (Below.refl _ _) 1) X.out.lt | _ + 2 => trivial) ?_ ?_
    · intro i m x9 y9 hen hxy hm
      match m, hen, hm with
      | 0, hen, hm =>
        simp at hen
        exact row_fromK hm fun g cs hg h => hxy.2 _ _ _ h (by omega) (fun e => absurd e hen) (fun _ => by decide)
      | 1, hen, hm =>
        simp at hen
        exact hxy.2 _ _ _ hm NX.out (fun _ => by decide) (fun e => absurd e hen)
      | n + 2, _, _ => exact trivial
    · intro i j v u x9 y9 hij hdd hwt hxy hg
      match j, hg with
      | 0, hg => exact hg
      | 1, hg => exact hg
      | 2, hg => exact hg
      | 3, hg => exact hg
      | 4, hg => exact hg
      | 5, hg => exact hg
      | 6, hg => exact hg
      | 7, hg =>
        obtain ⟨g, d, e1, hlt, e2⟩ := hg
        simp at hdd
        exact ⟨g, d, e1, hlt, hxy.2 _ _ _ e2 hlt (fun e => absurd e hdd) (fun _ => by decide)⟩
      | 8, hg =>
        obtain ⟨va', vc', d, e1, e2⟩ := hg
        exact ⟨va', vc', d, e1, row_fromK e2 fun g cs hg h => hxy.2 _ _ _ h (by omega) (fun e => absurd e hij) (fun _ => by decide)⟩
      | 9, hg => exact hg
      | 10, hg =>
        obtain ⟨va', vc', d, e1, e2, e3⟩ := hg
        have h6 : i ≠ 8 := by rintro rfl; exact Bool.noConfusion (hwt.symm.trans (by kernel_rfl : waitsB _ 10 8 = true))
        exact ⟨va', vc', d, e1, row_fromK e2 fun g cs hg h => hxy.2 _ _ _ h (by omega) (fun e => absurd e h6) (fun _ => by decide), hxy.2 _ _ _ e3 NX.out (fun _ => by decide) (fun e => absurd e hij)⟩
      | n + 11, _ => exact trivial
    · refine ⟨?_, ?_, ?_, ?_, ?_, ?_, ?_, ?_, ?_, ?_, ?_, trivial⟩
      · intro A W hC hI hg hb
        have h3 : A.eval (.tmp 3) = .pointer (some ⟨xb, 0, none⟩) := hb 3 (base_of (by kernel_rfl))
        exact does_value (v := .pointer (some ⟨xb, 0, none⟩)) (w' := W) (by simp only [execOp, h3]; simp [go_sem]) ⟨rfl, hC, Nat.le_refl _, fun _ _ _ h _ _ _ => h⟩
      · intro A W hC hI hg hb
        have h22 : A.eval (.tmp 22) = .pointer (some ⟨xb, 0, none⟩) := hg 0 22 (by decide) rfl (by simp [Op.operands]) (by kernel_rfl) rfl
        have hb1 : BlockIs W xb 27 [.slice va ls.length vc, .slice vb li.length vd] := hI 1 (by kernel_rfl)
        have hc := hb1.cell (j := 0) rfl
        exact does_value (v := .slice va ls.length vc) (w' := W) (by simp only [execOp, h22]; simp [go_sem, hc]) ⟨rfl, hC, Nat.le_refl _, fun _ _ _ h _ _ _ => h⟩
      · intro A W hC hI hg hb
        have h0 : A.eval (.tmp 0) = .pointer (some ⟨C, 0, none⟩) := hb 0 (base_of (by kernel_rfl))
        exact does_value (v := .pointer (some ⟨C, 0, none⟩)) (w' := W) (by simp only [execOp, h0]; simp [go_sem]) ⟨rfl, hC, Nat.le_refl _, fun _ _ _ h _ _ _ => h⟩
      · intro A W hC hI hg hb
        have h24 : A.eval (.tmp 24) = .pointer (some ⟨C, 0, none⟩) := hg 2 24 (by decide) rfl (by simp [Op.operands, Call.operands]) (by kernel_rfl) rfl
        obtain ⟨hk, hgr, hr, ho⟩ := hC
        simp [go_sem] at h24
        refine does_enter (f := 44) (args := #[.pointer (some ⟨C, 0, none⟩), .int .i64 40]) (w' := W) (by simp [go_sem, h24]) ?_
        refine (l01Below_any C 40 (by omega) (by omega) W hk).mono ?_
        rintro e W' ⟨z, rfl, _, _, k', q'⟩
        exact ⟨_, rfl, ⟨_, rfl⟩, ⟨k', hgr.trans q', hr.cur q' hCl, row_fromK ho fun g cs hg h => h.cur q' (by omega)⟩, q'.size, fun g ty cs h hg _ _ => h.cur q' hg⟩
      · intro A W hC hI hg hb
        have h0 : A.eval (.tmp 0) = .pointer (some ⟨C, 0, none⟩) := hb 0 (base_of (by kernel_rfl))
        exact does_value (v := .pointer (some ⟨C, 0, none⟩)) (w' := W) (by simp only [execOp, h0]; simp [go_sem]) ⟨rfl, hC, Nat.le_refl _, fun _ _ _ h _ _ _ => h⟩
      · intro A W hC hI hg hb
        have h26 : A.eval (.tmp 26) = .pointer (some ⟨C, 0, none⟩) := hg 4 26 (by decide) rfl (by simp [Op.operands, Call.operands]) (by kernel_rfl) rfl
        obtain ⟨hk, hgr, hr, ho⟩ := hC
        simp [go_sem] at h26
        refine does_enter (f := 44) (args := #[.pointer (some ⟨C, 0, none⟩), .int .i64 2]) (w' := W) (by simp [go_sem, h26]) ?_
        refine (l01Below_any C 2 (by omega) (by omega) W hk).mono ?_
        rintro e W' ⟨z, rfl, _, _, k', q'⟩
        exact ⟨_, rfl, ⟨_, rfl⟩, ⟨k', hgr.trans q', hr.cur q' hCl, row_fromK ho fun g cs hg h => h.cur q' (by omega)⟩, q'.size, fun g ty cs h hg _ _ => h.cur q' hg⟩
      · intro A W hC hI hg hb
        have g3 := hg 3 25 (by decide) rfl (by simp [Op.operands]) (by kernel_rfl) rfl
        have g5 := hg 5 27 (by decide) rfl (by simp [Op.operands]) (by kernel_rfl) rfl
        obtain ⟨x1, e7⟩ := g3
        obtain ⟨x2, e8⟩ := g5
        simp [go_sem] at e7 e8
        exact does_value (v := .agg #[.int .i64 x1, .int .i64 x2, .string ⟨#[120]⟩]) (w' := W) (by simp [execOp, go_sem, e7, e8]) ⟨⟨⟨x1, x2, ⟨#[120]⟩⟩, rfl⟩, hC, Nat.le_refl _, fun _ _ _ h _ _ _ => h⟩
      · intro A W hC hI hg hb
        have g6 := hg 6 28 (by decide) rfl (by simp [Op.operands]) (by kernel_rfl) rfl
        obtain ⟨d, e8⟩ := g6
        obtain ⟨hk, hgr, hr, ho⟩ := hC
        have hb1 : BlockIs W xb 27 [.slice va ls.length vc, .slice vb li.length vd] := hI 1 (by kernel_rfl)
        have ba := below_more (Below.refl W.heap.size W) (.cells #[.int .i64 d.token, .int .i64 d.last, .string d.reply] 55)
        simp [go_sem] at e8
        exact does_value (v := .slice (some ⟨W.heap.size, 0, none⟩) 1 1) (w' := W.alloc (.cells #[.int .i64 d.token, .int .i64 d.last, .string d.reply] 55)) (by simp [execOp, go_sem, e8]) ⟨⟨_, d, rfl, hk.lt, heap_alloc_new W _⟩, ⟨hk.below ba, grown_below hgr ba, hr.on ba hr.lt, row_onK ho ba⟩, ba.size, fun g ty cs h _ _ _ => h.on ba h.lt⟩
      · intro A W hC hI hg hb
        have h23 : A.eval (.tmp 23) = .slice va ls.length vc := hg 1 23 (by decide) rfl (by simp [Op.operands, Call.operands]) (by kernel_rfl) rfl
        have g7 := hg 7 29 (by decide) rfl (by simp [Op.operands, Call.operands]) (by kernel_rfl) rfl
        obtain ⟨g, d, e8, hlt, hbl⟩ := g7
        obtain ⟨hk, hgr, hr, ho⟩ := hC
        have hrow : W.ownsRow w.heap.size 55 3 (.slice va ls.length vc) ls.length (sessionCells ls) := hI 0 (by kernel_rfl)
        obtain ⟨va', vc', W', hr7, h2, h3⟩ := session_more (by omega) hgr.size hrow hbl
        have hown : ∀ j, (Value.slice va ls.length vc).ownBlock = some j → w.heap.size ≤ j := fun j hj => (row_block hrow hj).elim fun _ h => h.2
        have far : ∀ p ty cs, BlockIs W p ty cs → ty ≠ 55 → BlockIs W' p ty cs := fun p ty cs hp hne => block_grown hp hrow h3 hne
        refine does_value (v := .slice va' (ls ++ [d]).length vc') (w' := W') (by simp only [execOp, resolve, invoke, builtin, Sem.run_bind, Sem.run_pure, Result.andThen_ok, List.map_toArray, List.map_cons, List.map_nil, h23, e8, hr7]) ⟨⟨va', vc', d, rfl, h2⟩, ⟨hk.kept h3 (fun j hj => by have := hown j hj; omega), grown_rowA hgr h3 hown, far _ _ _ hr (by decide), row_extK ho fun g cs h => far _ _ _ h (by decide)⟩, h3.size, fun p ty cs hp _ hne _ => far p ty cs hp (hne rfl)⟩
      · intro A W hC hI hg hb
        have h3 : A.eval (.tmp 3) = .pointer (some ⟨xb, 0, none⟩) := hb 3 (base_of (by kernel_rfl))
        exact does_value (v := .pointer (some ⟨xb, 0, none⟩)) (w' := W) (by simp only [execOp, h3]; simp [go_sem]) ⟨rfl, hC, Nat.le_refl _, fun _ _ _ h _ _ _ => h⟩
      · intro A W hC hI hg hb
        have h31 : A.eval (.tmp 31) = .pointer (some ⟨xb, 0, none⟩) := hg 9 31 (by decide) rfl (by simp [Op.operands]) (by kernel_rfl) rfl
        have g8 := hg 8 30 (by decide) rfl (by simp [Op.operands]) (by kernel_rfl) rfl
        obtain ⟨va', vc', d, h30, hrow⟩ := g8
        have hb1 : BlockIs W xb 27 [.slice va ls.length vc, .slice vb li.length vd] := hI 1 (by kernel_rfl)
        obtain ⟨hk, hgr, hr, ho⟩ := hC
        have c2 := hb1.cell (j := 0) rfl
        have f2 := hb1.thaw 0
        have far : ∀ p ty cs, BlockIs W p ty cs → ty ≠ 27 → BlockIs (W.setCell ⟨xb, 0, none⟩ (.slice va' (ls ++ [d]).length vc')) p ty cs := fun p ty cs hp hne => hp.far (by intro e; subst e; exact hne (block_one hp hb1).1) _
        exact does_skip (w' := W.setCell ⟨xb, 0, none⟩ (.slice va' (ls ++ [d]).length vc')) (by simp only [execOp, h31, h30]; simp [go_sem, c2, f2]) ⟨⟨va', vc', d, h30, row_fromK hrow fun g cs _ h => far g _ _ h (by decide), hb1.set 0 _⟩, ⟨hk.set NX.out, grown_far hgr LX.out, hr.far (by have := MX.out; omega) _, row_extK ho fun g cs h => far _ _ _ h (by decide)⟩, by simp [World.size_setCell], fun p ty cs hp _ _ hne => far p ty cs hp (hne rfl)⟩
    · intro vs wE hC hI hg
      obtain ⟨va', vc', d, hu, ho, hb⟩ := hg 10 (by decide) (fun k => by simp)
      clear hg hI hu
      obtain ⟨hk, hgr, hr, hoth⟩ := hC
      change Exit.inBlock 0 (Exit.then _ _) _ (laidBy _ vs _ 11 _) wE
      simp only [laidBy, if_true, dstAt, List.getElem?_toArray, List.getElem?_cons_succ, List.getElem?_cons_zero, Option.bind_some]
      simp only [Act.put, List.setIfInBounds_toArray, List.set_cons_succ, List.set_cons_zero]
      have HLN : (ls ++ [d]).length = ls.length + 1 := by simp
      obtain ⟨M, hM⟩ : ∃ M, ls ++ [d] = M := ⟨_, rfl⟩
      rw [hM] at ho hb HLN
      have HLM := hid HLN
      clear K G R X Q hM HLN
      have K := hid hk
      have G := hid hgr
      have R := hid hr
      have X := hid hb
      have Q : Hid (KRows wE w.heap.size (.slice va' M.length vc') (.slice vb li.length vd) M li) := ⟨ho, hoth⟩
      clear hk hgr hr hb ho hoth
      have c0 := X.out.cell (j := 0) rfl
      have c1 := X.out.cell (j := 1) rfl
      have z0 := R.out.cell (j := 0) rfl
      have z1 := R.out.cell (j := 1) rfl
      have f0 := R.out.thaw 0
      have f1 := R.out.thaw 1
      have KL := hid ((K.out.set (b := w.heap.size) (j := 0) (v := .slice va' M.length vc') hCl).set (b := w.heap.size) (j := 1) (v := .slice vb li.length vd) hCl)
      have GL := hid (grown_far (b := w.heap.size) (j := 1) (v := .slice vb li.length vd) (grown_far (b := w.heap.size) (j := 0) (v := .slice va' M.length vc') G.out (Nat.le_refl _)) (Nat.le_refl _))
      have QL := hid ((KRows.far (j := 0) Q.out R.out (by decide) (by decide) (.slice va' M.length vc')).far (j := 1) (R.out.set 0 _) (by decide) (by decide) (.slice vb li.length vd))
      clear K G X Q R
      go_wp2
      refine bodyPost_ret (v := .agg #[.slice va' M.length vc', .slice vb li.length vd]) (by simp [results, Tryd.results18, go_sem, z0, z1]) rfl ?_
      exact ⟨_, _, _, _, M, li, rfl, ⟨by have := HLM.out; omega, by have := HLM.out; omega⟩, QL.out, KL.out, GL.out⟩
  by_cases y2 : y = 2
  · subst y2
    by_cases hp : (0 : Int) < (li.length : Int)
    · have hpos : 0 < li.length := by omega
      have hne : ¬ li = [] := fun e => by subst e; simp at hpos
      obtain ⟨g, rr, hvb, hgl, _⟩ := row_blockK hpos Q.out.2
      subst hvb
      have c0 := X.out.cell (j := 0) rfl
      have c1 := X.out.cell (j := 1) rfl
      go_wp2
      refine wp_region_from (N := 80) (by kernel_rfl) (by kernel_rfl) rfl (by kernel_rfl) (fun W => CurAt W C ∧ w.grownBy W (some C) ∧ BlockIs W w.heap.size 27 [.slice none 0 0, .slice none 0 0] ∧ BlockIs W xb 27 [.slice va ls.length vc, .slice (some ⟨g, 0, none⟩) li.length vd] ∧ W.ownsRow w.heap.size 55 3 (.slice va ls.length vc) ls.length (sessionCells ls)) (fun j v _ W => match j with | 0 => v = .pointer (some ⟨xb, 1, none⟩) | 1 => v = .slice (some ⟨g, 0, none⟩) li.length vd | 2 => v = .pointer (some ⟨C, 0, none⟩) | 3 => ∃ g : Nat, v = .slice (some ⟨g, 0, none⟩) 4 4 ∧ C < g ∧ BlockIs W g 3 [.int .i64 0, .int .i64 1, .int .i64 1000000000, .int .i64 1000000001] | 4 => ∃ x : Int, v = .int .i64 x | 5 => v = .pointer (some ⟨g, 0, none⟩) | 6 => v = .pointer (some ⟨g, 2, none⟩) | 7 => ∃ x : Int, W.ownsRow w.heap.size 58 3 (.slice (some ⟨g, 0, none⟩) li.length vd) li.length ((itemCells li).set 2 (.int .i64 x)) | _ => True) (fun i => i) (fun _ _ => false) (fun i x y => x.heap.size ≤ y.heap.size ∧ ∀ g ty cs, BlockIs x g ty cs → C < g → (i = 7 → ty ≠ 58) → BlockIs y g ty cs) (fun q9 W => match q9 with | 0 => W.ownsRow w.heap.size 58 3 (.slice (some ⟨g, 0, none⟩) li.length vd) li.length (itemCells li) | _ => True) (fun m k => decide ((m, k) ∈ ([(0, 7)] : List (Nat × Nat)))) ?_ (fun _ => 0) (by kernel_rfl) (fun _ _ => rfl) ?_ ⟨K.out.below (below_drewN (Below.refl _ _) 1), grown_below G.out (below_drewN (Below.refl _ _) 1), R.out.on (below_drewN (Below.refl _ _) 1) R.out.lt, X.out.on (below_drewN (Below.refl _ _) 1) X.out.lt, row_onK Q.out.1 (below_drewN (Below.refl _ _) 1)⟩ (fun q9 => match q9 with | 0 => row_onK Q.out.2 (below_drewN (Below.refl _ _) 1) | _ + 1 => trivial) ?_ ?_
      · intro i m x9 y9 hen hxy hm
        match m, hen, hm with
        | 0, hen, hm =>
          simp at hen
          exact row_fromK hm fun g cs hg h => hxy.2 _ _ _ h (by omega) (fun e => absurd e hen)
        | n + 1, _, _ => exact trivial
      · intro i j v u x9 y9 hij hdd hwt hxy hg
        match j, hg with
        | 0, hg => exact hg
        | 1, hg => exact hg
        | 2, hg => exact hg
        | 3, hg =>
          obtain ⟨g, e1, hlt, e2⟩ := hg
          exact ⟨g, e1, hlt, hxy.2 _ _ _ e2 hlt (fun _ => by decide)⟩
        | 4, hg => exact hg
        | 5, hg => exact hg
        | 6, hg => exact hg
        | 7, hg =>
          obtain ⟨x, e1⟩ := hg
          exact ⟨x, row_fromK e1 fun g cs hg h => hxy.2 _ _ _ h (by omega) (fun e => absurd e hij)⟩
        | n + 8, _ => exact trivial
      · refine ⟨?_, ?_, ?_, ?_, ?_, ?_, ?_, ?_, trivial⟩
        · intro A W hC hI hg hb
          have h3 : A.eval (.tmp 3) = .pointer (some ⟨xb, 0, none⟩) := hb 3 (base_of (by kernel_rfl))
          exact does_value (v := .pointer (some ⟨xb, 1, none⟩)) (w' := W) (by simp only [execOp, h3]; simp [go_sem]) ⟨rfl, hC, Nat.le_refl _, fun _ _ _ h _ _ => h⟩
        · intro A W hC hI hg hb
          have h38 : A.eval (.tmp 38) = .pointer (some ⟨xb, 1, none⟩) := hg 0 38 (by decide) rfl (by simp [Op.operands]) (by kernel_rfl) rfl
          obtain ⟨hk, hgr, hr, hx, ho⟩ := hC
          have hc := hx.cell (j := 1) rfl
          exact does_value (v := .slice (some ⟨g, 0, none⟩) li.length vd) (w' := W) (by simp only [execOp, h38]; simp [go_sem, hc]) ⟨rfl, ⟨hk, hgr, hr, hx, ho⟩, Nat.le_refl _, fun _ _ _ h _ _ => h⟩
        · intro A W hC hI hg hb
          have h0 : A.eval (.tmp 0) = .pointer (some ⟨C, 0, none⟩) := hb 0 (base_of (by kernel_rfl))
          exact does_value (v := .pointer (some ⟨C, 0, none⟩)) (w' := W) (by simp only [execOp, h0]; simp [go_sem]) ⟨rfl, hC, Nat.le_refl _, fun _ _ _ h _ _ => h⟩
        · intro A W hC hI hg hb
          obtain ⟨hk, hgr, hr, hx, ho⟩ := hC
          have ba := below_more (Below.refl W.heap.size W) (.cells #[.int .i64 0, .int .i64 1, .int .i64 1000000000, .int .i64 1000000001] 3)
          exact does_value (v := .slice (some ⟨W.heap.size, 0, none⟩) 4 4) (w' := W.alloc (.cells #[.int .i64 0, .int .i64 1, .int .i64 1000000000, .int .i64 1000000001] 3)) (by simp [execOp, go_sem]) ⟨⟨_, rfl, hk.lt, heap_alloc_new W _⟩, ⟨hk.below ba, grown_below hgr ba, hr.on ba hr.lt, hx.on ba hx.lt, row_onK ho ba⟩, ba.size, fun g ty cs h _ _ => h.on ba h.lt⟩
        · intro A W hC hI hg hb
          have h40 : A.eval (.tmp 40) = .pointer (some ⟨C, 0, none⟩) := hg 2 40 (by decide) rfl (by simp [Op.operands, Call.operands]) (by kernel_rfl) rfl
          have g3 := hg 3 41 (by decide) rfl (by simp [Op.operands, Call.operands]) (by kernel_rfl) rfl
          obtain ⟨g9, e8, hlt, hbl⟩ := g3
          obtain ⟨hk, hgr, hr, hx, ho⟩ := hC
          simp [go_sem] at h40 e8
          refine does_enter (f := 46) (args := #[.pointer (some ⟨C, 0, none⟩), .slice (some ⟨g9, 0, none⟩) 4 4]) (w' := W) (by simp [go_sem, h40, e8]) ?_
          refine (l01PickInt_any C g9 ([0, 1, 1000000000, 1000000001] : List Int) 4 (by decide) (by decide) hlt W hk (ints_block hbl)).mono ?_
          rintro e W' ⟨j, hj, rfl, k', q'⟩
          exact ⟨_, rfl, ⟨_, rfl⟩, ⟨k', hgr.trans q', hr.cur q' hCl, hx.cur q' NX.out, row_fromK ho fun g cs hg h => h.cur q' (by omega)⟩, q'.size, fun g ty cs h hg _ => h.cur q' hg⟩
        · intro A W hC hI hg hb
          have h39 : A.eval (.tmp 39) = .slice (some ⟨g, 0, none⟩) li.length vd := hg 1 39 (by decide) rfl (by simp [Op.operands]) (by kernel_rfl) rfl
          simp [go_sem] at h39
          exact does_value (v := .pointer (some ⟨g, 0, none⟩)) (w' := W) (by simp [execOp, go_sem, h39, hne]) ⟨rfl, hC, Nat.le_refl _, fun _ _ _ h _ _ => h⟩
        · intro A W hC hI hg hb
          have h43 : A.eval (.tmp 43) = .pointer (some ⟨g, 0, none⟩) := hg 5 43 (by decide) rfl (by simp [Op.operands]) (by kernel_rfl) rfl
          exact does_value (v := .pointer (some ⟨g, 2, none⟩)) (w' := W) (by simp only [execOp, h43]; simp [go_sem]) ⟨rfl, hC, Nat.le_refl _, fun _ _ _ h _ _ => h⟩
        · intro A W hC hI hg hb
          have h44 : A.eval (.tmp 44) = .pointer (some ⟨g, 2, none⟩) := hg 6 44 (by decide) rfl (by simp [Op.operands]) (by kernel_rfl) rfl
          have g4 := hg 4 42 (by decide) rfl (by simp [Op.operands]) (by kernel_rfl) rfl
          obtain ⟨x, e8⟩ := g4
          obtain ⟨hk, hgr, hr, hx, ho⟩ := hC
          have hrow : W.ownsRow w.heap.size 58 3 (.slice (some ⟨g, 0, none⟩) li.length vd) li.length (itemCells li) := hI 0 (by kernel_rfl)
          obtain ⟨g', r', eg, _, hbk⟩ := row_blockK hpos hrow
          cases eg
          have hc2 : W.cell? ⟨g, 2, none⟩ = some (.int .i64 li[0].ver) := hbk.cell (row_at itemEnc 3 (fun _ => rfl) li r' 0 2 hpos (by omega))
          have hf2 := hbk.thaw 2
          exact does_skip (w' := W.setCell ⟨g, 2, none⟩ (.int .i64 x)) (by simp only [execOp, h44, e8]; simp [go_sem, hc2, hf2]) ⟨⟨x, row_setK hrow (.int .i64 x)⟩, ⟨hk.set (by omega), grown_far hgr hgl, hr.far (fun e => by subst e; have h9 := (block_one hr hbk).1; revert h9; decide) _, hx.far (fun e => by subst e; have h9 := (block_one hx hbk).1; revert h9; decide) _, row_farK ho hbk (by decide) _⟩, by simp [World.size_setCell], fun p ty cs hp9 _ hne => hp9.far (fun e => by subst e; exact hne rfl (block_one hp9 hbk).1) _⟩
      · intro vs wE hC hI hg
        obtain ⟨x, hrow⟩ := hg 7 (by decide) (fun k => by simp)
        clear hg hI
        obtain ⟨hk, hgr, hr, hx, ho⟩ := hC
        change Exit.inBlock 0 (Exit.then _ _) _ (laidBy _ vs _ 8 _) wE
        simp only [laidBy, if_true, dstAt, List.getElem?_toArray, List.getElem?_cons_succ, List.getElem?_cons_zero, Option.bind_some]
        simp only [Act.put, List.setIfInBounds_toArray, List.set_cons_succ, List.set_cons_zero]
        obtain ⟨M, hML, hMC⟩ : ∃ M : List ItemD, M.length = li.length ∧ (itemCells li).set 2 (.int .i64 x) = itemCells M := by
          cases li with
          | nil => simp at hpos
          | cons e0 r => exact ⟨⟨e0.key, e0.val, x⟩ :: r, rfl, rfl⟩
        rw [hMC] at hrow
        rw [← hML] at hrow hx ⊢
        have HLM := hid hML
        clear K G R X Q hMC hML hp hpos hne
        have K := hid hk
        have G := hid hgr
        have R := hid hr
        have X := hid hx
        have Q : Hid (KRows wE w.heap.size (.slice va ls.length vc) (.slice (some ⟨g, 0, none⟩) M.length vd) ls M) := ⟨ho, hrow⟩
        clear hk hgr hr hx hrow ho
        have c0 := X.out.cell (j := 0) rfl
        have c1 := X.out.cell (j := 1) rfl
        have z0 := R.out.cell (j := 0) rfl
        have z1 := R.out.cell (j := 1) rfl
        have f0 := R.out.thaw 0
        have f1 := R.out.thaw 1
        have KL := hid ((K.out.set (b := w.heap.size) (j := 0) (v := .slice va ls.length vc) hCl).set (b := w.heap.size) (j := 1) (v := .slice (some ⟨g, 0, none⟩) M.length vd) hCl)
        have GL := hid (grown_far (b := w.heap.size) (j := 1) (v := .slice (some ⟨g, 0, none⟩) M.length vd) (grown_far (b := w.heap.size) (j := 0) (v := .slice va ls.length vc) G.out (Nat.le_refl _)) (Nat.le_refl _))
        have QL := hid ((KRows.far (j := 0) Q.out R.out (by decide) (by decide) (.slice va ls.length vc)).far (j := 1) (R.out.set 0 _) (by decide) (by decide) (.slice (some ⟨g, 0, none⟩) M.length vd))
        clear K G X Q R
        go_wp2
        refine bodyPost_ret (v := .agg #[.slice va ls.length vc, .slice (some ⟨g, 0, none⟩) M.length vd]) (by simp [results, Tryd.results18, go_sem, z0, z1]) rfl ?_
        exact ⟨_, _, _, _, ls, M, rfl, ⟨by omega, by have := HLM.out; omega⟩, QL.out, KL.out, GL.out⟩
    · have c0 := X.out.cell (j := 0) rfl
      have c0 := X.out.cell (j := 0) rfl
      have c1 := X.out.cell (j := 1) rfl
      have z0 := R.out.cell (j := 0) rfl
      have z1 := R.out.cell (j := 1) rfl
      have f0 := R.out.thaw 0
      have f1 := R.out.thaw 1
      have KL := hid ((K.out.set (b := w.heap.size) (j := 0) (v := .slice va ls.length vc) hCl).set (b := w.heap.size) (j := 1) (v := .slice vb li.length vd) hCl)
      have GL := hid (grown_far (b := w.heap.size) (j := 1) (v := .slice vb li.length vd) (grown_far (b := w.heap.size) (j := 0) (v := .slice va ls.length vc) G.out (Nat.le_refl _)) (Nat.le_refl _))
      have QL := hid ((KRows.far (j := 0) Q.out R.out (by decide) (by decide) (.slice va ls.length vc)).far (j := 1) (R.out.set 0 _) (by decide) (by decide) (.slice vb li.length vd))
      clear K G X Q R
      go_wp2
      refine bodyPost_ret (v := .agg #[.slice va ls.length vc, .slice vb li.length vd]) (by simp [results, Tryd.results18, go_sem, z0, z1]) rfl ?_
      exact ⟨_, _, _, _, ls, li, rfl, ⟨by omega, by omega⟩, QL.out, KL.out, GL.out⟩
  by_cases y3 : y = 3
  · subst y3
    by_cases hp : (0 : Int) < (li.length : Int)
    · have hpos : 0 < li.length := by omega
      have hne : ¬ li = [] := fun e => by subst e; simp at hpos
      obtain ⟨g, rr, hvb, hgl, _⟩ := row_blockK hpos Q.out.2
      subst hvb
      have c0 := X.out.cell (j := 0) rfl
      have c1 := X.out.cell (j := 1) rfl
      go_wp2
      refine wp_region_from (N := 80) (by kernel_rfl) (by kernel_rfl) rfl (by kernel_rfl) (fun W => CurAt W C ∧ w.grownBy W (some C) ∧ BlockIs W w.heap.size 27 [.slice none 0 0, .slice none 0 0] ∧ BlockIs W xb 27 [.slice va ls.length vc, .slice (some ⟨g, 0, none⟩) li.length vd] ∧ W.ownsRow w.heap.size 55 3 (.slice va ls.length vc) ls.length (sessionCells ls)) (fun j v _ W => match j with | 0 => v = .pointer (some ⟨xb, 1, none⟩) | 1 => v = .slice (some ⟨g, 0, none⟩) li.length vd | 2 => v = .pointer (some ⟨C, 0, none⟩) | 3 => ∃ x : Int, v = .int .i64 x ∧ 0 ≤ x ∧ x < 2 | 4 => ∃ n : Nat, v = .int .i64 (n : Int) ∧ n ≤ 100 | 5 => ∃ x : ByteArray, v = .string x | 6 => v = .pointer (some ⟨g, 0, none⟩) | 7 => v = .pointer (some ⟨g, 1, none⟩) | 8 => ∃ x : ByteArray, W.ownsRow w.heap.size 58 3 (.slice (some ⟨g, 0, none⟩) li.length vd) li.length ((itemCells li).set 1 (.string x)) | _ => True) (fun i => i) (fun _ _ => false) (fun i x y => x.heap.size ≤ y.heap.size ∧ ∀ g ty cs, BlockIs x g ty cs → C < g → (i = 8 → ty ≠ 58) → BlockIs y g ty cs) (fun q9 W => match q9 with | 0 => W.ownsRow w.heap.size 58 3 (.slice (some ⟨g, 0, none⟩) li.length vd) li.length (itemCells li) | _ => True) (fun m k => decide ((m, k) ∈ ([(0, 8)] : List (Nat × Nat)))) ?_ (fun _ => 0) (by kernel_rfl) (fun _ _ => rfl) ?_ ⟨K.out.below (below_drewN (Below.refl _ _) 1), grown_below G.out (below_drewN (Below.refl _ _) 1), R.out.on (below_drewN (Below.refl _ _) 1) R.out.lt, X.out.on (below_drewN (Below.refl _ _) 1) X.out.lt, row_onK Q.out.1 (below_drewN (Below.refl _ _) 1)⟩ (fun q9 => match q9 with | 0 => row_onK Q.out.2 (below_drewN (Below.refl _ _) 1) | _ + 1 => trivial) ?_ ?_
      · intro i m x9 y9 hen hxy hm
        match m, hen, hm with
        | 0, hen, hm =>
          simp at hen
          exact row_fromK hm fun g cs hg h => hxy.2 _ _ _ h (by omega) (fun e => absurd e hen)
        | n + 1, _, _ => exact trivial
      · intro i j v u x9 y9 hij hdd hwt hxy hg
        match j, hg with
        | 0, hg => exact hg
        | 1, hg => exact hg
        | 2, hg => exact hg
        | 3, hg => exact hg
        | 4, hg => exact hg
        | 5, hg => exact hg
        | 6, hg => exact hg
        | 7, hg => exact hg
        | 8, hg =>
          obtain ⟨x, e1⟩ := hg
          exact ⟨x, row_fromK e1 fun g cs hg h => hxy.2 _ _ _ h (by omega) (fun e => absurd e hij)⟩
        | n + 9, _ => exact trivial
      · refine ⟨?_, ?_, ?_, ?_, ?_, ?_, ?_, ?_, ?_, trivial⟩
        · intro A W hC hI hg hb
          have h3 : A.eval (.tmp 3) = .pointer (some ⟨xb, 0, none⟩) := hb 3 (base_of (by kernel_rfl))
          exact does_value (v := .pointer (some ⟨xb, 1, none⟩)) (w' := W) (by simp only [execOp, h3]; simp [go_sem]) ⟨rfl, hC, Nat.le_refl _, fun _ _ _ h _ _ => h⟩
        · intro A W hC hI hg hb
          have h51 : A.eval (.tmp 51) = .pointer (some ⟨xb, 1, none⟩) := hg 0 51 (by decide) rfl (by simp [Op.operands]) (by kernel_rfl) rfl
          obtain ⟨hk, hgr, hr, hx, ho⟩ := hC
          have hc := hx.cell (j := 1) rfl
          exact does_value (v := .slice (some ⟨g, 0, none⟩) li.length vd) (w' := W) (by simp only [execOp, h51]; simp [go_sem, hc]) ⟨rfl, ⟨hk, hgr, hr, hx, ho⟩, Nat.le_refl _, fun _ _ _ h _ _ => h⟩
        · intro A W hC hI hg hb
          have h0 : A.eval (.tmp 0) = .pointer (some ⟨C, 0, none⟩) := hb 0 (base_of (by kernel_rfl))
          exact does_value (v := .pointer (some ⟨C, 0, none⟩)) (w' := W) (by simp only [execOp, h0]; simp [go_sem]) ⟨rfl, hC, Nat.le_refl _, fun _ _ _ h _ _ => h⟩
        · intro A W hC hI hg hb
          have h53 : A.eval (.tmp 53) = .pointer (some ⟨C, 0, none⟩) := hg 2 53 (by decide) rfl (by simp [Op.operands, Call.operands]) (by kernel_rfl) rfl
          obtain ⟨hk, hgr, hr, hx, ho⟩ := hC
          simp [go_sem] at h53
          refine does_enter (f := 44) (args := #[.pointer (some ⟨C, 0, none⟩), .int .i64 2]) (w' := W) (by simp [go_sem, h53]) ?_
          refine (l01Below_any C 2 (by omega) (by omega) W hk).mono ?_
          rintro e W' ⟨z, rfl, z0, z1, k', q'⟩
          exact ⟨_, rfl, ⟨_, rfl, z0, z1⟩, ⟨k', hgr.trans q', hr.cur q' hCl, hx.cur q' NX.out, row_fromK ho fun g cs hg h => h.cur q' (by omega)⟩, q'.size, fun g ty cs h hg _ => h.cur q' hg⟩
        · intro A W hC hI hg hb
          have g3 := hg 3 54 (by decide) rfl (by simp [Op.operands]) (by kernel_rfl) rfl
          obtain ⟨z, e8, z0, z1⟩ := g3
          have hw2 : IntKind.i64.wrap (20 + z) = ((20 + z).toNat : Int) := by rw [IntKind.wrap_i64]; omega
          exact does_value (v := .int .i64 ((20 + z).toNat : Int)) (w' := W) (by simp only [execOp, e8]; simp [go_sem, hw2]) ⟨⟨_, rfl, by omega⟩, hC, Nat.le_refl _, fun _ _ _ h _ _ => h⟩
        · intro A W hC hI hg hb
          have g4 := hg 4 55 (by decide) rfl (by simp [Op.operands, Call.operands]) (by kernel_rfl) rfl
          obtain ⟨n, e8, hn⟩ := g4
          obtain ⟨hk, hgr, hr, hx, ho⟩ := hC
          simp [go_sem] at e8
          refine does_enter (f := 47) (args := #[.int .i64 (n : Int), .int .u8 65]) (w' := W) (by simp [go_sem, e8]) ?_
          refine (l01Long_any n (by omega) 65 (by omega) (by omega) W).mono ?_
          rintro e W' ⟨s, rfl, _, ba⟩
          exact ⟨_, rfl, ⟨_, rfl⟩, ⟨hk.below ba, grown_below hgr ba, hr.on ba hr.lt, hx.on ba hx.lt, row_onK ho ba⟩, ba.size, fun g ty cs h _ _ => h.on ba h.lt⟩
        · intro A W hC hI hg hb
          have h52 : A.eval (.tmp 52) = .slice (some ⟨g, 0, none⟩) li.length vd := hg 1 52 (by decide) rfl (by simp [Op.operands]) (by kernel_rfl) rfl
          simp [go_sem] at h52
          exact does_value (v := .pointer (some ⟨g, 0, none⟩)) (w' := W) (by simp [execOp, go_sem, h52, hne]) ⟨rfl, hC, Nat.le_refl _, fun _ _ _ h _ _ => h⟩
        · intro A W hC hI hg hb
          have h57 : A.eval (.tmp 57) = .pointer (some ⟨g, 0, none⟩) := hg 6 57 (by decide) rfl (by simp [Op.operands]) (by kernel_rfl) rfl
          exact does_value (v := .pointer (some ⟨g, 1, none⟩)) (w' := W) (by simp only [execOp, h57]; simp [go_sem]) ⟨rfl, hC, Nat.le_refl _, fun _ _ _ h _ _ => h⟩
        · intro A W hC hI hg hb
          have h58 : A.eval (.tmp 58) = .pointer (some ⟨g, 1, none⟩) := hg 7 58 (by decide) rfl (by simp [Op.operands]) (by kernel_rfl) rfl
          have g5 := hg 5 56 (by decide) rfl (by simp [Op.operands]) (by kernel_rfl) rfl
          obtain ⟨x, e8⟩ := g5
          obtain ⟨hk, hgr, hr, hx, ho⟩ := hC
          have hrow : W.ownsRow w.heap.size 58 3 (.slice (some ⟨g, 0, none⟩) li.length vd) li.length (itemCells li) := hI 0 (by kernel_rfl)
          obtain ⟨g', r', eg, _, hbk⟩ := row_blockK hpos hrow
          cases eg
          have hc2 : W.cell? ⟨g, 1, none⟩ = some (.string li[0].val) := hbk.cell (row_at itemEnc 3 (fun _ => rfl) li r' 0 1 hpos (by omega))
          have hf2 := hbk.thaw 1
          exact does_skip (w' := W.setCell ⟨g, 1, none⟩ (.string x)) (by simp only [execOp, h58, e8]; simp [go_sem, hc2, hf2]) ⟨⟨x, row_setK hrow (.string x)⟩, ⟨hk.set (by omega), grown_far hgr hgl, hr.far (fun e => by subst e; have h9 := (block_one hr hbk).1; revert h9; decide) _, hx.far (fun e => by subst e; have h9 := (block_one hx hbk).1; revert h9; decide) _, row_farK ho hbk (by decide) _⟩, by simp [World.size_setCell], fun p ty cs hp9 _ hne => hp9.far (fun e => by subst e; exact hne rfl (block_one hp9 hbk).1) _⟩
      · intro vs wE hC hI hg
        obtain ⟨x, hrow⟩ := hg 8 (by decide) (fun k => by simp)
        clear hg hI
        obtain ⟨hk, hgr, hr, hx, ho⟩ := hC
        change Exit.inBlock 0 (Exit.then _ _) _ (laidBy _ vs _ 9 _) wE
        simp only [laidBy, if_true, dstAt, List.getElem?_toArray, List.getElem?_cons_succ, List.getElem?_cons_zero, Option.bind_some]
        simp only [Act.put, List.setIfInBounds_toArray, List.set_cons_succ, List.set_cons_zero]
        obtain ⟨M, hML, hMC⟩ : ∃ M : List ItemD, M.length = li.length ∧ (itemCells li).set 1 (.string x) = itemCells M := by
          cases li with
          | nil => simp at hpos
          | cons e0 r => exact ⟨⟨e0.key, x, e0.ver⟩ :: r, rfl, rfl⟩
        rw [hMC] at hrow
        rw [← hML] at hrow hx ⊢
        have HLM := hid hML
        clear K G R X Q hMC hML hp hpos hne
        have K := hid hk
        have G := hid hgr
        have R := hid hr
        have X := hid hx
        have Q : Hid (KRows wE w.heap.size (.slice va ls.length vc) (.slice (some ⟨g, 0, none⟩) M.length vd) ls M) := ⟨ho, hrow⟩
        clear hk hgr hr hx hrow ho
        have c0 := X.out.cell (j := 0) rfl
        have c1 := X.out.cell (j := 1) rfl
        have z0 := R.out.cell (j := 0) rfl
        have z1 := R.out.cell (j := 1) rfl
        have f0 := R.out.thaw 0
        have f1 := R.out.thaw 1
        have KL := hid ((K.out.set (b := w.heap.size) (j := 0) (v := .slice va ls.length vc) hCl).set (b := w.heap.size) (j := 1) (v := .slice (some ⟨g, 0, none⟩) M.length vd) hCl)
        have GL := hid (grown_far (b := w.heap.size) (j := 1) (v := .slice (some ⟨g, 0, none⟩) M.length vd) (grown_far (b := w.heap.size) (j := 0) (v := .slice va ls.length vc) G.out (Nat.le_refl _)) (Nat.le_refl _))
        have QL := hid ((KRows.far (j := 0) Q.out R.out (by decide) (by decide) (.slice va ls.length vc)).far (j := 1) (R.out.set 0 _) (by decide) (by decide) (.slice (some ⟨g, 0, none⟩) M.length vd))
        clear K G X Q R
        go_wp2
        refine bodyPost_ret (v := .agg #[.slice va ls.length vc, .slice (some ⟨g, 0, none⟩) M.length vd]) (by simp [results, Tryd.results18, go_sem, z0, z1]) rfl ?_
        exact ⟨_, _, _, _, ls, M, rfl, ⟨by omega, by have := HLM.out; omega⟩, QL.out, KL.out, GL.out⟩
    · have c0 := X.out.cell (j := 0) rfl
      have c0 := X.out.cell (j := 0) rfl
      have c1 := X.out.cell (j := 1) rfl
      have z0 := R.out.cell (j := 0) rfl
      have z1 := R.out.cell (j := 1) rfl
      have f0 := R.out.thaw 0
      have f1 := R.out.thaw 1
      have KL := hid ((K.out.set (b := w.heap.size) (j := 0) (v := .slice va ls.length vc) hCl).set (b := w.heap.size) (j := 1) (v := .slice vb li.length vd) hCl)
      have GL := hid (grown_far (b := w.heap.size) (j := 1) (v := .slice vb li.length vd) (grown_far (b := w.heap.size) (j := 0) (v := .slice va ls.length vc) G.out (Nat.le_refl _)) (Nat.le_refl _))
      have QL := hid ((KRows.far (j := 0) Q.out R.out (by decide) (by decide) (.slice va ls.length vc)).far (j := 1) (R.out.set 0 _) (by decide) (by decide) (.slice vb li.length vd))
      clear K G X Q R
      go_wp2
      refine bodyPost_ret (v := .agg #[.slice va ls.length vc, .slice vb li.length vd]) (by simp [results, Tryd.results18, go_sem, z0, z1]) rfl ?_
      exact ⟨_, _, _, _, ls, li, rfl, ⟨by omega, by omega⟩, QL.out, KL.out, GL.out⟩
  by_cases y4 : y = 4
  · subst y4
    go_wp2
    have HN0 : Hid (li.length ≤ 10) := (show _ ≤ _ by omega)
    go_loopg [] (20 - li.length) (fun q wr => ∃ vb vd, ∃ (li : List ItemD), li.length + q = 20 ∧ Hid (li.length ≤ 10) ∧ Hid (CurAt wr C) ∧ Hid (w.grownBy wr (some C)) ∧ Hid (BlockIs wr w.heap.size 27 [.slice none 0 0, .slice none 0 0]) ∧ Hid (BlockIs wr xb 27 [.slice va ls.length vc, .slice vb li.length vd]) ∧ Hid (KRows wr w.heap.size (.slice va ls.length vc) (.slice vb li.length vd) ls li))
    case atStart => exact ⟨vb, vd, li, by omega, HN0, K, G, R, X, Q⟩
    case round =>
      clear K G R X Q HN0 hl8
      obtain ⟨vb, vd, li, hnq, HNL, K, G, R, X, Q⟩ := hrel
      go_wp2_with fail
      refine wp_region_each (N := 80) (by kernel_rfl) (by kernel_rfl) rfl (by kernel_rfl) (fun W => CurAt W C ∧ w.grownBy W (some C) ∧ BlockIs W w.heap.size 27 [.slice none 0 0, .slice none 0 0] ∧ BlockIs W xb 27 [.slice va ls.length vc, .slice vb li.length vd] ∧ KRows W w.heap.size (.slice va ls.length vc) (.slice vb li.length vd) ls li) (fun j v _ _ => match j with | 0 => v = .pointer (some ⟨xb, 1, none⟩) | 1 => v = .slice vb li.length vd | 2 => v = .int .i64 (li.length : Int) | 3 => v = .pointer (some ⟨C, 0, none⟩) | 4 => ∃ z : Int, v = .int .i64 z ∧ 0 ≤ z ∧ z < 2 | 5 => ∃ m : Nat, v = .int .i64 (m : Int) ∧ m ≤ 9 | 6 => ∃ m : Nat, v = .bool (decide ((li.length : Int) < (m : Int))) ∧ m ≤ 9 | _ => True) (fun i => i) (fun _ _ => false) (fun _ _ _ => True) (fun _ => 0) (by kernel_rfl) (fun _ _ => rfl) ?_ ⟨K.out.below (below_drewN (Below.refl _ _) 1), grown_below G.out (below_drewN (Below.refl _ _) 1), R.out.on (below_drewN (Below.refl _ _) 1) R.out.lt, X.out.on (below_drewN (Below.refl _ _) 1) X.out.lt, Q.out.on (below_drewN (Below.refl _ _) 1)⟩ ?_ ?_
      · intro i j v u x9 y9 hij hdd hwt hxy hg
        match j, hg with
        | 0, hg => exact hg
        | 1, hg => exact hg
        | 2, hg => exact hg
        | 3, hg => exact hg
        | 4, hg => exact hg
        | 5, hg => exact hg
        | 6, hg => exact hg
        | n + 7, _ => exact trivial
      · refine ⟨?_, ?_, ?_, ?_, ?_, ?_, ?_, trivial⟩
        · intro A W hC hg hb
          have h3 : A.eval (.tmp 3) = .pointer (some ⟨xb, 0, none⟩) := hb 3 (base_of (by kernel_rfl))
          exact does_value (v := .pointer (some ⟨xb, 1, none⟩)) (w' := W) (by simp only [execOp, h3]; simp [go_sem]) ⟨rfl, hC, trivial⟩
        · intro A W hC hg hb
          have h61 : A.eval (.tmp 61) = .pointer (some ⟨xb, 1, none⟩) := hg 0 61 (by decide) rfl (by simp [Op.operands]) (by kernel_rfl) rfl
          obtain ⟨hk, hgr, hr, hx, ho⟩ := hC
          have hc := hx.cell (j := 1) rfl
          exact does_value (v := .slice vb li.length vd) (w' := W) (by simp only [execOp, h61]; simp [go_sem, hc]) ⟨rfl, ⟨hk, hgr, hr, hx, ho⟩, trivial⟩
        · intro A W hC hg hb
          have h62 : A.eval (.tmp 62) = .slice vb li.length vd := hg 1 62 (by decide) rfl (by simp [Op.operands, Call.operands]) (by kernel_rfl) rfl
          simp [go_sem] at h62
          exact does_value (v := .int .i64 (li.length : Int)) (w' := W) (by simp [go_sem, h62]) ⟨rfl, hC, trivial⟩
        · intro A W hC hg hb
          have h0 : A.eval (.tmp 0) = .pointer (some ⟨C, 0, none⟩) := hb 0 (base_of (by kernel_rfl))
          exact does_value (v := .pointer (some ⟨C, 0, none⟩)) (w' := W) (by simp only [execOp, h0]; simp [go_sem]) ⟨rfl, hC, trivial⟩
        · intro A W hC hg hb
          have h64 : A.eval (.tmp 64) = .pointer (some ⟨C, 0, none⟩) := hg 3 64 (by decide) rfl (by simp [Op.operands, Call.operands]) (by kernel_rfl) rfl
          obtain ⟨hk, hgr, hr, hx, ho⟩ := hC
          simp [go_sem] at h64
          refine does_enter (f := 44) (args := #[.pointer (some ⟨C, 0, none⟩), .int .i64 2]) (w' := W) (by simp [go_sem, h64]) ?_
          refine (l01Below_any C 2 (by omega) (by omega) W hk).mono ?_
          rintro e W' ⟨z, rfl, z0, z1, k', q'⟩
          exact ⟨_, rfl, ⟨z, rfl, z0, z1⟩, ⟨k', hgr.trans q', hr.cur q' hCl, hx.cur q' NX.out, ho.cur q' hCl⟩, trivial⟩
        · intro A W hC hg hb
          have g4 := hg 4 65 (by decide) rfl (by simp [Op.operands]) (by kernel_rfl) rfl
          obtain ⟨z, e8, z0, z1⟩ := g4
          have hw2 : IntKind.i64.wrap (8 + z) = ((8 + z).toNat : Int) := by rw [IntKind.wrap_i64]; omega
          exact does_value (v := .int .i64 ((8 + z).toNat : Int)) (w' := W) (by simp only [execOp, e8]; simp [go_sem, hw2]) ⟨⟨_, rfl, by omega⟩, hC, trivial⟩
        · intro A W hC hg hb
          have h63 : A.eval (.tmp 63) = .int .i64 (li.length : Int) := hg 2 63 (by decide) rfl (by simp [Op.operands]) (by kernel_rfl) rfl
          have g5 := hg 5 66 (by decide) rfl (by simp [Op.operands]) (by kernel_rfl) rfl
          obtain ⟨m, e8, hm⟩ := g5
          exact does_value (v := .bool (decide ((li.length : Int) < (m : Int)))) (w' := W) (by simp only [execOp, h63, e8]; simp [go_sem]) ⟨⟨m, rfl, hm⟩, hC, trivial⟩
      · intro vs wE hC hg
        obtain ⟨m, h6, hm⟩ := hg 6 (by decide) (fun k => by simp)
        clear hg
        obtain ⟨hk, hgr, hr, hx, ho⟩ := hC
        change Exit.then _ _ _ (laidBy _ vs _ 7 _) wE
        simp only [laidBy, if_true, dstAt, List.getElem?_toArray, List.getElem?_cons_succ, List.getElem?_cons_zero, Option.bind_some]
        simp only [Act.put, List.setIfInBounds_toArray, List.set_cons_succ, List.set_cons_zero]
        clear K G R X Q
        have K := hid hk
        have G := hid hgr
        have R := hid hr
        have X := hid hx
        have Q := hid ho
        clear hk hgr hr hx ho
        by_cases hlt : (li.length : Int) < (m : Int)
        · rw [decide_eq_true hlt] at h6
          rw [h6]
          obtain ⟨q, rfl⟩ : ∃ q, gk = q + 1 := ⟨gk - 1, by have := HNL.out; omega⟩
          go_wp2
          refine wp_region_from (N := 80) (by kernel_rfl) (by kernel_rfl) rfl (by kernel_rfl) (fun W => CurAt W C ∧ w.grownBy W (some C) ∧ BlockIs W w.heap.size 27 [.slice none 0 0, .slice none 0 0] ∧ W.ownsRow w.heap.size 55 3 (.slice va ls.length vc) ls.length (sessionCells ls)) (fun j v u W => match j with | 0 => v = .pointer (some ⟨xb, 1, none⟩) | 1 => v = .slice vb li.length vd | 2 => v = .pointer (some ⟨xb, 1, none⟩) | 3 => v = .slice vb li.length vd | 4 => v = .int .i64 (li.length : Int) | 5 => ∃ s : ByteArray, v = .string s ∧ s.size ≤ 10 | 6 => ∃ s : ByteArray, v = .string s | 7 => ∃ d : ItemD, v = .agg #[.string d.key, .string d.val, .int .i64 d.ver] | 8 => ∃ (g : Nat) (d : ItemD), v = .slice (some ⟨g, 0, none⟩) 1 1 ∧ C < g ∧ BlockIs W g 58 (itemEnc d) | 9 => ∃ (va' : Option Addr) (vc' : Nat) (d : ItemD), v = .slice va' (li ++ [d]).length vc' ∧ W.ownsRow w.heap.size 58 3 (.slice va' (li ++ [d]).length vc') (li ++ [d]).length (itemCells (li ++ [d])) | 10 => v = .pointer (some ⟨xb, 1, none⟩) | 11 => ∃ (va' : Option Addr) (vc' : Nat) (d : ItemD), u = .slice va' (li ++ [d]).length vc' ∧ W.ownsRow w.heap.size 58 3 (.slice va' (li ++ [d]).length vc') (li ++ [d]).length (itemCells (li ++ [d])) ∧ BlockIs W xb 27 [.slice va ls.length vc, .slice va' (li ++ [d]).length vc'] | _ => True) (fun i => if i = 11 then 9 else i) (fun j i => decide ((j, i) ∈ ([(8, 9)] : List (Nat × Nat)))) (fun i x y => x.heap.size ≤ y.heap.size ∧ ∀ g ty cs, BlockIs x g ty cs → C < g → (i = 9 → ty ≠ 58) → (i = 11 → ty ≠ 27) → BlockIs y g ty cs) (fun q9 W => match q9 with | 0 => W.ownsRow w.heap.size 58 3 (.slice vb li.length vd) li.length (itemCells li) | 1 => BlockIs W xb 27 [.slice va ls.length vc, .slice vb li.length vd] | _ => True) (fun m k => decide ((m, k) ∈ ([(0, 9), (1, 11)] : List (Nat × Nat)))) ?_ (fun i => if i = 11 then 77 else 0) (by kernel_rfl) (fun i hi => by have : 12 ≤ i := hi; simp; omega) ?_ ⟨K.out.below (below_drewN (Below.refl _ _) 1), grown_below G.out (below_drewN (Below.refl _ _) 1), R.out.on (below_drewN (Below.refl _ _) 1) R.out.lt, row_onK Q.out.1 (below_drewN (Below.refl _ _) 1)⟩ (fun q9 => match q9 with | 0 => row_onK Q.out.2 (below_drewN (Below.refl _ _) 1) | 1 => X.out.on (below_drewN (Below.refl _ _) 1) X.out.lt | _ + 2 => trivial) ?_ ?_
          · intro i m x9 y9 hen hxy hm
            match m, hen, hm with
            | 0, hen, hm =>
              simp at hen
              exact row_fromK hm fun g cs hg h => hxy.2 _ _ _ h (by omega) (fun e => absurd e hen) (fun _ => by decide)
            | 1, hen, hm =>
              simp at hen
              exact hxy.2 _ _ _ hm NX.out (fun _ => by decide) (fun e => absurd e hen)
            | n + 2, _, _ => exact trivial
          · intro i j v u x9 y9 hij hdd hwt hxy hg
            match j, hg with
            | 0, hg => exact hg
            | 1, hg => exact hg
            | 2, hg => exact hg
            | 3, hg => exact hg
            | 4, hg => exact hg
            | 5, hg => exact hg
            | 6, hg => exact hg
            | 7, hg => exact hg
            | 8, hg =>
              obtain ⟨g, d, e1, hlt, e2⟩ := hg
              simp at hdd
              exact ⟨g, d, e1, hlt, hxy.2 _ _ _ e2 hlt (fun e => absurd e hdd) (fun _ => by decide)⟩
            | 9, hg =>
              obtain ⟨va', vc', d, e1, e2⟩ := hg
              exact ⟨va', vc', d, e1, row_fromK e2 fun g cs hg h => hxy.2 _ _ _ h (by omega) (fun e => absurd e hij) (fun _ => by decide)⟩
            | 10, hg => exact hg
            | 11, hg =>
              obtain ⟨va', vc', d, e1, e2, e3⟩ := hg
              have h6 : i ≠ 9 := by rintro rfl; exact Bool.noConfusion (hwt.symm.trans (by kernel_rfl : waitsB _ 11 9 = true))
              exact ⟨va', vc', d, e1, row_fromK e2 fun g cs hg h => hxy.2 _ _ _ h (by omega) (fun e => absurd e h6) (fun _ => by decide), hxy.2 _ _ _ e3 NX.out (fun _ => by decide) (fun e => absurd e hij)⟩
            | n + 12, _ => exact trivial
          · refine ⟨?_, ?_, ?_, ?_, ?_, ?_, ?_, ?_, ?_, ?_, ?_, ?_, trivial⟩
            · intro A W hC hI hg hb
              have h3 : A.eval (.tmp 3) = .pointer (some ⟨xb, 0, none⟩) := hb 3 (base_of (by kernel_rfl))
              exact does_value (v := .pointer (some ⟨xb, 1, none⟩)) (w' := W) (by simp only [execOp, h3]; simp [go_sem]) ⟨rfl, hC, Nat.le_refl _, fun _ _ _ h _ _ _ => h⟩
            · intro A W hC hI hg hb
              have h68 : A.eval (.tmp 68) = .pointer (some ⟨xb, 1, none⟩) := hg 0 68 (by decide) rfl (by simp [Op.operands]) (by kernel_rfl) rfl
              have hb1 : BlockIs W xb 27 [.slice va ls.length vc, .slice vb li.length vd] := hI 1 (by kernel_rfl)
              have hc := hb1.cell (j := 1) rfl
              exact does_value (v := .slice vb li.length vd) (w' := W) (by simp only [execOp, h68]; simp [go_sem, hc]) ⟨rfl, hC, Nat.le_refl _, fun _ _ _ h _ _ _ => h⟩
            · intro A W hC hI hg hb
              have h3 : A.eval (.tmp 3) = .pointer (some ⟨xb, 0, none⟩) := hb 3 (base_of (by kernel_rfl))
              exact does_value (v := .pointer (some ⟨xb, 1, none⟩)) (w' := W) (by simp only [execOp, h3]; simp [go_sem]) ⟨rfl, hC, Nat.le_refl _, fun _ _ _ h _ _ _ => h⟩
            · intro A W hC hI hg hb
              have h70 : A.eval (.tmp 70) = .pointer (some ⟨xb, 1, none⟩) := hg 2 70 (by decide) rfl (by simp [Op.operands]) (by kernel_rfl) rfl
              have hb1 : BlockIs W xb 27 [.slice va ls.length vc, .slice vb li.length vd] := hI 1 (by kernel_rfl)
              have hc := hb1.cell (j := 1) rfl
              exact does_value (v := .slice vb li.length vd) (w' := W) (by simp only [execOp, h70]; simp [go_sem, hc]) ⟨rfl, hC, Nat.le_refl _, fun _ _ _ h _ _ _ => h⟩
            · intro A W hC hI hg hb
              have h71 : A.eval (.tmp 71) = .slice vb li.length vd := hg 3 71 (by decide) rfl (by simp [Op.operands, Call.operands]) (by kernel_rfl) rfl
              simp [go_sem] at h71
              exact does_value (v := .int .i64 (li.length : Int)) (w' := W) (by simp [go_sem, h71]) ⟨rfl, hC, Nat.le_refl _, fun _ _ _ h _ _ _ => h⟩
            · intro A W hC hI hg hb
              have h72 : A.eval (.tmp 72) = .int .i64 (li.length : Int) := hg 4 72 (by decide) rfl (by simp [Op.operands, Call.operands]) (by kernel_rfl) rfl
              obtain ⟨hk, hgr, hr, ho⟩ := hC
              simp [go_sem] at h72
              refine does_enter (f := 48) (args := #[.int .i64 (li.length : Int)]) (w' := W) (by simp [go_sem, h72]) ?_
              refine (specDecimal_nat li.length (by have := HNL.out; omega) W).mono ?_
              rintro e W' ⟨rfl, ba⟩
              exact ⟨_, rfl, ⟨_, rfl, decT_ten (Int.natCast_nonneg _) (by have := HNL.out; omega)⟩, ⟨hk.below ba, grown_below hgr ba, hr.on ba hr.lt, row_onK ho ba⟩, ba.size, fun g ty cs h _ _ _ => h.on ba h.lt⟩
            · intro A W hC hI hg hb
              have g5 := hg 5 73 (by decide) rfl (by simp [Op.operands]) (by kernel_rfl) rfl
              obtain ⟨s, e8, hs10⟩ := g5
              have hs11 : 1 + s.size ≤ 9223372036854775807 := by omega
              exact does_value (v := .string (⟨#[121]⟩ ++ s)) (w' := W) (by simp only [execOp, e8]; simp [go_sem, hs11]) ⟨⟨_, rfl⟩, hC, Nat.le_refl _, fun _ _ _ h _ _ _ => h⟩
            · intro A W hC hI hg hb
              have g6 := hg 6 74 (by decide) rfl (by simp [Op.operands]) (by kernel_rfl) rfl
              obtain ⟨s, e8⟩ := g6
              simp [go_sem] at e8
              exact does_value (v := .agg #[.string s, .string ⟨#[]⟩, .int .i64 1]) (w' := W) (by simp [execOp, go_sem, e8]) ⟨⟨⟨s, ⟨#[]⟩, 1⟩, rfl⟩, hC, Nat.le_refl _, fun _ _ _ h _ _ _ => h⟩
            · intro A W hC hI hg hb
              have g7 := hg 7 75 (by decide) rfl (by simp [Op.operands]) (by kernel_rfl) rfl
              obtain ⟨d, e8⟩ := g7
              obtain ⟨hk, hgr, hr, ho⟩ := hC
              have hb1 : BlockIs W xb 27 [.slice va ls.length vc, .slice vb li.length vd] := hI 1 (by kernel_rfl)
              have ba := below_more (Below.refl W.heap.size W) (.cells #[.string d.key, .string d.val, .int .i64 d.ver] 58)
              simp [go_sem] at e8
              exact does_value (v := .slice (some ⟨W.heap.size, 0, none⟩) 1 1) (w' := W.alloc (.cells #[.string d.key, .string d.val, .int .i64 d.ver] 58)) (by simp [execOp, go_sem, e8]) ⟨⟨_, d, rfl, hk.lt, heap_alloc_new W _⟩, ⟨hk.below ba, grown_below hgr ba, hr.on ba hr.lt, row_onK ho ba⟩, ba.size, fun g ty cs h _ _ _ => h.on ba h.lt⟩
            · intro A W hC hI hg hb
              have h69 : A.eval (.tmp 69) = .slice vb li.length vd := hg 1 69 (by decide) rfl (by simp [Op.operands, Call.operands]) (by kernel_rfl) rfl
              have g8 := hg 8 76 (by decide) rfl (by simp [Op.operands, Call.operands]) (by kernel_rfl) rfl
              obtain ⟨g, d, e8, hlt, hbl⟩ := g8
              obtain ⟨hk, hgr, hr, ho⟩ := hC
              have hrow : W.ownsRow w.heap.size 58 3 (.slice vb li.length vd) li.length (itemCells li) := hI 0 (by kernel_rfl)
              obtain ⟨va', vc', W', hr7, h2, h3⟩ := item_more (by have := HNL.out; omega) hgr.size hrow hbl
              have hown : ∀ j, (Value.slice vb li.length vd).ownBlock = some j → w.heap.size ≤ j := fun j hj => (row_block hrow hj).elim fun _ h => h.2
              have far : ∀ p ty cs, BlockIs W p ty cs → ty ≠ 58 → BlockIs W' p ty cs := fun p ty cs hp hne => block_grown hp hrow h3 hne
              refine does_value (v := .slice va' (li ++ [d]).length vc') (w' := W') (by simp only [execOp, resolve, invoke, builtin, Sem.run_bind, Sem.run_pure, Result.andThen_ok, List.map_toArray, List.map_cons, List.map_nil, h69, e8, hr7]) ⟨⟨va', vc', d, rfl, h2⟩, ⟨hk.kept h3 (fun j hj => by have := hown j hj; omega), grown_rowA hgr h3 hown, far _ _ _ hr (by decide), row_extK ho fun g cs h => far _ _ _ h (by decide)⟩, h3.size, fun p ty cs hp _ hne _ => far p ty cs hp (hne rfl)⟩
            · intro A W hC hI hg hb
              have h3 : A.eval (.tmp 3) = .pointer (some ⟨xb, 0, none⟩) := hb 3 (base_of (by kernel_rfl))
              exact does_value (v := .pointer (some ⟨xb, 1, none⟩)) (w' := W) (by simp only [execOp, h3]; simp [go_sem]) ⟨rfl, hC, Nat.le_refl _, fun _ _ _ h _ _ _ => h⟩
            · intro A W hC hI hg hb
              have h78 : A.eval (.tmp 78) = .pointer (some ⟨xb, 1, none⟩) := hg 10 78 (by decide) rfl (by simp [Op.operands]) (by kernel_rfl) rfl
              have g9 := hg 9 77 (by decide) rfl (by simp [Op.operands]) (by kernel_rfl) rfl
              obtain ⟨va', vc', d, h77, hrow⟩ := g9
              have hb1 : BlockIs W xb 27 [.slice va ls.length vc, .slice vb li.length vd] := hI 1 (by kernel_rfl)
              obtain ⟨hk, hgr, hr, ho⟩ := hC
              have c2 := hb1.cell (j := 1) rfl
              have f2 := hb1.thaw 1
              have far : ∀ p ty cs, BlockIs W p ty cs → ty ≠ 27 → BlockIs (W.setCell ⟨xb, 1, none⟩ (.slice va' (li ++ [d]).length vc')) p ty cs := fun p ty cs hp hne => hp.far (by intro e; subst e; exact hne (block_one hp hb1).1) _
              exact does_skip (w' := W.setCell ⟨xb, 1, none⟩ (.slice va' (li ++ [d]).length vc')) (by simp only [execOp, h78, h77]; simp [go_sem, c2, f2]) ⟨⟨va', vc', d, h77, row_fromK hrow fun g cs _ h => far g _ _ h (by decide), hb1.set 1 _⟩, ⟨hk.set NX.out, grown_far hgr LX.out, hr.far (by have := MX.out; omega) _, row_extK ho fun g cs h => far _ _ _ h (by decide)⟩, by simp [World.size_setCell], fun p ty cs hp _ _ hne => far p ty cs hp (hne rfl)⟩
          · intro vs wE hC hI hg
            obtain ⟨va', vc', d, hu, ho, hb⟩ := hg 11 (by decide) (fun k => by simp)
            clear hg hI hu
            obtain ⟨hk, hgr, hr, hoth⟩ := hC
            change Exit.inBlock 2 (Exit.then _ _) _ (laidBy _ vs _ 12 _) wE
            simp only [laidBy, if_true, dstAt, List.getElem?_toArray, List.getElem?_cons_succ, List.getElem?_cons_zero, Option.bind_some]
            simp only [Act.put, List.setIfInBounds_toArray, List.set_cons_succ, List.set_cons_zero]
            have HLN : (li ++ [d]).length = li.length + 1 := by simp
            obtain ⟨M, hM⟩ : ∃ M, li ++ [d] = M := ⟨_, rfl⟩
            rw [hM] at ho hb HLN
            have HLM := hid HLN
            clear K G R X Q hM HLN
            have K := hid hk
            have G := hid hgr
            have R := hid hr
            have X := hid hb
            have Q : Hid (KRows wE w.heap.size (.slice va ls.length vc) (.slice va' M.length vc') ls M) := ⟨hoth, ho⟩
            clear hk hgr hr hb ho hoth
            have HNM : Hid (M.length ≤ 10) := (show _ ≤ _ by have := HLM.out; omega)
            have hnm : M.length + q = 20 := by have := HLM.out; omega
            clear HLM HNL hlt h6 hm
            go_wp2_with fail
            go_roundg q
            case measure => omega
            case rel => exact ⟨va', vc', M, hnm, HNM, K, G, R, X, Q⟩
        · rw [decide_eq_false hlt] at h6
          rw [h6]
          have c0 := X.out.cell (j := 0) rfl
          have c1 := X.out.cell (j := 1) rfl
          have z0 := R.out.cell (j := 0) rfl
          have z1 := R.out.cell (j := 1) rfl
          have f0 := R.out.thaw 0
          have f1 := R.out.thaw 1
          have KL := hid ((K.out.set (b := w.heap.size) (j := 0) (v := .slice va ls.length vc) hCl).set (b := w.heap.size) (j := 1) (v := .slice vb li.length vd) hCl)
          have GL := hid (grown_far (b := w.heap.size) (j := 1) (v := .slice vb li.length vd) (grown_far (b := w.heap.size) (j := 0) (v := .slice va ls.length vc) G.out (Nat.le_refl _)) (Nat.le_refl _))
          have QL := hid ((KRows.far (j := 0) Q.out R.out (by decide) (by decide) (.slice va ls.length vc)).far (j := 1) (R.out.set 0 _) (by decide) (by decide) (.slice vb li.length vd))
          clear K G X Q R
          go_wp2
          refine bodyPost_ret (v := .agg #[.slice va ls.length vc, .slice vb li.length vd]) (by simp [results, Tryd.results18, go_sem, z0, z1]) rfl ?_
          exact ⟨_, _, _, _, ls, li, rfl, ⟨by omega, by have := HNL.out; omega⟩, QL.out, KL.out, GL.out⟩
  have y0' : (y == 0) = false := by simpa using y0
  have y1' : (y == 1) = false := by simpa using y1
  have y2' : (y == 2) = false := by simpa using y2
  have y3' : (y == 3) = false := by simpa using y3
  have y4' : (y == 4) = false := by simpa using y4
  have c0 := X.out.cell (j := 0) rfl
  have c1 := X.out.cell (j := 1) rfl
  have z0 := R.out.cell (j := 0) rfl
  have z1 := R.out.cell (j := 1) rfl
  have f0 := R.out.thaw 0
  have f1 := R.out.thaw 1
  have KL := hid ((K.out.set (b := w.heap.size) (j := 0) (v := .slice va ls.length vc) hCl).set (b := w.heap.size) (j := 1) (v := .slice vb li.length vd) hCl)
  have GL := hid (grown_far (b := w.heap.size) (j := 1) (v := .slice vb li.length vd) (grown_far (b := w.heap.size) (j := 0) (v := .slice va ls.length vc) G.out (Nat.le_refl _)) (Nat.le_refl _))
  have QL := hid ((KRows.far (j := 0) Q.out R.out (by decide) (by decide) (.slice va ls.length vc)).far (j := 1) (R.out.set 0 _) (by decide) (by decide) (.slice vb li.length vd))
  clear K G X Q R
  go_wp2
  refine bodyPost_ret (v := .agg #[.slice va ls.length vc, .slice vb li.length vd]) (by simp [results, Tryd.results18, go_sem, z0, z1]) rfl ?_
  exact ⟨_, _, _, _, ls, li, rfl, ⟨by omega, by omega⟩, QL.out, KL.out, GL.out⟩
end Go.Proofs.YtihgkocfgjihhaaDoor
