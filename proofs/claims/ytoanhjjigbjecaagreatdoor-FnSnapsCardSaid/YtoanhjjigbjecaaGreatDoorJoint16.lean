/-
  The walk of spec.l15Keep: a right keep behind few commands, in memory of the call's own.
  The walk of spec.l05Conf: some list of few numbers, in memory of its own.
  The walks of spec.l05Rise and spec.ConfOk: what they answer.
  The walk of spec.ConfText: what it answers.
  The walk of spec.l01New: a cursor over the bytes that came in.
-/
import Derived.Test.YtoanhjjigbjecaaGreatDoorJoint8
import Derived.Test.YtoanhjjigbjecaaGreatDoorJoint1
import Derived.Test.YtoanhjjigbjecaaGreatDoorJoint15
import Derived.Deep.LoopGhost
import Derived.Test.YtoanhjjigbjecaaGreatDoorJoint3
import Derived.Test.YtoanhjjigbjecaaGreatDoorJoint5
import Derived.Test.YtoanhjjigbjecaaGreatDoorJoint12
import Derived.Deep.QuietTactic
import Derived.BigQuiet
import Derived.Lib.QuietBelow
import Derived.WalkSmall
import Derived.Laws.Cover1
import Derived.Test.YtoanhjjigbjecaaGreatDoorJoint2
namespace Go.Proofs.YtoanhjjigbjecaaGreatDoor
open Go.RowKit Go.Sort

/-- a keep that is right, its Tokens and Lasts small -/
def KeepDid (C : Nat) (w : World) (e : Ending) (w' : World) : Prop := ∃ va vc vb vd ls li, e = .returned (.agg #[.slice va (List.length ls) vc, .slice vb (List.length li) vd]) ∧ keepOk ls li = true ∧ Young 40 ls ∧ KRows w' w.heap.size (.slice va ls.length vc) (.slice vb li.length vd) ls li ∧ CurAt w' C ∧ w.grownBy w' (some C)
theorem row_fromK {x y : World} {base size n : Nat} {t : TypeId} {v : Value} {xs : List Value} (h : x.ownsRow base t size v n xs) (hb : ∀ g cs, base ≤ g → BlockIs x g t cs → BlockIs y g t cs) : y.ownsRow base t size v n xs := by
  refine ⟨h.1, h.2.imp id ?_⟩
  rintro ⟨g, cap, cur, a, b, c, r⟩
  have := hb g cur.toList b (by unfold BlockIs; rw [c])
  unfold BlockIs at this
  exact ⟨g, cap, cur, a, b, by rw [this], r⟩
theorem KRows.ext {x y : World} {lo C : Nat} {v u : Value} {ls : List SessionD} {li : List ItemD} (h : KRows x lo v u ls li) (hC : C < lo) (hb : ∀ g ty cs, BlockIs x g ty cs → C < g → ty ≠ 56 → BlockIs y g ty cs) : KRows y lo v u ls li :=
  ⟨row_fromK h.1 fun g cs hg hq => hb g _ cs hq (by omega) (by decide), row_fromK h.2 fun g cs hg hq => hb g _ cs hq (by omega) (by decide)⟩
/-- a right command is done -/
theorem perform_fine {ls : List SessionD} {li : List ItemD} {n : Nat} {x : CommandD} (hn : n ≤ 40) (hk : keepOk ls li = true) (hy : Young n ls) (hx : commandOk x = true) :
    ∃ d : KeepD, performD ls li ((n : Int) + 2) x = d ∧ d.ok = true ∧ keepOk d.ss d.is = true ∧ Young ((n + 1 : Nat) : Int) d.ss := by
  have hm : mayDo ls li ((n : Int) + 2) x = true := by
    simp only [mayDo, within, hk, hx, Bool.true_and, Bool.and_true, Bool.and_eq_true, decide_eq_true_eq]
    omega
  have hd := done_right hm
  refine ⟨_, rfl, ?_⟩
  rw [performD, if_pos hm]
  exact ⟨hd.2.2, hd.1, by have := young_done (li := li) (x := x) (Int.natCast_nonneg n) hy; rw [Int.natCast_add]; exact this⟩

set_option maxRecDepth 1000000 in
set_option maxHeartbeats 4000000 in
theorem l15Keep_any (C : Nat) (size : Int) (hs0 : 0 < size) (hs1 : size ≤ 40) (w : World) (hc : CurAt w C) :
    Calls Tryz.prog 22 #[.pointer (some ⟨C, 0, none⟩), .int .i64 size] w fun e w' => KeepDid C w e w' := by
  have hCl := hc.lt
  have HP := hid (fun (ls : List SessionD) (li : List ItemD) (n : Nat) (x : CommandD) h1 h2 h3 h4 => perform_fine (ls := ls) (li := li) (n := n) (x := x) h1 h2 h3 h4)
  have h0 := specKeepNew_any
  have be := below_more (Below.refl w.heap.size w) (.cells #[.slice none 0 0, .slice none 0 0] 56)
  have xr0 : BlockIs (w.alloc (.cells #[.slice none 0 0, .slice none 0 0] 56)) w.heap.size 56 [.slice none 0 0, .slice none 0 0] := heap_alloc_new w _
  obtain ⟨W0, hW0⟩ : ∃ W, w.alloc (.cells #[.slice none 0 0, .slice none 0 0] 56) = W := ⟨_, rfl⟩
  rw [hW0] at be xr0
  have K0 := hid (hc.below be)
  have G0 := hid (grown_below (World.grownBy.refl w (some C)) be)
  have R0 := hid xr0
  clear hc be xr0
  go_enter Tryz.func22, Tryz.ntmps22
  go_wp2_with fail
  refine Calls.mono (h0 _) ?_
  rintro e w1 ⟨g1, rfl, hg1, hi1, b1⟩
  have K1 := hid (K0.out.below b1)
  have G1 := hid (grown_below G0.out b1)
  have R1 := hid (R0.out.on b1 R0.out.lt)
  have I1 := hid hi1
  clear b1 K0 G0 R0 hW0 h0 hi1
  have CP := specPerform_any none (some ⟨g1, 0, none⟩) [] [rootI] 0 1 1 ⟨1, 0, 0, ⟨#[]⟩, ⟨#[]⟩, 0⟩ (by decide) (by decide) w1 (fun h => absurd rfl h) (itemsAt_of (l := [rootI]) (r := []) (by rw [List.append_nil]; exact I1.out))
  rw [first_keep] at CP
  unfold PerfDid at CP
  go_wp2_with fail
  refine Calls.mono CP ?_
  rintro e w2 ⟨va, vc, vb, vd, rfl, hk2, b2⟩
  clear CP I1
  have X0v : True := trivial
  have ba := below_more (Below.refl w2.heap.size w2) (.cells #[.slice none 0 0, .slice none 0 0] 56)
  have hx : BlockIs (w2.alloc (.cells #[.slice none 0 0, .slice none 0 0] 56)) w2.heap.size 56 [.slice none 0 0, .slice none 0 0] := heap_alloc_new w2 _
  have K2 := hid ((K1.out.below b2).below ba)
  have G2 := hid (grown_below (grown_below G1.out b2) ba)
  have R2 := hid ((R1.out.on b2 R1.out.lt).on ba (R1.out.on b2 R1.out.lt).lt)
  have Q2 := hid ((hk2.down (show w.heap.size ≤ w1.heap.size from G1.out.size)).on ba)
  have MX : Hid (w.heap.size < w2.heap.size) := (show _ < _ from (R1.out.on b2 R1.out.lt).lt)
  clear hk2 b2 K1 G1 R1 ba X0v hg1
  obtain ⟨W2, hW2⟩ : ∃ W, w2.alloc (.cells #[.slice none 0 0, .slice none 0 0] 56) = W := ⟨_, rfl⟩
  rw [hW2] at K2 G2 R2 Q2 hx
  obtain ⟨xb, hxb⟩ : ∃ b, w2.heap.size = b := ⟨_, rfl⟩
  have NX : Hid (C < xb) := (show _ < _ by have := MX.out; omega)
  have LX : Hid (w.heap.size ≤ xb) := (show _ ≤ _ by have := MX.out; omega)
  have c0 := hx.cell (j := 0) rfl
  have c1 := hx.cell (j := 1) rfl
  have f0 := hx.thaw 0
  have f1 := hx.thaw 1
  have HXX := hid hx
  clear hx
  rw [hxb] at MX
  have K3 := hid ((K2.out.set (b := xb) (j := 0) (v := .slice va 1 vc) NX.out).set (b := xb) (j := 1) (v := .slice vb 1 vd) NX.out)
  have G3 := hid (grown_far (b := xb) (j := 1) (v := .slice vb 1 vd) (grown_far (b := xb) (j := 0) (v := .slice va 1 vc) G2.out LX.out) LX.out)
  have R3 := hid ((R2.out.far (b := xb) (j := 0) (by have := MX.out; omega) (.slice va 1 vc)).far (b := xb) (j := 1) (by have := MX.out; omega) (.slice vb 1 vd))
  have HXY : BlockIs W2 xb 56 [.slice none 0 0, .slice none 0 0] := by rw [← hxb]; exact HXX.out
  have X3 := hid ((HXY.set 0 (.slice va 1 vc)).set 1 (.slice vb 1 vd))
  have Q3 := hid ((KRows.far (j := 0) Q2.out HXY (by decide) (by decide) (.slice va 1 vc)).far (j := 1) (HXY.set 0 _) (by decide) (by decide) (.slice vb 1 vd))
  clear HXY HXX K2 G2 R2 Q2
  rw [hxb] at c0 c1 f0 f1
  go_wp2_with fail
  go_loopg [8] 40 (fun q i wr => ∃ (n : Nat), ∃ va vc vb vd, ∃ (ls : List SessionD) (li : List ItemD), n + q = 40 ∧ i = .int .i64 (n : Int) ∧ Hid (keepOk ls li = true ∧ Young (n : Int) ls) ∧ Hid (CurAt wr C) ∧ Hid (w.grownBy wr (some C)) ∧ Hid (BlockIs wr w.heap.size 56 [.slice none 0 0, .slice none 0 0]) ∧ Hid (BlockIs wr xb 56 [.slice va ls.length vc, .slice vb li.length vd]) ∧ Hid (KRows wr w.heap.size (.slice va ls.length vc) (.slice vb li.length vd) ls li))
  case atStart => exact ⟨0, va, vc, vb, vd, [⟨1, 0, ⟨#[]⟩⟩], [rootI], by omega, rfl, ⟨first_right, first_young⟩, K3, G3, R3, X3, Q3⟩
  case round =>
    clear K3 G3 R3 X3 Q3 c0 c1 f0 f1 hW2 hxb
    obtain ⟨n, va, vc, vb, vd, ls, li, hnq, rfl, HO, K4, G4, R4, X4, Q4⟩ := hrel
    go_wp2_with fail
    refine Calls.mono (l01Below_any C size (by omega) (by omega) _ K4.out) ?_
    rintro e w3 ⟨y, rfl, y0, y1, k5, q5⟩
    have K5 := hid k5
    have G5 := hid (G4.out.trans q5)
    have R5 := hid (R4.out.cur q5 hCl)
    have X5 := hid (X4.out.cur q5 NX.out)
    have Q5 := hid (Q4.out.cur q5 hCl)
    clear k5 q5 K4 G4 R4 X4 Q4
    by_cases hny : (n : Int) < y
    · obtain ⟨q, rfl⟩ : ∃ q, gk = q + 1 := ⟨gk - 1, by omega⟩
      obtain ⟨⟨ha, hsf, hl3⟩, hai, hif, hl8⟩ := keep_facts HO.out.1
      have hl : ls.length ≤ 1048576 := by omega
      have hl2 : li.length ≤ 1048576 := by omega
      have HLA : Hid (∀ s ∈ ls, (0 ≤ s.token ∧ s.token ≤ 1000000) ∧ 0 ≤ s.last ∧ s.last ≤ 999999) := (show ∀ _ ∈ _, _ from fun s hs => by have h7 := session_bounds (hsf s hs); have h8 := HO.out.2 s hs; omega)
      have HIF := hid hif
      have HPn : Hid (∀ d, commandOk d = true → ∃ D : KeepD, performD ls li ((n : Int) + 2) d = D ∧ D.ok = true ∧ keepOk D.ss D.is = true ∧ Young ((n + 1 : Nat) : Int) D.ss) := (show ∀ _, _ from fun d hd => HP.out ls li n d (by omega) HO.out.1 HO.out.2 hd)
      clear ha hsf hl3 hai hif hl8
      go_wp2
      refine wp_region_each (N := 40) (by kernel_rfl) (by kernel_rfl) rfl (by kernel_rfl) (fun W => CurAt W C ∧ w.grownBy W (some C) ∧ BlockIs W w.heap.size 56 [.slice none 0 0, .slice none 0 0] ∧ BlockIs W xb 56 [.slice va ls.length vc, .slice vb li.length vd] ∧ KRows W w.heap.size (.slice va ls.length vc) (.slice vb li.length vd) ls li) (fun j v u W => match j with | 0 => v = .agg #[.slice va ls.length vc, .slice vb li.length vd] | 1 => v = .int .i64 (n : Int) | 2 => v = .int .i64 ((n : Int) + 2) | 3 => v = .pointer (some ⟨C, 0, none⟩) | 4 => v = .agg #[.slice va ls.length vc, .slice vb li.length vd] | 5 => ∃ d : CommandD, v = .agg #[.int .i64 d.op, .int .i64 d.token, .int .i64 d.seq, .string d.key, .string d.val, .int .i64 d.ver] ∧ commandOk d = true | 6 => ∃ (D : KeepD) (va9 : Option Addr) (vc9 : Nat) (vb9 : Option Addr) (vd9 : Nat), v = .tuple #[.agg #[.slice va9 D.ss.length vc9, .slice vb9 D.is.length vd9], .string D.reply, .bool true] ∧ keepOk D.ss D.is = true ∧ Young ((n + 1 : Nat) : Int) D.ss ∧ KRows W w.heap.size (.slice va9 D.ss.length vc9) (.slice vb9 D.is.length vd9) D.ss D.is | 7 => ∃ (D : KeepD) (va9 : Option Addr) (vc9 : Nat) (vb9 : Option Addr) (vd9 : Nat), v = .tuple #[.agg #[.slice va9 D.ss.length vc9, .slice vb9 D.is.length vd9], .string D.reply, .bool true] ∧ keepOk D.ss D.is = true ∧ Young ((n + 1 : Nat) : Int) D.ss ∧ KRows W w.heap.size (.slice va9 D.ss.length vc9) (.slice vb9 D.is.length vd9) D.ss D.is | 8 => ∃ (D : KeepD) (va9 : Option Addr) (vc9 : Nat) (vb9 : Option Addr) (vd9 : Nat), v = .agg #[.slice va9 D.ss.length vc9, .slice vb9 D.is.length vd9] ∧ keepOk D.ss D.is = true ∧ Young ((n + 1 : Nat) : Int) D.ss ∧ KRows W w.heap.size (.slice va9 D.ss.length vc9) (.slice vb9 D.is.length vd9) D.ss D.is | 9 => ∃ r9 : ByteArray, v = .string r9 | 10 => v = .bool true | 11 => ∃ b : Nat, v = .pointer (some ⟨b, 0, none⟩) ∧ xb < b ∧ BlockIs W b 56 [.slice none 0 0, .slice none 0 0] | 12 => ∃ (b : Nat) (D : KeepD) (va9 : Option Addr) (vc9 : Nat) (vb9 : Option Addr) (vd9 : Nat), u = .pointer (some ⟨b, 0, none⟩) ∧ xb < b ∧ BlockIs W b 56 [.slice va9 D.ss.length vc9, .slice vb9 D.is.length vd9] ∧ keepOk D.ss D.is = true ∧ Young ((n + 1 : Nat) : Int) D.ss ∧ KRows W w.heap.size (.slice va9 D.ss.length vc9) (.slice vb9 D.is.length vd9) D.ss D.is | 13 => ∃ r9 : ByteArray, v = .string r9 | 14 => v = .bool true | _ => True) (fun i => if i = 12 then 11 else i) (fun j i => decide ((j, i) ∈ ([(11, 12)] : List (Nat × Nat)))) (fun i X9 Y9 => (i ≠ 12 → ∀ g ty cs, BlockIs X9 g ty cs → C < g → BlockIs Y9 g ty cs) ∧ ∀ g ty cs, BlockIs X9 g ty cs → C < g → ty ≠ 56 → BlockIs Y9 g ty cs) (fun i => if i = 12 then 9 else 0) (by kernel_rfl) (fun i hi => by have : 15 ≤ i := hi; simp; omega) ?_ ⟨K5.out.below (below_drewN (Below.refl _ _) 1), grown_below G5.out (below_drewN (Below.refl _ _) 1), R5.out.on (below_drewN (Below.refl _ _) 1) R5.out.lt, X5.out.on (below_drewN (Below.refl _ _) 1) X5.out.lt, Q5.out.on (below_drewN (Below.refl _ _) 1)⟩ ?_ ?_
      · intro i j v u x9 y9 hij hdd hwt hxy hg
        match j, hg with
        | 0, hg => exact hg
        | 1, hg => exact hg
        | 2, hg => exact hg
        | 3, hg => exact hg
        | 4, hg => exact hg
        | 5, hg => exact hg
        | 6, hg =>
          obtain ⟨D, va9, vc9, vb9, vd9, e8, hko, hy, hk9⟩ := hg
          exact ⟨D, va9, vc9, vb9, vd9, e8, hko, hy, hk9.ext hCl fun g ty cs h hb hne => hxy.2 g ty cs h hb hne⟩
        | 7, hg =>
          obtain ⟨D, va9, vc9, vb9, vd9, e8, hko, hy, hk9⟩ := hg
          exact ⟨D, va9, vc9, vb9, vd9, e8, hko, hy, hk9.ext hCl fun g ty cs h hb hne => hxy.2 g ty cs h hb hne⟩
        | 8, hg =>
          obtain ⟨D, va9, vc9, vb9, vd9, e8, hko, hy, hk9⟩ := hg
          exact ⟨D, va9, vc9, vb9, vd9, e8, hko, hy, hk9.ext hCl fun g ty cs h hb hne => hxy.2 g ty cs h hb hne⟩
        | 9, hg => exact hg
        | 10, hg => exact hg
        | 11, hg =>
          obtain ⟨b, e1, e2, e3⟩ := hg
          exact ⟨b, e1, e2, hxy.1 (fun e9 => by subst e9; simp at hdd) _ _ _ e3 (by have := NX.out; omega)⟩
        | 12, hg =>
          obtain ⟨b, D, va9, vc9, vb9, vd9, e1, e2, e3, hko, hy, hk9⟩ := hg
          exact ⟨b, D, va9, vc9, vb9, vd9, e1, e2, hxy.1 hij _ _ _ e3 (by have := NX.out; omega), hko, hy, hk9.ext hCl fun g ty cs h hb hne => hxy.2 g ty cs h hb hne⟩
        | 13, hg => exact hg
        | 14, hg => exact hg
        | n + 15, _ => exact trivial
      · refine ⟨?_, ?_, ?_, ?_, ?_, ?_, ?_, ?_, ?_, ?_, ?_, ?_, ?_, ?_, ?_, trivial⟩
        · intro A W hC hg hb
          have h5 : A.eval (.tmp 5) = .pointer (some ⟨xb, 0, none⟩) := hb 5 (base_of (by kernel_rfl))
          obtain ⟨hk, hgr, hR, hX, hQ⟩ := hC
          have hc0 := hX.cell (j := 0) rfl
          have hc1 := hX.cell (j := 1) rfl
          exact does_value (v := .agg #[.slice va ls.length vc, .slice vb li.length vd]) (w' := W) (by simp only [execOp, h5]; simp [go_sem, hc0, hc1]) ⟨rfl, ⟨hk, hgr, hR, hX, hQ⟩, fun _ _ _ _ h _ => h, fun _ _ _ h _ _ => h⟩
        · intro A W hC hg hb
          have h8 : A.eval (.tmp 8) = .int .i64 (n : Int) := hb 8 (base_of (by kernel_rfl))
          exact does_value (v := .int .i64 (n : Int)) (w' := W) (by simp only [execOp, h8]; simp [go_sem]) ⟨rfl, hC, fun _ _ _ _ h _ => h, fun _ _ _ h _ _ => h⟩
        · intro A W hC hg hb
          have h28 : A.eval (.tmp 28) = .int .i64 (n : Int) := hg 1 28 (by decide) rfl (by simp [Op.operands]) (by kernel_rfl) rfl
          have hw2 : IntKind.i64.wrap ((n : Int) + 2) = (n : Int) + 2 := by rw [IntKind.wrap_i64]; omega
          exact does_value (v := .int .i64 ((n : Int) + 2)) (w' := W) (by simp only [execOp, h28]; simp [go_sem, hw2]) ⟨rfl, hC, fun _ _ _ _ h _ => h, fun _ _ _ h _ _ => h⟩
        · intro A W hC hg hb
          have h0 : A.eval (.tmp 0) = .pointer (some ⟨C, 0, none⟩) := hb 0 (base_of (by kernel_rfl))
          exact does_value (v := .pointer (some ⟨C, 0, none⟩)) (w' := W) (by simp only [execOp, h0]; simp [go_sem]) ⟨rfl, hC, fun _ _ _ _ h _ => h, fun _ _ _ h _ _ => h⟩
        · intro A W hC hg hb
          have h5 : A.eval (.tmp 5) = .pointer (some ⟨xb, 0, none⟩) := hb 5 (base_of (by kernel_rfl))
          obtain ⟨hk, hgr, hR, hX, hQ⟩ := hC
          have hc0 := hX.cell (j := 0) rfl
          have hc1 := hX.cell (j := 1) rfl
          exact does_value (v := .agg #[.slice va ls.length vc, .slice vb li.length vd]) (w' := W) (by simp only [execOp, h5]; simp [go_sem, hc0, hc1]) ⟨rfl, ⟨hk, hgr, hR, hX, hQ⟩, fun _ _ _ _ h _ => h, fun _ _ _ h _ _ => h⟩
        · intro A W hC hg hb
          have h30 : A.eval (.tmp 30) = .pointer (some ⟨C, 0, none⟩) := hg 3 30 (by decide) rfl (by simp [Op.operands, Call.operands]) (by kernel_rfl) rfl
          have h31 : A.eval (.tmp 31) = .agg #[.slice va ls.length vc, .slice vb li.length vd] := hg 4 31 (by decide) rfl (by simp [Op.operands, Call.operands]) (by kernel_rfl) rfl
          simp [go_sem] at h30 h31
          obtain ⟨hk, hgr, hR, hX, hQ⟩ := hC
          refine does_enter (f := 54) (args := #[.pointer (some ⟨C, 0, none⟩), .agg #[.slice va ls.length vc, .slice vb li.length vd]]) (w' := W) (by simp [go_sem, h30, h31]) ?_
          refine (l15Command_any C w.heap.size va vb vc vd ls li hl hl2 HIF.out HLA.out W hk hQ hCl).mono ?_
          rintro e9 W' ⟨d, rfl, hd, k', q'⟩
          exact ⟨_, rfl, ⟨d, rfl, hd⟩, ⟨k', hgr.trans q', hR.cur q' hCl, hX.cur q' NX.out, hQ.cur q' hCl⟩, fun _ _ _ _ h hb => h.cur q' hb, fun _ _ _ h hb _ => h.cur q' hb⟩
        · intro A W hC hg hb
          have h27 : A.eval (.tmp 27) = .agg #[.slice va ls.length vc, .slice vb li.length vd] := hg 0 27 (by decide) rfl (by simp [Op.operands, Call.operands]) (by kernel_rfl) rfl
          have h29 : A.eval (.tmp 29) = .int .i64 ((n : Int) + 2) := hg 2 29 (by decide) rfl (by simp [Op.operands, Call.operands]) (by kernel_rfl) rfl
          have g5 := hg 5 32 (by decide) rfl (by simp [Op.operands, Call.operands]) (by kernel_rfl) rfl
          obtain ⟨d, e5, hd⟩ := g5
          obtain ⟨hk, hgr, hR, hX, hQ⟩ := hC
          obtain ⟨D, hD, ho, hko, hy⟩ := HPn.out d hd
          have cp := specPerform_any va vb ls li vc vd ((n : Int) + 2) d hl hl2 W (sessionR_at hQ.1) (itemR_at hQ.2)
          rw [hD] at cp
          unfold PerfDid at cp
          rw [ho] at cp
          simp [go_sem] at h27 h29 e5
          refine does_enter (f := 52) (args := #[.agg #[.slice va ls.length vc, .slice vb li.length vd], .int .i64 ((n : Int) + 2), .agg #[.int .i64 d.op, .int .i64 d.token, .int .i64 d.seq, .string d.key, .string d.val, .int .i64 d.ver]]) (w' := W) (by simp [go_sem, h27, h29, e5]) ?_
          refine Calls.mono cp ?_
          rintro e9 W' ⟨va9, vc9, vb9, vd9, rfl, hk9, hb9⟩
          exact ⟨_, rfl, ⟨D, va9, vc9, vb9, vd9, rfl, hko, hy, hk9.down hgr.size⟩, ⟨hk.below hb9, grown_below hgr hb9, hR.on hb9 hR.lt, hX.on hb9 hX.lt, hQ.on hb9⟩, fun _ _ _ _ h _ => h.on hb9 h.lt, fun _ _ _ h _ _ => h.on hb9 h.lt⟩
        · intro A W hC hg hb
          have g6 := hg 6 33 (by decide) rfl (by simp [Op.operands]) (by kernel_rfl) rfl
          obtain ⟨D, va9, vc9, vb9, vd9, e8, hko, hy, hk9⟩ := g6
          exact does_value (v := .tuple #[.agg #[.slice va9 D.ss.length vc9, .slice vb9 D.is.length vd9], .string D.reply, .bool true]) (w' := W) (by simp only [execOp, e8]; simp [go_sem]) ⟨⟨D, va9, vc9, vb9, vd9, rfl, hko, hy, hk9⟩, hC, fun _ _ _ _ h _ => h, fun _ _ _ h _ _ => h⟩
        · intro A W hC hg hb
          have g7 := hg 7 26 (by decide) rfl (by simp [Op.operands]) (by kernel_rfl) rfl
          obtain ⟨D, va9, vc9, vb9, vd9, e8, hko, hy, hk9⟩ := g7
          exact does_value (v := .agg #[.slice va9 D.ss.length vc9, .slice vb9 D.is.length vd9]) (w' := W) (by simp only [execOp, e8]; simp [go_sem]) ⟨⟨D, va9, vc9, vb9, vd9, rfl, hko, hy, hk9⟩, hC, fun _ _ _ _ h _ => h, fun _ _ _ h _ _ => h⟩
        · intro A W hC hg hb
          have g7 := hg 7 26 (by decide) rfl (by simp [Op.operands]) (by kernel_rfl) rfl
          obtain ⟨D, va9, vc9, vb9, vd9, e8, hko, hy, hk9⟩ := g7
          exact does_value (v := .string D.reply) (w' := W) (by simp only [execOp, e8]; simp [go_sem]) ⟨⟨_, rfl⟩, hC, fun _ _ _ _ h _ => h, fun _ _ _ h _ _ => h⟩
        · intro A W hC hg hb
          have g7 := hg 7 26 (by decide) rfl (by simp [Op.operands]) (by kernel_rfl) rfl
          obtain ⟨D, va9, vc9, vb9, vd9, e8, hko, hy, hk9⟩ := g7
          exact does_value (v := .bool true) (w' := W) (by simp only [execOp, e8]; simp [go_sem]) ⟨rfl, hC, fun _ _ _ _ h _ => h, fun _ _ _ h _ _ => h⟩
        · intro A W hC hg hb
          obtain ⟨hk, hgr, hR, hX, hQ⟩ := hC
          have ba := below_more (Below.refl W.heap.size W) (.cells #[.slice none 0 0, .slice none 0 0] 56)
          exact does_value (v := .pointer (some ⟨W.heap.size, 0, none⟩)) (w' := W.alloc (.cells #[.slice none 0 0, .slice none 0 0] 56)) (by simp [execOp, go_sem]) ⟨⟨_, rfl, hX.lt, heap_alloc_new W _⟩, ⟨hk.below ba, grown_below hgr ba, hR.on ba hR.lt, hX.on ba hX.lt, hQ.on ba⟩, fun _ _ _ _ h _ => h.on ba h.lt, fun _ _ _ h _ _ => h.on ba h.lt⟩
        · intro A W hC hg hb
          have g11 := hg 11 9 (by decide) rfl (by simp [Op.operands]) (by kernel_rfl) rfl
          have g8 := hg 8 34 (by decide) rfl (by simp [Op.operands]) (by kernel_rfl) rfl
          obtain ⟨D, va9, vc9, vb9, vd9, e8, hko, hy, hk9⟩ := g8
          obtain ⟨b, e9, hbx, hXb⟩ := g11
          obtain ⟨hk, hgr, hR, hX, hQ⟩ := hC
          have c0 := hXb.cell (j := 0) rfl
          have c1 := hXb.cell (j := 1) rfl
          have f0 := hXb.thaw 0
          have f1 := hXb.thaw 1
          have hX3 := (hXb.set 0 (.slice va9 D.ss.length vc9)).set 1 (.slice vb9 D.is.length vd9)
          have hNb : C < b := by have := NX.out; omega
          have hLb : w.heap.size ≤ b := by have := LX.out; omega
          have hrb : w.heap.size ≠ b := by have := MX.out; omega
          have hxb9 : xb ≠ b := by omega
          exact does_skip (w' := ((W.setCell ⟨b, 0, none⟩ (.slice va9 D.ss.length vc9)).setCell ⟨b, 1, none⟩ (.slice vb9 D.is.length vd9))) (by simp only [execOp, e9, e8]; simp [go_sem, c0, c1, f0, f1]) ⟨⟨b, D, va9, vc9, vb9, vd9, e9, hbx, hX3, hko, hy, (KRows.far (j := 0) hk9 hXb (by decide) (by decide) _).far (j := 1) (hXb.set 0 _) (by decide) (by decide) _⟩, ⟨(hk.set hNb).set hNb, grown_far (grown_far hgr hLb) hLb, (hR.far (by omega) _).far (by omega) _, (hX.far (by omega) _).far (by omega) _, (KRows.far (j := 0) hQ hXb (by decide) (by decide) _).far (j := 1) (hXb.set 0 _) (by decide) (by decide) _⟩, fun hne => absurd rfl hne, fun g ty cs hq _ hne => (hq.far (fun e7 => by subst e7; exact hne (block_one hq hXb).1) _).far (fun e7 => by subst e7; exact hne (block_one hq hXb).1) _⟩
        · intro A W hC hg hb
          have g9 := hg 9 35 (by decide) rfl (by simp [Op.operands]) (by kernel_rfl) rfl
          obtain ⟨r9, e8⟩ := g9
          exact does_value (v := .string r9) (w' := W) (by simp only [execOp, e8]; simp [go_sem]) ⟨⟨_, rfl⟩, hC, fun _ _ _ _ h _ => h, fun _ _ _ h _ _ => h⟩
        · intro A W hC hg hb
          have h36 : A.eval (.tmp 36) = .bool true := hg 10 36 (by decide) rfl (by simp [Op.operands]) (by kernel_rfl) rfl
          exact does_value (v := .bool true) (w' := W) (by simp only [execOp, h36]; simp [go_sem]) ⟨rfl, hC, fun _ _ _ _ h _ => h, fun _ _ _ h _ _ => h⟩
      · intro vs wE hC hg
        obtain ⟨b, D, va9, vc9, vb9, vd9, h1, hbx, hB, hko, hyo, hQ9⟩ := hg 12 (by decide) (fun k => by simp)
        have h1b : vs 11 = .pointer (some ⟨b, 0, none⟩) := h1
        have h2b : vs 14 = .bool true := hg 14 (by decide) (fun k => by simp)
        clear hg h1 K5 G5 R5 X5 Q5
        change Exit.then _ _ _ (laidBy _ vs _ 15 _) wE
        simp only [laidBy, if_true, dstAt, List.getElem?_toArray, List.getElem?_cons_succ, List.getElem?_cons_zero, Option.bind_some]
        simp only [Act.put, List.setIfInBounds_toArray, List.set_cons_succ, List.set_cons_zero]
        rw [h1b, h2b]
        obtain ⟨hk, hgr, hR, hX, hQ⟩ := hC
        have c0 := hB.cell (j := 0) rfl
        have c1 := hB.cell (j := 1) rfl
        have x0 := hX.cell (j := 0) rfl
        have x1 := hX.cell (j := 1) rfl
        have f0 := hX.thaw 0
        have f1 := hX.thaw 1
        have K6 := hid ((hk.set (b := xb) (j := 0) (v := .slice va9 D.ss.length vc9) NX.out).set (b := xb) (j := 1) (v := .slice vb9 D.is.length vd9) NX.out)
        have G6 := hid (grown_far (b := xb) (j := 1) (v := .slice vb9 D.is.length vd9) (grown_far (b := xb) (j := 0) (v := .slice va9 D.ss.length vc9) hgr LX.out) LX.out)
        have R6 := hid ((hR.far (b := xb) (j := 0) (by have := MX.out; omega) (.slice va9 D.ss.length vc9)).far (b := xb) (j := 1) (by have := MX.out; omega) (.slice vb9 D.is.length vd9))
        have X6 := hid ((hX.set 0 (.slice va9 D.ss.length vc9)).set 1 (.slice vb9 D.is.length vd9))
        have Q6 := hid ((KRows.far (j := 0) hQ9 hX (by decide) (by decide) (.slice va9 D.ss.length vc9)).far (j := 1) (hX.set 0 _) (by decide) (by decide) (.slice vb9 D.is.length vd9))
        have O6 := hid (And.intro hko hyo)
        clear hk hgr hR hX hQ hB hko hyo hQ9 HPn HIF HLA HO
        go_wp2_with fail
        go_roundg q
        case measure => omega
        case rel => exact ⟨n + 1, va9, vc9, vb9, vd9, D.ss, D.is, by omega, by go_num, O6, K6, G6, R6, X6, Q6⟩
    · have c0 := X5.out.cell (j := 0) rfl
      have c1 := X5.out.cell (j := 1) rfl
      have z0 := R5.out.cell (j := 0) rfl
      have z1 := R5.out.cell (j := 1) rfl
      have f0 := R5.out.thaw 0
      have f1 := R5.out.thaw 1
      have KL := hid ((K5.out.set (b := w.heap.size) (j := 0) (v := .slice va ls.length vc) hCl).set (b := w.heap.size) (j := 1) (v := .slice vb li.length vd) hCl)
      have GL := hid (grown_far (b := w.heap.size) (j := 1) (v := .slice vb li.length vd) (grown_far (b := w.heap.size) (j := 0) (v := .slice va ls.length vc) G5.out (Nat.le_refl _)) (Nat.le_refl _))
      have QL := hid ((KRows.far (j := 0) Q5.out R5.out (by decide) (by decide) (.slice va ls.length vc)).far (j := 1) (R5.out.set 0 _) (by decide) (by decide) (.slice vb li.length vd))
      have hn40 : (n : Int) ≤ 40 := by omega
      clear K5 G5 X5 Q5 R5
      go_wp2
      refine bodyPost_ret (v := .agg #[.slice va ls.length vc, .slice vb li.length vd]) (by simp [results, Tryz.results22, go_sem, z0, z1]) rfl ?_
      exact ⟨va, vc, vb, vd, ls, li, rfl, HO.out.1, HO.out.2.up hn40, QL.out, KL.out, GL.out⟩
end Go.Proofs.YtoanhjjigbjecaaGreatDoor

namespace Go.Proofs.YtoanhjjigbjecaaGreatDoor
open Go.RowKit

/-- few numbers, none great -/
def FewInts (zs : List Int) : Prop := zs.length ≤ 6 ∧ ∀ z ∈ zs, -10 ≤ z ∧ z ≤ 10
/-- a list of few numbers, in memory of its own; the cursor -/
def ConfDid (w : World) (C : Nat) (e : Ending) (w' : World) : Prop := ∃ v zs, e = .returned v ∧ FewInts zs ∧ w'.ownsRow w.heap.size 3 1 v zs.length (is zs) ∧ CurAt w' C ∧ w.grownBy w' (some C)
theorem FewInts.more {zs : List Int} {x : Int} (h : FewInts zs) (hl : zs.length ≤ 5) (hx : -10 ≤ x ∧ x ≤ 10) : FewInts (zs ++ [x]) := by
  refine ⟨by simp; omega, fun z hz => ?_⟩
  rcases List.mem_append.1 hz with q | q
  · exact h.2 z q
  · rw [List.mem_singleton.1 q]; exact hx

theorem behindI_front {l r : List Int} {k : Nat} (hk : k ≤ l.length) (x : Int) : behindI (l ++ r) k x = behindI l k x := by
  cases k with
  | zero => rfl
  | succ j => rw [behindI, behindI, List.getElem?_append_left (by omega)]
theorem riseTo_front {l r : List Int} : ∀ k, k ≤ l.length → riseTo (l ++ r) k = riseTo l k
  | 0, _ => rfl
  | k + 1, h => by
    rw [riseTo, riseTo, riseTo_front k (by omega), List.getElem?_append_left (by omega), List.getElem?_eq_getElem (by omega)]
    simp only [behindI_front (l := l) (r := r) (k := k) (by omega)]
/-- numbers that ascend, from 1 to k -/
def Rises (l : List Int) (k : Nat) : Prop := riseTo l l.length = true ∧ ∀ z ∈ l, 1 ≤ z ∧ z ≤ (k : Int)
theorem Rises.up {l : List Int} {k : Nat} (h : Rises l k) : Rises l (k + 1) := ⟨h.1, fun z hz => by have := h.2 z hz; omega⟩
theorem Rises.snoc {l : List Int} {k : Nat} (h : Rises l k) (hk : k < 4) : Rises (l ++ [(k : Int) + 1]) (k + 1) := by
  refine ⟨?_, fun z hz => ?_⟩
  · rw [show (l ++ [(k : Int) + 1]).length = l.length + 1 by simp, riseTo, riseTo_front _ (Nat.le_refl _), h.1, List.getElem?_append_right (Nat.le_refl _)]
    simp only [Nat.sub_self, List.getElem?_cons_zero, Bool.true_and]
    rw [behindI_front (Nat.le_refl _), Bool.and_eq_true]
    refine ⟨within_iff.2 (by omega), ?_⟩
    cases hl : l.length with
    | zero => rfl
    | succ j =>
      rw [behindI, List.getElem?_eq_getElem (show j < l.length by omega)]
      have := h.2 l[j] (List.getElem_mem _)
      simp only [decide_eq_true_eq]
      omega
  · rcases List.mem_append.1 hz with q | q
    · have := h.2 z q; omega
    · rw [List.mem_singleton.1 q]; omega
theorem Rises.ok {l : List Int} {k : Nat} (h : Rises l k) (h0 : 0 < l.length) (h4 : l.length ≤ 4) : confOk l = true := by
  rw [confOk, h.1, Bool.and_true]
  exact within_iff.2 (by omega)

set_option maxRecDepth 1000000 in
set_option maxHeartbeats 1000000 in
theorem l05Conf_any (C : Nat) (w : World) (hc : CurAt w C) :
    Calls Tryz.prog 23 #[.pointer (some ⟨C, 0, none⟩)] w fun e w' => ∃ v zs, e = .returned v ∧ FewInts zs ∧ (zs.length ≤ 5 ∧ confOk zs = true) ∧ w'.ownsRow w.heap.size 3 1 v zs.length (is zs) ∧ CurAt w' C ∧ w.grownBy w' (some C) := by
  obtain ⟨i0, hi, hz0, hz1, hz2⟩ := info_parts places_info3
  have hCl := hc.lt
  have K0 := hid hc
  clear hc
  go_enter Tryz.func23, Tryz.ntmps23
  go_wp2
  go_loopw [3, 4] (fun v i wr => ∃ (k : Nat) (l : List Int), k ≤ 4 ∧ i = .int .i64 (k + 1 : Nat) ∧ l.length ≤ k ∧ Hid (Rises l k) ∧ Hid (FewInts l) ∧ wr.ownsRow w.heap.size 3 1 v l.length (is l) ∧ Hid (CurAt wr C) ∧ Hid (w.grownBy wr (some C))) (fun _ i _ => 5 - (intOf i).toNat)
  case atStart => exact ⟨0, [], by omega, rfl, by simp, ⟨rfl, fun z h => by simp at h⟩, ⟨by simp, fun z h => by simp at h⟩, World.ownsRow_made w #[] 0 (Nat.le_refl _) (Nat.zero_le _) rfl, K0.out.kept (World.grownBy_alloc w _ none) (fun j h => by cases h), World.grownBy_alloc w _ (some C)⟩
  case round =>
    obtain ⟨k, l, hk, rfl, hl, HRI, HZ, hown, KC, GC⟩ := hrel
    have hsz := GC.out.size
    by_cases hlt : k < 4
    · have hle : ((k + 1 : Nat) : Int) ≤ 4 := by omega
      go_wp2_with fail
      refine (l01Once_any C 2 (by omega) (by omega) _ KC.out).mono ?_
      rintro e w2 ⟨b, rfl, k2, q2⟩
      have hown2 := kept_cur3 hown q2 hCl
      have hsz2 := q2.size
      cases b with
      | false =>
        have K2 := hid k2
        have G2 := hid (GC.out.trans q2)
        clear k2 q2 hown
        go_wp2
        go_roundw
        case rel => exact ⟨k + 1, l, by omega, by go_num, by omega, HRI.out.up, HZ, hown2, K2, G2⟩
        case measure => simp [intOf]; omega
      | true =>
        have K2 := hid k2
        have Q2 := hid q2
        have HL := hid hl
        clear k2 q2 hl
        go_wp2_with (at_builtin; refine wpList_append_own _ rfl (.tmp 12) (.tmp 14) 27 rfl w.heap.size 3 i0 (.int .i64 0) 1 8 Tryz.underlying27 hi hz0 hz1 hz2 rfl (by decide) _ _ _ rfl (hown2.alloc _) ⟨w2.heap.size, 0, none⟩ 1 1 [.int .i64 ((k : Int) + 1)] rfl rfl (one_new _ _ _) (by intro u hu; simp at hu; subst hu; rfl) (by have := HL.out; unfold maxLen; omega) (by have := HL.out; omega) (by simp; omega) ?_)
        intro v' w3 hown' hgrow _
        obtain ⟨r2, r3, r4⟩ := places_step hCl (Nat.le_refl _) GC.out K2.out Q2.out hown' hgrow (fun j hj => (hown.lt j hj).1)
        have RI := hid (HRI.out.snoc hlt)
        have RZ := hid (HZ.out.more (x := (k : Int) + 1) (by have := HL.out; omega) (by omega))
        have R1 : Hid ((l ++ [(k : Int) + 1]).length = l.length + 1) := by show _ = _; simp
        have HL2 : Hid ((l ++ [(k : Int) + 1]).length ≤ k + 1) := by show _ ≤ _; have := HL.out; simp; omega
        have r5 : w3.ownsRow w.heap.size 3 1 v' (l ++ [(k : Int) + 1]).length (is (l ++ [(k : Int) + 1])) := by rw [R1.out]; exact r2
        have R3 := hid r3
        have R4 := hid r4
        obtain ⟨L, hL⟩ : ∃ L, l ++ [(k : Int) + 1] = L := ⟨_, rfl⟩
        rw [hL] at r5 RZ HL2 RI
        clear hown' hgrow hown hown2 r3 r4 r2 hL R1
        go_wp2
        go_roundw
        case rel => exact ⟨k + 1, L, by omega, by go_num, HL2.out, RI, RZ, r5, R3, R4⟩
        case measure => simp [intOf]; omega
    · obtain rfl : k = 4 := by omega
      obtain ⟨a1, c1, rfl⟩ := row_shape hown
      by_cases h0 : l.length = 0
      · have h0' : (l.length : Int) = 0 := by omega
        obtain rfl : l = [] := List.length_eq_zero_iff.1 h0
        have hown0 : wr.ownsRow w.heap.size 3 1 (.slice a1 0 c1) 0 (is []) := hown
        clear hown h0
        have hbase : w.heap.size ≤ (wr.alloc (.cells #[.int .i64 1] 3)).heap.size := by simp [World.alloc, -World.alloc_eq]; omega
        go_wp2_with (at_builtin; refine wpList_append_own _ rfl (.tmp 19) (.tmp 20) 27 rfl w.heap.size 3 i0 (.int .i64 0) 1 8 Tryz.underlying27 hi hz0 hz1 hz2 rfl (by decide) _ _ _ rfl (hown0.alloc _) ⟨wr.heap.size, 0, none⟩ 1 1 [.int .i64 1] rfl rfl (one_new _ _ _) (by intro u hu; simp at hu; subst hu; rfl) (by unfold maxLen; omega) (by omega) hbase ?_)
        intro v' w3 hown' hgrow _
        obtain ⟨r2, r3, r4⟩ := places_step hCl (Nat.le_refl _) GC.out KC.out (World.grownBy.refl wr (some C)) hown' hgrow (fun j hj => (hown0.lt j hj).1)
        have R2 := hid r2
        have R3 := hid r3
        have R4 := hid r4
        clear hown' hgrow hown0 r3 r4 r2
        go_wp2
        go_ret
        exact ⟨_, [1], rfl, ⟨by simp, fun z hz => by simp at hz; omega⟩, ⟨by simp, rfl⟩, R2.out, R3.out, R4.out⟩
      · have h0' : ¬ (l.length : Int) = 0 := by omega
        have HO := hid hown
        clear hown
        go_wp2
        go_ret
        exact ⟨_, l, rfl, HZ.out, ⟨by omega, HRI.out.ok (by omega) (by omega)⟩, HO.out, KC.out, GC.out⟩
end Go.Proofs.YtoanhjjigbjecaaGreatDoor

namespace Go.Proofs.YtoanhjjigbjecaaGreatDoor
open Go.RowKit

set_option maxRecDepth 1000000 in
set_option maxHeartbeats 1000000 in
theorem l05Rise_any (ao : Option Addr) (zs : List Int) (cap : Nat) (hl : zs.length ≤ 1048576) (w : World) (hz : IntsAt w ao zs) :
    Calls Tryz.prog 107 #[.slice ao zs.length cap, .int .i64 1, .int .i64 4] w fun e w' => e = .returned (.bool (riseTo zs zs.length)) ∧ Below w.heap.size w w' := by
  have HZ := hid hz
  clear hz
  go_enter Tryz.func107, Tryz.ntmps107
  go_wp2
  go_loopw [7] (fun i wr => ∃ (k : Nat), k ≤ zs.length ∧ i = .int .i64 k ∧ Hid (Below w.heap.size w wr) ∧ Hid (riseTo zs k = true)) (fun i _ => zs.length - (intOf i).toNat)
  case atStart => exact ⟨0, Nat.zero_le _, rfl, Below.refl _ _, rfl⟩
  case round =>
    obtain ⟨k, hk, rfl, BR, RT⟩ := hrel
    by_cases hlt : k < zs.length
    · have hne : zs ≠ [] := by intro e; rw [e] at hlt; simp at hlt
      obtain ⟨b, off, rfl, hc⟩ := (HZ.out.on BR.out) hne
      have x0 := hc k hlt
      have HC := hid hc
      obtain ⟨x, hx⟩ : ∃ x, zs[k] = x := ⟨_, rfl⟩
      rw [hx] at x0
      have HXe := hid hx
      have cN' := fun w => l01In_any x 1 4 w
      clear hc hx
      cases hA : within x 1 4 with
      | false =>
        have hr : Hid (riseTo zs zs.length = false) := not_rise hlt (by rw [HXe.out, hA]; rfl)
        rw [hA] at cN'
        have cN := hid cN'
        clear cN' hA
        go_wp2
        go_quiet (first | (go_at_call 47; refine Calls.quiet_of_same (cN.out _)) | fail)
        go_wp2
        go_ret
        exact ⟨by rw [hr.out]; rfl, below_drewN BR.out _⟩
      | true =>
        rw [hA] at cN'
        have cN := hid cN'
        clear cN'
        cases k with
        | zero =>
          simp only [Nat.add_zero] at x0
          have HR : Hid (riseTo zs 1 = true) := by show _ = _; rw [riseTo_step hlt, HXe.out, hA]; rfl
          clear hA
          go_wp2
          go_quiet (first | (go_at_call 47; refine Calls.quiet_of_same (cN.out _)) | fail)
          go_wp2
          go_roundw
          case rel => exact ⟨1, by omega, by go_num, below_drewN BR.out _, HR⟩
          case measure => simp [intOf]; omega
        | succ j =>
          have hj : j < zs.length := by omega
          have p0 := HC.out j hj
          obtain ⟨y, hy⟩ : ∃ y, zs[j] = y := ⟨_, rfl⟩
          rw [hy] at p0
          have HYe := hid hy
          clear hy
          have hpos : (0 : Int) < (((j + 1 : Nat)) : Int) := by omega
          have hsub : (((j + 1 : Nat)) : Int) - 1 = (j : Int) := by omega
          have hjl : (j : Int) < (zs.length : Int) := by omega
          have hwj : IntKind.i64.wrap (j : Int) = (j : Int) := by rw [IntKind.wrap_i64]; omega
          by_cases hL : y < x
          · have HR : Hid (riseTo zs (j + 1 + 1) = true) := by show _ = _; rw [riseTo_step hlt, RT.out, behindI_step hlt, HXe.out, HYe.out, hA]; simp [hL]
            have hL' : decide (x ≤ y) = false := by simpa using hL
            clear hA hL
            go_wp2
            go_quiet (first | (go_at_call 47; refine Calls.quiet_of_same (cN.out _)) | fail)
            go_wp2
            go_roundw
            case rel => exact ⟨j + 1 + 1, by omega, by go_num, below_drewN BR.out _, HR⟩
            case measure => simp [intOf]; omega
          · have hr : Hid (riseTo zs zs.length = false) := not_rise hlt (by rw [behindI_step hlt, HXe.out, HYe.out]; simp [hL])
            have hL' : decide (x ≤ y) = true := by simpa using hL
            clear hA hL
            go_wp2
            go_quiet (first | (go_at_call 47; refine Calls.quiet_of_same (cN.out _)) | fail)
            go_wp2
            go_ret
            exact ⟨by rw [hr.out]; rfl, below_drewN BR.out _⟩
    · obtain rfl : k = zs.length := by omega
      go_wp2
      go_ret
      exact ⟨by rw [RT.out]; rfl, BR.out⟩

set_option maxRecDepth 1000000 in
set_option maxHeartbeats 1000000 in
theorem specConfOk_any (ao : Option Addr) (zs : List Int) (cap : Nat) (hl : zs.length ≤ 1048576) (w : World) (hz : IntsAt w ao zs) :
    Calls Tryz.prog 88 #[.slice ao zs.length cap] w fun e w' => e = .returned (.bool (confOk zs)) ∧ Below w.heap.size w w' := by
  have HZ := hid hz
  have cN' := fun w => l01In_any zs.length 1 4 w
  clear hz
  by_cases h4 : 1 ≤ zs.length ∧ zs.length ≤ 4
  · rw [within_yes (by omega) (by omega)] at cN'
    have cN := hid cN'
    have cR := hid (l05Rise_any ao zs cap hl w HZ.out)
    have hr := hid (confOk_of h4.1 h4.2)
    clear cN'
    obtain ⟨b, hb⟩ : ∃ b, riseTo zs zs.length = b := ⟨_, rfl⟩
    rw [hb] at cR hr
    clear hb
    go_enter Tryz.func88, Tryz.ntmps88
    go_wp2_with (first | (go_at_call 47; refine (cN.out _).mono ?_; rintro e w1 ⟨rfl, hw⟩; rw [hw]; clear hw w1) | (go_at_call 107; refine Calls.mono cR.out ?_; rintro e w2 ⟨rfl, b2⟩))
    go_ret
    exact ⟨by rw [hr.out]; rfl, b2⟩
  · rw [within_no (by omega)] at cN'
    have cN := hid cN'
    have hr := hid (confOk_big (zs := zs) (by omega))
    clear cN'
    go_enter Tryz.func88, Tryz.ntmps88
    go_wp2_with (go_at_call 47; refine (cN.out _).mono ?_; rintro e w1 ⟨rfl, hw⟩; rw [hw]; clear hw w1)
    go_ret
    exact ⟨by rw [hr.out]; rfl, Below.refl _ _⟩
end Go.Proofs.YtoanhjjigbjecaaGreatDoor

namespace Go.Proofs.YtoanhjjigbjecaaGreatDoor
open Go.RowKit

theorem conf_info5 : (Tryz.prog.info? 5).map (fun i => (i.zero, i.size, i.bytes)) = some (some (.int .u8 0), 1, 1) := by kernel_rfl

set_option maxRecDepth 1000000 in
set_option maxHeartbeats 1000000 in
theorem specConfText_any (ao : Option Addr) (zs : List Int) (cap : Nat) (hl : zs.length ≤ 1048576) (w : World) (hz : IntsAt w ao zs) :
    Calls Tryz.prog 56 #[.slice ao zs.length cap] w fun e w' => e = .returned (.tuple #[.string (confText zs).1, .bool (confText zs).2]) ∧ Below w.heap.size w w' := by
  obtain ⟨i0, hi, hz0, hz1, hz2⟩ := info_parts conf_info5
  have HZ := hid hz
  have cO' := specConfOk_any ao zs cap hl w hz
  clear hz
  cases hA : confOk zs with
  | false =>
    rw [hA] at cO'
    have cO := hid cO'
    have HT := hid (confText_no hA)
    clear cO' hA
    go_enter Tryz.func56, Tryz.ntmps56
    go_wp2_with fail
    refine Calls.mono cO.out ?_
    rintro e w1 ⟨rfl, b1⟩
    go_wp2
    go_ret2
    exact ⟨by rw [HT.out]; rfl, b1⟩
  | true =>
    rw [hA] at cO'
    have cO := hid cO'
    have HT := hid (confText_yes hA)
    have h4 := confOk_len hA
    have HAT : Hid (∀ k (hk : k < zs.length), 1 ≤ zs[k] ∧ zs[k] ≤ 4) := fun k hk => confOk_at hA hk
    clear cO' hA
    go_enter Tryz.func56, Tryz.ntmps56
    go_wp2_with fail
    refine Calls.mono cO.out ?_
    rintro e w1 ⟨rfl, b1⟩
    have B1 := hid b1
    clear b1 cO
    go_wp2
    go_loopw [4, 5] (fun v i wr => ∃ (k : Nat), k ≤ zs.length ∧ i = .int .i64 k ∧ wr.ownsRow w1.heap.size 5 1 v k (cs (confBytes (zs.take k))) ∧ Below w1.heap.size w1 wr) (fun _ i _ => zs.length - (intOf i).toNat)
    case atStart => exact ⟨0, Nat.zero_le _, rfl, World.ownsRow_made w1 #[] 0 (Nat.le_refl _) (Nat.zero_le _) rfl, (Below.refl _ _).alloc (Nat.le_refl _) _⟩
    case round =>
      obtain ⟨k, hk, rfl, hown, hb⟩ := hrel
      have hsz := hb.size
      by_cases hlt : k < zs.length
      · have hne : zs ≠ [] := by intro e; rw [e] at hlt; simp at hlt
        obtain ⟨b, off, rfl, hc⟩ := (HZ.out.on (below_via B1.out hb)) hne
        have x0 := hc k hlt
        have hx4 := HAT.out k hlt
        have HTK := hid (confBytes_take zs k hlt)
        obtain ⟨x, hx⟩ : ∃ x, zs[k] = x := ⟨_, rfl⟩
        rw [hx] at x0 hx4 HTK
        obtain ⟨y, rfl⟩ : ∃ y : Nat, x = y := ⟨x.toNat, by omega⟩
        clear hc hx
        go_wp2_with (at_builtin; refine wpList_append_own _ rfl (.tmp 16) (.tmp 22) 22 rfl w1.heap.size 5 i0 (.int .u8 0) 1 1 Tryz.underlying22 hi hz0 hz1 hz2 rfl (by decide) _ _ _ rfl (hown.alloc _) ⟨wr.heap.size, 0, none⟩ 1 1 [.int .u8 (y : Int)] rfl rfl (one_new _ _ _) (by intro u hu; simp at hu; subst hu; rfl) (by unfold maxLen; omega) (by omega) (by simp; omega) ?_)
        intro v' w3 hown' hgrow _
        have R1 : Hid (w3.ownsRow w1.heap.size 5 1 v' (k + 1) (cs (confBytes (zs.take (k + 1))))) := by
          rw [HTK.out, cs_append]
          rw [cs_one (x := (y : Int)) (by omega) (by omega)] at hown'
          exact hown'
        have R2 : Hid (Below w1.heap.size w1 w3) := (hb.alloc hb.size _).grown hgrow (by have := hb.size; simp; omega) (fun k hk => (hown.lt k hk).1)
        clear hown' hgrow hown hb
        go_wp2
        go_roundw
        case rel => exact ⟨k + 1, by omega, by go_num, R1.out, R2.out⟩
        case measure => simp [intOf]; omega
      · obtain rfl : k = zs.length := by omega
        rw [List.take_length] at hown
        have hcv := text_of_row (P := Tryz.prog) (l := confBytes zs) Tryz.underlying22 Tryz.underlying5 Tryz.underlying9 (by rw [confBytes_length]; exact hown)
        obtain ⟨_, va, vc, hv, _⟩ := row_lie hown
        subst hv
        have BB := hid (below_via B1.out hb)
        clear hown hb
        go_wp2
        go_ret2
        exact ⟨by rw [HT.out]; rfl, BB.out⟩
end Go.Proofs.YtoanhjjigbjecaaGreatDoor

namespace Go.Proofs.YtoanhjjigbjecaaGreatDoor
open Go.RowKit

/-- a slice of bytes that can be read -/
def Bytes (w : World) (ao : Option Addr) (len : Nat) : Prop := 0 < len → ∃ b off, ao = some ⟨b, off, none⟩ ∧ ∀ j, j < len → ∃ z : Int, 0 ≤ z ∧ z ≤ 255 ∧ w.cell? ⟨b, off + j, none⟩ = some (.int .u8 z)

theorem cur_made {w : World} {ao : Option Addr} {len cap : Nat} (hr : Bytes w ao len) (hlen : len ≤ 1048576) (hcap : len ≤ cap) (h : Int) (t : TypeId) : CurAt (w.alloc (.cells #[.slice ao len cap, .int .i64 0, .int .i64 h] t)) w.heap.size := by
  refine ⟨ao, len, cap, 0, h, t, heap_alloc_new w _, Nat.zero_le _, hlen, hcap, fun h0 => ?_⟩
  obtain ⟨b, off, e1, e2⟩ := hr h0
  obtain ⟨z, _, _, hz⟩ := e2 0 h0
  have hb := World.block_lt_of_cell? w _ hz
  refine ⟨b, off, e1, hb, fun j hj => ?_⟩
  obtain ⟨z, z0, z1, hz⟩ := e2 j hj
  exact ⟨z, z0, z1, by rw [World.cell?_alloc_past _ _ _ hb]; exact hz⟩

set_option maxRecDepth 1000000 in
set_option maxHeartbeats 1000000 in
theorem l01New_any (ao : Option Addr) (len cap : Nat) (hlen : len ≤ 1048576) (hcap : len ≤ cap) (w : World) (hr : Bytes w ao len) :
    Calls Tryz.prog 19 #[.slice ao len cap] w fun e w' => e = .returned (.pointer (some ⟨w.heap.size, 0, none⟩)) ∧ CurAt w' w.heap.size ∧ Below w.heap.size w w' := by
  have HR := (show Hid (Bytes w ao len) from hr)
  clear hr
  go_enter Tryz.func19, Tryz.ntmps19
  go_wp2
  go_loop [3, 4] (fun x i => ∃ (k : Nat) (h : Int), k ≤ len ∧ k ≤ 4000 ∧ i = .int .i64 k ∧ x = .int .i64 h) (fun _ i => len - (intOf i).toNat)
  case atStart => exact ⟨0, _, Nat.zero_le _, Nat.zero_le _, rfl, rfl⟩
  case round =>
    obtain ⟨k, h, hk, hk4, rfl, rfl⟩ := hrel
    by_cases hlt : k < len
    · by_cases h4 : k < 4000
      · obtain ⟨b, off, rfl, hc⟩ := HR.out (by omega)
        obtain ⟨z, z0, z1, cz⟩ := hc k hlt
        clear hc
        have k1 : (k : Int) < (len : Int) := by omega
        go_wp2
        go_round
        case rel => exact ⟨k + 1, _, by omega, by omega, by go_num, rfl⟩
        case measure => simp [intOf]; omega
      · go_wp2
        go_ret
        exact ⟨rfl, cur_made HR.out hlen hcap h _, (Below.refl _ _).alloc (Nat.le_refl _) _⟩
    · go_wp2
      go_ret
      exact ⟨rfl, cur_made HR.out hlen hcap h _, (Below.refl _ _).alloc (Nat.le_refl _) _⟩

theorem below_cur {w w1 w2 : World} (b : Below w.heap.size w w1) (q : w1.grownBy w2 (some w.heap.size)) : Below w.heap.size w w2 :=
  b.grown q b.size (fun k h => by simp at h; omega)
end Go.Proofs.YtoanhjjigbjecaaGreatDoor
