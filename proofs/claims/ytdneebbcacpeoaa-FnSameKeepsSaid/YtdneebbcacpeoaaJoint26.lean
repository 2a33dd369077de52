/-
  The walk of spec.l15Keep: a right keep behind few commands, in memory of the call's own.
-/
import Derived.Test.YtdneebbcacpeoaaJoint12
import Derived.Test.YtdneebbcacpeoaaJoint1
import Derived.Test.YtdneebbcacpeoaaJoint23
import Derived.Test.YtdneebbcacpeoaaJoint24
import Derived.Test.YtdneebbcacpeoaaJoint25
import Derived.Deep.LoopGhost
namespace Go.Proofs.Ytdneebbcacpeoaa
open Go.RowKit Go.Sort

/-- a keep that is right, its Tokens and Lasts small -/
def KeepDid (C : Nat) (w : World) (e : Ending) (w' : World) : Prop := ∃ va vc vb vd ls li, e = .returned (.agg #[.slice va (List.length ls) vc, .slice vb (List.length li) vd]) ∧ keepOk ls li = true ∧ Young 40 ls ∧ KRows w' w.heap.size (.slice va ls.length vc) (.slice vb li.length vd) ls li ∧ CurAt w' C ∧ w.grownBy w' (some C)
theorem row_fromK {x y : World} {base size n : Nat} {t : TypeId} {v : Value} {xs : List Value} (h : x.ownsRow base t size v n xs) (hb : ∀ g cs, base ≤ g → BlockIs x g t cs → BlockIs y g t cs) : y.ownsRow base t size v n xs := by
  refine ⟨h.1, h.2.imp id ?_⟩
  rintro ⟨g, cap, cur, a, b, c, r⟩
  have := hb g cur.toList b (by unfold BlockIs; rw [c])
  unfold BlockIs at this
  exact ⟨g, cap, cur, a, b, by rw [this], r⟩
theorem KRows.ext {x y : World} {lo C : Nat} {v u : Value} {ls : List SessionD} {li : List ItemD} (h : KRows x lo v u ls li) (hC : C < lo) (hb : ∀ g ty cs, BlockIs x g ty cs → C < g → ty ≠ 27 → BlockIs y g ty cs) : KRows y lo v u ls li :=
  ⟨row_fromK h.1 fun g cs hg hq => hb g _ cs hq (by omega) (by decide), row_fromK h.2 fun g cs hg hq => hb g _ cs hq (by omega) (by decide)⟩
/-- a right command is done -/
theorem perform_fine {ls : List SessionD} {li : List ItemD} {n : Nat} {x : CommandD} (hn : n ≤ 40) (hk : keepOk ls li = true) (hy : Young n ls) (hx : commandOk x = true) :
    ∃ d : KeepD, performD ls li ((n : Int) + 2) x = d ∧ d.ok = true ∧ keepOk d.ss d.is = true ∧ Young ((n + 1 : Nat) : Int) d.ss := by
  have hm : mayDo ls li ((n : Int) + 2) x = true := by
    simp only [mayDo, within, hk, hx, Bool.true_and, Bool.and_true, Bool.and_eq_true, decide_eq_true_eq]
    omega
  have hd := done_right hm
  refine ⟨_, rfl, ?_⟩
  rw [performD, if_pos hm]
  exact ⟨hd.2.2, hd.1, by have := young_done (li := li) (x := x) (Int.natCast_nonneg n) hy; rw [Int.natCast_add]; exact this⟩

set_option maxRecDepth 1000000 in
set_option maxHeartbeats 4000000 in
theorem l15Keep_any (C : Nat) (size : Int) (hs0 : 0 < size) (hs1 : size ≤ 40) (w : World) (hc : CurAt w C) :
    Calls Try.prog 18 #[.pointer (some ⟨C, 0, none⟩), .int .i64 size] w fun e w' => KeepDid C w e w' := by
  have hCl := hc.lt
  have HP := hid (fun (ls : List SessionD) (li : List ItemD) (n : Nat) (x : CommandD) h1 h2 h3 h4 => perform_fine (ls := ls) (li := li) (n := n) (x := x) h1 h2 h3 h4)
  have h0 := specKeepNew_any
  have be := below_more (Below.refl w.heap.size w) (.cells #[.slice none 0 0, .slice none 0 0] 27)
  have xr0 : BlockIs (w.alloc (.cells #[.slice none 0 0, .slice none 0 0] 27)) w.heap.size 27 [.slice none 0 0, .slice none 0 0] := heap_alloc_new w _
  obtain ⟨W0, hW0⟩ : ∃ W, w.alloc (.cells #[.slice none 0 0, .slice none 0 0] 27) = W := ⟨_, rfl⟩
  rw [hW0] at be xr0
  have K0 := hid (hc.below be)
  have G0 := hid (grown_below (World.grownBy.refl w (some C)) be)
  have R0 := hid xr0
  clear hc be xr0
  go_enter Try.func18, Try.ntmps18
  go_wp2_with fail
  refine Calls.mono (h0 _) ?_
  rintro e w1 ⟨g1, rfl, hg1, hi1, b1⟩
  have K1 := hid (K0.out.below b1)
  have G1 := hid (grown_below G0.out b1)
  have R1 := hid (R0.out.on b1 R0.out.lt)
  have I1 := hid hi1
  clear b1 K0 G0 R0 hW0 h0 hi1
  have CP := specPerform_any none (some ⟨g1, 0, none⟩) [] [rootI] 0 1 1 ⟨1, 0, 0, ⟨#[]⟩, ⟨#[]⟩, 0⟩ (by decide) (by decide) w1 (fun h => absurd rfl h) (itemsAt_of (l := [rootI]) (r := []) (by rw [List.append_nil]; exact I1.out))
  rw [first_keep] at CP
  unfold PerfDid at CP
  go_wp2_with fail
  refine Calls.mono CP ?_
  rintro e w2 ⟨va, vc, vb, vd, rfl, hk2, b2⟩
  clear CP I1
  have X0v : True := trivial
  have ba := below_more (Below.refl w2.heap.size w2) (.cells #[.slice none 0 0, .slice none 0 0] 27)
  have hx : BlockIs (w2.alloc (.cells #[.slice none 0 0, .slice none 0 0] 27)) w2.heap.size 27 [.slice none 0 0, .slice none 0 0] := heap_alloc_new w2 _
  have K2 := hid ((K1.out.below b2).below ba)
  have G2 := hid (grown_below (grown_below G1.out b2) ba)
  have R2 := hid ((R1.out.on b2 R1.out.lt).on ba (R1.out.on b2 R1.out.lt).lt)
  have Q2 := hid ((hk2.down (show w.heap.size ≤ w1.heap.size from G1.out.size)).on ba)
  have MX : Hid (w.heap.size < w2.heap.size) := (show _ < _ from (R1.out.on b2 R1.out.lt).lt)
  clear hk2 b2 K1 G1 R1 ba X0v hg1
  obtain ⟨W2, hW2⟩ : ∃ W, w2.alloc (.cells #[.slice none 0 0, .slice none 0 0] 27) = W := ⟨_, rfl⟩
  rw [hW2] at K2 G2 R2 Q2 hx
  obtain ⟨xb, hxb⟩ : ∃ b, w2.heap.size = b := ⟨_, rfl⟩
  have NX : Hid (C < xb) := (show _ < _ by have := MX.out; omega)
  have LX : Hid (w.heap.size ≤ xb) := (show _ ≤ _ by have := MX.out; omega)
  have c0 := hx.cell (j := 0) rfl
  have c1 := hx.cell (j := 1) rfl
  have f0 := hx.thaw 0
  have f1 := hx.thaw 1
  have HXX := hid hx
  clear hx
  rw [hxb] at MX
  have K3 := hid ((K2.out.set (b := xb) (j := 0) (v := .slice va 1 vc) NX.out).set (b := xb) (j := 1) (v := .slice vb 1 vd) NX.out)
  have G3 := hid (grown_far (b := xb) (j := 1) (v := .slice vb 1 vd) (grown_far (b := xb) (j := 0) (v := .slice va 1 vc) G2.out LX.out) LX.out)
  have R3 := hid ((R2.out.far (b := xb) (j := 0) (by have := MX.out; omega) (.slice va 1 vc)).far (b := xb) (j := 1) (by have := MX.out; omega) (.slice vb 1 vd))
  have HXY : BlockIs W2 xb 27 [.slice none 0 0, .slice none 0 0] := by rw [← hxb]; exact HXX.out
  have X3 := hid ((HXY.set 0 (.slice va 1 vc)).set 1 (.slice vb 1 vd))
  have Q3 := hid ((KRows.far (j := 0) Q2.out HXY (by decide) (by decide) (.slice va 1 vc)).far (j := 1) (HXY.set 0 _) (by decide) (by decide) (.slice vb 1 vd))
  clear HXY HXX K2 G2 R2 Q2
  rw [hxb] at c0 c1 f0 f1
  go_wp2_with fail
  go_loopg [8] 40 (fun q i wr => ∃ (n : Nat), ∃ va vc vb vd, ∃ (ls : List SessionD) (li : List ItemD), n + q = 40 ∧ i = .int .i64 (n : Int) ∧ Hid (keepOk ls li = true ∧ Young (n : Int) ls) ∧ Hid (CurAt wr C) ∧ Hid (w.grownBy wr (some C)) ∧ Hid (BlockIs wr w.heap.size 27 [.slice none 0 0, .slice none 0 0]) ∧ Hid (BlockIs wr xb 27 [.slice va ls.length vc, .slice vb li.length vd]) ∧ Hid (KRows wr w.heap.size (.slice va ls.length vc) (.slice vb li.length vd) ls li))
  case atStart => exact ⟨0, va, vc, vb, vd, [⟨1, 0, ⟨#[]⟩⟩], [rootI], by omega, rfl, ⟨first_right, first_young⟩, K3, G3, R3, X3, Q3⟩
  case round =>
    clear K3 G3 R3 X3 Q3 c0 c1 f0 f1 hW2 hxb
    obtain ⟨n, va, vc, vb, vd, ls, li, hnq, rfl, HO, K4, G4, R4, X4, Q4⟩ := hrel
    go_wp2_with fail
    refine Calls.mono (l01Below_any C size (by omega) (by omega) _ K4.out) ?_
    rintro e w3 ⟨y, rfl, y0, y1, k5, q5⟩
    have K5 := hid k5
    have G5 := hid (G4.out.trans q5)
    have R5 := hid (R4.out.cur q5 hCl)
    have X5 := hid (X4.out.cur q5 NX.out)
    have Q5 := hid (Q4.out.cur q5 hCl)
    clear k5 q5 K4 G4 R4 X4 Q4
    by_cases hny : (n : Int) < y
    · obtain ⟨q, rfl⟩ : ∃ q, gk = q + 1 := ⟨gk - 1, by omega⟩
      obtain ⟨⟨ha, hsf, hl3⟩, hai, hif, hl8⟩ := keep_facts HO.out.1
      have hl : ls.length ≤ 1048576 := by omega
      have hl2 : li.length ≤ 1048576 := by omega
      have HLA : Hid (∀ s ∈ ls, (0 ≤ s.token ∧ s.token ≤ 1000000) ∧ 0 ≤ s.last ∧ s.last ≤ 999999) := (show ∀ _ ∈ _, _ from fun s hs => by have h7 := session_bounds (hsf s hs); have h8 := HO.out.2 s hs; omega)
      have HIF := hid hif
      have HPn : Hid (∀ d, commandOk d = true → ∃ D : KeepD, performD ls li ((n : Int) + 2) d = D ∧ D.ok = true ∧ keepOk D.ss D.is = true ∧ Young ((n + 1 : Nat) : Int) D.ss) := (show ∀ _, _ from fun d hd => HP.out ls li n d (by omega) HO.out.1 HO.out.2 hd)
      clear ha hsf hl3 hai hif hl8
      go_wp2
      refine wp_region_each (N := 40) (by kernel_rfl) (by kernel_rfl) rfl (by kernel_rfl) (fun W => CurAt W C ∧ w.grownBy W (some C) ∧ BlockIs W w.heap.size 27 [.slice none 0 0, .slice none 0 0] ∧ BlockIs W xb 27 [.slice va ls.length vc, .slice vb li.length vd] ∧ KRows W w.heap.size (.slice va ls.length vc) (.slice vb li.length vd) ls li) (fun j v u W => match j with | 0 => v = .agg #[.slice va ls.length vc, .slice vb li.length vd] | 1 => v = .int .i64 (n : Int) | 2 => v = .int .i64 ((n : Int) + 2) | 3 => v = .pointer (some ⟨C, 0, none⟩) | 4 => v = .agg #[.slice va ls.length vc, .slice vb li.length vd] | 5 => ∃ d : CommandD, v = .agg #[.int .i64 d.op, .int .i64 d.token, .int .i64 d.seq, .string d.key, .string d.val, .int .i64 d.ver] ∧ commandOk d = true | 6 => ∃ (D : KeepD) (va9 : Option Addr) (vc9 : Nat) (vb9 : Option Addr) (vd9 : Nat), v = .tuple #[.agg #[.slice va9 D.ss.length vc9, .slice vb9 D.is.length vd9], .string D.reply, .bool true] ∧ keepOk D.ss D.is = true ∧ Young ((n + 1 : Nat) : Int) D.ss ∧ KRows W w.heap.size (.slice va9 D.ss.length vc9) (.slice vb9 D.is.length vd9) D.ss D.is | 7 => ∃ (D : KeepD) (va9 : Option Addr) (vc9 : Nat) (vb9 : Option Addr) (vd9 : Nat), v = .tuple #[.agg #[.slice va9 D.ss.length vc9, .slice vb9 D.is.length vd9], .string D.reply, .bool true] ∧ keepOk D.ss D.is = true ∧ Young ((n + 1 : Nat) : Int) D.ss ∧ KRows W w.heap.size (.slice va9 D.ss.length vc9) (.slice vb9 D.is.length vd9) D.ss D.is | 8 => ∃ (D : KeepD) (va9 : Option Addr) (vc9 : Nat) (vb9 : Option Addr) (vd9 : Nat), v = .agg #[.slice va9 D.ss.length vc9, .slice vb9 D.is.length vd9] ∧ keepOk D.ss D.is = true ∧ Young ((n + 1 : Nat) : Int) D.ss ∧ KRows W w.heap.size (.slice va9 D.ss.length vc9) (.slice vb9 D.is.length vd9) D.ss D.is | 9 => ∃ r9 : ByteArray, v = .string r9 | 10 => v = .bool true | 11 => ∃ b : Nat, v = .pointer (some ⟨b, 0, none⟩) ∧ xb < b ∧ BlockIs W b 27 [.slice none 0 0, .slice none 0 0] | 12 => ∃ (b : Nat) (D : KeepD) (va9 : Option Addr) (vc9 : Nat) (vb9 : Option Addr) (vd9 : Nat), u = .pointer (some ⟨b, 0, none⟩) ∧ xb < b ∧ BlockIs W b 27 [.slice va9 D.ss.length vc9, .slice vb9 D.is.length vd9] ∧ keepOk D.ss D.is = true ∧ Young ((n + 1 : Nat) : Int) D.ss ∧ KRows W w.heap.size (.slice va9 D.ss.length vc9) (.slice vb9 D.is.length vd9) D.ss D.is | 13 => ∃ r9 : ByteArray, v = .string r9 | 14 => v = .bool true | _ => True) (fun i => if i = 12 then 11 else i) (fun j i => decide ((j, i) ∈ ([(11, 12)] : List (Nat × Nat)))) (fun i X9 Y9 => (i ≠ 12 → ∀ g ty cs, BlockIs X9 g ty cs → C < g → BlockIs Y9 g ty cs) ∧ ∀ g ty cs, BlockIs X9 g ty cs → C < g → ty ≠ 27 → BlockIs Y9 g ty cs) (fun i => if i = 12 then 9 else 0) (by kernel_rfl) (fun i hi => by have : 15 ≤ i := hi; simp; omega) ?_ ⟨K5.out.below (below_drewN (Below.refl _ _) 1), grown_below G5.out (below_drewN (Below.refl _ _) 1), R5.out.on (below_drewN (Below.refl _ _) 1) R5.out.lt, X5.out.on (below_drewN (Below.refl _ _) 1) X5.out.lt, Q5.out.on (below_drewN (Below.refl _ _) 1)⟩ ?_ ?_
      · intro i j v u x9 y9 hij hdd hwt hxy hg
        match j, hg with
        | 0, hg => exact hg
        | 1, hg => exact hg
        | 2, hg => exact hg
        | 3, hg => exact hg
        | 4, hg => exact hg
        | 5, hg => exact hg
        | 6, hg =>
          obtain ⟨D, va9, vc9, vb9, vd9, e8, hko, hy, hk9⟩ := hg
          exact ⟨D, va9, vc9, vb9, vd9, e8, hko, hy, hk9.ext hCl fun g ty cs h hb hne => hxy.2 g ty cs h hb hne⟩
        | 7, hg =>
          obtain ⟨D, va9, vc9, vb9, vd9, e8, hko, hy, hk9⟩ := hg
          exact ⟨D, va9, vc9, vb9, vd9, e8, hko, hy, hk9.ext hCl fun g ty cs h hb hne => hxy.2 g ty cs h hb hne⟩
        | 8, hg =>
          obtain ⟨D, va9, vc9, vb9, vd9, e8, hko, hy, hk9⟩ := hg
          exact ⟨D, va9, vc9, vb9, vd9, e8, hko, hy, hk9.ext hCl fun g ty cs h hb hne => hxy.2 g ty cs h hb hne⟩
        | 9, hg => exact hg
        | 10, hg => exact hg
        | 11, hg =>
          obtain ⟨b, e1, e2, e3⟩ := hg
          exact ⟨b, e1, e2, hxy.1 (fun e9 => by subst e9; simp at hdd) _ _ _ e3 (by have := NX.out; omega)⟩
        | 12, hg =>
          obtain ⟨b, D, va9, vc9, vb9, vd9, e1, e2, e3, hko, hy, hk9⟩ := hg
          exact ⟨b, D, va9, vc9, vb9, vd9, e1, e2, hxy.1 hij _ _ _ e3 (by have := NX.out; omega), hko, hy, hk9.ext hCl fun g ty cs h hb hne => hxy.2 g ty cs h hb hne⟩
        | 13, hg => exact hg
        | 14, hg => exact hg
        | n + 15, _ => exact trivial
      · refine ⟨?_, ?_, ?_, ?_, ?_, ?_, ?_, ?_, ?_, ?_, ?_, ?_, ?_, ?_, ?_, trivial⟩
        · intro A W hC hg hb
          have h5 : A.eval (.tmp 5) = .pointer (some ⟨xb, 0, none⟩) := hb 5 (base_of (by kernel_rfl))
          obtain ⟨hk, hgr, hR, hX, hQ⟩ := hC
          have hc0 := hX.cell (j := 0) rfl
          have hc1 := hX.cell (j := 1) rfl
          exact does_value (v := .agg #[.slice va ls.length vc, .slice vb li.length vd]) (w' := W) (by simp only [execOp, h5]; simp [go_sem, hc0, hc1]) ⟨rfl, ⟨hk, hgr, hR, hX, hQ⟩, fun _ _ _ _ h _ => h, fun _ _ _ h _ _ => h⟩
        · intro A W hC hg hb
          have h8 : A.eval (.tmp 8) = .int .i64 (n : Int) := hb 8 (base_of (by kernel_rfl))
          exact does_value (v := .int .i64 (n : Int)) (w' := W) (by simp only [execOp, h8]; simp [go_sem]) ⟨rfl, hC, fun _ _ _ _ h _ => h, fun _ _ _ h _ _ => h⟩
        · intro A W hC hg hb
          have h28 : A.eval (.tmp 28) = .int .i64 (n : Int) := hg 1 28 (by decide) rfl (by simp [Op.operands]) (by kernel_rfl) rfl
          have hw2 : IntKind.i64.wrap ((n : Int) + 2) = (n : Int) + 2 := by rw [IntKind.wrap_i64]; omega
          exact does_value (v := .int .i64 ((n : Int) + 2)) (w' := W) (by simp only [execOp, h28]; simp [go_sem, hw2]) ⟨rfl, hC, fun _ _ _ _ h _ => h, fun _ _ _ h _ _ => h⟩
        · intro A W hC hg hb
          have h0 : A.eval (.tmp 0) = .pointer (some ⟨C, 0, none⟩) := hb 0 (base_of (by kernel_rfl))
          exact does_value (v := .pointer (some ⟨C, 0, none⟩)) (w' := W) (by simp only [execOp, h0]; simp [go_sem]) ⟨rfl, hC, fun _ _ _ _ h _ => h, fun _ _ _ h _ _ => h⟩
        · intro A W hC hg hb
          have h5 : A.eval (.tmp 5) = .pointer (some ⟨xb, 0, none⟩) := hb 5 (base_of (by kernel_rfl))
          obtain ⟨hk, hgr, hR, hX, hQ⟩ := hC
          have hc0 := hX.cell (j := 0) rfl
          have hc1 := hX.cell (j := 1) rfl
          exact does_value (v := .agg #[.slice va ls.length vc, .slice vb li.length vd]) (w' := W) (by simp only [execOp, h5]; simp [go_sem, hc0, hc1]) ⟨rfl, ⟨hk, hgr, hR, hX, hQ⟩, fun _ _ _ _ h _ => h, fun _ _ _ h _ _ => h⟩
        · intro A W hC hg hb
          have h30 : A.eval (.tmp 30) = .pointer (some ⟨C, 0, none⟩) := hg 3 30 (by decide) rfl (by simp [Op.operands, Call.operands]) (by kernel_rfl) rfl
          have h31 : A.eval (.tmp 31) = .agg #[.slice va ls.length vc, .slice vb li.length vd] := hg 4 31 (by decide) rfl (by simp [Op.operands, Call.operands]) (by kernel_rfl) rfl
          simp [go_sem] at h30 h31
          obtain ⟨hk, hgr, hR, hX, hQ⟩ := hC
          refine does_enter (f := 28) (args := #[.pointer (some ⟨C, 0, none⟩), .agg #[.slice va ls.length vc, .slice vb li.length vd]]) (w' := W) (by simp [go_sem, h30, h31]) ?_
          refine (l15Command_any C w.heap.size va vb vc vd ls li hl hl2 HIF.out HLA.out W hk hQ hCl).mono ?_
          rintro e9 W' ⟨d, rfl, hd, k', q'⟩
          exact ⟨_, rfl, ⟨d, rfl, hd⟩, ⟨k', hgr.trans q', hR.cur q' hCl, hX.cur q' NX.out, hQ.cur q' hCl⟩, fun _ _ _ _ h hb => h.cur q' hb, fun _ _ _ h hb _ => h.cur q' hb⟩
        · intro A W hC hg hb
          have h27 : A.eval (.tmp 27) = .agg #[.slice va ls.length vc, .slice vb li.length vd] := hg 0 27 (by decide) rfl (by simp [Op.operands, Call.operands]) (by kernel_rfl) rfl
          have h29 : A.eval (.tmp 29) = .int .i64 ((n : Int) + 2) := hg 2 29 (by decide) rfl (by simp [Op.operands, Call.operands]) (by kernel_rfl) rfl
          have g5 := hg 5 32 (by decide) rfl (by simp [Op.operands, Call.operands]) (by kernel_rfl) rfl
          obtain ⟨d, e5, hd⟩ := g5
          obtain ⟨hk, hgr, hR, hX, hQ⟩ := hC
          obtain ⟨D, hD, ho, hko, hy⟩ := HPn.out d hd
          have cp := specPerform_any va vb ls li vc vd ((n : Int) + 2) d hl hl2 W (sessionR_at hQ.1) (itemR_at hQ.2)
          rw [hD] at cp
          unfold PerfDid at cp
          rw [ho] at cp
          simp [go_sem] at h27 h29 e5
          refine does_enter (f := 26) (args := #[.agg #[.slice va ls.length vc, .slice vb li.length vd], .int .i64 ((n : Int) + 2), .agg #[.int .i64 d.op, .int .i64 d.token, .int .i64 d.seq, .string d.key, .string d.val, .int .i64 d.ver]]) (w' := W) (by simp [go_sem, h27, h29, e5]) ?_
          refine Calls.mono cp ?_
          rintro e9 W' ⟨va9, vc9, vb9, vd9, rfl, hk9, hb9⟩
          exact ⟨_, rfl, ⟨D, va9, vc9, vb9, vd9, rfl, hko, hy, hk9.down hgr.size⟩, ⟨hk.below hb9, grown_below hgr hb9, hR.on hb9 hR.lt, hX.on hb9 hX.lt, hQ.on hb9⟩, fun _ _ _ _ h _ => h.on hb9 h.lt, fun _ _ _ h _ _ => h.on hb9 h.lt⟩
        · intro A W hC hg hb
          have g6 := hg 6 33 (by decide) rfl (by simp [Op.operands]) (by kernel_rfl) rfl
          obtain ⟨D, va9, vc9, vb9, vd9, e8, hko, hy, hk9⟩ := g6
          exact does_value (v := .tuple #[.agg #[.slice va9 D.ss.length vc9, .slice vb9 D.is.length vd9], .string D.reply, .bool true]) (w' := W) (by simp only [execOp, e8]; simp [go_sem]) ⟨⟨D, va9, vc9, vb9, vd9, rfl, hko, hy, hk9⟩, hC, fun _ _ _ _ h _ => h, fun _ _ _ h _ _ => h⟩
        · intro A W hC hg hb
          have g7 := hg 7 26 (by decide) rfl (by simp [Op.operands]) (by kernel_rfl) rfl
          obtain ⟨D, va9, vc9, vb9, vd9, e8, hko, hy, hk9⟩ := g7
          exact does_value (v := .agg #[.slice va9 D.ss.length vc9, .slice vb9 D.is.length vd9]) (w' := W) (by simp only [execOp, e8]; simp [go_sem]) ⟨⟨D, va9, vc9, vb9, vd9, rfl, hko, hy, hk9⟩, hC, fun _ _ _ _ h _ => h, fun _ _ _ h _ _ => h⟩
        · intro A W hC hg hb
          have g7 := hg 7 26 (by decide) rfl (by simp [Op.operands]) (by kernel_rfl) rfl
          obtain ⟨D, va9, vc9, vb9, vd9, e8, hko, hy, hk9⟩ := g7
          exact does_value (v := .string D.reply) (w' := W) (by simp only [execOp, e8]; simp [go_sem]) ⟨⟨_, rfl⟩, hC, fun _ _ _ _ h _ => h, fun _ _ _ h _ _ => h⟩
        · intro A W hC hg hb
          have g7 := hg 7 26 (by decide) rfl (by simp [Op.operands]) (by kernel_rfl) rfl
          obtain ⟨D, va9, vc9, vb9, vd9, e8, hko, hy, hk9⟩ := g7
          exact does_value (v := .bool true) (w' := W) (by simp only [execOp, e8]; simp [go_sem]) ⟨rfl, hC, fun _ _ _ _ h _ => h, fun _ _ _ h _ _ => h⟩
        · intro A W hC hg hb
          obtain ⟨hk, hgr, hR, hX, hQ⟩ := hC
          have ba := below_more (Below.refl W.heap.size W) (.cells #[.slice none 0 0, .slice none 0 0] 27)
          exact does_value (v := .pointer (some ⟨W.heap.size, 0, none⟩)) (w' := W.alloc (.cells #[.slice none 0 0, .slice none 0 0] 27)) (by simp [execOp, go_sem]) ⟨⟨_, rfl, hX.lt, heap_alloc_new W _⟩, ⟨hk.below ba, grown_below hgr ba, hR.on ba hR.lt, hX.on ba hX.lt, hQ.on ba⟩, fun _ _ _ _ h _ => h.on ba h.lt, fun _ _ _ h _ _ => h.on ba h.lt⟩
        · intro A W hC hg hb
          have g11 := hg 11 9 (by decide) rfl (by simp [Op.operands]) (by kernel_rfl) rfl
          have g8 := hg 8 34 (by decide) rfl (by simp [Op.operands]) (by kernel_rfl) rfl
          obtain ⟨D, va9, vc9, vb9, vd9, e8, hko, hy, hk9⟩ := g8
          obtain ⟨b, e9, hbx, hXb⟩ := g11
          obtain ⟨hk, hgr, hR, hX, hQ⟩ := hC
          have c0 := hXb.cell (j := 0) rfl
          have c1 := hXb.cell (j := 1) rfl
          have f0 := hXb.thaw 0
          have f1 := hXb.thaw 1
          have hX3 := (hXb.set 0 (.slice va9 D.ss.length vc9)).set 1 (.slice vb9 D.is.length vd9)
          have hNb : C < b := by have := NX.out; omega
          have hLb : w.heap.size ≤ b := by have := LX.out; omega
          have hrb : w.heap.size ≠ b := by have := MX.out; omega
          have hxb9 : xb ≠ b := by omega
          exact does_skip (w' := ((W.setCell ⟨b, 0, none⟩ (.slice va9 D.ss.length vc9)).setCell ⟨b, 1, none⟩ (.slice vb9 D.is.length vd9))) (by simp only [execOp, e9, e8]; simp [go_sem, c0, c1, f0, f1]) ⟨⟨b, D, va9, vc9, vb9, vd9, e9, hbx, hX3, hko, hy, (KRows.far (j := 0) hk9 hXb (by decide) (by decide) _).far (j := 1) (hXb.set 0 _) (by decide) (by decide) _⟩, ⟨(hk.set hNb).set hNb, grown_far (grown_far hgr hLb) hLb, (hR.far (by omega) _).far (by omega) _, (hX.far (by omega) _).far (by omega) _, (KRows.far (j := 0) hQ hXb (by decide) (by decide) _).far (j := 1) (hXb.set 0 _) (by decide) (by decide) _⟩, fun hne => absurd rfl hne, fun g ty cs hq _ hne => (hq.far (fun e7 => by subst e7; exact hne (block_one hq hXb).1) _).far (fun e7 => by subst e7; exact hne (block_one hq hXb).1) _⟩
        · intro A W hC hg hb
          have g9 := hg 9 35 (by decide) rfl (by simp [Op.operands]) (by kernel_rfl) rfl
          obtain ⟨r9, e8⟩ := g9
          exact does_value (v := .string r9) (w' := W) (by simp only [execOp, e8]; simp [go_sem]) ⟨⟨_, rfl⟩, hC, fun _ _ _ _ h _ => h, fun _ _ _ h _ _ => h⟩
        · intro A W hC hg hb
          have h36 : A.eval (.tmp 36) = .bool true := hg 10 36 (by decide) rfl (by simp [Op.operands]) (by kernel_rfl) rfl
          exact does_value (v := .bool true) (w' := W) (by simp only [execOp, h36]; simp [go_sem]) ⟨rfl, hC, fun _ _ _ _ h _ => h, fun _ _ _ h _ _ => h⟩
      · intro vs wE hC hg
        obtain ⟨b, D, va9, vc9, vb9, vd9, h1, hbx, hB, hko, hyo, hQ9⟩ := hg 12 (by decide) (fun k => by simp)
        have h1b : vs 11 = .pointer (some ⟨b, 0, none⟩) := h1
        have h2b : vs 14 = .bool true := hg 14 (by decide) (fun k => by simp)
        clear hg h1 K5 G5 R5 X5 Q5
        change Exit.then _ _ _ (laidBy _ vs _ 15 _) wE
        simp only [laidBy, if_true, dstAt, List.getElem?_toArray, List.getElem?_cons_succ, List.getElem?_cons_zero, Option.bind_some]
        simp only [Act.put, List.setIfInBounds_toArray, List.set_cons_succ, List.set_cons_zero]
        rw [h1b, h2b]
        obtain ⟨hk, hgr, hR, hX, hQ⟩ := hC
        have c0 := hB.cell (j := 0) rfl
        have c1 := hB.cell (j := 1) rfl
        have x0 := hX.cell (j := 0) rfl
        have x1 := hX.cell (j := 1) rfl
        have f0 := hX.thaw 0
        have f1 := hX.thaw 1
        have K6 := hid ((hk.set (b := xb) (j := 0) (v := .slice va9 D.ss.length vc9) NX.out).set (b := xb) (j := 1) (v := .slice vb9 D.is.length vd9) NX.out)
        have G6 := hid (grown_far (b := xb) (j := 1) (v := .slice vb9 D.is.length vd9) (grown_far (b := xb) (j := 0) (v := .slice va9 D.ss.length vc9) hgr LX.out) LX.out)
        have R6 := hid ((hR.far (b := xb) (j := 0) (by have := MX.out; omega) (.slice va9 D.ss.length vc9)).far (b := xb) (j := 1) (by have := MX.out; omega) (.slice vb9 D.is.length vd9))
        have X6 := hid ((hX.set 0 (.slice va9 D.ss.length vc9)).set 1 (.slice vb9 D.is.length vd9))
        have Q6 := hid ((KRows.far (j := 0) hQ9 hX (by decide) (by decide) (.slice va9 D.ss.length vc9)).far (j := 1) (hX.set 0 _) (by decide) (by decide) (.slice vb9 D.is.length vd9))
        have O6 := hid (And.intro hko hyo)
        clear hk hgr hR hX hQ hB hko hyo hQ9 HPn HIF HLA HO
        go_wp2_with fail
        go_roundg q
        case measure => omega
        case rel => exact ⟨n + 1, va9, vc9, vb9, vd9, D.ss, D.is, by omega, by go_num, O6, K6, G6, R6, X6, Q6⟩
    · have c0 := X5.out.cell (j := 0) rfl
      have c1 := X5.out.cell (j := 1) rfl
      have z0 := R5.out.cell (j := 0) rfl
      have z1 := R5.out.cell (j := 1) rfl
      have f0 := R5.out.thaw 0
      have f1 := R5.out.thaw 1
      have KL := hid ((K5.out.set (b := w.heap.size) (j := 0) (v := .slice va ls.length vc) hCl).set (b := w.heap.size) (j := 1) (v := .slice vb li.length vd) hCl)
      have GL := hid (grown_far (b := w.heap.size) (j := 1) (v := .slice vb li.length vd) (grown_far (b := w.heap.size) (j := 0) (v := .slice va ls.length vc) G5.out (Nat.le_refl _)) (Nat.le_refl _))
      have QL := hid ((KRows.far (j := 0) Q5.out R5.out (by decide) (by decide) (.slice va ls.length vc)).far (j := 1) (R5.out.set 0 _) (by decide) (by decide) (.slice vb li.length vd))
      have hn40 : (n : Int) ≤ 40 := by omega
      clear K5 G5 X5 Q5 R5
      go_wp2
      refine bodyPost_ret (v := .agg #[.slice va ls.length vc, .slice vb li.length vd]) (by simp [results, Try.results18, go_sem, z0, z1]) rfl ?_
      exact ⟨va, vc, vb, vd, ls, li, rfl, HO.out.1, HO.out.2.up hn40, QL.out, KL.out, GL.out⟩
end Go.Proofs.Ytdneebbcacpeoaa
