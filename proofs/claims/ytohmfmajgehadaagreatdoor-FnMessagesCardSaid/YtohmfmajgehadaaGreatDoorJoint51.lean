/-
  The walk of spec.Decode: what it answers.
  The walk of laws.sameInts: two lists of the same numbers.
-/
import Derived.Test.YtohmfmajgehadaaGreatDoorJoint49
import Derived.Test.YtohmfmajgehadaaGreatDoorJoint50
import Derived.Test.YtohmfmajgehadaaGreatDoorJoint21
import Derived.Test.YtohmfmajgehadaaGreatDoorJoint24
import Derived.Test.YtohmfmajgehadaaGreatDoorJoint1
import Derived.Test.YtohmfmajgehadaaGreatDoorJoint10
import Derived.Deep.CutBlock
import Derived.Deep.DeepCutAuto
import Derived.Deep.LoopGhost
import Derived.Test.YtohmfmajgehadaaGreatDoorRows
import Derived.BigQuiet
import Derived.Deep.QuietTactic
import Derived.WalkSmall
import Derived.WalkKit
namespace Go.Proofs.YtohmfmajgehadaaGreatDoor
open Go.RowKit Go.Sort

theorem entsR_atS {w : World} {base : Nat} {va : Option Addr} {vc : Nat} {l : List EntD} (h : w.ownsRow base 57 3 (.slice va l.length vc) l.length (entCells l)) : EntsAt w va l := by
  rcases h.2 with ⟨hv, h0⟩ | ⟨g, cp, cur, hv, _, hh, _, _, _, ht⟩
  · exact fun hne => absurd (List.length_eq_zero_iff.1 h0) hne
  · simp only [Value.slice.injEq] at hv
    obtain ⟨rfl, _, rfl⟩ := hv
    have hcur : cur.toList = entCells l ++ cur.toList.drop (l.length * 3) := by rw [← ht, List.take_append_drop]
    exact entsAt_of (r := cur.toList.drop (l.length * 3)) (by unfold BlockIs; rw [hh, ← hcur])
/-- where the walk stands: the cursor, the answer's box, the message's box -/
def DIn (w W : World) (s : ByteArray) (o : Option Nat) (x : Nat) (cs : List Value) : Prop := CurSt W (w.heap.size + 1) s o ∧ BlockIs W w.heap.size 39 [.int .i64 0, .int .i64 0, .int .i64 0, .int .i64 0, .int .i64 0, .int .i64 0, .int .i64 0, .bool false, .slice none 0 0, .slice none 0 0, .string ⟨#[]⟩, .bool false] ∧ BlockIs W x 39 cs ∧ w.heap.size + 1 < x ∧ Below w.heap.size w W
theorem DIn.next {w W W' : World} {s : ByteArray} {o o' : Option Nat} {x : Nat} {cs : List Value} (h : DIn w W s o x cs) (hc : CurSt W' (w.heap.size + 1) s o') (hg : W.grownBy W' (some (w.heap.size + 1))) : DIn w W' s o' x cs :=
  ⟨hc, blk_grown h.2.1 hg (by omega), blk_grown h.2.2.1 hg (by have := h.2.2.2.1; omega), h.2.2.2.1, below_grown h.2.2.2.2 hg (by omega) h.2.2.2.2.size⟩
theorem curSt_onD {w W : World} {C : Nat} {s : ByteArray} {o : Option Nat} (h : CurSt w C s o) (hb : Below w.heap.size w W) : CurSt W C s o := by
  obtain ⟨k, hk, hc, hj⟩ := h
  exact ⟨k, hk, BlockIs.on hc hb (BlockIs.lt hc), hj⟩
theorem DIn.on {w W W' : World} {s : ByteArray} {o : Option Nat} {x : Nat} {cs : List Value} (h : DIn w W s o x cs) (hb : Below W.heap.size W W') : DIn w W' s o x cs :=
  ⟨curSt_onD h.1 hb, h.2.1.on hb h.2.1.lt, h.2.2.1.on hb h.2.2.1.lt, h.2.2.2.1, below_via h.2.2.2.2 hb⟩
theorem DIn.put {w W : World} {s : ByteArray} {o : Option Nat} {x : Nat} {cs : List Value} (h : DIn w W s o x cs) (j : Nat) (u : Value) : DIn w (W.setCell ⟨x, j, none⟩ u) s o x (cs.set j u) :=
  ⟨h.1.far (by have := h.2.2.2.1; omega) u, h.2.1.far (by have := h.2.2.2.1; omega) u, h.2.2.1.set j u, h.2.2.2.1, h.2.2.2.2.setCell (p := ⟨x, j, none⟩) (by show _ ≤ x; have := h.2.2.2.1; omega) u⟩
theorem row_dcur {w W W' : World} {s : ByteArray} {o : Option Nat} {x base size n : Nat} {ty : TypeId} {v : Value} {cs xs : List Value} (h : W.ownsRow base ty size v n xs) (d : DIn w W s o x cs) (hg : W.grownBy W' (some (w.heap.size + 1))) (ht : ty ≠ 106) : W'.ownsRow base ty size v n xs := by
  obtain ⟨k, _, hk, _⟩ := d.1
  exact row_ext h fun g cs9 h9 => blk_grown h9 hg (fun e => by subst e; exact ht (block_one h9 hk).1)
theorem row_dput {w W : World} {s : ByteArray} {o : Option Nat} {x base size n : Nat} {ty : TypeId} {v : Value} {cs xs : List Value} (h : W.ownsRow base ty size v n xs) (d : DIn w W s o x cs) (ht : ty ≠ 39) (j : Nat) (u : Value) : (W.setCell ⟨x, j, none⟩ u).ownsRow base ty size v n xs :=
  row_ext h fun g cs9 h9 => h9.far (fun e => by subst e; exact ht (block_one h9 d.2.2.1).1) u
theorem block_grownD {w w1 : World} {base size n g : Nat} {t t' : TypeId} {v : Value} {xs cs : List Value} (h : BlockIs w g t' cs) (hr : w.ownsRow base t size v n xs) (hg : w.grownBy w1 v.ownBlock) (ht : t' ≠ t) : BlockIs w1 g t' cs := by
  have hlt := h.lt
  unfold BlockIs at h ⊢
  rw [hg.block g hlt ?_]
  · exact h
  · intro e
    obtain ⟨cs2, h2, _⟩ := row_block hr e.symm
    unfold BlockIs at h2
    rw [h] at h2
    simp only [Option.some.injEq, Obj.cells.injEq] at h2
    exact ht h2.2.1
theorem DIn.app {w W W' : World} {s : ByteArray} {o : Option Nat} {x k : Nat} {v : Value} {cs xs : List Value} (h : DIn w W s o x cs) (hr : W.ownsRow w.heap.size 57 3 v k xs) (hg : W.grownBy W' v.ownBlock) : DIn w W' s o x cs := by
  refine ⟨?_, block_grownD h.2.1 hr hg (by decide), block_grownD h.2.2.1 hr hg (by decide), h.2.2.2.1, h.2.2.2.2.grown hg h.2.2.2.2.size (fun g e => by obtain ⟨_, _, hb⟩ := row_block hr e; exact hb)⟩
  obtain ⟨k, e1, e2, e3⟩ := h.1
  exact ⟨k, e1, block_grownD e2 hr hg (by decide), e3⟩
theorem wpList_append_ent {w : World} {ops : Array Oper} {rest : List Oper} {o : Oper} {a : Act} {Q : Exit → Act → World → Prop} (hgd : o.guard = none) (s x : Operand)
    (ho : o.op = .call { callee := .builtin .append, args := #[s, x], argTypes := #[28, 28] }) (hty : o.type = 28) {v : Value} {base k g : Nat} {L : List EntD} {d : EntD} (hs : a.eval s = v) (hx : a.eval x = .slice (some ⟨g, 0, none⟩) 1 1)
    (hk : k ≤ 1048576) (hbase : base ≤ w.heap.size) (hr : w.ownsRow base 57 3 v k (entCells L)) (hg : BlockIs w g 57 (entEnc d))
    (h : ∀ va vc w1, w1.ownsRow base 57 3 (.slice va (k + 1) vc) (k + 1) (entCells L ++ entEnc d) → w.grownBy w1 v.ownBlock → wpList Tryz.prog ops Q rest (a.put o.dst (.slice va (k + 1) vc)) w1) : wpList Tryz.prog ops Q (o :: rest) a w := by
  obtain ⟨v', W', hrun, h2, h3⟩ := append_one hk hbase hr hg
  obtain ⟨va, vc, rfl⟩ := row_shape h2
  refine wpList_plain hgd fun K hK => ?_
  unfold Oper.wp
  simp [execOp, ho, hty, resolve, invoke, builtin, hs, hx, hrun, Result.andThen]
  exact hK _ _ (h va vc W' h2 h3)
theorem entV_size (t : ByteArray) : (entV t).data.size ≤ 1048576 := by
  unfold entV
  cases h : readEntry t with
  | none => exact Nat.zero_le _
  | some p =>
    have := (entry_facts (readEntry_ok (i := p.1) (e := p.2) h)).2.2
    show p.2.data.size ≤ _
    omega
theorem entsTo_small (s : ByteArray) : ∀ (f : Nat) (o : Option Nat), (entsTo s f o).1.length ≤ f ∧ ∀ e ∈ (entsTo s f o).1, e.data.size ≤ 1048576
  | 0, _ => ⟨Nat.le_refl _, fun e he => by cases he⟩
  | f + 1, none => ⟨Nat.zero_le _, fun e he => by cases he⟩
  | f + 1, some k => by
    have ih := entsTo_small s f (shortSt s (some k))
    refine ⟨by simp only [entsTo, List.length_cons]; omega, fun e he => ?_⟩
    simp only [entsTo, List.mem_cons] at he
    rcases he with rfl | he
    · exact entV_size _
    · exact ih.2 e he
theorem mEs_small (s : ByteArray) : (mEs s).1.length ≤ 5 ∧ ∀ e ∈ (mEs s).1, e.data.size ≤ 1048576 := by
  have := entsTo_small s (min (varNum' s (mA6 s)) 5) (mA7 s)
  exact ⟨Nat.le_trans this.1 (Nat.min_le_right _ _), this.2⟩
theorem encAns_is (d : MsgD) : ∃ (t : ByteArray) (q : Bool), encAns d = .tuple #[.string t, .bool q] ∧ messageOk d = q ∧ (q = true → t = msgText d) := by
  unfold encAns
  cases messageOk d with
  | false => exact ⟨_, _, rfl, rfl, fun h => Bool.noConfusion h⟩
  | true => exact ⟨_, _, rfl, rfl, fun _ => rfl⟩
theorem var_ex (b : Nat) (s : ByteArray) (hs : s.size ≤ 1048576) (o : Option Nat) : ∃ (x : Nat) (o' : Option Nat), varNum' s o = x ∧ varSt' s o = o' ∧ x ≤ 1000000000 ∧ ∀ W, CurSt W b s o → Calls Tryz.prog 51 #[.pointer (some ⟨b, 0, none⟩)] W fun e w' => e = .returned (.int .i64 (x : Int)) ∧ CurSt w' b s o' ∧ W.grownBy w' (some b) :=
  ⟨_, _, rfl, rfl, varNum_le _ _, fun W h => by have := l05Var_any b s hs o W h; rw [varNum_same, varSt_same] at this; exact this⟩
theorem three_ex (b : Nat) (s : ByteArray) (hs : s.size ≤ 1048576) (o : Option Nat) : ∃ (x : ByteArray) (o' : Option Nat), takeTxtN s 3 o = x ∧ takeStN s 3 o = o' ∧ ∀ W, CurSt W b s o → Calls Tryz.prog 50 #[.pointer (some ⟨b, 0, none⟩), .int .i64 3] W fun e w' => e = .returned (.string x) ∧ CurSt w' b s o' ∧ W.grownBy w' (some b) :=
  ⟨_, _, rfl, rfl, fun W h => l05TakeN_any b s hs 3 (by decide) o W h⟩
theorem one_ex (b : Nat) (s : ByteArray) (hs : s.size ≤ 1048576) (o : Option Nat) : ∃ (x : ByteArray) (o' : Option Nat), takeTxtN s 1 o = x ∧ takeStN s 1 o = o' ∧ ∀ W, CurSt W b s o → Calls Tryz.prog 50 #[.pointer (some ⟨b, 0, none⟩), .int .i64 1] W fun e w' => e = .returned (.string x) ∧ CurSt w' b s o' ∧ W.grownBy w' (some b) :=
  ⟨_, _, rfl, rfl, fun W h => l05TakeN_any b s hs 1 (by decide) o W h⟩
theorem short_ex (b : Nat) (s : ByteArray) (hs : s.size ≤ 1048576) (o : Option Nat) : ∃ (x : ByteArray) (o' : Option Nat), shortTxt s o = x ∧ shortSt s o = o' ∧ x.size ≤ 1048576 ∧ ∀ W, CurSt W b s o → Calls Tryz.prog 53 #[.pointer (some ⟨b, 0, none⟩)] W fun e w' => e = .returned (.string x) ∧ CurSt w' b s o' ∧ W.grownBy w' (some b) :=
  ⟨_, _, rfl, rfl, Nat.le_trans (shortTxt_size s o) hs, fun W h => l05ReadShort_any b s hs o W h⟩
theorem flag_is (t : ByteArray) : (t.toList == [1]) = decide (t = ⟨#[1]⟩) := by
  have hl : (⟨#[1]⟩ : ByteArray).toList = [1] := by rw [ByteArray.toList_eq]
  by_cases h : t = ⟨#[1]⟩
  · subst h
    rw [hl]
    simp
  · rw [decide_eq_false h, beq_eq_false_iff_ne]
    intro q
    rw [ByteArray.toList_eq] at q
    exact h (ByteArray.ext (Array.toList_inj.1 q))
theorem index_three {P : Program} {t : TypeId} (hP : P.underlying t = some .string) {s : ByteArray} (h : 3 ≤ s.size) (j : Nat) (hj : j < 3) (w : World) :
    (Instr.index t (.string (s.extract 0 3)) (.int .i64 j)).run P w = .ok (.int .u8 ((s[j]'(by omega)).toNat : Int)) w := by
  have hz : (s.extract 0 3).size = 3 := by rw [ByteArray.size_extract]; omega
  rw [run_index_string w t _ .i64 j hP, dif_pos ⟨by omega, by omega⟩]
  have : (s.extract 0 3)[(j : Int).toNat]'(by simpa using (by omega : j < (s.extract 0 3).size)) = s[j]'(by omega) := by
    simp [ByteArray.getElem_extract]
  rw [this]
theorem reAns_is (t : ByteArray) : ∃ (i : Nat) (q : Bool), reAns (readEntry t) = .tuple #[.int .i64 (i : Int), .agg #[.int .i64 (entV t).term, .int .i64 (entV t).kind, .string (entV t).data], .bool q] := by
  unfold entV
  cases readEntry t with
  | none => exact ⟨0, false, rfl⟩
  | some p => exact ⟨p.1, true, rfl⟩
theorem entsTo_none (s : ByteArray) (f : Nat) : entsTo s f none = ([], none) := by cases f <;> rfl

set_option maxRecDepth 1000000 in
set_option maxHeartbeats 4000000 in
theorem specDecode_any (s : ByteArray) (hs : s.size ≤ 1048576) (w : World) : Calls Tryz.prog 19 #[.string s] w fun e w' => decDid (readMsg s) w e w' := by
  have h2 := two_blocks w (.cells #[.int .i64 0, .int .i64 0, .int .i64 0, .int .i64 0, .int .i64 0, .int .i64 0, .int .i64 0, .bool false, .slice none 0 0, .slice none 0 0, .string ⟨#[]⟩, .bool false] 39) (.cells #[.string s, .int .i64 0, .bool false] 106)
  have P0 : Hid (BlockIs _ w.heap.size 39 [.int .i64 0, .int .i64 0, .int .i64 0, .int .i64 0, .int .i64 0, .int .i64 0, .int .i64 0, .bool false, .slice none 0 0, .slice none 0 0, .string ⟨#[]⟩, .bool false]) := h2.2.2.1
  have R0 : Hid (CurSt _ (w.heap.size + 1) s (some 0)) := ⟨0, Nat.zero_le _, h2.2.2.2, fun j q => by cases q; rfl⟩
  have B0 := hid h2.1
  clear h2
  obtain ⟨t3, o3, e3, q3, c3⟩ := three_ex (w.heap.size + 1) s hs (some 0)
  have C3 := hid c3
  clear c3
  go_enter Tryz.func19, Tryz.ntmps19
  go_wp2_with fail
  refine (C3.out _ R0.out).mono ?_
  rintro e w1 ⟨rfl, hc, hg⟩
  have P1 := hid (blk_grown P0.out hg (by omega))
  have B1 := hid (below_grown B0.out hg (by omega) B0.out.size)
  have R1 := hid hc
  clear hc hg P0 R0 B0 C3
  by_cases h3 : 3 ≤ s.size
  · have q3' : takeStN s 3 (some 0) = some 3 := by simp [takeStN, h3]
    have t3' : takeTxtN s 3 (some 0) = s.extract 0 3 := by simp [takeTxtN, h3]
    rw [q3'] at q3
    rw [t3'] at e3
    subst q3
    have i0 : ∀ w, (Instr.index 9 (.string (s.extract 0 3)) (.int .i64 0)).run Tryz.prog w = .ok (.int .u8 ((s[0]'(by omega)).toNat : Int)) w := fun w => index_three (P := Tryz.prog) (t := 9) Tryz.underlying9 h3 0 (by decide) w
    have i1 : ∀ w, (Instr.index 9 (.string (s.extract 0 3)) (.int .i64 1)).run Tryz.prog w = .ok (.int .u8 ((s[1]'(by omega)).toNat : Int)) w := fun w => index_three (P := Tryz.prog) (t := 9) Tryz.underlying9 h3 1 (by decide) w
    have i2 : ∀ w, (Instr.index 9 (.string (s.extract 0 3)) (.int .i64 2)).run Tryz.prog w = .ok (.int .u8 ((s[2]'(by omega)).toNat : Int)) w := fun w => index_three (P := Tryz.prog) (t := 9) Tryz.underlying9 h3 2 (by decide) w
    rw [e3] at i0 i1 i2
    have HA := hid (ask_msg h3)
    have b0 := (s[0]'(by omega)).toNat_lt
    have b1 := (s[1]'(by omega)).toNat_lt
    have b2 := (s[2]'(by omega)).toNat_lt
    obtain ⟨n0, hn0⟩ : ∃ n, (s[0]'(by omega)).toNat = n := ⟨_, rfl⟩
    obtain ⟨n1, hn1⟩ : ∃ n, (s[1]'(by omega)).toNat = n := ⟨_, rfl⟩
    obtain ⟨n2, hn2⟩ : ∃ n, (s[2]'(by omega)).toNat = n := ⟨_, rfl⟩
    rw [hn0] at i0 b0 HA
    rw [hn1] at i1 b1 HA
    rw [hn2] at i2 b2 HA
    clear hn0 hn1 hn2 e3 q3' t3'
    obtain ⟨kc, hkc, hcu, hjc⟩ := R1.out
    have cb := BlockIs.cell hcu (j := 2) rfl
    rw [show Option.isNone (some 3) = false from rfl] at cb
    clear hcu hjc
    go_wp2
    refine wp_region_each (N := 115) (by kernel_rfl) (by kernel_rfl) rfl (by kernel_rfl) (fun W => Below w1.heap.size w1 W) (fun j v u W => match j with | 0 => v = .string t3 | 1 => v = .int .u8 (n0 : Int) | 2 => v = .int .i64 (n0 : Int) | 3 => v = .string t3 | 4 => v = .int .u8 (n1 : Int) | 5 => v = .int .i64 (n1 : Int) | 6 => v = .string t3 | 7 => v = .int .u8 (n2 : Int) | 8 => v = .int .i64 (n2 : Int) | 9 => v = .agg #[.int .i64 (n0 : Int), .int .i64 (n1 : Int), .int .i64 (n2 : Int), .int .i64 0, .int .i64 0, .int .i64 0, .int .i64 0, .bool false, .slice none 0 0, .slice none 0 0, .string ⟨#[]⟩, .bool false] | 10 => ∃ g : Nat, v = .pointer (some ⟨g, 0, none⟩) ∧ w1.heap.size ≤ g ∧ BlockIs W g 39 [.int .i64 0, .int .i64 0, .int .i64 0, .int .i64 0, .int .i64 0, .int .i64 0, .int .i64 0, .bool false, .slice none 0 0, .slice none 0 0, .string ⟨#[]⟩, .bool false] | 11 => ∃ g : Nat, u = .pointer (some ⟨g, 0, none⟩) ∧ w1.heap.size ≤ g ∧ BlockIs W g 39 [.int .i64 (n0 : Int), .int .i64 (n1 : Int), .int .i64 (n2 : Int), .int .i64 0, .int .i64 0, .int .i64 0, .int .i64 0, .bool false, .slice none 0 0, .slice none 0 0, .string ⟨#[]⟩, .bool false] | _ => True) (fun i => if i = 11 then 10 else i) (fun j i => decide ((j, i) ∈ ([(10, 11)] : List (Nat × Nat)))) (fun i x y => x.heap.size ≤ y.heap.size ∧ ∀ g ty cs, BlockIs x g ty cs → (i = 11 → ty ≠ 39) → BlockIs y g ty cs) (fun i => if i = 11 then 6 else 0) (by kernel_rfl) (fun i hi => by have : 12 ≤ i := hi; simp; omega) ?_ (below_drewN (Below.refl _ _) 1) ?_ ?_
    · intro i j v u x y hij hdd hwt hxy hg
      match j, hg with
      | 0, hg => exact hg
      | 1, hg => exact hg
      | 2, hg => exact hg
      | 3, hg => exact hg
      | 4, hg => exact hg
      | 5, hg => exact hg
      | 6, hg => exact hg
      | 7, hg => exact hg
      | 8, hg => exact hg
      | 9, hg => exact hg
      | 10, hg =>
        obtain ⟨g, e1, e2, e9⟩ := hg
        simp at hdd
        exact ⟨g, e1, e2, hxy.2 _ _ _ e9 (fun q => absurd q hdd)⟩
      | 11, hg =>
        obtain ⟨g, e1, e2, e9⟩ := hg
        exact ⟨g, e1, e2, hxy.2 _ _ _ e9 (fun q => absurd q hij)⟩
      | n + 12, _ => exact trivial
    · refine ⟨?_, ?_, ?_, ?_, ?_, ?_, ?_, ?_, ?_, ?_, ?_, ?_, trivial⟩
      · intro A W hC hg hb
        have h5 : A.eval (.tmp 5) = .string t3 := hb 5 (base_of (by kernel_rfl))
        exact does_value (v := .string t3) (w' := W) (by simp only [execOp, h5]; simp [go_sem]) ⟨rfl, hC, Nat.le_refl _, fun _ _ _ h _ => h⟩
      · intro A W hC hg hb
        have h24 : A.eval (.tmp 24) = .string t3 := hg 0 24 (by decide) rfl (by simp [Op.operands]) (by kernel_rfl) rfl
        exact does_value (v := .int .u8 (n0 : Int)) (w' := W) (by have hk : A.eval (.const (.int .i64 0)) = .int .i64 0 := rfl; simp only [execOp, h24, hk, i0, Sem.run_bind, Sem.run_pure, Result.andThen_ok]) ⟨rfl, hC, Nat.le_refl _, fun _ _ _ h _ => h⟩
      · intro A W hC hg hb
        have h25 : A.eval (.tmp 25) = .int .u8 (n0 : Int) := hg 1 25 (by decide) rfl (by simp [Op.operands]) (by kernel_rfl) rfl
        have hw : IntKind.i64.wrap (n0 : Int) = (n0 : Int) := by rw [IntKind.wrap_i64]; omega
        exact does_value (v := .int .i64 (n0 : Int)) (w' := W) (by simp only [execOp, h25]; simp [go_sem, hw]) ⟨rfl, hC, Nat.le_refl _, fun _ _ _ h _ => h⟩
      · intro A W hC hg hb
        have h5 : A.eval (.tmp 5) = .string t3 := hb 5 (base_of (by kernel_rfl))
        exact does_value (v := .string t3) (w' := W) (by simp only [execOp, h5]; simp [go_sem]) ⟨rfl, hC, Nat.le_refl _, fun _ _ _ h _ => h⟩
      · intro A W hC hg hb
        have h27 : A.eval (.tmp 27) = .string t3 := hg 3 27 (by decide) rfl (by simp [Op.operands]) (by kernel_rfl) rfl
        exact does_value (v := .int .u8 (n1 : Int)) (w' := W) (by have hk : A.eval (.const (.int .i64 1)) = .int .i64 1 := rfl; simp only [execOp, h27, hk, i1, Sem.run_bind, Sem.run_pure, Result.andThen_ok]) ⟨rfl, hC, Nat.le_refl _, fun _ _ _ h _ => h⟩
      · intro A W hC hg hb
        have h28 : A.eval (.tmp 28) = .int .u8 (n1 : Int) := hg 4 28 (by decide) rfl (by simp [Op.operands]) (by kernel_rfl) rfl
        have hw : IntKind.i64.wrap (n1 : Int) = (n1 : Int) := by rw [IntKind.wrap_i64]; omega
        exact does_value (v := .int .i64 (n1 : Int)) (w' := W) (by simp only [execOp, h28]; simp [go_sem, hw]) ⟨rfl, hC, Nat.le_refl _, fun _ _ _ h _ => h⟩
      · intro A W hC hg hb
        have h5 : A.eval (.tmp 5) = .string t3 := hb 5 (base_of (by kernel_rfl))
        exact does_value (v := .string t3) (w' := W) (by simp only [execOp, h5]; simp [go_sem]) ⟨rfl, hC, Nat.le_refl _, fun _ _ _ h _ => h⟩
      · intro A W hC hg hb
        have h30 : A.eval (.tmp 30) = .string t3 := hg 6 30 (by decide) rfl (by simp [Op.operands]) (by kernel_rfl) rfl
        exact does_value (v := .int .u8 (n2 : Int)) (w' := W) (by have hk : A.eval (.const (.int .i64 2)) = .int .i64 2 := rfl; simp only [execOp, h30, hk, i2, Sem.run_bind, Sem.run_pure, Result.andThen_ok]) ⟨rfl, hC, Nat.le_refl _, fun _ _ _ h _ => h⟩
      · intro A W hC hg hb
        have h31 : A.eval (.tmp 31) = .int .u8 (n2 : Int) := hg 7 31 (by decide) rfl (by simp [Op.operands]) (by kernel_rfl) rfl
        have hw : IntKind.i64.wrap (n2 : Int) = (n2 : Int) := by rw [IntKind.wrap_i64]; omega
        exact does_value (v := .int .i64 (n2 : Int)) (w' := W) (by simp only [execOp, h31]; simp [go_sem, hw]) ⟨rfl, hC, Nat.le_refl _, fun _ _ _ h _ => h⟩
      · intro A W hC hg hb
        have h26 : A.eval (.tmp 26) = .int .i64 (n0 : Int) := hg 2 26 (by decide) rfl (by simp [Op.operands]) (by kernel_rfl) rfl
        have h29 : A.eval (.tmp 29) = .int .i64 (n1 : Int) := hg 5 29 (by decide) rfl (by simp [Op.operands]) (by kernel_rfl) rfl
        have h32 : A.eval (.tmp 32) = .int .i64 (n2 : Int) := hg 8 32 (by decide) rfl (by simp [Op.operands]) (by kernel_rfl) rfl
        have t26 : A.tmps[26]?.getD undef = .int .i64 (n0 : Int) := by simpa [Act.eval] using h26
        have t29 : A.tmps[29]?.getD undef = .int .i64 (n1 : Int) := by simpa [Act.eval] using h29
        have t32 : A.tmps[32]?.getD undef = .int .i64 (n2 : Int) := by simpa [Act.eval] using h32
        exact does_value (v := .agg #[.int .i64 (n0 : Int), .int .i64 (n1 : Int), .int .i64 (n2 : Int), .int .i64 0, .int .i64 0, .int .i64 0, .int .i64 0, .bool false, .slice none 0 0, .slice none 0 0, .string ⟨#[]⟩, .bool false]) (w' := W) (by simp [execOp, go_sem, t26, t29, t32]) ⟨rfl, hC, Nat.le_refl _, fun _ _ _ h _ => h⟩
      · intro A W hC hg hb
        have ba := below_more (Below.refl W.heap.size W) (.cells #[.int .i64 0, .int .i64 0, .int .i64 0, .int .i64 0, .int .i64 0, .int .i64 0, .int .i64 0, .bool false, .slice none 0 0, .slice none 0 0, .string ⟨#[]⟩, .bool false] 39)
        exact does_value (v := .pointer (some ⟨W.heap.size, 0, none⟩)) (w' := W.alloc (.cells #[.int .i64 0, .int .i64 0, .int .i64 0, .int .i64 0, .int .i64 0, .int .i64 0, .int .i64 0, .bool false, .slice none 0 0, .slice none 0 0, .string ⟨#[]⟩, .bool false] 39)) (by simp [execOp, go_sem]) ⟨⟨_, rfl, hC.size, heap_alloc_new W _⟩, below_more hC _, ba.size, fun _ _ _ h _ => h.on ba h.lt⟩
      · intro A W hC hg hb
        have g10 := hg 10 6 (by decide) rfl (by simp [Op.operands]) (by kernel_rfl) rfl
        have h33 : A.eval (.tmp 33) = .agg #[.int .i64 (n0 : Int), .int .i64 (n1 : Int), .int .i64 (n2 : Int), .int .i64 0, .int .i64 0, .int .i64 0, .int .i64 0, .bool false, .slice none 0 0, .slice none 0 0, .string ⟨#[]⟩, .bool false] := hg 9 33 (by decide) rfl (by simp [Op.operands]) (by kernel_rfl) rfl
        obtain ⟨g, h6, hgl, hbl⟩ := g10
        exact does_skip (w' := W.setRow g #[.int .i64 (n0 : Int), .int .i64 (n1 : Int), .int .i64 (n2 : Int), .int .i64 0, .int .i64 0, .int .i64 0, .int .i64 0, .bool false, .slice none 0 0, .slice none 0 0, .string ⟨#[]⟩, .bool false]) (by simp only [execOp, h6, h33, store_whole (A := #[.int .i64 (n0 : Int), .int .i64 (n1 : Int), .int .i64 (n2 : Int), .int .i64 0, .int .i64 0, .int .i64 0, .int .i64 0, .bool false, .slice none 0 0, .slice none 0 0, .string ⟨#[]⟩, .bool false]) msg_size hbl rfl rfl (by simp [Value.oneCell']), Sem.run_bind, Sem.run_pure, Result.andThen_ok]) ⟨⟨g, h6, hgl, whole_block hbl _⟩, below_setRow hC hgl _, by simp [World.setRow], fun p ty cs hp hne => whole_other hp (fun q => by subst q; exact hne rfl (block_one hp hbl).1) _⟩
    intro vs wE hC hg
    obtain ⟨x, hu, hxl, hbx⟩ := hg 11 (by decide) (fun k => by simp)
    change vs 10 = _ at hu
    clear hg
    have hx1 : w.heap.size + 1 < x := Nat.lt_of_lt_of_le (CurSt.lt R1.out) hxl
    have D0 : Hid (DIn w wE s (some 3) x [.int .i64 (n0 : Int), .int .i64 (n1 : Int), .int .i64 (n2 : Int), .int .i64 0, .int .i64 0, .int .i64 0, .int .i64 0, .bool false, .slice none 0 0, .slice none 0 0, .string ⟨#[]⟩, .bool false]) := ⟨curSt_onD R1.out hC, P1.out.on hC P1.out.lt, hbx, hx1, below_via B1.out hC⟩
    clear hbx hC hxl hx1 P1 R1 B1 cb i0 i1 i2 kc hkc
    change Exit.then _ _ _ (laidBy _ vs _ 12 _) wE
    simp only [laidBy, if_true, dstAt, List.getElem?_toArray, List.getElem?_cons_succ, List.getElem?_cons_zero, Option.bind_some]
    simp only [Act.put, List.setIfInBounds_toArray, List.set_cons_succ, List.set_cons_zero]
    try rw [hu]
    clear hu
    obtain ⟨x3, p1, e1, q1, z1, c1⟩ := var_ex (w.heap.size + 1) s hs (some 3)
    have E1 := hid e1
    have Q1 := hid q1
    have C1 := hid c1
    clear e1 q1 c1
    go_wp2_with fail
    refine (C1.out _ D0.out.1).mono ?_
    rintro e v1 ⟨rfl, hc, hg⟩
    have N1 := hid (D0.out.next hc hg)
    have a1 := N1.out.2.2.1.cell (j := 3) rfl
    have f1 := N1.out.2.2.1.thaw 3
    have D1 : Hid (DIn w (v1.setCell ⟨x, 3, none⟩ (.int .i64 (x3 : Int))) s p1 x [.int .i64 (n0 : Int), .int .i64 (n1 : Int), .int .i64 (n2 : Int), .int .i64 (x3 : Int), .int .i64 0, .int .i64 0, .int .i64 0, .bool false, .slice none 0 0, .slice none 0 0, .string ⟨#[]⟩, .bool false]) := hid (N1.out.put 3 _)
    obtain ⟨u1, hu1⟩ : ∃ W, v1.setCell ⟨x, 3, none⟩ (.int .i64 (x3 : Int)) = W := ⟨_, rfl⟩
    rw [hu1] at D1
    clear hc hg D0 N1 C1
    obtain ⟨x4, p2, e2, q2, z2, c2⟩ := var_ex (w.heap.size + 1) s hs p1
    have E2 := hid e2
    have Q2 := hid q2
    have C2 := hid c2
    clear e2 q2 c2
    go_wp2_with fail
    refine (C2.out _ D1.out.1).mono ?_
    rintro e v2 ⟨rfl, hc, hg⟩
    have N2 := hid (D1.out.next hc hg)
    have a2 := N2.out.2.2.1.cell (j := 4) rfl
    have f2 := N2.out.2.2.1.thaw 4
    have D2 : Hid (DIn w (v2.setCell ⟨x, 4, none⟩ (.int .i64 (x4 : Int))) s p2 x [.int .i64 (n0 : Int), .int .i64 (n1 : Int), .int .i64 (n2 : Int), .int .i64 (x3 : Int), .int .i64 (x4 : Int), .int .i64 0, .int .i64 0, .bool false, .slice none 0 0, .slice none 0 0, .string ⟨#[]⟩, .bool false]) := hid (N2.out.put 4 _)
    obtain ⟨u2, hu2⟩ : ∃ W, v2.setCell ⟨x, 4, none⟩ (.int .i64 (x4 : Int)) = W := ⟨_, rfl⟩
    rw [hu2] at D2
    clear hc hg D1 N2 C2
    clear a1 f1
    obtain ⟨x5, p3, e3, q3, z3, c3⟩ := var_ex (w.heap.size + 1) s hs p2
    have E3 := hid e3
    have Q3 := hid q3
    have C3 := hid c3
    clear e3 q3 c3
    go_wp2_with fail
    refine (C3.out _ D2.out.1).mono ?_
    rintro e v3 ⟨rfl, hc, hg⟩
    have N3 := hid (D2.out.next hc hg)
    have a3 := N3.out.2.2.1.cell (j := 5) rfl
    have f3 := N3.out.2.2.1.thaw 5
    have D3 : Hid (DIn w (v3.setCell ⟨x, 5, none⟩ (.int .i64 (x5 : Int))) s p3 x [.int .i64 (n0 : Int), .int .i64 (n1 : Int), .int .i64 (n2 : Int), .int .i64 (x3 : Int), .int .i64 (x4 : Int), .int .i64 (x5 : Int), .int .i64 0, .bool false, .slice none 0 0, .slice none 0 0, .string ⟨#[]⟩, .bool false]) := hid (N3.out.put 5 _)
    obtain ⟨u3, hu3⟩ : ∃ W, v3.setCell ⟨x, 5, none⟩ (.int .i64 (x5 : Int)) = W := ⟨_, rfl⟩
    rw [hu3] at D3
    clear hc hg D2 N3 C3
    clear a2 f2
    obtain ⟨x6, p4, e4, q4, z4, c4⟩ := var_ex (w.heap.size + 1) s hs p3
    have E4 := hid e4
    have Q4 := hid q4
    have C4 := hid c4
    clear e4 q4 c4
    go_wp2_with fail
    refine (C4.out _ D3.out.1).mono ?_
    rintro e v4 ⟨rfl, hc, hg⟩
    have N4 := hid (D3.out.next hc hg)
    have a4 := N4.out.2.2.1.cell (j := 6) rfl
    have f4 := N4.out.2.2.1.thaw 6
    have D4 : Hid (DIn w (v4.setCell ⟨x, 6, none⟩ (.int .i64 (x6 : Int))) s p4 x [.int .i64 (n0 : Int), .int .i64 (n1 : Int), .int .i64 (n2 : Int), .int .i64 (x3 : Int), .int .i64 (x4 : Int), .int .i64 (x5 : Int), .int .i64 (x6 : Int), .bool false, .slice none 0 0, .slice none 0 0, .string ⟨#[]⟩, .bool false]) := hid (N4.out.put 6 _)
    obtain ⟨u4, hu4⟩ : ∃ W, v4.setCell ⟨x, 6, none⟩ (.int .i64 (x6 : Int)) = W := ⟨_, rfl⟩
    rw [hu4] at D4
    clear hc hg D3 N4 C4
    clear a3 f3
    obtain ⟨x7, p5, e5, q5, c5⟩ := one_ex (w.heap.size + 1) s hs p4
    have E5 := hid e5
    have Q5 := hid q5
    have C5 := hid c5
    clear e5 q5 c5
    obtain ⟨y5, hy5⟩ : ∃ q, decide (x7 = ⟨#[1]⟩) = q := ⟨_, rfl⟩
    have g5 : (x7.toList == [1]) = y5 := (flag_is _).trans hy5
    have Y5 := hid hy5
    clear hy5
    go_wp2_with fail
    refine (C5.out _ D4.out.1).mono ?_
    rintro e v5 ⟨rfl, hc, hg⟩
    have N5 := hid (D4.out.next hc hg)
    have a5 := N5.out.2.2.1.cell (j := 7) rfl
    have f5 := N5.out.2.2.1.thaw 7
    have D5 : Hid (DIn w (v5.setCell ⟨x, 7, none⟩ (.bool y5)) s p5 x [.int .i64 (n0 : Int), .int .i64 (n1 : Int), .int .i64 (n2 : Int), .int .i64 (x3 : Int), .int .i64 (x4 : Int), .int .i64 (x5 : Int), .int .i64 (x6 : Int), .bool y5, .slice none 0 0, .slice none 0 0, .string ⟨#[]⟩, .bool false]) := hid (N5.out.put 7 _)
    obtain ⟨u5, hu5⟩ : ∃ W, v5.setCell ⟨x, 7, none⟩ (.bool y5) = W := ⟨_, rfl⟩
    rw [hu5] at D5
    clear hc hg D4 N5 C5
    clear a4 f4
    obtain ⟨x11, p6, e6, q6, c6⟩ := one_ex (w.heap.size + 1) s hs p5
    have E6 := hid e6
    have Q6 := hid q6
    have C6 := hid c6
    clear e6 q6 c6
    obtain ⟨y6, hy6⟩ : ∃ q, decide (x11 = ⟨#[1]⟩) = q := ⟨_, rfl⟩
    have g6 : (x11.toList == [1]) = y6 := (flag_is _).trans hy6
    have Y6 := hid hy6
    clear hy6
    go_wp2_with fail
    refine (C6.out _ D5.out.1).mono ?_
    rintro e v6 ⟨rfl, hc, hg⟩
    have N6 := hid (D5.out.next hc hg)
    have a6 := N6.out.2.2.1.cell (j := 11) rfl
    have f6 := N6.out.2.2.1.thaw 11
    have D6 : Hid (DIn w (v6.setCell ⟨x, 11, none⟩ (.bool y6)) s p6 x [.int .i64 (n0 : Int), .int .i64 (n1 : Int), .int .i64 (n2 : Int), .int .i64 (x3 : Int), .int .i64 (x4 : Int), .int .i64 (x5 : Int), .int .i64 (x6 : Int), .bool y5, .slice none 0 0, .slice none 0 0, .string ⟨#[]⟩, .bool y6]) := hid (N6.out.put 11 _)
    obtain ⟨u6, hu6⟩ : ∃ W, v6.setCell ⟨x, 11, none⟩ (.bool y6) = W := ⟨_, rfl⟩
    rw [hu6] at D6
    clear hc hg D5 N6 C6
    clear a5 f5 g5
    obtain ⟨n, p7, e7, q7, z7, c7⟩ := var_ex (w.heap.size + 1) s hs p6
    have E7 := hid e7
    have Q7 := hid q7
    have C7 := hid c7
    clear e7 q7 c7
    go_wp2_with fail
    refine (C7.out _ D6.out.1).mono ?_
    rintro e v7 ⟨rfl, hc, hg⟩
    have N7 := hid (D6.out.next hc hg)
    clear hc hg D6 C7
    clear a6 f6 g6
    have HM : Hid (mEs s = entsTo s (min n 5) p7) := (show _ = _ by simp only [mEs, mA7, mA6, mA5, mA4, mA3, mA2, mA1, Q1.out, Q2.out, Q3.out, Q4.out, Q5.out, Q6.out, Q7.out, E7.out])
    go_upto_block 0 with fail
    go_cut [] (fun wx => ∃ (va : Option Addr) (vc : Nat), Hid (DIn w wx s (mEs s).2 x [.int .i64 (n0 : Int), .int .i64 (n1 : Int), .int .i64 (n2 : Int), .int .i64 (x3 : Int), .int .i64 (x4 : Int), .int .i64 (x5 : Int), .int .i64 (x6 : Int), .bool y5, .slice va (mEs s).1.length vc, .slice none 0 0, .string ⟨#[]⟩, .bool y6]) ∧ Hid (wx.ownsRow w.heap.size 57 3 (.slice va (mEs s).1.length vc) (mEs s).1.length (entCells (mEs s).1)))
    case first =>
      go_wp2_with fail
      go_loopg [8] (min n 5) (fun g i wr => ∃ (L : List EntD) (o' : Option Nat) (va : Option Addr) (vc : Nat), L.length + g = min n 5 ∧ i = .int .i64 (L.length : Int) ∧ Hid (DIn w wr s o' x [.int .i64 (n0 : Int), .int .i64 (n1 : Int), .int .i64 (n2 : Int), .int .i64 (x3 : Int), .int .i64 (x4 : Int), .int .i64 (x5 : Int), .int .i64 (x6 : Int), .bool y5, .slice va L.length vc, .slice none 0 0, .string ⟨#[]⟩, .bool y6]) ∧ Hid (wr.ownsRow w.heap.size 57 3 (.slice va L.length vc) L.length (entCells L)) ∧ Hid (mEs s = (L ++ (entsTo s g o').1, (entsTo s g o').2)))
      case atStart => exact ⟨[], p7, none, 0, by simp, rfl, N7.out, (show World.ownsRow _ _ _ _ _ _ _ from ⟨rfl, Or.inl ⟨rfl, rfl⟩⟩), (show _ = _ by rw [HM.out]; rfl)⟩
      case round =>
        obtain ⟨L, o', va, vc, hkg, rfl, SR, RR, HE⟩ := hrel
        clear HM N7
        obtain ⟨kc, hkc, hcu, hj⟩ := SR.out.1
        have cb := BlockIs.cell hcu (j := 2) rfl
        have hb2 := BlockIs.lt hcu
        cases gk with
        | zero =>
          have HQ : Hid (mEs s = (L, o')) := (show _ = _ by have := HE.out; rw [entsTo] at this; simpa using this)
          have HS : Hid (DIn w wr s (mEs s).2 x [.int .i64 (n0 : Int), .int .i64 (n1 : Int), .int .i64 (n2 : Int), .int .i64 (x3 : Int), .int .i64 (x4 : Int), .int .i64 (x5 : Int), .int .i64 (x6 : Int), .bool y5, .slice va (mEs s).1.length vc, .slice none 0 0, .string ⟨#[]⟩, .bool y6]) := (show DIn _ _ _ _ _ _ by rw [HQ.out]; exact SR.out)
          have HRW : Hid (wr.ownsRow w.heap.size 57 3 (.slice va (mEs s).1.length vc) (mEs s).1.length (entCells (mEs s).1)) := (show World.ownsRow _ _ _ _ _ _ _ by rw [HQ.out]; exact RR.out)
          by_cases h50 : n ≤ 5
          · have hl9 : L.length = n := by omega
            have hlt : ¬ (L.length : Int) < (n : Int) := by omega
            have hlt0 : ¬ L.length < n := by omega
            have hltd : decide (L.length < n) = false := by simp; omega
            clear hcu hj SR RR HE HQ hkg hl9
            go_wp2
            go_meet
            exact ⟨va, vc, HS, HRW⟩
          · have hl9 : L.length = 5 := by omega
            have hlt : (L.length : Int) < (n : Int) := by omega
            have hlt0 : L.length < n := by omega
            have hltd : decide (L.length < n) = true := by simp; omega
            have hlt5 : ¬ (L.length : Int) ≤ 4 := by omega
            have hltd5 : decide ((L.length : Int) ≤ 4) = false := by simp; omega
            clear hcu hj SR RR HE HQ hkg hl9
            go_wp2
            all_goals (go_meet; exact ⟨va, vc, HS, HRW⟩)
        | succ g =>
          have hlt : (L.length : Int) < (n : Int) := by omega
          have hlt0 : L.length < n := by omega
          have hltd : decide ((L.length : Int) < (n : Int)) = true := by simp; omega
          have hlt5 : (L.length : Int) ≤ 4 := by omega
          have hltd5 : decide ((L.length : Int) ≤ 4) = true := by simp; omega
          have hL50 : L.length < 5 := by omega
          cases o' with
          | none =>
            have HQ : Hid (mEs s = (L, none)) := (show _ = _ by have := HE.out; rw [entsTo_none] at this; simpa using this)
            have HS : Hid (DIn w wr s (mEs s).2 x [.int .i64 (n0 : Int), .int .i64 (n1 : Int), .int .i64 (n2 : Int), .int .i64 (x3 : Int), .int .i64 (x4 : Int), .int .i64 (x5 : Int), .int .i64 (x6 : Int), .bool y5, .slice va (mEs s).1.length vc, .slice none 0 0, .string ⟨#[]⟩, .bool y6]) := (show DIn _ _ _ _ _ _ by rw [HQ.out]; exact SR.out)
            have HRW : Hid (wr.ownsRow w.heap.size 57 3 (.slice va (mEs s).1.length vc) (mEs s).1.length (entCells (mEs s).1)) := (show World.ownsRow _ _ _ _ _ _ _ by rw [HQ.out]; exact RR.out)
            clear hcu hj SR RR HE HQ
            go_wp2
            go_meet
            exact ⟨va, vc, HS, HRW⟩
          | some kk =>
            have HE2 : Hid (mEs s = ((L ++ [entV (shortTxt s (some kk))]) ++ (entsTo s g (shortSt s (some kk))).1, (entsTo s g (shortSt s (some kk))).2)) := (show _ = _ by rw [HE.out, entsTo]; simp)
            obtain ⟨tk, ok, ek, qk, zk, ck⟩ := short_ex (w.heap.size + 1) s hs (some kk)
            rw [ek, qk] at HE2
            have CK := hid ck
            clear ek qk ck hcu hj HE
            obtain ⟨ii, qq, hre⟩ := reAns_is tk
            have hdz := entV_size tk
            obtain ⟨dd, hdd⟩ : ∃ d, entV tk = d := ⟨_, rfl⟩
            rw [hdd] at HE2 hre hdz
            clear hdd
            have CR' := fun w => specReadEntry_any tk zk w
            rw [hre] at CR'
            have CR := hid CR'
            clear CR' hre
            go_wp2_with fail
            refine (CK.out _ SR.out.1).mono ?_
            rintro e wa ⟨rfl, hc, hg⟩
            have SA := hid (SR.out.next hc hg)
            have RA := hid (row_dcur RR.out SR.out hg (by decide))
            clear hc hg SR RR CK cb
            go_wp2_with fail
            refine (CR.out _).mono ?_
            rintro e wb ⟨rfl, hb⟩
            have SB := hid (SA.out.on hb)
            have RB := hid (row_ext RA.out fun g cs h9 => h9.on hb h9.lt)
            clear hb SA RA CR
            have hY := below_more (Below.refl wb.heap.size wb) (.cells #[.int .i64 dd.term, .int .i64 dd.kind, .string dd.data] 57)
            have SC := hid (SB.out.on hY)
            have RC := hid (row_ext RB.out fun g cs h9 => h9.on hY h9.lt)
            have EC : BlockIs (wb.alloc (.cells #[.int .i64 dd.term, .int .i64 dd.kind, .string dd.data] 57)) wb.heap.size 57 [.int .i64 dd.term, .int .i64 dd.kind, .string dd.data] := heap_alloc_new wb _
            clear hY SB RB
            have HUD := hid (show dd = dd from rfl)
            obtain ⟨U, hU⟩ : ∃ U, wb.alloc (.cells #[.int .i64 dd.term, .int .i64 dd.kind, .string dd.data] 57) = U := ⟨_, rfl⟩
            rw [hU] at SC RC EC
            have c8 := SC.out.2.2.1.cell (j := 8) rfl
            have d0 := EC.cell (j := 0) rfl
            have d1 := EC.cell (j := 1) rfl
            have d2 := EC.cell (j := 2) rfl
            clear EC HUD
            have hY := below_more (Below.refl U.heap.size U) (.cells #[.int .i64 dd.term, .int .i64 dd.kind, .string dd.data] 57)
            have SD := hid (SC.out.on hY)
            have RD := hid (row_ext RC.out fun g cs h9 => h9.on hY h9.lt)
            have GD : Hid (BlockIs (U.alloc (.cells #[.int .i64 dd.term, .int .i64 dd.kind, .string dd.data] 57)) U.heap.size 57 (entEnc dd)) := heap_alloc_new U _
            clear hY SC RC
            have hsz : Hid (w.heap.size ≤ (U.alloc (.cells #[.int .i64 dd.term, .int .i64 dd.kind, .string dd.data] 57)).heap.size) := SD.out.2.2.2.2.size
            go_wp2_with (at_builtin; refine wpList_append_ent rfl (.tmp 80) (.tmp 82) rfl rfl (base := w.heap.size) (L := L) (d := dd) rfl rfl (by omega) hsz.out RD.out GD.out ?_; intro va' vc' w9 hro hgr; have z8 := (SD.out.app RD.out hgr).2.2.1.cell (j := 8) rfl; have zf := (SD.out.app RD.out hgr).2.2.1.thaw 8)
            have S9 := SD.out.app RD.out hgr
            have SN : Hid (DIn w (w9.setCell ⟨x, 8, none⟩ (.slice va' (L.length + 1) vc')) s ok x [.int .i64 (n0 : Int), .int .i64 (n1 : Int), .int .i64 (n2 : Int), .int .i64 (x3 : Int), .int .i64 (x4 : Int), .int .i64 (x5 : Int), .int .i64 (x6 : Int), .bool y5, .slice va' (L.length + 1) vc', .slice none 0 0, .string ⟨#[]⟩, .bool y6]) := S9.put 8 _
            have RN : Hid ((w9.setCell ⟨x, 8, none⟩ (.slice va' (L.length + 1) vc')).ownsRow w.heap.size 57 3 (.slice va' (L.length + 1) vc') (L.length + 1) (entCells (L ++ [dd]))) := (show World.ownsRow _ _ _ _ _ _ _ by rw [show entCells (L ++ [dd]) = entCells L ++ entEnc dd from by simp [entCells]]; exact row_dput hro S9 (by decide) 8 _)
            clear SD RD GD hsz hro hgr S9 c8 d0 d1 d2 hU
            go_wp2
            go_roundg g
            case measure => omega
            case rel =>
              have hl1 : (L ++ [dd]).length = L.length + 1 := by simp
              exact ⟨L ++ [dd], ok, va', vc', by rw [hl1]; omega, (by rw [hl1]; exact (show Value.int IntKind.i64 ((L.length : Int) + 1) = Value.int IntKind.i64 ((L.length + 1 : Nat) : Int) from rfl)), (show DIn _ _ _ _ _ _ by rw [hl1]; exact SN.out), (show World.ownsRow _ _ _ _ _ _ _ by rw [hl1]; exact RN.out), HE2⟩
    case rest =>
    rename World => w2
    obtain ⟨va, vc, S2, R2⟩ := hcut
    have hsm := mEs_small s
    obtain ⟨es, hes⟩ : ∃ l, (mEs s).1 = l := ⟨_, rfl⟩
    obtain ⟨pl, hpl⟩ : ∃ l, (mEs s).2 = l := ⟨_, rfl⟩
    rw [hes] at S2 R2 hsm
    rw [hpl] at S2
    have HES := hid hes
    have HPL := hid hpl
    clear hes hpl HM N7
    obtain ⟨tc, p8, e8, q8, z8, c8⟩ := short_ex (w.heap.size + 1) s hs pl
    have E8 := hid e8
    have Q8 := hid q8
    have C8 := hid c8
    clear e8 q8 c8
    go_wp2_with fail
    refine (C8.out _ S2.out.1).mono ?_
    rintro e v8 ⟨rfl, hc, hg⟩
    have N8 := hid (S2.out.next hc hg)
    have RE8 := hid (row_dcur R2.out S2.out hg (by decide))
    clear hc hg S2 R2 C8
    go_wp2_with fail
    refine (specReadConf_any tc z8 _).mono ?_
    rintro e wc ⟨v, rfl, ho, hb⟩
    have NC := hid (N8.out.on hb)
    have REC := hid (row_ext RE8.out fun g cs h9 => h9.on hb h9.lt)
    have RIC := hid (row_down ho N8.out.2.2.2.2.size)
    have hzl := readConf_small tc
    clear hb ho N8 RE8
    obtain ⟨⟨zs, zk⟩, hrc⟩ : ∃ n, readConf tc = n := ⟨_, rfl⟩
    rw [hrc] at RIC hzl ⊢
    dsimp only at RIC hzl ⊢
    have HRC := hid hrc
    clear hrc
    obtain ⟨vb, vd, rfl⟩ := row_shape RIC.out
    have a9 := NC.out.2.2.1.cell (j := 9) rfl
    have f9 := NC.out.2.2.1.thaw 9
    have DC : Hid (DIn w (wc.setCell ⟨x, 9, none⟩ (.slice vb zs.length vd)) s p8 x [.int .i64 (n0 : Int), .int .i64 (n1 : Int), .int .i64 (n2 : Int), .int .i64 (x3 : Int), .int .i64 (x4 : Int), .int .i64 (x5 : Int), .int .i64 (x6 : Int), .bool y5, .slice va es.length vc, .slice vb zs.length vd, .string ⟨#[]⟩, .bool y6]) := hid (NC.out.put 9 _)
    have RED := hid (row_dput REC.out NC.out (by decide) 9 (.slice vb zs.length vd))
    have RID := hid (row_dput RIC.out NC.out (by decide) 9 (.slice vb zs.length vd))
    obtain ⟨uc, huc⟩ : ∃ W, wc.setCell ⟨x, 9, none⟩ (.slice vb zs.length vd) = W := ⟨_, rfl⟩
    rw [huc] at DC RED RID
    clear NC REC RIC
    obtain ⟨td, p9, e9, q9, z9, c9⟩ := short_ex (w.heap.size + 1) s hs p8
    have E9 := hid e9
    have Q9 := hid q9
    have C9 := hid c9
    clear e9 q9 c9
    go_wp2_with fail
    refine (C9.out _ DC.out.1).mono ?_
    rintro e v9 ⟨rfl, hc, hg⟩
    have ND := hid (DC.out.next hc hg)
    have RE9 := hid (row_dcur RED.out DC.out hg (by decide))
    have RI9 := hid (row_dcur RID.out DC.out hg (by decide))
    clear hc hg DC RED RID C9 a9 f9
    have a10 := ND.out.2.2.1.cell (j := 10) rfl
    have f10 := ND.out.2.2.1.thaw 10
    have DE : Hid (DIn w (v9.setCell ⟨x, 10, none⟩ (.string td)) s p9 x [.int .i64 (n0 : Int), .int .i64 (n1 : Int), .int .i64 (n2 : Int), .int .i64 (x3 : Int), .int .i64 (x4 : Int), .int .i64 (x5 : Int), .int .i64 (x6 : Int), .bool y5, .slice va es.length vc, .slice vb zs.length vd, .string td, .bool y6]) := hid (ND.out.put 10 _)
    have REE := hid (row_dput RE9.out ND.out (by decide) 10 (.string td))
    have RIE := hid (row_dput RI9.out ND.out (by decide) 10 (.string td))
    obtain ⟨ue, hue⟩ : ∃ W, v9.setCell ⟨x, 10, none⟩ (.string td) = W := ⟨_, rfl⟩
    rw [hue] at DE REE RIE
    clear ND RE9 RI9
    have HMS : Hid (mMsg s n0 n1 n2 = (⟨(n0 : Int), (n1 : Int), (n2 : Int), (x3 : Int), (x4 : Int), (x5 : Int), (x6 : Int), y5, es, zs, td, y6⟩ : MsgD)) := (show _ = _ by simp only [mMsg, mA9, mA5, mA4, mA3, mA2, mA1, flagV, HES.out, HPL.out, HRC.out, E1.out, Q1.out, E2.out, Q2.out, E3.out, Q3.out, E4.out, Q4.out, E5.out, Q5.out, Y5.out, E6.out, Y6.out, E8.out, Q8.out, E9.out])
    have HAS : Hid (askMsg s n0 n1 n2 = if (p9).isSome = true ∧ messageOk (⟨(n0 : Int), (n1 : Int), (n2 : Int), (x3 : Int), (x4 : Int), (x5 : Int), (x6 : Int), y5, es, zs, td, y6⟩ : MsgD) = true ∧ msgText (⟨(n0 : Int), (n1 : Int), (n2 : Int), (x3 : Int), (x4 : Int), (x5 : Int), (x6 : Int), y5, es, zs, td, y6⟩ : MsgD) = s then some (⟨(n0 : Int), (n1 : Int), (n2 : Int), (x3 : Int), (x4 : Int), (x5 : Int), (x6 : Int), y5, es, zs, td, y6⟩ : MsgD) else none) := (show _ = _ by unfold askMsg; rw [HMS.out, show mA10 s = p9 from by simp only [mA10, mA9, HPL.out, Q8.out, Q9.out]])
    rw [HA.out] at HAS
    clear HA HMS HES HPL HRC
    have hMS : MsgD.Small (⟨(n0 : Int), (n1 : Int), (n2 : Int), (x3 : Int), (x4 : Int), (x5 : Int), (x6 : Int), y5, es, zs, td, y6⟩ : MsgD) := ⟨by show es.length ≤ _; have := hsm.1; omega, fun f hf => hsm.2 f hf, by show zs.length ≤ _; omega, by show td.size ≤ _; omega⟩
    have cE' := specEncode_any (⟨(n0 : Int), (n1 : Int), (n2 : Int), (x3 : Int), (x4 : Int), (x5 : Int), (x6 : Int), y5, es, zs, td, y6⟩ : MsgD) va vc vb vd hMS ue (entsR_atS REE.out) (ints_row rfl RIE.out)
    obtain ⟨bk, qk, hbk, hqk, htk⟩ := encAns_is (⟨(n0 : Int), (n1 : Int), (n2 : Int), (x3 : Int), (x4 : Int), (x5 : Int), (x6 : Int), y5, es, zs, td, y6⟩ : MsgD)
    rw [hbk] at cE'
    dsimp only at cE'
    have CE := hid cE'
    rw [hqk] at HAS
    have HTK := hid htk
    clear cE' hMS hbk hqk htk hsm
    have m0 := DE.out.2.2.1.cell (j := 0) rfl
    have m1 := DE.out.2.2.1.cell (j := 1) rfl
    have m2 := DE.out.2.2.1.cell (j := 2) rfl
    have m3 := DE.out.2.2.1.cell (j := 3) rfl
    have m4 := DE.out.2.2.1.cell (j := 4) rfl
    have m5 := DE.out.2.2.1.cell (j := 5) rfl
    have m6 := DE.out.2.2.1.cell (j := 6) rfl
    have m7 := DE.out.2.2.1.cell (j := 7) rfl
    have m8 := DE.out.2.2.1.cell (j := 8) rfl
    have m9 := DE.out.2.2.1.cell (j := 9) rfl
    have m10 := DE.out.2.2.1.cell (j := 10) rfl
    have m11 := DE.out.2.2.1.cell (j := 11) rfl
    go_wp2_with fail
    refine CE.out.mono ?_
    rintro e wf ⟨rfl, hb⟩
    have DF := hid (DE.out.on hb)
    have REF := hid (row_ext REE.out fun g cs h9 => h9.on hb h9.lt)
    have RIF := hid (row_ext RIE.out fun g cs h9 => h9.on hb h9.lt)
    clear hb CE DE REE RIE m0 m1 m2 m3 m4 m5 m6 m7 m8 m9 m10 m11
    have PF0 : Hid (BlockIs wf w.heap.size 39 [.int .i64 0, .int .i64 0, .int .i64 0, .int .i64 0, .int .i64 0, .int .i64 0, .int .i64 0, .bool false, .slice none 0 0, .slice none 0 0, .string ⟨#[]⟩, .bool false]) := DF.out.2.1
    have BF0 : Hid (Below w.heap.size w wf) := DF.out.2.2.2.2
    obtain ⟨kf, hkf, hcf, hjf⟩ := DF.out.1
    have cb := BlockIs.cell hcf (j := 2) rfl
    clear hcf hjf
    cases p9 with
    | none =>
      have HR : Hid (readMsg s = none) := (show _ = _ by rw [HAS.out]; exact if_neg (by simp))
      rw [show Option.isNone (none : Option Nat) = true from rfl] at cb
      obtain ⟨VF, hVF⟩ : ∃ W, wf.setRow w.heap.size #[.int .i64 0, .int .i64 0, .int .i64 0, .int .i64 0, .int .i64 0, .int .i64 0, .int .i64 0, .bool false, .slice none 0 0, .slice none 0 0, .string ⟨#[]⟩, .bool false] = W := ⟨_, rfl⟩
      have PF : BlockIs VF w.heap.size 39 [.int .i64 0, .int .i64 0, .int .i64 0, .int .i64 0, .int .i64 0, .int .i64 0, .int .i64 0, .bool false, .slice none 0 0, .slice none 0 0, .string ⟨#[]⟩, .bool false] := by rw [← hVF]; exact whole_block PF0.out _
      have p0 := PF.cell (j := 0) rfl
      have p1 := PF.cell (j := 1) rfl
      have p2 := PF.cell (j := 2) rfl
      have p3 := PF.cell (j := 3) rfl
      have p4 := PF.cell (j := 4) rfl
      have p5 := PF.cell (j := 5) rfl
      have p6 := PF.cell (j := 6) rfl
      have p7 := PF.cell (j := 7) rfl
      have p8 := PF.cell (j := 8) rfl
      have p9 := PF.cell (j := 9) rfl
      have p10 := PF.cell (j := 10) rfl
      have p11 := PF.cell (j := 11) rfl
      clear PF
      go_wp2_with (first | (refine wpList_store_whole msg_size PF0.out rfl rfl _ _ rfl _ rfl rfl rfl (by simp [Value.oneCell']) ?_; rw [hVF]) | fail)
      refine bodyPost_ret (v := .tuple #[.agg #[.int .i64 0, .int .i64 0, .int .i64 0, .int .i64 0, .int .i64 0, .int .i64 0, .int .i64 0, .bool false, .slice none 0 0, .slice none 0 0, .string ⟨#[]⟩, .bool false], .bool false]) (by simp [results, Tryz.results19, go_sem, p0, p1, p2, p3, p4, p5, p6, p7, p8, p9, p10, p11]) rfl ?_
      rw [HR.out]
      exact ⟨rfl, by rw [← hVF]; exact below_setRow BF0.out (Nat.le_refl _) _⟩
    | some ke =>
      rw [show Option.isNone (some ke) = false from rfl] at cb
      cases qk with
      | false =>
        have HR : Hid (readMsg s = none) := (show _ = _ by rw [HAS.out]; exact if_neg (by simp))
        obtain ⟨VF, hVF⟩ : ∃ W, wf.setRow w.heap.size #[.int .i64 0, .int .i64 0, .int .i64 0, .int .i64 0, .int .i64 0, .int .i64 0, .int .i64 0, .bool false, .slice none 0 0, .slice none 0 0, .string ⟨#[]⟩, .bool false] = W := ⟨_, rfl⟩
        have PF : BlockIs VF w.heap.size 39 [.int .i64 0, .int .i64 0, .int .i64 0, .int .i64 0, .int .i64 0, .int .i64 0, .int .i64 0, .bool false, .slice none 0 0, .slice none 0 0, .string ⟨#[]⟩, .bool false] := by rw [← hVF]; exact whole_block PF0.out _
        have p0 := PF.cell (j := 0) rfl
        have p1 := PF.cell (j := 1) rfl
        have p2 := PF.cell (j := 2) rfl
        have p3 := PF.cell (j := 3) rfl
        have p4 := PF.cell (j := 4) rfl
        have p5 := PF.cell (j := 5) rfl
        have p6 := PF.cell (j := 6) rfl
        have p7 := PF.cell (j := 7) rfl
        have p8 := PF.cell (j := 8) rfl
        have p9 := PF.cell (j := 9) rfl
        have p10 := PF.cell (j := 10) rfl
        have p11 := PF.cell (j := 11) rfl
        clear PF
        go_wp2_with (first | (refine wpList_store_whole msg_size PF0.out rfl rfl _ _ rfl _ rfl rfl rfl (by simp [Value.oneCell']) ?_; rw [hVF]) | fail)
        refine bodyPost_ret (v := .tuple #[.agg #[.int .i64 0, .int .i64 0, .int .i64 0, .int .i64 0, .int .i64 0, .int .i64 0, .int .i64 0, .bool false, .slice none 0 0, .slice none 0 0, .string ⟨#[]⟩, .bool false], .bool false]) (by simp [results, Tryz.results19, go_sem, p0, p1, p2, p3, p4, p5, p6, p7, p8, p9, p10, p11]) rfl ?_
        rw [HR.out]
        exact ⟨rfl, by rw [← hVF]; exact below_setRow BF0.out (Nat.le_refl _) _⟩
      | true =>
        have hbt := HTK.out rfl
        by_cases hqs : bk = s
        · have HR : Hid (readMsg s = some (⟨(n0 : Int), (n1 : Int), (n2 : Int), (x3 : Int), (x4 : Int), (x5 : Int), (x6 : Int), y5, es, zs, td, y6⟩ : MsgD)) := (show _ = _ by rw [HAS.out]; exact if_pos ⟨rfl, rfl, by rw [← hbt, hqs]⟩)
          have hbe : (bk.toList == s.toList) = true := by rw [hqs]; simp
          have hbn : (bk.toList != s.toList) = false := by rw [hqs]; simp
          clear hbt hqs HTK HAS
          have m0 := DF.out.2.2.1.cell (j := 0) rfl
          have m1 := DF.out.2.2.1.cell (j := 1) rfl
          have m2 := DF.out.2.2.1.cell (j := 2) rfl
          have m3 := DF.out.2.2.1.cell (j := 3) rfl
          have m4 := DF.out.2.2.1.cell (j := 4) rfl
          have m5 := DF.out.2.2.1.cell (j := 5) rfl
          have m6 := DF.out.2.2.1.cell (j := 6) rfl
          have m7 := DF.out.2.2.1.cell (j := 7) rfl
          have m8 := DF.out.2.2.1.cell (j := 8) rfl
          have m9 := DF.out.2.2.1.cell (j := 9) rfl
          have m10 := DF.out.2.2.1.cell (j := 10) rfl
          have m11 := DF.out.2.2.1.cell (j := 11) rfl
          obtain ⟨VF, hVF⟩ : ∃ W, wf.setRow w.heap.size #[.int .i64 (n0 : Int), .int .i64 (n1 : Int), .int .i64 (n2 : Int), .int .i64 (x3 : Int), .int .i64 (x4 : Int), .int .i64 (x5 : Int), .int .i64 (x6 : Int), .bool y5, .slice va es.length vc, .slice vb zs.length vd, .string td, .bool y6] = W := ⟨_, rfl⟩
          have PF : BlockIs VF w.heap.size 39 [.int .i64 (n0 : Int), .int .i64 (n1 : Int), .int .i64 (n2 : Int), .int .i64 (x3 : Int), .int .i64 (x4 : Int), .int .i64 (x5 : Int), .int .i64 (x6 : Int), .bool y5, .slice va es.length vc, .slice vb zs.length vd, .string td, .bool y6] := by rw [← hVF]; exact whole_block PF0.out _
          have pf0 := PF.cell (j := 0) rfl
          have pf1 := PF.cell (j := 1) rfl
          have pf2 := PF.cell (j := 2) rfl
          have pf3 := PF.cell (j := 3) rfl
          have pf4 := PF.cell (j := 4) rfl
          have pf5 := PF.cell (j := 5) rfl
          have pf6 := PF.cell (j := 6) rfl
          have pf7 := PF.cell (j := 7) rfl
          have pf8 := PF.cell (j := 8) rfl
          have pf9 := PF.cell (j := 9) rfl
          have pf10 := PF.cell (j := 10) rfl
          have pf11 := PF.cell (j := 11) rfl
          clear PF
          go_wp2_with (first | (refine wpList_store_whole msg_size PF0.out rfl rfl _ _ rfl _ rfl rfl rfl (by simp [Value.oneCell']) ?_; rw [hVF]) | fail)
          refine bodyPost_ret (v := .tuple #[.agg #[.int .i64 (n0 : Int), .int .i64 (n1 : Int), .int .i64 (n2 : Int), .int .i64 (x3 : Int), .int .i64 (x4 : Int), .int .i64 (x5 : Int), .int .i64 (x6 : Int), .bool y5, .slice va es.length vc, .slice vb zs.length vd, .string td, .bool y6], .bool true]) (by simp [results, Tryz.results19, go_sem, pf0, pf1, pf2, pf3, pf4, pf5, pf6, pf7, pf8, pf9, pf10, pf11]) rfl ?_
          rw [HR.out]
          refine ⟨va, vc, vb, vd, rfl, ⟨?_, ?_⟩, by rw [← hVF]; exact below_setRow BF0.out (Nat.le_refl _) _⟩
          · rw [← hVF]; exact row_ext REF.out fun g cs h9 => whole_other h9 (fun e => by rw [← e] at h9; exact absurd (block_one h9 PF0.out).1 (by decide)) _
          · rw [← hVF]; exact row_ext RIF.out fun g cs h9 => whole_other h9 (fun e => by rw [← e] at h9; exact absurd (block_one h9 PF0.out).1 (by decide)) _
        · have HR : Hid (readMsg s = none) := (show _ = _ by rw [HAS.out]; exact if_neg (fun h => hqs (by rw [hbt]; exact h.2.2)))
          have hne : bk.toList ≠ s.toList := fun q => hqs (by rw [ByteArray.toList_eq, ByteArray.toList_eq] at q; exact ByteArray.ext (Array.toList_inj.1 q))
          have hbe : (bk.toList == s.toList) = false := by rw [beq_eq_false_iff_ne]; exact hne
          have hbn : (bk.toList != s.toList) = true := by simp [hne]
          clear hbt hqs hne HTK HAS
          obtain ⟨VF, hVF⟩ : ∃ W, wf.setRow w.heap.size #[.int .i64 0, .int .i64 0, .int .i64 0, .int .i64 0, .int .i64 0, .int .i64 0, .int .i64 0, .bool false, .slice none 0 0, .slice none 0 0, .string ⟨#[]⟩, .bool false] = W := ⟨_, rfl⟩
          have PF : BlockIs VF w.heap.size 39 [.int .i64 0, .int .i64 0, .int .i64 0, .int .i64 0, .int .i64 0, .int .i64 0, .int .i64 0, .bool false, .slice none 0 0, .slice none 0 0, .string ⟨#[]⟩, .bool false] := by rw [← hVF]; exact whole_block PF0.out _
          have p0 := PF.cell (j := 0) rfl
          have p1 := PF.cell (j := 1) rfl
          have p2 := PF.cell (j := 2) rfl
          have p3 := PF.cell (j := 3) rfl
          have p4 := PF.cell (j := 4) rfl
          have p5 := PF.cell (j := 5) rfl
          have p6 := PF.cell (j := 6) rfl
          have p7 := PF.cell (j := 7) rfl
          have p8 := PF.cell (j := 8) rfl
          have p9 := PF.cell (j := 9) rfl
          have p10 := PF.cell (j := 10) rfl
          have p11 := PF.cell (j := 11) rfl
          clear PF
          go_wp2_with (first | (refine wpList_store_whole msg_size PF0.out rfl rfl _ _ rfl _ rfl rfl rfl (by simp [Value.oneCell']) ?_; rw [hVF]) | fail)
          refine bodyPost_ret (v := .tuple #[.agg #[.int .i64 0, .int .i64 0, .int .i64 0, .int .i64 0, .int .i64 0, .int .i64 0, .int .i64 0, .bool false, .slice none 0 0, .slice none 0 0, .string ⟨#[]⟩, .bool false], .bool false]) (by simp [results, Tryz.results19, go_sem, p0, p1, p2, p3, p4, p5, p6, p7, p8, p9, p10, p11]) rfl ?_
          rw [HR.out]
          exact ⟨rfl, by rw [← hVF]; exact below_setRow BF0.out (Nat.le_refl _) _⟩
  · have q3' : takeStN s 3 (some 0) = none := by simp [takeStN]; omega
    rw [q3'] at q3
    subst q3
    have HR : Hid (readMsg s = none) := readMsg_short (by omega)
    obtain ⟨kc, hkc, hcu, hjc⟩ := R1.out
    have cb := BlockIs.cell hcu (j := 2) rfl
    rw [show Option.isNone (none : Option Nat) = true from rfl] at cb
    clear hcu hjc q3'
    obtain ⟨VF, hVF⟩ : ∃ W, w1.setRow w.heap.size #[.int .i64 0, .int .i64 0, .int .i64 0, .int .i64 0, .int .i64 0, .int .i64 0, .int .i64 0, .bool false, .slice none 0 0, .slice none 0 0, .string ⟨#[]⟩, .bool false] = W := ⟨_, rfl⟩
    have PF : BlockIs VF w.heap.size 39 [.int .i64 0, .int .i64 0, .int .i64 0, .int .i64 0, .int .i64 0, .int .i64 0, .int .i64 0, .bool false, .slice none 0 0, .slice none 0 0, .string ⟨#[]⟩, .bool false] := by rw [← hVF]; exact whole_block P1.out _
    have p0 := PF.cell (j := 0) rfl
    have p1 := PF.cell (j := 1) rfl
    have p2 := PF.cell (j := 2) rfl
    have p3 := PF.cell (j := 3) rfl
    have p4 := PF.cell (j := 4) rfl
    have p5 := PF.cell (j := 5) rfl
    have p6 := PF.cell (j := 6) rfl
    have p7 := PF.cell (j := 7) rfl
    have p8 := PF.cell (j := 8) rfl
    have p9 := PF.cell (j := 9) rfl
    have p10 := PF.cell (j := 10) rfl
    have p11 := PF.cell (j := 11) rfl
    clear PF
    go_wp2_with (first | (refine wpList_store_whole msg_size P1.out rfl rfl _ _ rfl _ rfl rfl rfl (by simp [Value.oneCell']) ?_; rw [hVF]) | fail)
    refine bodyPost_ret (v := .tuple #[.agg #[.int .i64 0, .int .i64 0, .int .i64 0, .int .i64 0, .int .i64 0, .int .i64 0, .int .i64 0, .bool false, .slice none 0 0, .slice none 0 0, .string ⟨#[]⟩, .bool false], .bool false]) (by simp [results, Tryz.results19, go_sem, p0, p1, p2, p3, p4, p5, p6, p7, p8, p9, p10, p11]) rfl ?_
    rw [HR.out]
    exact ⟨rfl, by rw [← hVF]; exact below_setRow B1.out (Nat.le_refl _) _⟩
end Go.Proofs.YtohmfmajgehadaaGreatDoor

namespace Go.Proofs.YtohmfmajgehadaaGreatDoor
open Go.RowKit

set_option maxRecDepth 1000000 in
set_option maxHeartbeats 1000000 in
theorem sameInts_same (ao bo : Option Addr) (zs : List Int) (c c' : Nat) (hl : zs.length ≤ 1048576) (w : World) (ha : IntsAt w ao zs) (hb : IntsAt w bo zs) :
    Calls Tryz.prog 47 #[.slice ao zs.length c, .slice bo zs.length c'] w fun e w' => e = .returned (.bool true) ∧ Below w.heap.size w w' := by
  have HA := hid ha
  have HB := hid hb
  clear ha hb
  go_enter Tryz.func47, Tryz.ntmps47
  go_wp2
  go_loopg [5] zs.length (fun g i wr => ∃ (k : Nat), k + g = zs.length ∧ i = .int .i64 k ∧ Hid (Below w.heap.size w wr))
  case atStart => exact ⟨0, by omega, rfl, (show Below _ _ _ from Below.refl _ _)⟩
  case round =>
    obtain ⟨k, hkg, rfl, BR⟩ := hrel
    cases gk with
    | zero =>
      have hlt : ¬ (k : Int) < (zs.length : Int) := by omega
      go_wp2
      go_ret
      exact ⟨rfl, BR.out⟩
    | succ g =>
      have hlt : k < zs.length := by omega
      have hlt' : (k : Int) < (zs.length : Int) := by omega
      have hne : zs ≠ [] := by intro e; rw [e] at hlt; simp at hlt
      obtain ⟨b, off, rfl, hc⟩ := HA.out.on BR.out hne
      obtain ⟨b', off', rfl, hc'⟩ := HB.out.on BR.out hne
      have x0 := hc k hlt
      have y0 := hc' k hlt
      clear hc hc'
      go_wp2
      go_quiet (fail)
      have BQ := hid (below_drewN BR.out nq)
      generalize wr.drewN nq = wq at BQ ⊢
      clear x0 y0
      go_wp2
      go_roundg g
      case measure => omega
      case rel => exact ⟨k + 1, by omega, by go_num, BQ⟩
end Go.Proofs.YtohmfmajgehadaaGreatDoor
