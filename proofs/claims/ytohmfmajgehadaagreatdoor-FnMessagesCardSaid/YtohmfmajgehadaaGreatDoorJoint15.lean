/-
  Rows of the call's own that a drawer keeps: entries that grow, what stands beside them.
  What a message's bytes and what is read of them say of each other; a message's rows of the call's own.
  The walk of spec.l01Text: a text of at most so many bytes.
-/
import Derived.Test.YtohmfmajgehadaaGreatDoorJoint14
import Derived.Test.YtohmfmajgehadaaGreatDoorJoint1
import Derived.Test.YtohmfmajgehadaaGreatDoorJoint10
import Derived.Test.YtohmfmajgehadaaGreatDoorJoint2
namespace Go.Proofs.YtohmfmajgehadaaGreatDoor
open Go.RowKit Go.Sort

theorem entCells_snocM (l : List EntD) (e : EntD) : entCells (l ++ [e]) = entCells l ++ entEnc e := by simp [entCells]
theorem terms_moreM {t tm : Int} {L : List EntD} {d : EntD} (h : termsOk t L = true) (hl : lastT t L ≤ tm) (hd : d.Short tm) (hw : within tm 0 100000 = true) : termsOk t (L ++ [d]) = true ∧ lastT t (L ++ [d]) ≤ tm := by
  have h1 := hd.1
  have h2 := hd.2.2.2.2 hw
  rw [termsOk_append, lastT_append, h]
  refine ⟨?_, by simp [lastT, h1]⟩
  simp [termsOk, h2, h1, hl]
theorem row_fromM {x y : World} {base size n : Nat} {t : TypeId} {v : Value} {xs : List Value} (h : x.ownsRow base t size v n xs) (hb : ∀ g cs, base ≤ g → BlockIs x g t cs → BlockIs y g t cs) : y.ownsRow base t size v n xs := by
  refine ⟨h.1, h.2.imp id ?_⟩
  rintro ⟨g, cap, cur, a, b, c, r⟩
  have := hb g cur.toList b (by unfold BlockIs; rw [c])
  unfold BlockIs at this
  exact ⟨g, cap, cur, a, b, by rw [this], r⟩
theorem row_belowM {x y : World} {base size n : Nat} {t : TypeId} {v : Value} {xs : List Value} (h : x.ownsRow base t size v n xs) (hb : Below x.heap.size x y) : y.ownsRow base t size v n xs := row_fromM h fun _ _ _ q => q.on hb q.lt
theorem row_pastM {x y : World} {base size n C : Nat} {t : TypeId} {v : Value} {xs : List Value} (h : x.ownsRow base t size v n xs) (hb : x.grownBy y (some C)) (hC : C < base) : y.ownsRow base t size v n xs := row_fromM h fun _ _ hg q => q.cur hb (by omega)
theorem row_setM {x : World} {base size n b j : Nat} {t : TypeId} {v u : Value} {xs : List Value} (h : x.ownsRow base t size u n xs) (hb : b < base) : (x.setCell ⟨b, j, none⟩ v).ownsRow base t size u n xs := row_fromM h fun _ _ hg q => q.far (by omega) v
/-- a cell of a block of another kind is written -/
theorem row_kindM {x : World} {base size n b j : Nat} {t t' : TypeId} {v u : Value} {xs cs : List Value} (h : x.ownsRow base t size u n xs) (hb : BlockIs x b t' cs) (ht : t ≠ t') : (x.setCell ⟨b, j, none⟩ v).ownsRow base t size u n xs := row_fromM h fun g cs' _ q => q.far (by intro e; subst e; exact ht (block_one q hb).1) v
theorem grown_rowN {w W W' : World} {C : Nat} {r : Option Nat} (h : w.grownBy W (some C)) (hg : W.grownBy W' r) (hr : ∀ j, r = some j → w.heap.size ≤ j) : w.grownBy W' (some C) :=
  ⟨hg.os.trans h.os, hg.tape.trans h.tape, hg.output.trans h.output, Nat.le_trans h.size hg.size, fun j hj hne => by
    rw [hg.block j (by have := h.size; omega) (fun e => by have := hr j e.symm; omega)]
    exact h.block j hj hne⟩
theorem row_entsM {w : World} {base c : Nat} {va : Option Addr} {L : List EntD} (h : w.ownsRow base 57 3 (.slice va L.length c) L.length (entCells L)) : EntsAt w va L := by
  intro hne
  rcases h.2 with ⟨_, h0⟩ | ⟨g, cp, cur, hv, hgb, hh, hle, hmx, hsz, ht⟩
  · exact absurd (List.length_eq_zero_iff.1 h0) hne
  · simp only [Value.slice.injEq] at hv
    obtain ⟨rfl, _, rfl⟩ := hv
    have hc : BlockIs w g 57 (entCells L ++ cur.toList.drop (L.length * 3)) := by
      unfold BlockIs
      rw [hh]
      have : entCells L ++ cur.toList.drop (L.length * 3) = cur.toList := by rw [← ht, List.take_append_drop]
      rw [this]
    exact entsAt_of hc hne
end Go.Proofs.YtohmfmajgehadaaGreatDoor

namespace Go.Proofs.YtohmfmajgehadaaGreatDoor
open Go.RowKit

theorem msgText_small {d : MsgD} (h : messageOk d = true) : (msgText d).size ≤ 20000 := by
  have r := messageOk_facts h
  have e1 := vb_len (n := d.term.toNat) (by have := r.term; omega)
  have e2 := vb_len (n := d.index.toNat) (by have := r.index; omega)
  have e3 := vb_len (n := d.logTerm.toNat) (by have := r.logTerm; omega)
  have e4 := vb_len (n := d.commit.toNat) (by have := r.commit; omega)
  have e5 := vb_len (n := d.ents.length) (by have := r.ents; omega)
  have e6 := sentL_sum d.ents r.each
  have e7 := r.ents
  have e8 := r.confs.1
  have hc : (confB d.conf).size = d.conf.length := confB_size
  have e9 := shortL_len (s := confB d.conf) (by omega)
  have e10 := shortL_len (s := d.data) (by have := r.data; omega)
  have e11 := r.data
  have f1 := flagL_len d.ok
  have f2 := flagL_len d.last
  show (msgL d).toArray.size ≤ 20000
  simp only [List.size_toArray, msgL, headL, List.length_append, List.length_cons, List.length_nil]
  omega
/-- what Encode tells, and what is read of it -/
theorem msg_told (d : MsgD) : ∃ (t : ByteArray) (ok : Bool), encAns d = .tuple #[.string t, .bool ok] ∧ ok = messageOk d ∧ t.size ≤ 20000 ∧ (ok = true → t = msgText d ∧ readMsg t = some d) := by
  unfold encAns
  split
  · rename_i h
    exact ⟨_, _, rfl, h.symm, msgText_small h, fun _ => ⟨rfl, (msg_back h).1⟩⟩
  · rename_i h
    exact ⟨_, _, rfl, by simpa using h, by decide, fun q => by cases q⟩
def msgOf (o : Option MsgD) : MsgD := o.getD noMsg
theorem msg_small {d : MsgD} (h : messageOk d = true) : d.Small := by
  have r := messageOk_facts h
  exact ⟨by have := r.ents; omega, fun f hf => by have := (entry_facts (r.each f hf)).2.2; omega, by have := r.confs.1; omega, by have := r.data; omega⟩
theorem noMsg_small : noMsg.Small := ⟨Nat.zero_le _, fun f hf => by simp [noMsg] at hf, Nat.zero_le _, Nat.zero_le _⟩
/-- what is read of a text, and Encode of that -/
theorem msg_asked (s : ByteArray) : ∃ (d : MsgD) (b : Bool), msgOf (readMsg s) = d ∧ (readMsg s).isSome = b ∧ d.Small ∧ ∃ (t : ByteArray) (ok : Bool), encAns d = .tuple #[.string t, .bool ok] ∧ (b = true → t = s) := by
  refine ⟨_, _, rfl, rfl, ?_, ?_⟩
  · cases h : readMsg s with
    | none => exact noMsg_small
    | some d => exact msg_small (readMsg_ok h).1
  · obtain ⟨t, ok, ha, ho, _, hk⟩ := msg_told (msgOf (readMsg s))
    refine ⟨t, ok, ha, fun hb => ?_⟩
    obtain ⟨d, hp⟩ := Option.isSome_iff_exists.1 hb
    have hq := readMsg_ok hp
    have h1 : msgOf (readMsg s) = d := by rw [hp]; rfl
    rw [h1] at ho hk
    rw [(hk (ho.trans hq.1)).1, hq.2]
/-- a message's two rows -/
def MRows (W : World) (lo : Nat) (va : Option Addr) (vc : Nat) (vb : Option Addr) (vd : Nat) (d : MsgD) : Prop := W.ownsRow lo 57 3 (.slice va d.ents.length vc) d.ents.length (entCells d.ents) ∧ W.ownsRow lo 3 1 (.slice vb d.conf.length vd) d.conf.length (intCells d.conf)
theorem MRows.on {W W' : World} {lo : Nat} {va vb : Option Addr} {vc vd : Nat} {d : MsgD} (h : MRows W lo va vc vb vd d) (hb : Below W.heap.size W W') : MRows W' lo va vc vb vd d := ⟨row_belowM h.1 hb, row_belowM h.2 hb⟩
theorem MRows.ents {W : World} {lo : Nat} {va vb : Option Addr} {vc vd : Nat} {d : MsgD} (h : MRows W lo va vc vb vd d) : EntsAt W va d.ents := row_entsM h.1
theorem MRows.confs {W : World} {lo : Nat} {va vb : Option Addr} {vc vd : Nat} {d : MsgD} (h : MRows W lo va vc vb vd d) : IntsAt W vb d.conf := by
  intro hne
  rcases h.2.2 with ⟨_, h0⟩ | ⟨g, cp, cur, hv, hgb, hh, hle, hmx, hsz, ht⟩
  · exact absurd (List.length_eq_zero_iff.1 h0) hne
  · simp only [Value.slice.injEq] at hv
    obtain ⟨rfl, _, rfl⟩ := hv
    have hc : BlockIs W g 3 (intCells d.conf ++ cur.toList.drop (d.conf.length * 1)) := by
      unfold BlockIs
      rw [hh]
      have : intCells d.conf ++ cur.toList.drop (d.conf.length * 1) = cur.toList := by rw [← ht, List.take_append_drop]
      rw [this]
    exact intsAt_of hc hne
theorem dec_rows {o : Option MsgD} {w w' : World} {e : Ending} (h : decDid o w e w') : ∃ (va : Option Addr) (vc : Nat) (vb : Option Addr) (vd : Nat), e = .returned (.tuple #[.agg #[.int .i64 (msgOf o).kind, .int .i64 (msgOf o).src, .int .i64 (msgOf o).dst, .int .i64 (msgOf o).term, .int .i64 (msgOf o).index, .int .i64 (msgOf o).logTerm, .int .i64 (msgOf o).commit, .bool (msgOf o).ok, .slice va (msgOf o).ents.length vc, .slice vb (msgOf o).conf.length vd, .string (msgOf o).data, .bool (msgOf o).last], .bool o.isSome]) ∧ MRows w' w.heap.size va vc vb vd (msgOf o) ∧ Below w.heap.size w w' := by
  cases o with
  | none =>
    obtain ⟨rfl, hb⟩ := h
    exact ⟨none, 0, none, 0, rfl, ⟨⟨rfl, Or.inl ⟨rfl, rfl⟩⟩, ⟨rfl, Or.inl ⟨rfl, rfl⟩⟩⟩, hb⟩
  | some d =>
    obtain ⟨va, vc, vb, vd, rfl, hr, hb⟩ := h
    exact ⟨va, vc, vb, vd, rfl, hr, hb⟩
end Go.Proofs.YtohmfmajgehadaaGreatDoor

namespace Go.Proofs.YtohmfmajgehadaaGreatDoor
open Go.RowKit

theorem curText_info5 : (Tryz.prog.info? 5).map (fun i => (i.zero, i.size, i.bytes)) = some (some (.int .u8 0), 1, 1) := by kernel_rfl

/-- the row and the cursor behind a round -/
theorem text_step {C k : Nat} {l : List UInt8} {w wr w2 w1 : World} {v v' : Value} {B : Obj} {x : Int} (hC : C < w.heap.size) (x0 : 0 ≤ x) (x1 : x ≤ 255) (hl : l.length = k)
    (hown : wr.ownsRow w.heap.size 5 1 v k (cs l)) (hgr : w.grownBy wr (some C)) (k2 : CurAt w2 C) (q2 : wr.grownBy w2 (some C))
    (hown' : w1.ownsRow w.heap.size 5 1 v' (k + 1) (cs l ++ [.int .u8 x])) (hgrow : (w2.alloc B).grownBy w1 v.ownBlock) :
    (∃ l', l'.length = k + 1 ∧ w1.ownsRow w.heap.size 5 1 v' (k + 1) (cs l')) ∧ CurAt w1 C ∧ w.grownBy w1 (some C) := by
  have hr : ∀ j, v.ownBlock = some j → w.heap.size ≤ j := fun j hj => (hown.lt j hj).1
  refine ⟨⟨l ++ [UInt8.ofNat x.toNat], by simp [hl], by rw [cs_append, ← cs_one x0 x1]; exact hown'⟩, ?_, ?_⟩
  · exact (k2.kept (World.grownBy_alloc w2 B none) (fun j h => by cases h)).kept hgrow (fun j hj => by have := hr j hj; omega)
  · have q3 : w.grownBy w2 (some C) := hgr.trans q2
    have q4 : w.grownBy (w2.alloc B) (some C) := q3.trans (World.grownBy_alloc w2 B (some C))
    refine ⟨hgrow.os.trans q4.os, hgrow.tape.trans q4.tape, hgrow.output.trans q4.output, Nat.le_trans q4.size hgrow.size, fun j hj hne => ?_⟩
    rw [hgrow.block j (by have := q4.size; omega) (fun e => by have := hr j e.symm; omega)]
    exact q4.block j hj hne

theorem kept_cur {w w2 : World} {base C : Nat} {v : Value} {n : Nat} {xs : List Value} (h : w.ownsRow base 5 1 v n xs) (hg : w.grownBy w2 (some C)) (hC : C < base) : w2.ownsRow base 5 1 v n xs := by
  refine h.kept hg ?_
  cases hv : v.ownBlock with
  | none => exact Or.inl rfl
  | some g =>
    refine Or.inr fun e => ?_
    have := (h.lt g hv).1
    simp at e
    omega

set_option maxRecDepth 1000000 in
set_option maxHeartbeats 1000000 in
theorem l01Text_any (C : Nat) (n : Nat) (hn : n ≤ 5000) (w : World) (hc : CurAt w C) :
    Calls Tryz.prog 101 #[.pointer (some ⟨C, 0, none⟩), .int .i64 n] w fun e w' => ∃ s : ByteArray, e = .returned (.string s) ∧ s.size = n ∧ CurAt w' C ∧ w.grownBy w' (some C) := by
  obtain ⟨i0, hi, hz0, hz1, hz2⟩ := info_parts curText_info5
  have hCl := hc.lt
  have HC := (show Hid (CurAt w C) from hc)
  clear hc
  have g0 : ¬ (5000 : Int) < (n : Int) := by omega
  go_enter Tryz.func101, Tryz.ntmps101
  go_wp2
  go_loopw [5, 6] (fun v i wr => ∃ (k : Nat) (l : List UInt8), k ≤ n ∧ i = .int .i64 k ∧ l.length = k ∧ wr.ownsRow w.heap.size 5 1 v k (cs l) ∧ Hid (CurAt wr C) ∧ Hid (w.grownBy wr (some C))) (fun _ i _ => n - (intOf i).toNat)
  case atStart => exact ⟨0, [], Nat.zero_le _, rfl, rfl, World.ownsRow_made w #[] 0 (Nat.le_refl _) (Nat.zero_le _) rfl, HC.out.kept (World.grownBy_alloc w _ none) (fun j h => by cases h), World.grownBy_alloc w _ (some C)⟩
  case round =>
    obtain ⟨k, l, hk, rfl, hl, hown, KC, GC⟩ := hrel
    have hsz := GC.out.size
    by_cases hlt : k < n
    · go_wp2_with fail
      refine (l01Byte_any C _ KC.out).mono ?_
      rintro e w2 ⟨x, rfl, x0, x1, k2, q2⟩
      have hown2 := kept_cur hown q2 hCl
      have hsz2 := q2.size
      have K2 := (show Hid (CurAt w2 C) from k2)
      have Q2 := (show Hid (wr.grownBy w2 (some C)) from q2)
      have HL := (show Hid _ from hl)
      clear k2 q2 hl
      go_wp2_with (at_builtin; refine wpList_append_own _ rfl (.tmp 15) (.tmp 19) 22 rfl w.heap.size 5 i0 (.int .u8 0) 1 1 Tryz.underlying22 hi hz0 hz1 hz2 rfl (by decide) _ _ _ rfl (hown2.alloc _) ⟨w2.heap.size, 0, none⟩ 1 1 [.int .u8 x] rfl rfl (one_new _ _ _) (by intro u hu; simp at hu; subst hu; rfl) (by unfold maxLen; omega) (by omega) (by simp; omega) ?_)
      intro v' w1 hown' hgrow _
      obtain ⟨⟨l', r1, r2⟩, r3, r4⟩ := text_step hCl x0 x1 HL.out hown GC.out K2.out Q2.out hown' hgrow
      have R1 := (show Hid _ from r1)
      have R3 := (show Hid (CurAt w1 C) from r3)
      have R4 := (show Hid (w.grownBy w1 (some C)) from r4)
      clear hown' hgrow hown hown2 r1 r3 r4
      go_wp2
      go_roundw
      case rel => exact ⟨k + 1, l', by omega, by go_num, R1.out, r2, R3, R4⟩
      case measure => simp [intOf]; omega
    · have HL : Hid (l.length = n) := by show _ = _; omega
      have hown2 : wr.ownsRow w.heap.size 5 1 u5 l.length (cs l) := by rw [hl]; exact hown
      have hcv := text_of_row (P := Tryz.prog) Tryz.underlying22 Tryz.underlying5 Tryz.underlying9 hown2
      clear hown hown2 hl
      go_wp2
      go_ret
      exact ⟨_, rfl, by simp [ByteArray.size, HL.out], KC.out, GC.out⟩
end Go.Proofs.YtohmfmajgehadaaGreatDoor
