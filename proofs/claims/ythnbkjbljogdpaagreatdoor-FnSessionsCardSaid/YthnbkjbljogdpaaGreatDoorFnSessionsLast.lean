/-
  For every slice of bytes, laws.FnSessions returns true: a drawn command that is done, asked again, changes nothing and is replied the same; beyond the next number it is a gap; of a Token that is none it is none; nothing that was in memory is written. The library's table that strconv.Itoa reads is tied to the program's text (the card).
-/
import Derived.Test.YthnbkjbljogdpaaGreatDoorCards
import Derived.Test.YthnbkjbljogdpaaGreatDoorTie
import Derived.Test.YthnbkjbljogdpaaGreatDoorJoint25
import Derived.Test.YthnbkjbljogdpaaGreatDoorJoint23
import Derived.Test.YthnbkjbljogdpaaGreatDoorJoint46
import Derived.Test.YthnbkjbljogdpaaGreatDoorJoint45
import Derived.Test.YthnbkjbljogdpaaGreatDoorJoint48
import Derived.Test.YthnbkjbljogdpaaGreatDoorJoint1
import Derived.Test.YthnbkjbljogdpaaGreatDoorJoint24
import Derived.Deep.QuietTactic
import Derived.BigQuiet
import Derived.Deep.LoopGhost
import Derived.WalkSmall
import Derived.WalkKit
import Derived.ProofKit
import Derived.OpenShut
import Derived.OpenVars
import Derived.Deep.DeepHandedRow
import Derived.Lib.LaidTab
import Derived.Stop.LaidErr
namespace Go.Proofs.YthnbkjbljogdpaaGreatDoor.fnSessions
open Go.ChangeShapes Go.WideShapes Go.ChangeAt Go.ChangeMaps Go.RowKit

theorem same_iff {ls ms : List SessionD} {li mi : List ItemD} : keepSame ls ms li mi = true ↔ ls = ms ∧ li = mi := by
  unfold keepSame
  rw [Bool.and_eq_true, alikeBy_iff (fun _ _ => sessEq_iff), alikeBy_iff (fun _ _ => itemEq_iff)]
theorem same_self (ls : List SessionD) (li : List ItemD) : keepSame ls ls li li = true := same_iff.2 ⟨rfl, rfl⟩
/-- some session's Last went on -/
def movedTo (ls ms : List SessionD) : Nat → Bool
  | 0 => false
  | k + 1 => movedTo ls ms k || match ls[k]?, ms[k]? with
    | some a, some b => b.last != a.last
    | _, _ => false
theorem movedTo_step {ls ms : List SessionD} {k : Nat} (h1 : k < ls.length) (h2 : k < ms.length) : movedTo ls ms (k + 1) = (movedTo ls ms k || (ms[k].last != ls[k].last)) := by
  rw [movedTo, List.getElem?_eq_getElem h1, List.getElem?_eq_getElem h2]
theorem movedTo_same (ls : List SessionD) (k : Nat) : movedTo ls ls k = false := by
  induction k with
  | zero => rfl
  | succ k ih =>
    rw [movedTo, ih]
    cases ls[k]? with
    | none => rfl
    | some a => simp
theorem movedTo_set {ls ms : List SessionD} {p n : Nat} (hp : p < n) (h1 : p < ls.length) (h2 : p < ms.length) (h : ms[p].last ≠ ls[p].last) : movedTo ls ms n = true := by
  induction n with
  | zero => omega
  | succ n ih =>
    rcases Nat.lt_or_ge p n with q | q
    · rw [movedTo, ih q, Bool.true_or]
    · obtain rfl : p = n := by omega
      rw [movedTo_step h1 h2, bne_iff_ne.2 h, Bool.or_true]
theorem sess_open {ls : List SessionD} {li : List ItemD} {d : CommandD} (hk : keepOk ls li = true) (hx : commandOk d = true) (hop : d.op = 1) : (performD ls li 60 d).reply = (⟨#[111, 112, 101, 110, 32]⟩ : ByteArray) ++ decT 60 := by
  rw [performD, if_pos (may_do hk (by decide) hx), doneD, if_pos hop]
  rfl
/-- what follows behind one command -/
theorem sess_facts {ls : List SessionD} {li : List ItemD} {d : CommandD} (hk : keepOk ls li = true) (hy : Young 40 ls) (hx : commandOk d = true) (hop : d.op ≠ 1) :
    (performD ls li 60 d).ss.length = ls.length ∧
    performD (performD ls li 60 d).ss (performD ls li 60 d).is 61 ⟨d.op, 999, d.seq, d.key, d.val, d.ver⟩ = ⟨(performD ls li 60 d).ss, (performD ls li 60 d).is, ⟨#[110, 111, 110, 101]⟩, true⟩ ∧
    (((performD ls li 60 d).ss = ls ∧ (performD ls li 60 d).is = li) ∨
      (movedTo ls (performD ls li 60 d).ss ls.length = true ∧ performD (performD ls li 60 d).ss (performD ls li 60 d).is 61 d = ⟨(performD ls li 60 d).ss, (performD ls li 60 d).is, (performD ls li 60 d).reply, true⟩ ∧
        performD (performD ls li 60 d).ss (performD ls li 60 d).is 61 ⟨d.op, d.token, d.seq + 9, d.key, d.val, d.ver⟩ = ⟨(performD ls li 60 d).ss, (performD ls li 60 d).is, ⟨#[103, 97, 112]⟩, true⟩)) := by
  have h60 : (1 : Int) ≤ 60 ∧ (60 : Int) ≤ 400000 := by decide
  have h61 : (1 : Int) ≤ 61 ∧ (61 : Int) ≤ 400000 := by decide
  have hdid := done_right (may_do hk h60 hx)
  have hPe : performD ls li 60 d = doneD ls li 60 d := by rw [performD, if_pos (may_do hk h60 hx)]
  rw [← hPe] at hdid
  have hka := hdid.1
  rcases talk_did hk h60 hx hop with ⟨e1, e2⟩ | ⟨p, hp, ht, hq, hm⟩
  · refine ⟨by rw [e1], ?_, Or.inl ⟨e1, e2⟩⟩
    exact talk_none hka h61 hx hop (by decide) (fun s hs => by rw [e1] at hs; have := hy s hs; omega)
  · have hyp := hy ls[p] (List.getElem_mem hp)
    have hlast : 0 ≤ ls[p].last := by
      obtain ⟨⟨_, hsf, _⟩, _⟩ := keep_facts hk
      have := session_bounds (hsf ls[p] (List.getElem_mem hp))
      omega
    have hlen : (performD ls li 60 d).ss.length = ls.length := by rw [hm, List.length_set]
    have ha := talk_again (r := (performD ls li 60 d).reply) hka h61 hx hop hp (by omega) hq hm
    refine ⟨hlen, ?_, Or.inr ⟨?_, ha.1, ha.2⟩⟩
    · refine talk_none hka h61 hx hop (by decide) (fun s hs => ?_)
      rw [hm] at hs
      rcases List.mem_or_eq_of_mem_set hs with h | h
      · have := hy s h
        omega
      · rw [h]
        show d.token ≠ 999
        omega
    · have hp2 : p < (performD ls li 60 d).ss.length := by rw [hlen]; exact hp
      refine movedTo_set hp hp hp2 ?_
      have : (performD ls li 60 d).ss[p].last = d.seq := by simp [hm]
      omega

set_option maxRecDepth 1000000 in
set_option maxHeartbeats 4000000 in
theorem walk (ao : Option Addr) (len cap : Nat) (hcap : len ≤ cap) (w : World) (hr : Bytes w ao len) (htab : Lib.TabIs Tryz.prog w "internal/strconv.uint64pow10" .u64 Lib.pow10Tab) :
    Calls Tryz.prog 3 #[.slice ao len cap] w fun e w' => e = .returned (.bool true) ∧ Below w.heap.size w w' := by
  have HBY := hid hr
  have HT := hid htab
  clear hr htab
  by_cases hbig : 1048576 < len
  · go_enter Tryz.func3, Tryz.ntmps3
    go_wp2
    go_ret
    exact ⟨rfl, Below.refl _ _⟩
  have hlen : len ≤ 1048576 := by omega
  clear hbig
  have B_0 : Hid (Below w.heap.size w w) := hid (Below.refl w.heap.size w)
  go_enter Tryz.func3, Tryz.ntmps3
  go_wp2_with fail
  refine (big_no ao len cap hlen _).mono ?_
  rintro e w0 ⟨rfl, hw0⟩
  rw [hw0]
  clear hw0 w0
  go_wp2_with fail
  refine Calls.mono (drawTalk_any ao len cap hlen hcap _ HBY.out) ?_
  rintro e w1 ⟨va, vc, vb, vd, ls, li, d, rfl, ⟨hko, hyo⟩, hco, qk, b1⟩
  have B_1 : Hid (Below w.heap.size w w1) := hid (below_via B_0.out b1)
  clear B_0
  clear b1
  have Qk_1 := hid qk
  clear qk HBY
  have hfk := keep_facts hko
  have hl1 : ls.length ≤ 1048576 := by have := hfk.1.2.2; omega
  have hl2 : li.length ≤ 1048576 := by have := hfk.2.2.2; omega
  clear hfk
  have hdid := done_right (may_do hko (by decide : (1 : Int) ≤ 60 ∧ (60 : Int) ≤ 400000) hco)
  have hPe : performD ls li 60 d = doneD ls li 60 d := by rw [performD, if_pos (may_do hko (by decide) hco)]
  rw [← hPe] at hdid
  have HSES := hid (fun (hop : d.op ≠ 1) => sess_facts hko hyo hco hop)
  have HOPEN := hid (fun (hop : d.op = 1) => sess_open (li := li) hko hco hop)
  obtain ⟨⟨ss, is, rp, okk⟩, hP⟩ : ∃ r, performD ls li 60 d = r := ⟨_, rfl⟩
  rw [hP] at hdid HSES HOPEN
  dsimp only at hdid
  obtain ⟨hka, hrp, rfl⟩ := hdid
  have hfa := keep_facts hka
  have hl3 : ss.length ≤ 1048576 := by have := hfa.1.2.2; omega
  have hl4 : is.length ≤ 1048576 := by have := hfa.2.2.2; omega
  clear hfa hPe
  have cP' := fun W ao bo ac bc ht ha hi => implPerform_any ao bo ls li ac bc 60 d hl1 hl2 W ht ha hi
  have cS' := fun W ao bo ac bc ha hi => specPerform_any ao bo ls li ac bc 60 d hl1 hl2 W ha hi
  rw [hP] at cP' cS'
  have cP := hid cP'
  have cS := hid cS'
  clear cP' cS' hP
  have cM' := fun W ao bo co eo ac bc cc ec h1 h2 h3 h4 => specSameKeep_any ao bo co eo ss ss is is ac bc cc ec hl3 hl4 hl3 hl4 W h1 h2 h3 h4
  rw [same_self] at cM'
  have cM := hid cM'
  have cK' := fun W ao bo ac bc h1 h2 => implKeepOk_any ao bo ss is ac bc hl3 hl4 W h1 h2
  rw [hka] at cK'
  have cK := hid cK'
  have cC' := fun W => implCommandOk_any d W
  rw [hco] at cC'
  have cC := hid cC'
  have HKA := hid hka
  clear cM' cK' cC' hka
  have HKO := hid hko
  have HCO := hid hco
  clear hko hco hyo
  obtain ⟨g0, hg0⟩ : ∃ g, w1.heap.size = g := ⟨_, rfl⟩
  obtain ⟨U0, hU0⟩ : ∃ V, ((w1.alloc (.cells #[.slice none 0 0, .slice none 0 0] 27)).alloc (.cells #[.int .i64 0, .int .i64 0, .int .i64 0, .string ⟨#[]⟩, .string ⟨#[]⟩, .int .i64 0] 29)) = V := ⟨_, rfl⟩
  have bz0 : Below w1.heap.size w1 U0 := by rw [← hU0]; exact below_more (below_more (Below.refl w1.heap.size w1) (.cells #[.slice none 0 0, .slice none 0 0] 27)) (.cells #[.int .i64 0, .int .i64 0, .int .i64 0, .string ⟨#[]⟩, .string ⟨#[]⟩, .int .i64 0] 29)
  have N0_0_0 : BlockIs U0 (g0) 27 [.slice none 0 0, .slice none 0 0] := by rw [← hg0, ← hU0]; show ((w1.heap.push _).push _)[w1.heap.size]? = some _; rw [Array.getElem?_push, if_neg (by simp), Array.getElem?_push, if_pos rfl]
  have N0_1_0 : BlockIs U0 (g0 + 1) 29 [.int .i64 0, .int .i64 0, .int .i64 0, .string ⟨#[]⟩, .string ⟨#[]⟩, .int .i64 0] := by rw [← hg0, ← hU0]; show ((w1.heap.push _).push _)[w1.heap.size + 1]? = some _; rw [Array.getElem?_push, if_pos (by simp)]
  rw [hg0] at bz0
  have o0_0 := N0_0_0.cell (j := 0) rfl
  have f0_0 := N0_0_0.thaw 0
  obtain ⟨V0_0, hV0_0⟩ : ∃ V, U0.setCell ⟨g0, 0, none⟩ (.slice va ls.length vc) = V := ⟨_, rfl⟩
  have N0_0_1 : BlockIs V0_0 (g0) 27 [.slice va ls.length vc, .slice none 0 0] := by rw [← hV0_0]; exact N0_0_0.set 0 _
  have N0_1_1 : BlockIs V0_0 (g0 + 1) 29 [.int .i64 0, .int .i64 0, .int .i64 0, .string ⟨#[]⟩, .string ⟨#[]⟩, .int .i64 0] := by rw [← hV0_0]; exact N0_1_0.far (by omega) _
  have bz0 : Below g0 w1 V0_0 := by rw [← hV0_0]; exact bz0.setCell (by show _ ≤ g0; omega) _
  have o0_1 := N0_0_1.cell (j := 1) rfl
  have f0_1 := N0_0_1.thaw 1
  obtain ⟨V0_1, hV0_1⟩ : ∃ V, V0_0.setCell ⟨g0, 1, none⟩ (.slice vb li.length vd) = V := ⟨_, rfl⟩
  have N0_0_2 : BlockIs V0_1 (g0) 27 [.slice va ls.length vc, .slice vb li.length vd] := by rw [← hV0_1]; exact N0_0_1.set 1 _
  have N0_1_2 : BlockIs V0_1 (g0 + 1) 29 [.int .i64 0, .int .i64 0, .int .i64 0, .string ⟨#[]⟩, .string ⟨#[]⟩, .int .i64 0] := by rw [← hV0_1]; exact N0_1_1.far (by omega) _
  have bz0 : Below g0 w1 V0_1 := by rw [← hV0_1]; exact bz0.setCell (by show _ ≤ g0; omega) _
  have o0_2 := N0_1_2.cell (j := 0) rfl
  have f0_2 := N0_1_2.thaw 0
  obtain ⟨V0_2, hV0_2⟩ : ∃ V, V0_1.setCell ⟨g0 + 1, 0, none⟩ (.int .i64 d.op) = V := ⟨_, rfl⟩
  have N0_0_3 : BlockIs V0_2 (g0) 27 [.slice va ls.length vc, .slice vb li.length vd] := by rw [← hV0_2]; exact N0_0_2.far (by omega) _
  have N0_1_3 : BlockIs V0_2 (g0 + 1) 29 [.int .i64 d.op, .int .i64 0, .int .i64 0, .string ⟨#[]⟩, .string ⟨#[]⟩, .int .i64 0] := by rw [← hV0_2]; exact N0_1_2.set 0 _
  have bz0 : Below g0 w1 V0_2 := by rw [← hV0_2]; exact bz0.setCell (by show _ ≤ g0 + 1; omega) _
  have o0_3 := N0_1_3.cell (j := 1) rfl
  have f0_3 := N0_1_3.thaw 1
  obtain ⟨V0_3, hV0_3⟩ : ∃ V, V0_2.setCell ⟨g0 + 1, 1, none⟩ (.int .i64 d.token) = V := ⟨_, rfl⟩
  have N0_0_4 : BlockIs V0_3 (g0) 27 [.slice va ls.length vc, .slice vb li.length vd] := by rw [← hV0_3]; exact N0_0_3.far (by omega) _
  have N0_1_4 : BlockIs V0_3 (g0 + 1) 29 [.int .i64 d.op, .int .i64 d.token, .int .i64 0, .string ⟨#[]⟩, .string ⟨#[]⟩, .int .i64 0] := by rw [← hV0_3]; exact N0_1_3.set 1 _
  have bz0 : Below g0 w1 V0_3 := by rw [← hV0_3]; exact bz0.setCell (by show _ ≤ g0 + 1; omega) _
  have o0_4 := N0_1_4.cell (j := 2) rfl
  have f0_4 := N0_1_4.thaw 2
  obtain ⟨V0_4, hV0_4⟩ : ∃ V, V0_3.setCell ⟨g0 + 1, 2, none⟩ (.int .i64 d.seq) = V := ⟨_, rfl⟩
  have N0_0_5 : BlockIs V0_4 (g0) 27 [.slice va ls.length vc, .slice vb li.length vd] := by rw [← hV0_4]; exact N0_0_4.far (by omega) _
  have N0_1_5 : BlockIs V0_4 (g0 + 1) 29 [.int .i64 d.op, .int .i64 d.token, .int .i64 d.seq, .string ⟨#[]⟩, .string ⟨#[]⟩, .int .i64 0] := by rw [← hV0_4]; exact N0_1_4.set 2 _
  have bz0 : Below g0 w1 V0_4 := by rw [← hV0_4]; exact bz0.setCell (by show _ ≤ g0 + 1; omega) _
  have o0_5 := N0_1_5.cell (j := 3) rfl
  have f0_5 := N0_1_5.thaw 3
  obtain ⟨V0_5, hV0_5⟩ : ∃ V, V0_4.setCell ⟨g0 + 1, 3, none⟩ (.string d.key) = V := ⟨_, rfl⟩
  have N0_0_6 : BlockIs V0_5 (g0) 27 [.slice va ls.length vc, .slice vb li.length vd] := by rw [← hV0_5]; exact N0_0_5.far (by omega) _
  have N0_1_6 : BlockIs V0_5 (g0 + 1) 29 [.int .i64 d.op, .int .i64 d.token, .int .i64 d.seq, .string d.key, .string ⟨#[]⟩, .int .i64 0] := by rw [← hV0_5]; exact N0_1_5.set 3 _
  have bz0 : Below g0 w1 V0_5 := by rw [← hV0_5]; exact bz0.setCell (by show _ ≤ g0 + 1; omega) _
  have o0_6 := N0_1_6.cell (j := 4) rfl
  have f0_6 := N0_1_6.thaw 4
  obtain ⟨V0_6, hV0_6⟩ : ∃ V, V0_5.setCell ⟨g0 + 1, 4, none⟩ (.string d.val) = V := ⟨_, rfl⟩
  have N0_0_7 : BlockIs V0_6 (g0) 27 [.slice va ls.length vc, .slice vb li.length vd] := by rw [← hV0_6]; exact N0_0_6.far (by omega) _
  have N0_1_7 : BlockIs V0_6 (g0 + 1) 29 [.int .i64 d.op, .int .i64 d.token, .int .i64 d.seq, .string d.key, .string d.val, .int .i64 0] := by rw [← hV0_6]; exact N0_1_6.set 4 _
  have bz0 : Below g0 w1 V0_6 := by rw [← hV0_6]; exact bz0.setCell (by show _ ≤ g0 + 1; omega) _
  have o0_7 := N0_1_7.cell (j := 5) rfl
  have f0_7 := N0_1_7.thaw 5
  obtain ⟨V0_7, hV0_7⟩ : ∃ V, V0_6.setCell ⟨g0 + 1, 5, none⟩ (.int .i64 d.ver) = V := ⟨_, rfl⟩
  have N0_0_8 : BlockIs V0_7 (g0) 27 [.slice va ls.length vc, .slice vb li.length vd] := by rw [← hV0_7]; exact N0_0_7.far (by omega) _
  have N0_1_8 : BlockIs V0_7 (g0 + 1) 29 [.int .i64 d.op, .int .i64 d.token, .int .i64 d.seq, .string d.key, .string d.val, .int .i64 d.ver] := by rw [← hV0_7]; exact N0_1_7.set 5 _
  have bz0 : Below g0 w1 V0_7 := by rw [← hV0_7]; exact bz0.setCell (by show _ ≤ g0 + 1; omega) _
  have hN0_0 := hid N0_0_8
  have p0_0_0 := hN0_0.out.cell (j := 0) rfl
  have p0_0_1 := hN0_0.out.cell (j := 1) rfl
  have hN0_1 := hid N0_1_8
  have p0_1_0 := hN0_1.out.cell (j := 0) rfl
  have p0_1_1 := hN0_1.out.cell (j := 1) rfl
  have p0_1_2 := hN0_1.out.cell (j := 2) rfl
  have p0_1_3 := hN0_1.out.cell (j := 3) rfl
  have p0_1_4 := hN0_1.out.cell (j := 4) rfl
  have p0_1_5 := hN0_1.out.cell (j := 5) rfl
  have bzz0 : Below w1.heap.size w1 V0_7 := by rw [hg0]; exact bz0
  clear bz0 N0_0_0 N0_0_1 N0_0_2 N0_0_3 N0_0_4 N0_0_5 N0_0_6 N0_0_7 N0_0_8 N0_1_0 N0_1_1 N0_1_2 N0_1_3 N0_1_4 N0_1_5 N0_1_6 N0_1_7 N0_1_8
  have lo0 : w.heap.size ≤ g0 := by rw [← hg0]; exact B_1.out.size
  go_wp2_with fail
  clear o0_0 f0_0 o0_1 f0_1 o0_2 f0_2 o0_3 f0_3 o0_4 f0_4 o0_5 f0_5 o0_6 f0_6 o0_7 f0_7 p0_0_0 p0_0_1 p0_1_0 p0_1_1 p0_1_2 p0_1_3 p0_1_4 p0_1_5
  have Qk_2 : Hid (KRows V0_7 (w.heap.size) (.slice va ls.length vc) (.slice vb li.length vd) ls li) := hid (Qk_1.out.on bzz0)
  have B_2 : Hid (Below w.heap.size w V0_7) := hid (below_via B_1.out bzz0)
  clear Qk_1 B_1
  clear bzz0
  have Xk_2 := hN0_0
  have Xx_2 := hN0_1
  refine Calls.mono (cP.out _ _ _ _ _ (table_low HT.out B_2.out) (sessionR_at Qk_2.out.1) (itemR_at Qk_2.out.2)) ?_
  rintro e w4 ⟨va1, vc1, vb1, vd1, rfl, q_a, b_a⟩
  dsimp only at q_a ⊢
  have Xk_3 : Hid (BlockIs w4 (g0) 27 [.slice va ls.length vc, .slice vb li.length vd]) := hid (Xk_2.out.on b_a Xk_2.out.lt)
  have Xx_3 : Hid (BlockIs w4 (g0 + 1) 29 [.int .i64 d.op, .int .i64 d.token, .int .i64 d.seq, .string d.key, .string d.val, .int .i64 d.ver]) := hid (Xx_2.out.on b_a Xx_2.out.lt)
  have Qk_3 : Hid (KRows w4 (w.heap.size) (.slice va ls.length vc) (.slice vb li.length vd) ls li) := hid (Qk_2.out.on b_a)
  have B_3 : Hid (Below w.heap.size w w4) := hid (below_via B_2.out b_a)
  clear Xk_2 Xx_2 Qk_2 B_2
  clear b_a
  have Qa_3 : Hid (KRows w4 (V0_7.heap.size) (.slice va1 ss.length vc1) (.slice vb1 is.length vd1) ss is) := hid q_a
  clear q_a
  obtain ⟨g1, hg1⟩ : ∃ g, w4.heap.size = g := ⟨_, rfl⟩
  obtain ⟨U1, hU1⟩ : ∃ V, (w4.alloc (.cells #[.slice none 0 0, .slice none 0 0] 27)) = V := ⟨_, rfl⟩
  have bz1 : Below w4.heap.size w4 U1 := by rw [← hU1]; exact below_more (Below.refl w4.heap.size w4) (.cells #[.slice none 0 0, .slice none 0 0] 27)
  have N1_0_0 : BlockIs U1 (g1) 27 [.slice none 0 0, .slice none 0 0] := by rw [← hg1, ← hU1]; exact heap_alloc_new _ _
  rw [hg1] at bz1
  have o1_0 := N1_0_0.cell (j := 0) rfl
  have f1_0 := N1_0_0.thaw 0
  obtain ⟨V1_0, hV1_0⟩ : ∃ V, U1.setCell ⟨g1, 0, none⟩ (.slice va1 ss.length vc1) = V := ⟨_, rfl⟩
  have N1_0_1 : BlockIs V1_0 (g1) 27 [.slice va1 ss.length vc1, .slice none 0 0] := by rw [← hV1_0]; exact N1_0_0.set 0 _
  have bz1 : Below g1 w4 V1_0 := by rw [← hV1_0]; exact bz1.setCell (by show _ ≤ g1; omega) _
  have o1_1 := N1_0_1.cell (j := 1) rfl
  have f1_1 := N1_0_1.thaw 1
  obtain ⟨V1_1, hV1_1⟩ : ∃ V, V1_0.setCell ⟨g1, 1, none⟩ (.slice vb1 is.length vd1) = V := ⟨_, rfl⟩
  have N1_0_2 : BlockIs V1_1 (g1) 27 [.slice va1 ss.length vc1, .slice vb1 is.length vd1] := by rw [← hV1_1]; exact N1_0_1.set 1 _
  have bz1 : Below g1 w4 V1_1 := by rw [← hV1_1]; exact bz1.setCell (by show _ ≤ g1; omega) _
  have hN1_0 := hid N1_0_2
  have p1_0_0 := hN1_0.out.cell (j := 0) rfl
  have p1_0_1 := hN1_0.out.cell (j := 1) rfl
  have bzz1 : Below w4.heap.size w4 V1_1 := by rw [hg1]; exact bz1
  clear bz1 N1_0_0 N1_0_1 N1_0_2
  have ltk_1 : g0 < g1 := by rw [← hg1]; exact Xk_3.out.lt
  have ltx_1 : g0 + 1 < g1 := by rw [← hg1]; exact Xx_3.out.lt
  have lo1 : w.heap.size ≤ g1 := by rw [← hg1]; exact B_3.out.size
  have Zk := Xk_3.out.on bzz1 Xk_3.out.lt
  have zk0 := Zk.cell (j := 0) rfl
  have zk1 := Zk.cell (j := 1) rfl
  clear Zk
  have Zx := Xx_3.out.on bzz1 Xx_3.out.lt
  have zx0 := Zx.cell (j := 0) rfl
  have zx1 := Zx.cell (j := 1) rfl
  have zx2 := Zx.cell (j := 2) rfl
  have zx3 := Zx.cell (j := 3) rfl
  have zx4 := Zx.cell (j := 4) rfl
  have zx5 := Zx.cell (j := 5) rfl
  clear Zx
  go_wp2_with fail
  clear zk0 zk1 zx0 zx1 zx2 zx3 zx4 zx5
  clear o1_0 f1_0 o1_1 f1_1 p1_0_0 p1_0_1
  have Xk_4 : Hid (BlockIs V1_1 (g0) 27 [.slice va ls.length vc, .slice vb li.length vd]) := hid (Xk_3.out.on bzz1 Xk_3.out.lt)
  have Xx_4 : Hid (BlockIs V1_1 (g0 + 1) 29 [.int .i64 d.op, .int .i64 d.token, .int .i64 d.seq, .string d.key, .string d.val, .int .i64 d.ver]) := hid (Xx_3.out.on bzz1 Xx_3.out.lt)
  have Qk_4 : Hid (KRows V1_1 (w.heap.size) (.slice va ls.length vc) (.slice vb li.length vd) ls li) := hid (Qk_3.out.on bzz1)
  have Qa_4 : Hid (KRows V1_1 (V0_7.heap.size) (.slice va1 ss.length vc1) (.slice vb1 is.length vd1) ss is) := hid (Qa_3.out.on bzz1)
  have B_4 : Hid (Below w.heap.size w V1_1) := hid (below_via B_3.out bzz1)
  clear Xk_3 Xx_3 Qk_3 Qa_3 B_3
  clear bzz1
  have Xa_4 := hN1_0
  refine Calls.mono (cS.out _ _ _ _ _ (sessionR_at Qk_4.out.1) (itemR_at Qk_4.out.2)) ?_
  rintro e w5 ⟨va2, vc2, vb2, vd2, rfl, q_t, b_t⟩
  dsimp only at q_t ⊢
  have Xk_5 : Hid (BlockIs w5 (g0) 27 [.slice va ls.length vc, .slice vb li.length vd]) := hid (Xk_4.out.on b_t Xk_4.out.lt)
  have Xx_5 : Hid (BlockIs w5 (g0 + 1) 29 [.int .i64 d.op, .int .i64 d.token, .int .i64 d.seq, .string d.key, .string d.val, .int .i64 d.ver]) := hid (Xx_4.out.on b_t Xx_4.out.lt)
  have Xa_5 : Hid (BlockIs w5 (g1) 27 [.slice va1 ss.length vc1, .slice vb1 is.length vd1]) := hid (Xa_4.out.on b_t Xa_4.out.lt)
  have Qk_5 : Hid (KRows w5 (w.heap.size) (.slice va ls.length vc) (.slice vb li.length vd) ls li) := hid (Qk_4.out.on b_t)
  have Qa_5 : Hid (KRows w5 (V0_7.heap.size) (.slice va1 ss.length vc1) (.slice vb1 is.length vd1) ss is) := hid (Qa_4.out.on b_t)
  have B_5 : Hid (Below w.heap.size w w5) := hid (below_via B_4.out b_t)
  clear Xk_4 Xx_4 Xa_4 Qk_4 Qa_4 B_4
  clear b_t
  have Qt_5 : Hid (KRows w5 (V1_1.heap.size) (.slice va2 ss.length vc2) (.slice vb2 is.length vd2) ss is) := hid q_t
  clear q_t
  obtain ⟨g2, hg2⟩ : ∃ g, w5.heap.size = g := ⟨_, rfl⟩
  obtain ⟨U2, hU2⟩ : ∃ V, (w5.alloc (.cells #[.slice none 0 0, .slice none 0 0] 27)) = V := ⟨_, rfl⟩
  have bz2 : Below w5.heap.size w5 U2 := by rw [← hU2]; exact below_more (Below.refl w5.heap.size w5) (.cells #[.slice none 0 0, .slice none 0 0] 27)
  have N2_0_0 : BlockIs U2 (g2) 27 [.slice none 0 0, .slice none 0 0] := by rw [← hg2, ← hU2]; exact heap_alloc_new _ _
  rw [hg2] at bz2
  have o2_0 := N2_0_0.cell (j := 0) rfl
  have f2_0 := N2_0_0.thaw 0
  obtain ⟨V2_0, hV2_0⟩ : ∃ V, U2.setCell ⟨g2, 0, none⟩ (.slice va2 ss.length vc2) = V := ⟨_, rfl⟩
  have N2_0_1 : BlockIs V2_0 (g2) 27 [.slice va2 ss.length vc2, .slice none 0 0] := by rw [← hV2_0]; exact N2_0_0.set 0 _
  have bz2 : Below g2 w5 V2_0 := by rw [← hV2_0]; exact bz2.setCell (by show _ ≤ g2; omega) _
  have o2_1 := N2_0_1.cell (j := 1) rfl
  have f2_1 := N2_0_1.thaw 1
  obtain ⟨V2_1, hV2_1⟩ : ∃ V, V2_0.setCell ⟨g2, 1, none⟩ (.slice vb2 is.length vd2) = V := ⟨_, rfl⟩
  have N2_0_2 : BlockIs V2_1 (g2) 27 [.slice va2 ss.length vc2, .slice vb2 is.length vd2] := by rw [← hV2_1]; exact N2_0_1.set 1 _
  have bz2 : Below g2 w5 V2_1 := by rw [← hV2_1]; exact bz2.setCell (by show _ ≤ g2; omega) _
  have hN2_0 := hid N2_0_2
  have p2_0_0 := hN2_0.out.cell (j := 0) rfl
  have p2_0_1 := hN2_0.out.cell (j := 1) rfl
  have bzz2 : Below w5.heap.size w5 V2_1 := by rw [hg2]; exact bz2
  clear bz2 N2_0_0 N2_0_1 N2_0_2
  have ltk_2 : g0 < g2 := by rw [← hg2]; exact Xk_5.out.lt
  have ltx_2 : g0 + 1 < g2 := by rw [← hg2]; exact Xx_5.out.lt
  have lta_2 : g1 < g2 := by rw [← hg2]; exact Xa_5.out.lt
  have lo2 : w.heap.size ≤ g2 := by rw [← hg2]; exact B_5.out.size
  have Za := Xa_5.out.on bzz2 Xa_5.out.lt
  have za0 := Za.cell (j := 0) rfl
  have za1 := Za.cell (j := 1) rfl
  clear Za
  go_wp2_with fail
  clear za0 za1
  clear o2_0 f2_0 o2_1 f2_1 p2_0_0 p2_0_1
  have Xk_6 : Hid (BlockIs V2_1 (g0) 27 [.slice va ls.length vc, .slice vb li.length vd]) := hid (Xk_5.out.on bzz2 Xk_5.out.lt)
  have Xx_6 : Hid (BlockIs V2_1 (g0 + 1) 29 [.int .i64 d.op, .int .i64 d.token, .int .i64 d.seq, .string d.key, .string d.val, .int .i64 d.ver]) := hid (Xx_5.out.on bzz2 Xx_5.out.lt)
  have Xa_6 : Hid (BlockIs V2_1 (g1) 27 [.slice va1 ss.length vc1, .slice vb1 is.length vd1]) := hid (Xa_5.out.on bzz2 Xa_5.out.lt)
  have Qk_6 : Hid (KRows V2_1 (w.heap.size) (.slice va ls.length vc) (.slice vb li.length vd) ls li) := hid (Qk_5.out.on bzz2)
  have Qa_6 : Hid (KRows V2_1 (V0_7.heap.size) (.slice va1 ss.length vc1) (.slice vb1 is.length vd1) ss is) := hid (Qa_5.out.on bzz2)
  have Qt_6 : Hid (KRows V2_1 (V1_1.heap.size) (.slice va2 ss.length vc2) (.slice vb2 is.length vd2) ss is) := hid (Qt_5.out.on bzz2)
  have B_6 : Hid (Below w.heap.size w V2_1) := hid (below_via B_5.out bzz2)
  clear Xk_5 Xx_5 Xa_5 Qk_5 Qa_5 Qt_5 B_5
  clear bzz2
  have Xt_6 := hN2_0
  refine Calls.mono (cM.out _ _ _ _ _ _ _ _ _ (sessionR_at Qa_6.out.1) (itemR_at Qa_6.out.2) (sessionR_at Qt_6.out.1) (itemR_at Qt_6.out.2)) ?_
  rintro e w6 ⟨rfl, b_s⟩
  have Xk_7 : Hid (BlockIs w6 (g0) 27 [.slice va ls.length vc, .slice vb li.length vd]) := hid (Xk_6.out.on b_s Xk_6.out.lt)
  have Xx_7 : Hid (BlockIs w6 (g0 + 1) 29 [.int .i64 d.op, .int .i64 d.token, .int .i64 d.seq, .string d.key, .string d.val, .int .i64 d.ver]) := hid (Xx_6.out.on b_s Xx_6.out.lt)
  have Xa_7 : Hid (BlockIs w6 (g1) 27 [.slice va1 ss.length vc1, .slice vb1 is.length vd1]) := hid (Xa_6.out.on b_s Xa_6.out.lt)
  have Xt_7 : Hid (BlockIs w6 (g2) 27 [.slice va2 ss.length vc2, .slice vb2 is.length vd2]) := hid (Xt_6.out.on b_s Xt_6.out.lt)
  have Qk_7 : Hid (KRows w6 (w.heap.size) (.slice va ls.length vc) (.slice vb li.length vd) ls li) := hid (Qk_6.out.on b_s)
  have Qa_7 : Hid (KRows w6 (V0_7.heap.size) (.slice va1 ss.length vc1) (.slice vb1 is.length vd1) ss is) := hid (Qa_6.out.on b_s)
  have Qt_7 : Hid (KRows w6 (V1_1.heap.size) (.slice va2 ss.length vc2) (.slice vb2 is.length vd2) ss is) := hid (Qt_6.out.on b_s)
  have B_7 : Hid (Below w.heap.size w w6) := hid (below_via B_6.out b_s)
  clear Xk_6 Xx_6 Xa_6 Xt_6 Qk_6 Qa_6 Qt_6 B_6
  clear b_s
  have ca0_1 := Xa_7.out.cell (j := 0) rfl
  have ca1_1 := Xa_7.out.cell (j := 1) rfl
  have cx0_1 := Xx_7.out.cell (j := 0) rfl
  have cx1_1 := Xx_7.out.cell (j := 1) rfl
  have cx2_1 := Xx_7.out.cell (j := 2) rfl
  have cx3_1 := Xx_7.out.cell (j := 3) rfl
  have cx4_1 := Xx_7.out.cell (j := 4) rfl
  have cx5_1 := Xx_7.out.cell (j := 5) rfl
  go_wp2_with fail
  refine Calls.mono (cK.out _ _ _ _ _ (sessionR_at Qa_7.out.1) (itemR_at Qa_7.out.2)) ?_
  rintro e w7 ⟨rfl, b_s⟩
  have Xk_8 : Hid (BlockIs w7 (g0) 27 [.slice va ls.length vc, .slice vb li.length vd]) := hid (Xk_7.out.on b_s Xk_7.out.lt)
  have Xx_8 : Hid (BlockIs w7 (g0 + 1) 29 [.int .i64 d.op, .int .i64 d.token, .int .i64 d.seq, .string d.key, .string d.val, .int .i64 d.ver]) := hid (Xx_7.out.on b_s Xx_7.out.lt)
  have Xa_8 : Hid (BlockIs w7 (g1) 27 [.slice va1 ss.length vc1, .slice vb1 is.length vd1]) := hid (Xa_7.out.on b_s Xa_7.out.lt)
  have Xt_8 : Hid (BlockIs w7 (g2) 27 [.slice va2 ss.length vc2, .slice vb2 is.length vd2]) := hid (Xt_7.out.on b_s Xt_7.out.lt)
  have Qk_8 : Hid (KRows w7 (w.heap.size) (.slice va ls.length vc) (.slice vb li.length vd) ls li) := hid (Qk_7.out.on b_s)
  have Qa_8 : Hid (KRows w7 (V0_7.heap.size) (.slice va1 ss.length vc1) (.slice vb1 is.length vd1) ss is) := hid (Qa_7.out.on b_s)
  have Qt_8 : Hid (KRows w7 (V1_1.heap.size) (.slice va2 ss.length vc2) (.slice vb2 is.length vd2) ss is) := hid (Qt_7.out.on b_s)
  have B_8 : Hid (Below w.heap.size w w7) := hid (below_via B_7.out b_s)
  clear ca0_1 ca1_1 cx0_1 cx1_1 cx2_1 cx3_1 cx4_1 cx5_1
  clear Xk_7 Xx_7 Xa_7 Xt_7 Qk_7 Qa_7 Qt_7 B_7
  clear b_s
  have cx0_2 := Xx_8.out.cell (j := 0) rfl
  have cx1_2 := Xx_8.out.cell (j := 1) rfl
  have cx2_2 := Xx_8.out.cell (j := 2) rfl
  have cx3_2 := Xx_8.out.cell (j := 3) rfl
  have cx4_2 := Xx_8.out.cell (j := 4) rfl
  have cx5_2 := Xx_8.out.cell (j := 5) rfl
  go_wp2_with fail
  refine Calls.mono (cC.out _) ?_
  rintro e w8 ⟨rfl, b_s⟩
  have Xk_9 : Hid (BlockIs w8 (g0) 27 [.slice va ls.length vc, .slice vb li.length vd]) := hid (Xk_8.out.on b_s Xk_8.out.lt)
  have Xx_9 : Hid (BlockIs w8 (g0 + 1) 29 [.int .i64 d.op, .int .i64 d.token, .int .i64 d.seq, .string d.key, .string d.val, .int .i64 d.ver]) := hid (Xx_8.out.on b_s Xx_8.out.lt)
  have Xa_9 : Hid (BlockIs w8 (g1) 27 [.slice va1 ss.length vc1, .slice vb1 is.length vd1]) := hid (Xa_8.out.on b_s Xa_8.out.lt)
  have Xt_9 : Hid (BlockIs w8 (g2) 27 [.slice va2 ss.length vc2, .slice vb2 is.length vd2]) := hid (Xt_8.out.on b_s Xt_8.out.lt)
  have Qk_9 : Hid (KRows w8 (w.heap.size) (.slice va ls.length vc) (.slice vb li.length vd) ls li) := hid (Qk_8.out.on b_s)
  have Qa_9 : Hid (KRows w8 (V0_7.heap.size) (.slice va1 ss.length vc1) (.slice vb1 is.length vd1) ss is) := hid (Qa_8.out.on b_s)
  have Qt_9 : Hid (KRows w8 (V1_1.heap.size) (.slice va2 ss.length vc2) (.slice vb2 is.length vd2) ss is) := hid (Qt_8.out.on b_s)
  have B_9 : Hid (Below w.heap.size w w8) := hid (below_via B_8.out b_s)
  clear cx0_2 cx1_2 cx2_2 cx3_2 cx4_2 cx5_2
  clear Xk_8 Xx_8 Xa_8 Xt_8 Qk_8 Qa_8 Qt_8 B_8
  clear b_s
  have cx0_3 := Xx_9.out.cell (j := 0) rfl
  have cx1_3 := Xx_9.out.cell (j := 1) rfl
  have cx2_3 := Xx_9.out.cell (j := 2) rfl
  have cx3_3 := Xx_9.out.cell (j := 3) rfl
  have cx4_3 := Xx_9.out.cell (j := 4) rfl
  have cx5_3 := Xx_9.out.cell (j := 5) rfl
  clear cK cC cP cS
  by_cases hop : d.op = 1
  · have hq1 : (d.op == 1) = true := beq_iff_eq.2 hop
    have HRP := hid (HOPEN.out hop)
    clear hop
    go_wp2_with fail
    rw [HRP.out]
    refine (starts_front _ _ (by have := decT_len (n := 60) (by decide) (by decide); have : (⟨#[111, 112, 101, 110, 32]⟩ : ByteArray).size = 5 := rfl; omega) _).mono ?_
    rintro e w9 ⟨rfl, hw9⟩
    rw [hw9]
    clear hw9
    go_wp2
    go_ret
    exact ⟨rfl, B_9.out⟩
  obtain ⟨hlen2, hn1, hcase⟩ := HSES.out hop
  clear HSES HOPEN
  obtain ⟨⟨m2, i2, rg2, o2⟩, hr2⟩ : ∃ r, performD ss is 61 ⟨d.op, d.token, d.seq + 9, d.key, d.val, d.ver⟩ = r := ⟨_, rfl⟩
  obtain ⟨⟨m3, i3, rg3, o3⟩, hr3⟩ : ∃ r, performD ss is 61 d = r := ⟨_, rfl⟩
  rw [hr2, hr3] at hcase
  have cN' := fun W ao bo ac bc ht ha hi => implPerform_any ao bo ss is ac bc 61 ⟨d.op, 999, d.seq, d.key, d.val, d.ver⟩ hl3 hl4 W ht ha hi
  rw [hn1] at cN'
  have cG' := fun W ao bo ac bc ht ha hi => implPerform_any ao bo ss is ac bc 61 ⟨d.op, d.token, d.seq + 9, d.key, d.val, d.ver⟩ hl3 hl4 W ht ha hi
  rw [hr2] at cG'
  have cA' := fun W ao bo ac bc ht ha hi => implPerform_any ao bo ss is ac bc 61 d hl3 hl4 W ht ha hi
  rw [hr3] at cA'
  have cN := hid cN'
  have cG := hid cG'
  have cA := hid cA'
  have HC := hid hcase
  have HL := hid hlen2
  have hwq : IntKind.i64.wrap (d.seq + 9) = d.seq + 9 := by have := (command_ops HCO.out).2.2; rw [IntKind.wrap_i64]; omega
  clear cN' cG' cA' hr2 hr3 hn1 hcase hlen2
  obtain ⟨g3, hg3⟩ : ∃ g, w8.heap.size = g := ⟨_, rfl⟩
  obtain ⟨U3, hU3⟩ : ∃ V, (w8.alloc (.cells #[.int .i64 0, .int .i64 0, .int .i64 0, .string ⟨#[]⟩, .string ⟨#[]⟩, .int .i64 0] 29)) = V := ⟨_, rfl⟩
  have bz3 : Below w8.heap.size w8 U3 := by rw [← hU3]; exact below_more (Below.refl w8.heap.size w8) (.cells #[.int .i64 0, .int .i64 0, .int .i64 0, .string ⟨#[]⟩, .string ⟨#[]⟩, .int .i64 0] 29)
  have N3_0_0 : BlockIs U3 (g3) 29 [.int .i64 0, .int .i64 0, .int .i64 0, .string ⟨#[]⟩, .string ⟨#[]⟩, .int .i64 0] := by rw [← hg3, ← hU3]; exact heap_alloc_new _ _
  rw [hg3] at bz3
  have o3_0 := N3_0_0.cell (j := 0) rfl
  have f3_0 := N3_0_0.thaw 0
  obtain ⟨V3_0, hV3_0⟩ : ∃ V, U3.setCell ⟨g3, 0, none⟩ (.int .i64 d.op) = V := ⟨_, rfl⟩
  have N3_0_1 : BlockIs V3_0 (g3) 29 [.int .i64 d.op, .int .i64 0, .int .i64 0, .string ⟨#[]⟩, .string ⟨#[]⟩, .int .i64 0] := by rw [← hV3_0]; exact N3_0_0.set 0 _
  have bz3 : Below g3 w8 V3_0 := by rw [← hV3_0]; exact bz3.setCell (by show _ ≤ g3; omega) _
  have o3_1 := N3_0_1.cell (j := 1) rfl
  have f3_1 := N3_0_1.thaw 1
  obtain ⟨V3_1, hV3_1⟩ : ∃ V, V3_0.setCell ⟨g3, 1, none⟩ (.int .i64 d.token) = V := ⟨_, rfl⟩
  have N3_0_2 : BlockIs V3_1 (g3) 29 [.int .i64 d.op, .int .i64 d.token, .int .i64 0, .string ⟨#[]⟩, .string ⟨#[]⟩, .int .i64 0] := by rw [← hV3_1]; exact N3_0_1.set 1 _
  have bz3 : Below g3 w8 V3_1 := by rw [← hV3_1]; exact bz3.setCell (by show _ ≤ g3; omega) _
  have o3_2 := N3_0_2.cell (j := 2) rfl
  have f3_2 := N3_0_2.thaw 2
  obtain ⟨V3_2, hV3_2⟩ : ∃ V, V3_1.setCell ⟨g3, 2, none⟩ (.int .i64 d.seq) = V := ⟨_, rfl⟩
  have N3_0_3 : BlockIs V3_2 (g3) 29 [.int .i64 d.op, .int .i64 d.token, .int .i64 d.seq, .string ⟨#[]⟩, .string ⟨#[]⟩, .int .i64 0] := by rw [← hV3_2]; exact N3_0_2.set 2 _
  have bz3 : Below g3 w8 V3_2 := by rw [← hV3_2]; exact bz3.setCell (by show _ ≤ g3; omega) _
  have o3_3 := N3_0_3.cell (j := 3) rfl
  have f3_3 := N3_0_3.thaw 3
  obtain ⟨V3_3, hV3_3⟩ : ∃ V, V3_2.setCell ⟨g3, 3, none⟩ (.string d.key) = V := ⟨_, rfl⟩
  have N3_0_4 : BlockIs V3_3 (g3) 29 [.int .i64 d.op, .int .i64 d.token, .int .i64 d.seq, .string d.key, .string ⟨#[]⟩, .int .i64 0] := by rw [← hV3_3]; exact N3_0_3.set 3 _
  have bz3 : Below g3 w8 V3_3 := by rw [← hV3_3]; exact bz3.setCell (by show _ ≤ g3; omega) _
  have o3_4 := N3_0_4.cell (j := 4) rfl
  have f3_4 := N3_0_4.thaw 4
  obtain ⟨V3_4, hV3_4⟩ : ∃ V, V3_3.setCell ⟨g3, 4, none⟩ (.string d.val) = V := ⟨_, rfl⟩
  have N3_0_5 : BlockIs V3_4 (g3) 29 [.int .i64 d.op, .int .i64 d.token, .int .i64 d.seq, .string d.key, .string d.val, .int .i64 0] := by rw [← hV3_4]; exact N3_0_4.set 4 _
  have bz3 : Below g3 w8 V3_4 := by rw [← hV3_4]; exact bz3.setCell (by show _ ≤ g3; omega) _
  have o3_5 := N3_0_5.cell (j := 5) rfl
  have f3_5 := N3_0_5.thaw 5
  obtain ⟨V3_5, hV3_5⟩ : ∃ V, V3_4.setCell ⟨g3, 5, none⟩ (.int .i64 d.ver) = V := ⟨_, rfl⟩
  have N3_0_6 : BlockIs V3_5 (g3) 29 [.int .i64 d.op, .int .i64 d.token, .int .i64 d.seq, .string d.key, .string d.val, .int .i64 d.ver] := by rw [← hV3_5]; exact N3_0_5.set 5 _
  have bz3 : Below g3 w8 V3_5 := by rw [← hV3_5]; exact bz3.setCell (by show _ ≤ g3; omega) _
  have hN3_0 := hid N3_0_6
  have p3_0_0 := hN3_0.out.cell (j := 0) rfl
  have p3_0_1 := hN3_0.out.cell (j := 1) rfl
  have p3_0_2 := hN3_0.out.cell (j := 2) rfl
  have p3_0_3 := hN3_0.out.cell (j := 3) rfl
  have p3_0_4 := hN3_0.out.cell (j := 4) rfl
  have p3_0_5 := hN3_0.out.cell (j := 5) rfl
  have bzz3 : Below w8.heap.size w8 V3_5 := by rw [hg3]; exact bz3
  clear bz3 N3_0_0 N3_0_1 N3_0_2 N3_0_3 N3_0_4 N3_0_5 N3_0_6
  have ltk_3 : g0 < g3 := by rw [← hg3]; exact Xk_9.out.lt
  have ltx_3 : g0 + 1 < g3 := by rw [← hg3]; exact Xx_9.out.lt
  have lta_3 : g1 < g3 := by rw [← hg3]; exact Xa_9.out.lt
  have ltt_3 : g2 < g3 := by rw [← hg3]; exact Xt_9.out.lt
  have lo3 : w.heap.size ≤ g3 := by rw [← hg3]; exact B_9.out.size
  clear cx0_3 cx1_3 cx2_3 cx3_3 cx4_3 cx5_3
  have cx0_4 := Xx_9.out.cell (j := 0) rfl
  have cx1_4 := Xx_9.out.cell (j := 1) rfl
  have cx2_4 := Xx_9.out.cell (j := 2) rfl
  have cx3_4 := Xx_9.out.cell (j := 3) rfl
  have cx4_4 := Xx_9.out.cell (j := 4) rfl
  have cx5_4 := Xx_9.out.cell (j := 5) rfl
  have zf := hN3_0.out.thaw 1
  have zo := hN3_0.out.cell (j := 1) rfl
  obtain ⟨Y1, hY1⟩ : ∃ V, V3_5.setCell ⟨g3, 1, none⟩ (.int .i64 999) = V := ⟨_, rfl⟩
  have NY : BlockIs Y1 g3 29 [.int .i64 d.op, .int .i64 999, .int .i64 d.seq, .string d.key, .string d.val, .int .i64 d.ver] := by rw [← hY1]; exact hN3_0.out.set 1 _
  have zy0 := NY.cell (j := 0) rfl
  have zy1 := NY.cell (j := 1) rfl
  have zy2 := NY.cell (j := 2) rfl
  have zy3 := NY.cell (j := 3) rfl
  have zy4 := NY.cell (j := 4) rfl
  have zy5 := NY.cell (j := 5) rfl
  have hNY := hid NY
  clear NY
  have bY : Below w8.heap.size w8 Y1 := by rw [← hY1, hg3]; exact Below.setCell (by rw [← hg3]; exact bzz3) (by show _ ≤ g3; omega) _
  have XaY := Xa_9.out.on bY Xa_9.out.lt
  have ay0 := XaY.cell (j := 0) rfl
  have ay1 := XaY.cell (j := 1) rfl
  go_wp2_with fail
  clear cx0_4 cx1_4 cx2_4 cx3_4 cx4_4 cx5_4
  clear o3_0 f3_0 o3_1 f3_1 o3_2 f3_2 o3_3 f3_3 o3_4 f3_4 o3_5 f3_5 p3_0_0 p3_0_1 p3_0_2 p3_0_3 p3_0_4 p3_0_5 zf zo bzz3 hN3_0 XaY ay0 ay1 zy0 zy1 zy2 zy3 zy4 zy5
  have Xk_10 : Hid (BlockIs Y1 (g0) 27 [.slice va ls.length vc, .slice vb li.length vd]) := hid (Xk_9.out.on bY Xk_9.out.lt)
  have Xx_10 : Hid (BlockIs Y1 (g0 + 1) 29 [.int .i64 d.op, .int .i64 d.token, .int .i64 d.seq, .string d.key, .string d.val, .int .i64 d.ver]) := hid (Xx_9.out.on bY Xx_9.out.lt)
  have Xa_10 : Hid (BlockIs Y1 (g1) 27 [.slice va1 ss.length vc1, .slice vb1 is.length vd1]) := hid (Xa_9.out.on bY Xa_9.out.lt)
  have Xt_10 : Hid (BlockIs Y1 (g2) 27 [.slice va2 ss.length vc2, .slice vb2 is.length vd2]) := hid (Xt_9.out.on bY Xt_9.out.lt)
  have Qk_10 : Hid (KRows Y1 (w.heap.size) (.slice va ls.length vc) (.slice vb li.length vd) ls li) := hid (Qk_9.out.on bY)
  have Qa_10 : Hid (KRows Y1 (V0_7.heap.size) (.slice va1 ss.length vc1) (.slice vb1 is.length vd1) ss is) := hid (Qa_9.out.on bY)
  have Qt_10 : Hid (KRows Y1 (V1_1.heap.size) (.slice va2 ss.length vc2) (.slice vb2 is.length vd2) ss is) := hid (Qt_9.out.on bY)
  have B_10 : Hid (Below w.heap.size w Y1) := hid (below_via B_9.out bY)
  clear Xk_9 Xx_9 Xa_9 Xt_9 Qk_9 Qa_9 Qt_9 B_9
  clear bY
  have Xy_10 := hNY
  refine Calls.mono (cN.out _ _ _ _ _ (table_low HT.out B_10.out) (sessionR_at Qa_10.out.1) (itemR_at Qa_10.out.2)) ?_
  rintro e w16 ⟨va3, vc3, vb3, vd3, rfl, q_c, b_c⟩
  dsimp only at q_c ⊢
  have Xk_11 : Hid (BlockIs w16 (g0) 27 [.slice va ls.length vc, .slice vb li.length vd]) := hid (Xk_10.out.on b_c Xk_10.out.lt)
  have Xx_11 : Hid (BlockIs w16 (g0 + 1) 29 [.int .i64 d.op, .int .i64 d.token, .int .i64 d.seq, .string d.key, .string d.val, .int .i64 d.ver]) := hid (Xx_10.out.on b_c Xx_10.out.lt)
  have Xa_11 : Hid (BlockIs w16 (g1) 27 [.slice va1 ss.length vc1, .slice vb1 is.length vd1]) := hid (Xa_10.out.on b_c Xa_10.out.lt)
  have Xt_11 : Hid (BlockIs w16 (g2) 27 [.slice va2 ss.length vc2, .slice vb2 is.length vd2]) := hid (Xt_10.out.on b_c Xt_10.out.lt)
  have Xy_11 : Hid (BlockIs w16 (g3) 29 [.int .i64 d.op, .int .i64 999, .int .i64 d.seq, .string d.key, .string d.val, .int .i64 d.ver]) := hid (Xy_10.out.on b_c Xy_10.out.lt)
  have Qk_11 : Hid (KRows w16 (w.heap.size) (.slice va ls.length vc) (.slice vb li.length vd) ls li) := hid (Qk_10.out.on b_c)
  have Qa_11 : Hid (KRows w16 (V0_7.heap.size) (.slice va1 ss.length vc1) (.slice vb1 is.length vd1) ss is) := hid (Qa_10.out.on b_c)
  have Qt_11 : Hid (KRows w16 (V1_1.heap.size) (.slice va2 ss.length vc2) (.slice vb2 is.length vd2) ss is) := hid (Qt_10.out.on b_c)
  have B_11 : Hid (Below w.heap.size w w16) := hid (below_via B_10.out b_c)
  clear Xk_10 Xx_10 Xa_10 Xt_10 Xy_10 Qk_10 Qa_10 Qt_10 B_10
  clear b_c
  have Qc_11 : Hid (KRows w16 (Y1.heap.size) (.slice va3 ss.length vc3) (.slice vb3 is.length vd3) ss is) := hid q_c
  clear q_c
  obtain ⟨g4, hg4⟩ : ∃ g, w16.heap.size = g := ⟨_, rfl⟩
  obtain ⟨U4, hU4⟩ : ∃ V, (w16.alloc (.cells #[.slice none 0 0, .slice none 0 0] 27)) = V := ⟨_, rfl⟩
  have bz4 : Below w16.heap.size w16 U4 := by rw [← hU4]; exact below_more (Below.refl w16.heap.size w16) (.cells #[.slice none 0 0, .slice none 0 0] 27)
  have N4_0_0 : BlockIs U4 (g4) 27 [.slice none 0 0, .slice none 0 0] := by rw [← hg4, ← hU4]; exact heap_alloc_new _ _
  rw [hg4] at bz4
  have o4_0 := N4_0_0.cell (j := 0) rfl
  have f4_0 := N4_0_0.thaw 0
  obtain ⟨V4_0, hV4_0⟩ : ∃ V, U4.setCell ⟨g4, 0, none⟩ (.slice va3 ss.length vc3) = V := ⟨_, rfl⟩
  have N4_0_1 : BlockIs V4_0 (g4) 27 [.slice va3 ss.length vc3, .slice none 0 0] := by rw [← hV4_0]; exact N4_0_0.set 0 _
  have bz4 : Below g4 w16 V4_0 := by rw [← hV4_0]; exact bz4.setCell (by show _ ≤ g4; omega) _
  have o4_1 := N4_0_1.cell (j := 1) rfl
  have f4_1 := N4_0_1.thaw 1
  obtain ⟨V4_1, hV4_1⟩ : ∃ V, V4_0.setCell ⟨g4, 1, none⟩ (.slice vb3 is.length vd3) = V := ⟨_, rfl⟩
  have N4_0_2 : BlockIs V4_1 (g4) 27 [.slice va3 ss.length vc3, .slice vb3 is.length vd3] := by rw [← hV4_1]; exact N4_0_1.set 1 _
  have bz4 : Below g4 w16 V4_1 := by rw [← hV4_1]; exact bz4.setCell (by show _ ≤ g4; omega) _
  have hN4_0 := hid N4_0_2
  have p4_0_0 := hN4_0.out.cell (j := 0) rfl
  have p4_0_1 := hN4_0.out.cell (j := 1) rfl
  have bzz4 : Below w16.heap.size w16 V4_1 := by rw [hg4]; exact bz4
  clear bz4 N4_0_0 N4_0_1 N4_0_2
  have ltk_4 : g0 < g4 := by rw [← hg4]; exact Xk_11.out.lt
  have ltx_4 : g0 + 1 < g4 := by rw [← hg4]; exact Xx_11.out.lt
  have lta_4 : g1 < g4 := by rw [← hg4]; exact Xa_11.out.lt
  have ltt_4 : g2 < g4 := by rw [← hg4]; exact Xt_11.out.lt
  have lty_4 : g3 < g4 := by rw [← hg4]; exact Xy_11.out.lt
  have lo4 : w.heap.size ≤ g4 := by rw [← hg4]; exact B_11.out.size
  have cx0_5 := Xx_11.out.cell (j := 0) rfl
  have cx1_5 := Xx_11.out.cell (j := 1) rfl
  have cx2_5 := Xx_11.out.cell (j := 2) rfl
  have cx3_5 := Xx_11.out.cell (j := 3) rfl
  have cx4_5 := Xx_11.out.cell (j := 4) rfl
  have cx5_5 := Xx_11.out.cell (j := 5) rfl
  have Xy4 := hid (Xy_11.out.on bzz4 Xy_11.out.lt)
  have Xx4 := hid (Xx_11.out.on bzz4 Xx_11.out.lt)
  have Xa4 := hid (Xa_11.out.on bzz4 Xa_11.out.lt)
  have xz0 := Xx4.out.cell (j := 0) rfl
  have xz1 := Xx4.out.cell (j := 1) rfl
  have xz2 := Xx4.out.cell (j := 2) rfl
  have xz3 := Xx4.out.cell (j := 3) rfl
  have xz4 := Xx4.out.cell (j := 4) rfl
  have xz5 := Xx4.out.cell (j := 5) rfl
  have YY_0 := Xy4
  have yo0 := YY_0.out.cell (j := 0) rfl
  have yf0 := YY_0.out.thaw 0
  obtain ⟨T0, hT0⟩ : ∃ V, V4_1.setCell ⟨g3, 0, none⟩ (.int .i64 d.op) = V := ⟨_, rfl⟩
  have YY_1 : Hid (BlockIs T0 g3 29 [.int .i64 d.op, .int .i64 999, .int .i64 d.seq, .string d.key, .string d.val, .int .i64 d.ver]) := hid (by rw [← hT0]; exact YY_0.out.set 0 _)
  have yo1 := YY_1.out.cell (j := 1) rfl
  have yf1 := YY_1.out.thaw 1
  obtain ⟨T1, hT1⟩ : ∃ V, T0.setCell ⟨g3, 1, none⟩ (.int .i64 d.token) = V := ⟨_, rfl⟩
  have YY_2 : Hid (BlockIs T1 g3 29 [.int .i64 d.op, .int .i64 d.token, .int .i64 d.seq, .string d.key, .string d.val, .int .i64 d.ver]) := hid (by rw [← hT1]; exact YY_1.out.set 1 _)
  have yo2 := YY_2.out.cell (j := 2) rfl
  have yf2 := YY_2.out.thaw 2
  obtain ⟨T2, hT2⟩ : ∃ V, T1.setCell ⟨g3, 2, none⟩ (.int .i64 d.seq) = V := ⟨_, rfl⟩
  have YY_3 : Hid (BlockIs T2 g3 29 [.int .i64 d.op, .int .i64 d.token, .int .i64 d.seq, .string d.key, .string d.val, .int .i64 d.ver]) := hid (by rw [← hT2]; exact YY_2.out.set 2 _)
  have yo3 := YY_3.out.cell (j := 3) rfl
  have yf3 := YY_3.out.thaw 3
  obtain ⟨T3, hT3⟩ : ∃ V, T2.setCell ⟨g3, 3, none⟩ (.string d.key) = V := ⟨_, rfl⟩
  have YY_4 : Hid (BlockIs T3 g3 29 [.int .i64 d.op, .int .i64 d.token, .int .i64 d.seq, .string d.key, .string d.val, .int .i64 d.ver]) := hid (by rw [← hT3]; exact YY_3.out.set 3 _)
  have yo4 := YY_4.out.cell (j := 4) rfl
  have yf4 := YY_4.out.thaw 4
  obtain ⟨T4, hT4⟩ : ∃ V, T3.setCell ⟨g3, 4, none⟩ (.string d.val) = V := ⟨_, rfl⟩
  have YY_5 : Hid (BlockIs T4 g3 29 [.int .i64 d.op, .int .i64 d.token, .int .i64 d.seq, .string d.key, .string d.val, .int .i64 d.ver]) := hid (by rw [← hT4]; exact YY_4.out.set 4 _)
  have yo5 := YY_5.out.cell (j := 5) rfl
  have yf5 := YY_5.out.thaw 5
  obtain ⟨T5, hT5⟩ : ∃ V, T4.setCell ⟨g3, 5, none⟩ (.int .i64 d.ver) = V := ⟨_, rfl⟩
  have YY_6 : Hid (BlockIs T5 g3 29 [.int .i64 d.op, .int .i64 d.token, .int .i64 d.seq, .string d.key, .string d.val, .int .i64 d.ver]) := hid (by rw [← hT5]; exact YY_5.out.set 5 _)
  have Xx6 : BlockIs T5 (g0 + 1) 29 [.int .i64 d.op, .int .i64 d.token, .int .i64 d.seq, .string d.key, .string d.val, .int .i64 d.ver] := by rw [← hT5, ← hT4, ← hT3, ← hT2, ← hT1, ← hT0]; exact ((((((Xx4.out.far (by omega) _).far (by omega) _).far (by omega) _).far (by omega) _).far (by omega) _).far (by omega) _)
  have x6s := Xx6.cell (j := 2) rfl
  clear Xx6
  have yo6 := YY_6.out.cell (j := 2) rfl
  have yf6 := YY_6.out.thaw 2
  obtain ⟨T6, hT6⟩ : ∃ V, T5.setCell ⟨g3, 2, none⟩ (.int .i64 (d.seq + 9)) = V := ⟨_, rfl⟩
  have YY_7 : Hid (BlockIs T6 g3 29 [.int .i64 d.op, .int .i64 d.token, .int .i64 (d.seq + 9), .string d.key, .string d.val, .int .i64 d.ver]) := hid (by rw [← hT6]; exact YY_6.out.set 2 _)
  have yl0 := YY_7.out.cell (j := 0) rfl
  have yl1 := YY_7.out.cell (j := 1) rfl
  have yl2 := YY_7.out.cell (j := 2) rfl
  have yl3 := YY_7.out.cell (j := 3) rfl
  have yl4 := YY_7.out.cell (j := 4) rfl
  have yl5 := YY_7.out.cell (j := 5) rfl
  have Xa7 : BlockIs T6 (g1) 27 [.slice va1 ss.length vc1, .slice vb1 is.length vd1] := by rw [← hT6, ← hT5, ← hT4, ← hT3, ← hT2, ← hT1, ← hT0]; exact (((((((Xa4.out.far (by omega) _).far (by omega) _).far (by omega) _).far (by omega) _).far (by omega) _).far (by omega) _).far (by omega) _)
  have al0 := Xa7.cell (j := 0) rfl
  have al1 := Xa7.cell (j := 1) rfl
  clear Xa7
  go_wp2_with fail
  clear yo0 yf0 yo1 yf1 yo2 yf2 yo3 yf3 yo4 yf4 yo5 yf5 yo6 yf6 x6s al0 al1 Xy4 Xx4 Xa4 xz0 xz1 xz2 xz3 xz4 xz5 yl0 yl1 yl2 yl3 yl4 yl5 YY_0 YY_1 YY_2 YY_3 YY_4 YY_5 YY_6 YY_7
  clear cx0_5 cx1_5 cx2_5 cx3_5 cx4_5 cx5_5
  clear o4_0 f4_0 o4_1 f4_1 p4_0_0 p4_0_1
  have Xk_12 : Hid (BlockIs V4_1 (g0) 27 [.slice va ls.length vc, .slice vb li.length vd]) := hid (Xk_11.out.on bzz4 Xk_11.out.lt)
  have Xx_12 : Hid (BlockIs V4_1 (g0 + 1) 29 [.int .i64 d.op, .int .i64 d.token, .int .i64 d.seq, .string d.key, .string d.val, .int .i64 d.ver]) := hid (Xx_11.out.on bzz4 Xx_11.out.lt)
  have Xa_12 : Hid (BlockIs V4_1 (g1) 27 [.slice va1 ss.length vc1, .slice vb1 is.length vd1]) := hid (Xa_11.out.on bzz4 Xa_11.out.lt)
  have Xt_12 : Hid (BlockIs V4_1 (g2) 27 [.slice va2 ss.length vc2, .slice vb2 is.length vd2]) := hid (Xt_11.out.on bzz4 Xt_11.out.lt)
  have Xy_12 : Hid (BlockIs V4_1 (g3) 29 [.int .i64 d.op, .int .i64 999, .int .i64 d.seq, .string d.key, .string d.val, .int .i64 d.ver]) := hid (Xy_11.out.on bzz4 Xy_11.out.lt)
  have Qk_12 : Hid (KRows V4_1 (w.heap.size) (.slice va ls.length vc) (.slice vb li.length vd) ls li) := hid (Qk_11.out.on bzz4)
  have Qa_12 : Hid (KRows V4_1 (V0_7.heap.size) (.slice va1 ss.length vc1) (.slice vb1 is.length vd1) ss is) := hid (Qa_11.out.on bzz4)
  have Qt_12 : Hid (KRows V4_1 (V1_1.heap.size) (.slice va2 ss.length vc2) (.slice vb2 is.length vd2) ss is) := hid (Qt_11.out.on bzz4)
  have Qc_12 : Hid (KRows V4_1 (Y1.heap.size) (.slice va3 ss.length vc3) (.slice vb3 is.length vd3) ss is) := hid (Qc_11.out.on bzz4)
  have B_12 : Hid (Below w.heap.size w V4_1) := hid (below_via B_11.out bzz4)
  clear Xk_11 Xx_11 Xa_11 Xt_11 Xy_11 Qk_11 Qa_11 Qt_11 Qc_11 B_11
  clear bzz4
  have Xc_12 := hN4_0
  have Xk_13 : Hid (BlockIs T0 (g0) 27 [.slice va ls.length vc, .slice vb li.length vd]) := hid ((by rw [← hT0]; exact Xk_12.out.far (by omega) _))
  have Xx_13 : Hid (BlockIs T0 (g0 + 1) 29 [.int .i64 d.op, .int .i64 d.token, .int .i64 d.seq, .string d.key, .string d.val, .int .i64 d.ver]) := hid ((by rw [← hT0]; exact Xx_12.out.far (by omega) _))
  have Xa_13 : Hid (BlockIs T0 (g1) 27 [.slice va1 ss.length vc1, .slice vb1 is.length vd1]) := hid ((by rw [← hT0]; exact Xa_12.out.far (by omega) _))
  have Xt_13 : Hid (BlockIs T0 (g2) 27 [.slice va2 ss.length vc2, .slice vb2 is.length vd2]) := hid ((by rw [← hT0]; exact Xt_12.out.far (by omega) _))
  have Xy_13 : Hid (BlockIs T0 (g3) 29 [.int .i64 d.op, .int .i64 999, .int .i64 d.seq, .string d.key, .string d.val, .int .i64 d.ver]) := hid ((by rw [← hT0]; exact Xy_12.out.set 0 _))
  have Xc_13 : Hid (BlockIs T0 (g4) 27 [.slice va3 ss.length vc3, .slice vb3 is.length vd3]) := hid ((by rw [← hT0]; exact Xc_12.out.far (by omega) _))
  have Qk_13 : Hid (KRows T0 (w.heap.size) (.slice va ls.length vc) (.slice vb li.length vd) ls li) := hid ((by rw [← hT0]; exact Qk_12.out.far Xy_12.out (by decide) (by decide) _))
  have Qa_13 : Hid (KRows T0 (V0_7.heap.size) (.slice va1 ss.length vc1) (.slice vb1 is.length vd1) ss is) := hid ((by rw [← hT0]; exact Qa_12.out.far Xy_12.out (by decide) (by decide) _))
  have Qt_13 : Hid (KRows T0 (V1_1.heap.size) (.slice va2 ss.length vc2) (.slice vb2 is.length vd2) ss is) := hid ((by rw [← hT0]; exact Qt_12.out.far Xy_12.out (by decide) (by decide) _))
  have Qc_13 : Hid (KRows T0 (Y1.heap.size) (.slice va3 ss.length vc3) (.slice vb3 is.length vd3) ss is) := hid ((by rw [← hT0]; exact Qc_12.out.far Xy_12.out (by decide) (by decide) _))
  have B_13 : Hid (Below w.heap.size w T0) := hid ((by rw [← hT0]; exact B_12.out.setCell (by show _ ≤ g3; omega) _))
  clear Xk_12 Xx_12 Xa_12 Xt_12 Xy_12 Xc_12 Qk_12 Qa_12 Qt_12 Qc_12 B_12
  have Xk_14 : Hid (BlockIs T1 (g0) 27 [.slice va ls.length vc, .slice vb li.length vd]) := hid ((by rw [← hT1]; exact Xk_13.out.far (by omega) _))
  have Xx_14 : Hid (BlockIs T1 (g0 + 1) 29 [.int .i64 d.op, .int .i64 d.token, .int .i64 d.seq, .string d.key, .string d.val, .int .i64 d.ver]) := hid ((by rw [← hT1]; exact Xx_13.out.far (by omega) _))
  have Xa_14 : Hid (BlockIs T1 (g1) 27 [.slice va1 ss.length vc1, .slice vb1 is.length vd1]) := hid ((by rw [← hT1]; exact Xa_13.out.far (by omega) _))
  have Xt_14 : Hid (BlockIs T1 (g2) 27 [.slice va2 ss.length vc2, .slice vb2 is.length vd2]) := hid ((by rw [← hT1]; exact Xt_13.out.far (by omega) _))
  have Xy_14 : Hid (BlockIs T1 (g3) 29 [.int .i64 d.op, .int .i64 d.token, .int .i64 d.seq, .string d.key, .string d.val, .int .i64 d.ver]) := hid ((by rw [← hT1]; exact Xy_13.out.set 1 _))
  have Xc_14 : Hid (BlockIs T1 (g4) 27 [.slice va3 ss.length vc3, .slice vb3 is.length vd3]) := hid ((by rw [← hT1]; exact Xc_13.out.far (by omega) _))
  have Qk_14 : Hid (KRows T1 (w.heap.size) (.slice va ls.length vc) (.slice vb li.length vd) ls li) := hid ((by rw [← hT1]; exact Qk_13.out.far Xy_13.out (by decide) (by decide) _))
  have Qa_14 : Hid (KRows T1 (V0_7.heap.size) (.slice va1 ss.length vc1) (.slice vb1 is.length vd1) ss is) := hid ((by rw [← hT1]; exact Qa_13.out.far Xy_13.out (by decide) (by decide) _))
  have Qt_14 : Hid (KRows T1 (V1_1.heap.size) (.slice va2 ss.length vc2) (.slice vb2 is.length vd2) ss is) := hid ((by rw [← hT1]; exact Qt_13.out.far Xy_13.out (by decide) (by decide) _))
  have Qc_14 : Hid (KRows T1 (Y1.heap.size) (.slice va3 ss.length vc3) (.slice vb3 is.length vd3) ss is) := hid ((by rw [← hT1]; exact Qc_13.out.far Xy_13.out (by decide) (by decide) _))
  have B_14 : Hid (Below w.heap.size w T1) := hid ((by rw [← hT1]; exact B_13.out.setCell (by show _ ≤ g3; omega) _))
  clear Xk_13 Xx_13 Xa_13 Xt_13 Xy_13 Xc_13 Qk_13 Qa_13 Qt_13 Qc_13 B_13
  have Xk_15 : Hid (BlockIs T2 (g0) 27 [.slice va ls.length vc, .slice vb li.length vd]) := hid ((by rw [← hT2]; exact Xk_14.out.far (by omega) _))
  have Xx_15 : Hid (BlockIs T2 (g0 + 1) 29 [.int .i64 d.op, .int .i64 d.token, .int .i64 d.seq, .string d.key, .string d.val, .int .i64 d.ver]) := hid ((by rw [← hT2]; exact Xx_14.out.far (by omega) _))
  have Xa_15 : Hid (BlockIs T2 (g1) 27 [.slice va1 ss.length vc1, .slice vb1 is.length vd1]) := hid ((by rw [← hT2]; exact Xa_14.out.far (by omega) _))
  have Xt_15 : Hid (BlockIs T2 (g2) 27 [.slice va2 ss.length vc2, .slice vb2 is.length vd2]) := hid ((by rw [← hT2]; exact Xt_14.out.far (by omega) _))
  have Xy_15 : Hid (BlockIs T2 (g3) 29 [.int .i64 d.op, .int .i64 d.token, .int .i64 d.seq, .string d.key, .string d.val, .int .i64 d.ver]) := hid ((by rw [← hT2]; exact Xy_14.out.set 2 _))
  have Xc_15 : Hid (BlockIs T2 (g4) 27 [.slice va3 ss.length vc3, .slice vb3 is.length vd3]) := hid ((by rw [← hT2]; exact Xc_14.out.far (by omega) _))
  have Qk_15 : Hid (KRows T2 (w.heap.size) (.slice va ls.length vc) (.slice vb li.length vd) ls li) := hid ((by rw [← hT2]; exact Qk_14.out.far Xy_14.out (by decide) (by decide) _))
  have Qa_15 : Hid (KRows T2 (V0_7.heap.size) (.slice va1 ss.length vc1) (.slice vb1 is.length vd1) ss is) := hid ((by rw [← hT2]; exact Qa_14.out.far Xy_14.out (by decide) (by decide) _))
  have Qt_15 : Hid (KRows T2 (V1_1.heap.size) (.slice va2 ss.length vc2) (.slice vb2 is.length vd2) ss is) := hid ((by rw [← hT2]; exact Qt_14.out.far Xy_14.out (by decide) (by decide) _))
  have Qc_15 : Hid (KRows T2 (Y1.heap.size) (.slice va3 ss.length vc3) (.slice vb3 is.length vd3) ss is) := hid ((by rw [← hT2]; exact Qc_14.out.far Xy_14.out (by decide) (by decide) _))
  have B_15 : Hid (Below w.heap.size w T2) := hid ((by rw [← hT2]; exact B_14.out.setCell (by show _ ≤ g3; omega) _))
  clear Xk_14 Xx_14 Xa_14 Xt_14 Xy_14 Xc_14 Qk_14 Qa_14 Qt_14 Qc_14 B_14
  have Xk_16 : Hid (BlockIs T3 (g0) 27 [.slice va ls.length vc, .slice vb li.length vd]) := hid ((by rw [← hT3]; exact Xk_15.out.far (by omega) _))
  have Xx_16 : Hid (BlockIs T3 (g0 + 1) 29 [.int .i64 d.op, .int .i64 d.token, .int .i64 d.seq, .string d.key, .string d.val, .int .i64 d.ver]) := hid ((by rw [← hT3]; exact Xx_15.out.far (by omega) _))
  have Xa_16 : Hid (BlockIs T3 (g1) 27 [.slice va1 ss.length vc1, .slice vb1 is.length vd1]) := hid ((by rw [← hT3]; exact Xa_15.out.far (by omega) _))
  have Xt_16 : Hid (BlockIs T3 (g2) 27 [.slice va2 ss.length vc2, .slice vb2 is.length vd2]) := hid ((by rw [← hT3]; exact Xt_15.out.far (by omega) _))
  have Xy_16 : Hid (BlockIs T3 (g3) 29 [.int .i64 d.op, .int .i64 d.token, .int .i64 d.seq, .string d.key, .string d.val, .int .i64 d.ver]) := hid ((by rw [← hT3]; exact Xy_15.out.set 3 _))
  have Xc_16 : Hid (BlockIs T3 (g4) 27 [.slice va3 ss.length vc3, .slice vb3 is.length vd3]) := hid ((by rw [← hT3]; exact Xc_15.out.far (by omega) _))
  have Qk_16 : Hid (KRows T3 (w.heap.size) (.slice va ls.length vc) (.slice vb li.length vd) ls li) := hid ((by rw [← hT3]; exact Qk_15.out.far Xy_15.out (by decide) (by decide) _))
  have Qa_16 : Hid (KRows T3 (V0_7.heap.size) (.slice va1 ss.length vc1) (.slice vb1 is.length vd1) ss is) := hid ((by rw [← hT3]; exact Qa_15.out.far Xy_15.out (by decide) (by decide) _))
  have Qt_16 : Hid (KRows T3 (V1_1.heap.size) (.slice va2 ss.length vc2) (.slice vb2 is.length vd2) ss is) := hid ((by rw [← hT3]; exact Qt_15.out.far Xy_15.out (by decide) (by decide) _))
  have Qc_16 : Hid (KRows T3 (Y1.heap.size) (.slice va3 ss.length vc3) (.slice vb3 is.length vd3) ss is) := hid ((by rw [← hT3]; exact Qc_15.out.far Xy_15.out (by decide) (by decide) _))
  have B_16 : Hid (Below w.heap.size w T3) := hid ((by rw [← hT3]; exact B_15.out.setCell (by show _ ≤ g3; omega) _))
  clear Xk_15 Xx_15 Xa_15 Xt_15 Xy_15 Xc_15 Qk_15 Qa_15 Qt_15 Qc_15 B_15
  have Xk_17 : Hid (BlockIs T4 (g0) 27 [.slice va ls.length vc, .slice vb li.length vd]) := hid ((by rw [← hT4]; exact Xk_16.out.far (by omega) _))
  have Xx_17 : Hid (BlockIs T4 (g0 + 1) 29 [.int .i64 d.op, .int .i64 d.token, .int .i64 d.seq, .string d.key, .string d.val, .int .i64 d.ver]) := hid ((by rw [← hT4]; exact Xx_16.out.far (by omega) _))
  have Xa_17 : Hid (BlockIs T4 (g1) 27 [.slice va1 ss.length vc1, .slice vb1 is.length vd1]) := hid ((by rw [← hT4]; exact Xa_16.out.far (by omega) _))
  have Xt_17 : Hid (BlockIs T4 (g2) 27 [.slice va2 ss.length vc2, .slice vb2 is.length vd2]) := hid ((by rw [← hT4]; exact Xt_16.out.far (by omega) _))
  have Xy_17 : Hid (BlockIs T4 (g3) 29 [.int .i64 d.op, .int .i64 d.token, .int .i64 d.seq, .string d.key, .string d.val, .int .i64 d.ver]) := hid ((by rw [← hT4]; exact Xy_16.out.set 4 _))
  have Xc_17 : Hid (BlockIs T4 (g4) 27 [.slice va3 ss.length vc3, .slice vb3 is.length vd3]) := hid ((by rw [← hT4]; exact Xc_16.out.far (by omega) _))
  have Qk_17 : Hid (KRows T4 (w.heap.size) (.slice va ls.length vc) (.slice vb li.length vd) ls li) := hid ((by rw [← hT4]; exact Qk_16.out.far Xy_16.out (by decide) (by decide) _))
  have Qa_17 : Hid (KRows T4 (V0_7.heap.size) (.slice va1 ss.length vc1) (.slice vb1 is.length vd1) ss is) := hid ((by rw [← hT4]; exact Qa_16.out.far Xy_16.out (by decide) (by decide) _))
  have Qt_17 : Hid (KRows T4 (V1_1.heap.size) (.slice va2 ss.length vc2) (.slice vb2 is.length vd2) ss is) := hid ((by rw [← hT4]; exact Qt_16.out.far Xy_16.out (by decide) (by decide) _))
  have Qc_17 : Hid (KRows T4 (Y1.heap.size) (.slice va3 ss.length vc3) (.slice vb3 is.length vd3) ss is) := hid ((by rw [← hT4]; exact Qc_16.out.far Xy_16.out (by decide) (by decide) _))
  have B_17 : Hid (Below w.heap.size w T4) := hid ((by rw [← hT4]; exact B_16.out.setCell (by show _ ≤ g3; omega) _))
  clear Xk_16 Xx_16 Xa_16 Xt_16 Xy_16 Xc_16 Qk_16 Qa_16 Qt_16 Qc_16 B_16
  have Xk_18 : Hid (BlockIs T5 (g0) 27 [.slice va ls.length vc, .slice vb li.length vd]) := hid ((by rw [← hT5]; exact Xk_17.out.far (by omega) _))
  have Xx_18 : Hid (BlockIs T5 (g0 + 1) 29 [.int .i64 d.op, .int .i64 d.token, .int .i64 d.seq, .string d.key, .string d.val, .int .i64 d.ver]) := hid ((by rw [← hT5]; exact Xx_17.out.far (by omega) _))
  have Xa_18 : Hid (BlockIs T5 (g1) 27 [.slice va1 ss.length vc1, .slice vb1 is.length vd1]) := hid ((by rw [← hT5]; exact Xa_17.out.far (by omega) _))
  have Xt_18 : Hid (BlockIs T5 (g2) 27 [.slice va2 ss.length vc2, .slice vb2 is.length vd2]) := hid ((by rw [← hT5]; exact Xt_17.out.far (by omega) _))
  have Xy_18 : Hid (BlockIs T5 (g3) 29 [.int .i64 d.op, .int .i64 d.token, .int .i64 d.seq, .string d.key, .string d.val, .int .i64 d.ver]) := hid ((by rw [← hT5]; exact Xy_17.out.set 5 _))
  have Xc_18 : Hid (BlockIs T5 (g4) 27 [.slice va3 ss.length vc3, .slice vb3 is.length vd3]) := hid ((by rw [← hT5]; exact Xc_17.out.far (by omega) _))
  have Qk_18 : Hid (KRows T5 (w.heap.size) (.slice va ls.length vc) (.slice vb li.length vd) ls li) := hid ((by rw [← hT5]; exact Qk_17.out.far Xy_17.out (by decide) (by decide) _))
  have Qa_18 : Hid (KRows T5 (V0_7.heap.size) (.slice va1 ss.length vc1) (.slice vb1 is.length vd1) ss is) := hid ((by rw [← hT5]; exact Qa_17.out.far Xy_17.out (by decide) (by decide) _))
  have Qt_18 : Hid (KRows T5 (V1_1.heap.size) (.slice va2 ss.length vc2) (.slice vb2 is.length vd2) ss is) := hid ((by rw [← hT5]; exact Qt_17.out.far Xy_17.out (by decide) (by decide) _))
  have Qc_18 : Hid (KRows T5 (Y1.heap.size) (.slice va3 ss.length vc3) (.slice vb3 is.length vd3) ss is) := hid ((by rw [← hT5]; exact Qc_17.out.far Xy_17.out (by decide) (by decide) _))
  have B_18 : Hid (Below w.heap.size w T5) := hid ((by rw [← hT5]; exact B_17.out.setCell (by show _ ≤ g3; omega) _))
  clear Xk_17 Xx_17 Xa_17 Xt_17 Xy_17 Xc_17 Qk_17 Qa_17 Qt_17 Qc_17 B_17
  have Xk_19 : Hid (BlockIs T6 (g0) 27 [.slice va ls.length vc, .slice vb li.length vd]) := hid ((by rw [← hT6]; exact Xk_18.out.far (by omega) _))
  have Xx_19 : Hid (BlockIs T6 (g0 + 1) 29 [.int .i64 d.op, .int .i64 d.token, .int .i64 d.seq, .string d.key, .string d.val, .int .i64 d.ver]) := hid ((by rw [← hT6]; exact Xx_18.out.far (by omega) _))
  have Xa_19 : Hid (BlockIs T6 (g1) 27 [.slice va1 ss.length vc1, .slice vb1 is.length vd1]) := hid ((by rw [← hT6]; exact Xa_18.out.far (by omega) _))
  have Xt_19 : Hid (BlockIs T6 (g2) 27 [.slice va2 ss.length vc2, .slice vb2 is.length vd2]) := hid ((by rw [← hT6]; exact Xt_18.out.far (by omega) _))
  have Xy_19 : Hid (BlockIs T6 (g3) 29 [.int .i64 d.op, .int .i64 d.token, .int .i64 (d.seq + 9), .string d.key, .string d.val, .int .i64 d.ver]) := hid ((by rw [← hT6]; exact Xy_18.out.set 2 _))
  have Xc_19 : Hid (BlockIs T6 (g4) 27 [.slice va3 ss.length vc3, .slice vb3 is.length vd3]) := hid ((by rw [← hT6]; exact Xc_18.out.far (by omega) _))
  have Qk_19 : Hid (KRows T6 (w.heap.size) (.slice va ls.length vc) (.slice vb li.length vd) ls li) := hid ((by rw [← hT6]; exact Qk_18.out.far Xy_18.out (by decide) (by decide) _))
  have Qa_19 : Hid (KRows T6 (V0_7.heap.size) (.slice va1 ss.length vc1) (.slice vb1 is.length vd1) ss is) := hid ((by rw [← hT6]; exact Qa_18.out.far Xy_18.out (by decide) (by decide) _))
  have Qt_19 : Hid (KRows T6 (V1_1.heap.size) (.slice va2 ss.length vc2) (.slice vb2 is.length vd2) ss is) := hid ((by rw [← hT6]; exact Qt_18.out.far Xy_18.out (by decide) (by decide) _))
  have Qc_19 : Hid (KRows T6 (Y1.heap.size) (.slice va3 ss.length vc3) (.slice vb3 is.length vd3) ss is) := hid ((by rw [← hT6]; exact Qc_18.out.far Xy_18.out (by decide) (by decide) _))
  have B_19 : Hid (Below w.heap.size w T6) := hid ((by rw [← hT6]; exact B_18.out.setCell (by show _ ≤ g3; omega) _))
  clear Xk_18 Xx_18 Xa_18 Xt_18 Xy_18 Xc_18 Qk_18 Qa_18 Qt_18 Qc_18 B_18
  refine Calls.mono (cG.out _ _ _ _ _ (table_low HT.out B_19.out) (sessionR_at Qa_19.out.1) (itemR_at Qa_19.out.2)) ?_
  rintro e w19 ⟨va4, vc4, vb4, vd4, rfl, q_d, b_d⟩
  dsimp only at q_d ⊢
  have Xk_20 : Hid (BlockIs w19 (g0) 27 [.slice va ls.length vc, .slice vb li.length vd]) := hid (Xk_19.out.on b_d Xk_19.out.lt)
  have Xx_20 : Hid (BlockIs w19 (g0 + 1) 29 [.int .i64 d.op, .int .i64 d.token, .int .i64 d.seq, .string d.key, .string d.val, .int .i64 d.ver]) := hid (Xx_19.out.on b_d Xx_19.out.lt)
  have Xa_20 : Hid (BlockIs w19 (g1) 27 [.slice va1 ss.length vc1, .slice vb1 is.length vd1]) := hid (Xa_19.out.on b_d Xa_19.out.lt)
  have Xt_20 : Hid (BlockIs w19 (g2) 27 [.slice va2 ss.length vc2, .slice vb2 is.length vd2]) := hid (Xt_19.out.on b_d Xt_19.out.lt)
  have Xy_20 : Hid (BlockIs w19 (g3) 29 [.int .i64 d.op, .int .i64 d.token, .int .i64 (d.seq + 9), .string d.key, .string d.val, .int .i64 d.ver]) := hid (Xy_19.out.on b_d Xy_19.out.lt)
  have Xc_20 : Hid (BlockIs w19 (g4) 27 [.slice va3 ss.length vc3, .slice vb3 is.length vd3]) := hid (Xc_19.out.on b_d Xc_19.out.lt)
  have Qk_20 : Hid (KRows w19 (w.heap.size) (.slice va ls.length vc) (.slice vb li.length vd) ls li) := hid (Qk_19.out.on b_d)
  have Qa_20 : Hid (KRows w19 (V0_7.heap.size) (.slice va1 ss.length vc1) (.slice vb1 is.length vd1) ss is) := hid (Qa_19.out.on b_d)
  have Qt_20 : Hid (KRows w19 (V1_1.heap.size) (.slice va2 ss.length vc2) (.slice vb2 is.length vd2) ss is) := hid (Qt_19.out.on b_d)
  have Qc_20 : Hid (KRows w19 (Y1.heap.size) (.slice va3 ss.length vc3) (.slice vb3 is.length vd3) ss is) := hid (Qc_19.out.on b_d)
  have B_20 : Hid (Below w.heap.size w w19) := hid (below_via B_19.out b_d)
  clear Xk_19 Xx_19 Xa_19 Xt_19 Xy_19 Xc_19 Qk_19 Qa_19 Qt_19 Qc_19 B_19
  clear b_d
  have Qd_20 : Hid (KRows w19 (T6.heap.size) (.slice va4 m2.length vc4) (.slice vb4 i2.length vd4) m2 i2) := hid q_d
  clear q_d
  obtain ⟨g5, hg5⟩ : ∃ g, w19.heap.size = g := ⟨_, rfl⟩
  obtain ⟨U5, hU5⟩ : ∃ V, (w19.alloc (.cells #[.slice none 0 0, .slice none 0 0] 27)) = V := ⟨_, rfl⟩
  have bz5 : Below w19.heap.size w19 U5 := by rw [← hU5]; exact below_more (Below.refl w19.heap.size w19) (.cells #[.slice none 0 0, .slice none 0 0] 27)
  have N5_0_0 : BlockIs U5 (g5) 27 [.slice none 0 0, .slice none 0 0] := by rw [← hg5, ← hU5]; exact heap_alloc_new _ _
  rw [hg5] at bz5
  have o5_0 := N5_0_0.cell (j := 0) rfl
  have f5_0 := N5_0_0.thaw 0
  obtain ⟨V5_0, hV5_0⟩ : ∃ V, U5.setCell ⟨g5, 0, none⟩ (.slice va4 m2.length vc4) = V := ⟨_, rfl⟩
  have N5_0_1 : BlockIs V5_0 (g5) 27 [.slice va4 m2.length vc4, .slice none 0 0] := by rw [← hV5_0]; exact N5_0_0.set 0 _
  have bz5 : Below g5 w19 V5_0 := by rw [← hV5_0]; exact bz5.setCell (by show _ ≤ g5; omega) _
  have o5_1 := N5_0_1.cell (j := 1) rfl
  have f5_1 := N5_0_1.thaw 1
  obtain ⟨V5_1, hV5_1⟩ : ∃ V, V5_0.setCell ⟨g5, 1, none⟩ (.slice vb4 i2.length vd4) = V := ⟨_, rfl⟩
  have N5_0_2 : BlockIs V5_1 (g5) 27 [.slice va4 m2.length vc4, .slice vb4 i2.length vd4] := by rw [← hV5_1]; exact N5_0_1.set 1 _
  have bz5 : Below g5 w19 V5_1 := by rw [← hV5_1]; exact bz5.setCell (by show _ ≤ g5; omega) _
  have hN5_0 := hid N5_0_2
  have p5_0_0 := hN5_0.out.cell (j := 0) rfl
  have p5_0_1 := hN5_0.out.cell (j := 1) rfl
  have bzz5 : Below w19.heap.size w19 V5_1 := by rw [hg5]; exact bz5
  clear bz5 N5_0_0 N5_0_1 N5_0_2
  have ltk_5 : g0 < g5 := by rw [← hg5]; exact Xk_20.out.lt
  have ltx_5 : g0 + 1 < g5 := by rw [← hg5]; exact Xx_20.out.lt
  have lta_5 : g1 < g5 := by rw [← hg5]; exact Xa_20.out.lt
  have ltt_5 : g2 < g5 := by rw [← hg5]; exact Xt_20.out.lt
  have lty_5 : g3 < g5 := by rw [← hg5]; exact Xy_20.out.lt
  have ltc_5 : g4 < g5 := by rw [← hg5]; exact Xc_20.out.lt
  have lo5 : w.heap.size ≤ g5 := by rw [← hg5]; exact B_20.out.size
  have Za := Xa_20.out.on bzz5 Xa_20.out.lt
  have za0 := Za.cell (j := 0) rfl
  have za1 := Za.cell (j := 1) rfl
  clear Za
  have Zx := Xx_20.out.on bzz5 Xx_20.out.lt
  have zx0 := Zx.cell (j := 0) rfl
  have zx1 := Zx.cell (j := 1) rfl
  have zx2 := Zx.cell (j := 2) rfl
  have zx3 := Zx.cell (j := 3) rfl
  have zx4 := Zx.cell (j := 4) rfl
  have zx5 := Zx.cell (j := 5) rfl
  clear Zx
  go_wp2_with fail
  clear za0 za1 zx0 zx1 zx2 zx3 zx4 zx5
  clear o5_0 f5_0 o5_1 f5_1 p5_0_0 p5_0_1
  have Xk_21 : Hid (BlockIs V5_1 (g0) 27 [.slice va ls.length vc, .slice vb li.length vd]) := hid (Xk_20.out.on bzz5 Xk_20.out.lt)
  have Xx_21 : Hid (BlockIs V5_1 (g0 + 1) 29 [.int .i64 d.op, .int .i64 d.token, .int .i64 d.seq, .string d.key, .string d.val, .int .i64 d.ver]) := hid (Xx_20.out.on bzz5 Xx_20.out.lt)
  have Xa_21 : Hid (BlockIs V5_1 (g1) 27 [.slice va1 ss.length vc1, .slice vb1 is.length vd1]) := hid (Xa_20.out.on bzz5 Xa_20.out.lt)
  have Xt_21 : Hid (BlockIs V5_1 (g2) 27 [.slice va2 ss.length vc2, .slice vb2 is.length vd2]) := hid (Xt_20.out.on bzz5 Xt_20.out.lt)
  have Xy_21 : Hid (BlockIs V5_1 (g3) 29 [.int .i64 d.op, .int .i64 d.token, .int .i64 (d.seq + 9), .string d.key, .string d.val, .int .i64 d.ver]) := hid (Xy_20.out.on bzz5 Xy_20.out.lt)
  have Xc_21 : Hid (BlockIs V5_1 (g4) 27 [.slice va3 ss.length vc3, .slice vb3 is.length vd3]) := hid (Xc_20.out.on bzz5 Xc_20.out.lt)
  have Qk_21 : Hid (KRows V5_1 (w.heap.size) (.slice va ls.length vc) (.slice vb li.length vd) ls li) := hid (Qk_20.out.on bzz5)
  have Qa_21 : Hid (KRows V5_1 (V0_7.heap.size) (.slice va1 ss.length vc1) (.slice vb1 is.length vd1) ss is) := hid (Qa_20.out.on bzz5)
  have Qt_21 : Hid (KRows V5_1 (V1_1.heap.size) (.slice va2 ss.length vc2) (.slice vb2 is.length vd2) ss is) := hid (Qt_20.out.on bzz5)
  have Qc_21 : Hid (KRows V5_1 (Y1.heap.size) (.slice va3 ss.length vc3) (.slice vb3 is.length vd3) ss is) := hid (Qc_20.out.on bzz5)
  have Qd_21 : Hid (KRows V5_1 (T6.heap.size) (.slice va4 m2.length vc4) (.slice vb4 i2.length vd4) m2 i2) := hid (Qd_20.out.on bzz5)
  have B_21 : Hid (Below w.heap.size w V5_1) := hid (below_via B_20.out bzz5)
  clear Xk_20 Xx_20 Xa_20 Xt_20 Xy_20 Xc_20 Qk_20 Qa_20 Qt_20 Qc_20 Qd_20 B_20
  clear bzz5
  have Xd_21 := hN5_0
  refine Calls.mono (cA.out _ _ _ _ _ (table_low HT.out B_21.out) (sessionR_at Qa_21.out.1) (itemR_at Qa_21.out.2)) ?_
  rintro e w20 ⟨va5, vc5, vb5, vd5, rfl, q_e, b_e⟩
  dsimp only at q_e ⊢
  have Xk_22 : Hid (BlockIs w20 (g0) 27 [.slice va ls.length vc, .slice vb li.length vd]) := hid (Xk_21.out.on b_e Xk_21.out.lt)
  have Xx_22 : Hid (BlockIs w20 (g0 + 1) 29 [.int .i64 d.op, .int .i64 d.token, .int .i64 d.seq, .string d.key, .string d.val, .int .i64 d.ver]) := hid (Xx_21.out.on b_e Xx_21.out.lt)
  have Xa_22 : Hid (BlockIs w20 (g1) 27 [.slice va1 ss.length vc1, .slice vb1 is.length vd1]) := hid (Xa_21.out.on b_e Xa_21.out.lt)
  have Xt_22 : Hid (BlockIs w20 (g2) 27 [.slice va2 ss.length vc2, .slice vb2 is.length vd2]) := hid (Xt_21.out.on b_e Xt_21.out.lt)
  have Xy_22 : Hid (BlockIs w20 (g3) 29 [.int .i64 d.op, .int .i64 d.token, .int .i64 (d.seq + 9), .string d.key, .string d.val, .int .i64 d.ver]) := hid (Xy_21.out.on b_e Xy_21.out.lt)
  have Xc_22 : Hid (BlockIs w20 (g4) 27 [.slice va3 ss.length vc3, .slice vb3 is.length vd3]) := hid (Xc_21.out.on b_e Xc_21.out.lt)
  have Xd_22 : Hid (BlockIs w20 (g5) 27 [.slice va4 m2.length vc4, .slice vb4 i2.length vd4]) := hid (Xd_21.out.on b_e Xd_21.out.lt)
  have Qk_22 : Hid (KRows w20 (w.heap.size) (.slice va ls.length vc) (.slice vb li.length vd) ls li) := hid (Qk_21.out.on b_e)
  have Qa_22 : Hid (KRows w20 (V0_7.heap.size) (.slice va1 ss.length vc1) (.slice vb1 is.length vd1) ss is) := hid (Qa_21.out.on b_e)
  have Qt_22 : Hid (KRows w20 (V1_1.heap.size) (.slice va2 ss.length vc2) (.slice vb2 is.length vd2) ss is) := hid (Qt_21.out.on b_e)
  have Qc_22 : Hid (KRows w20 (Y1.heap.size) (.slice va3 ss.length vc3) (.slice vb3 is.length vd3) ss is) := hid (Qc_21.out.on b_e)
  have Qd_22 : Hid (KRows w20 (T6.heap.size) (.slice va4 m2.length vc4) (.slice vb4 i2.length vd4) m2 i2) := hid (Qd_21.out.on b_e)
  have B_22 : Hid (Below w.heap.size w w20) := hid (below_via B_21.out b_e)
  clear Xk_21 Xx_21 Xa_21 Xt_21 Xy_21 Xc_21 Xd_21 Qk_21 Qa_21 Qt_21 Qc_21 Qd_21 B_21
  clear b_e
  have Qe_22 : Hid (KRows w20 (V5_1.heap.size) (.slice va5 m3.length vc5) (.slice vb5 i3.length vd5) m3 i3) := hid q_e
  clear q_e
  obtain ⟨g6, hg6⟩ : ∃ g, w20.heap.size = g := ⟨_, rfl⟩
  obtain ⟨U6, hU6⟩ : ∃ V, (w20.alloc (.cells #[.slice none 0 0, .slice none 0 0] 27)) = V := ⟨_, rfl⟩
  have bz6 : Below w20.heap.size w20 U6 := by rw [← hU6]; exact below_more (Below.refl w20.heap.size w20) (.cells #[.slice none 0 0, .slice none 0 0] 27)
  have N6_0_0 : BlockIs U6 (g6) 27 [.slice none 0 0, .slice none 0 0] := by rw [← hg6, ← hU6]; exact heap_alloc_new _ _
  rw [hg6] at bz6
  have o6_0 := N6_0_0.cell (j := 0) rfl
  have f6_0 := N6_0_0.thaw 0
  obtain ⟨V6_0, hV6_0⟩ : ∃ V, U6.setCell ⟨g6, 0, none⟩ (.slice va5 m3.length vc5) = V := ⟨_, rfl⟩
  have N6_0_1 : BlockIs V6_0 (g6) 27 [.slice va5 m3.length vc5, .slice none 0 0] := by rw [← hV6_0]; exact N6_0_0.set 0 _
  have bz6 : Below g6 w20 V6_0 := by rw [← hV6_0]; exact bz6.setCell (by show _ ≤ g6; omega) _
  have o6_1 := N6_0_1.cell (j := 1) rfl
  have f6_1 := N6_0_1.thaw 1
  obtain ⟨V6_1, hV6_1⟩ : ∃ V, V6_0.setCell ⟨g6, 1, none⟩ (.slice vb5 i3.length vd5) = V := ⟨_, rfl⟩
  have N6_0_2 : BlockIs V6_1 (g6) 27 [.slice va5 m3.length vc5, .slice vb5 i3.length vd5] := by rw [← hV6_1]; exact N6_0_1.set 1 _
  have bz6 : Below g6 w20 V6_1 := by rw [← hV6_1]; exact bz6.setCell (by show _ ≤ g6; omega) _
  have hN6_0 := hid N6_0_2
  have p6_0_0 := hN6_0.out.cell (j := 0) rfl
  have p6_0_1 := hN6_0.out.cell (j := 1) rfl
  have bzz6 : Below w20.heap.size w20 V6_1 := by rw [hg6]; exact bz6
  clear bz6 N6_0_0 N6_0_1 N6_0_2
  have ltk_6 : g0 < g6 := by rw [← hg6]; exact Xk_22.out.lt
  have ltx_6 : g0 + 1 < g6 := by rw [← hg6]; exact Xx_22.out.lt
  have lta_6 : g1 < g6 := by rw [← hg6]; exact Xa_22.out.lt
  have ltt_6 : g2 < g6 := by rw [← hg6]; exact Xt_22.out.lt
  have lty_6 : g3 < g6 := by rw [← hg6]; exact Xy_22.out.lt
  have ltc_6 : g4 < g6 := by rw [← hg6]; exact Xc_22.out.lt
  have ltd_6 : g5 < g6 := by rw [← hg6]; exact Xd_22.out.lt
  have lo6 : w.heap.size ≤ g6 := by rw [← hg6]; exact B_22.out.size
  go_wp2
  clear o6_0 f6_0 o6_1 f6_1 p6_0_0 p6_0_1
  have Xk_23 : Hid (BlockIs V6_1 (g0) 27 [.slice va ls.length vc, .slice vb li.length vd]) := hid (Xk_22.out.on bzz6 Xk_22.out.lt)
  have Xx_23 : Hid (BlockIs V6_1 (g0 + 1) 29 [.int .i64 d.op, .int .i64 d.token, .int .i64 d.seq, .string d.key, .string d.val, .int .i64 d.ver]) := hid (Xx_22.out.on bzz6 Xx_22.out.lt)
  have Xa_23 : Hid (BlockIs V6_1 (g1) 27 [.slice va1 ss.length vc1, .slice vb1 is.length vd1]) := hid (Xa_22.out.on bzz6 Xa_22.out.lt)
  have Xt_23 : Hid (BlockIs V6_1 (g2) 27 [.slice va2 ss.length vc2, .slice vb2 is.length vd2]) := hid (Xt_22.out.on bzz6 Xt_22.out.lt)
  have Xy_23 : Hid (BlockIs V6_1 (g3) 29 [.int .i64 d.op, .int .i64 d.token, .int .i64 (d.seq + 9), .string d.key, .string d.val, .int .i64 d.ver]) := hid (Xy_22.out.on bzz6 Xy_22.out.lt)
  have Xc_23 : Hid (BlockIs V6_1 (g4) 27 [.slice va3 ss.length vc3, .slice vb3 is.length vd3]) := hid (Xc_22.out.on bzz6 Xc_22.out.lt)
  have Xd_23 : Hid (BlockIs V6_1 (g5) 27 [.slice va4 m2.length vc4, .slice vb4 i2.length vd4]) := hid (Xd_22.out.on bzz6 Xd_22.out.lt)
  have Qk_23 : Hid (KRows V6_1 (w.heap.size) (.slice va ls.length vc) (.slice vb li.length vd) ls li) := hid (Qk_22.out.on bzz6)
  have Qa_23 : Hid (KRows V6_1 (V0_7.heap.size) (.slice va1 ss.length vc1) (.slice vb1 is.length vd1) ss is) := hid (Qa_22.out.on bzz6)
  have Qt_23 : Hid (KRows V6_1 (V1_1.heap.size) (.slice va2 ss.length vc2) (.slice vb2 is.length vd2) ss is) := hid (Qt_22.out.on bzz6)
  have Qc_23 : Hid (KRows V6_1 (Y1.heap.size) (.slice va3 ss.length vc3) (.slice vb3 is.length vd3) ss is) := hid (Qc_22.out.on bzz6)
  have Qd_23 : Hid (KRows V6_1 (T6.heap.size) (.slice va4 m2.length vc4) (.slice vb4 i2.length vd4) m2 i2) := hid (Qd_22.out.on bzz6)
  have Qe_23 : Hid (KRows V6_1 (V5_1.heap.size) (.slice va5 m3.length vc5) (.slice vb5 i3.length vd5) m3 i3) := hid (Qe_22.out.on bzz6)
  have B_23 : Hid (Below w.heap.size w V6_1) := hid (below_via B_22.out bzz6)
  clear Xk_22 Xx_22 Xa_22 Xt_22 Xy_22 Xc_22 Xd_22 Qk_22 Qa_22 Qt_22 Qc_22 Qd_22 Qe_22 B_22
  clear bzz6
  have Xe_23 := hN6_0
  clear cN cG cA hwq
  go_loopg [21, 22] ls.length (fun g y i wr => ∃ (k : Nat), k + g = ls.length ∧ i = .int .i64 k ∧ y = .bool (movedTo ls ss k) ∧ Hid (Below V6_1.heap.size V6_1 wr))
  case atStart => exact ⟨0, by omega, rfl, rfl, (show Below _ _ _ from Below.refl _ _)⟩
  case round =>
    obtain ⟨k, hkg, rfl, rfl, BR⟩ := hrel
    have Ra := Xa_23.out.on BR.out Xa_23.out.lt
    have Rk := Xk_23.out.on BR.out Xk_23.out.lt
    have ra0 := Ra.cell (j := 0) rfl
    have rk0 := Rk.cell (j := 0) rfl
    clear Ra Rk
    cases gk with
    | succ q =>
      have h1 : k < ls.length := by omega
      have h2 : k < ss.length := by rw [HL.out]; exact h1
      have h1' : (k : Int) < (ls.length : Int) := by omega
      have h2' : (k : Int) < (ss.length : Int) := by omega
      have hms := hid (movedTo_step h1 h2)
      obtain ⟨mv, hmv⟩ : ∃ b, movedTo ls ss k = b := ⟨_, rfl⟩
      rw [hmv] at hms ⊢
      clear hmv
      have hne : ls ≠ [] := by intro e; rw [e] at h1; simp at h1
      have hne2 : ss ≠ [] := by intro e; rw [e] at h2; simp at h2
      obtain ⟨bk, offk, rfl, hck⟩ := (sessionR_at Qk_23.out.1).on BR.out hne
      obtain ⟨ba, offa, rfl, hca⟩ := (sessionR_at Qa_23.out.1).on BR.out hne2
      obtain ⟨x0, x1, x2⟩ := hck k h1
      obtain ⟨y0, y1, y2⟩ := hca k h2
      clear hck hca hne hne2 x0 x2 y0 y2
      cases mv with
      | true =>
        go_wp2
        go_quiet (fail)
        go_wp2
        go_roundg q
        case measure => omega
        case rel => exact ⟨k + 1, by omega, by go_num, by rw [hms.out]; rfl, below_drewN BR.out _⟩
      | false =>
        go_wp2
        go_quiet (fail)
        go_wp2
        go_roundg q
        case measure => omega
        case rel => exact ⟨k + 1, by omega, by go_num, by rw [hms.out]; rfl, below_drewN BR.out _⟩
    | zero =>
      obtain rfl : k = ls.length := by omega
      have h1 : ¬ (ls.length : Int) < (ls.length : Int) := by omega
      have h2 : ¬ (ls.length : Int) < (ss.length : Int) := by have := HL.out; omega
      have b_l := BR.out
      obtain ⟨mv, hmv⟩ : ∃ b, movedTo ls ss ls.length = b := ⟨_, rfl⟩
      rw [hmv]
      have HMV := hid hmv
      clear hmv
      have Xk_24 : Hid (BlockIs wr (g0) 27 [.slice va ls.length vc, .slice vb li.length vd]) := hid (Xk_23.out.on b_l Xk_23.out.lt)
      have Xx_24 : Hid (BlockIs wr (g0 + 1) 29 [.int .i64 d.op, .int .i64 d.token, .int .i64 d.seq, .string d.key, .string d.val, .int .i64 d.ver]) := hid (Xx_23.out.on b_l Xx_23.out.lt)
      have Xa_24 : Hid (BlockIs wr (g1) 27 [.slice va1 ss.length vc1, .slice vb1 is.length vd1]) := hid (Xa_23.out.on b_l Xa_23.out.lt)
      have Xt_24 : Hid (BlockIs wr (g2) 27 [.slice va2 ss.length vc2, .slice vb2 is.length vd2]) := hid (Xt_23.out.on b_l Xt_23.out.lt)
      have Xy_24 : Hid (BlockIs wr (g3) 29 [.int .i64 d.op, .int .i64 d.token, .int .i64 (d.seq + 9), .string d.key, .string d.val, .int .i64 d.ver]) := hid (Xy_23.out.on b_l Xy_23.out.lt)
      have Xc_24 : Hid (BlockIs wr (g4) 27 [.slice va3 ss.length vc3, .slice vb3 is.length vd3]) := hid (Xc_23.out.on b_l Xc_23.out.lt)
      have Xd_24 : Hid (BlockIs wr (g5) 27 [.slice va4 m2.length vc4, .slice vb4 i2.length vd4]) := hid (Xd_23.out.on b_l Xd_23.out.lt)
      have Xe_24 : Hid (BlockIs wr (g6) 27 [.slice va5 m3.length vc5, .slice vb5 i3.length vd5]) := hid (Xe_23.out.on b_l Xe_23.out.lt)
      have Qk_24 : Hid (KRows wr (w.heap.size) (.slice va ls.length vc) (.slice vb li.length vd) ls li) := hid (Qk_23.out.on b_l)
      have Qa_24 : Hid (KRows wr (V0_7.heap.size) (.slice va1 ss.length vc1) (.slice vb1 is.length vd1) ss is) := hid (Qa_23.out.on b_l)
      have Qt_24 : Hid (KRows wr (V1_1.heap.size) (.slice va2 ss.length vc2) (.slice vb2 is.length vd2) ss is) := hid (Qt_23.out.on b_l)
      have Qc_24 : Hid (KRows wr (Y1.heap.size) (.slice va3 ss.length vc3) (.slice vb3 is.length vd3) ss is) := hid (Qc_23.out.on b_l)
      have Qd_24 : Hid (KRows wr (T6.heap.size) (.slice va4 m2.length vc4) (.slice vb4 i2.length vd4) m2 i2) := hid (Qd_23.out.on b_l)
      have Qe_24 : Hid (KRows wr (V5_1.heap.size) (.slice va5 m3.length vc5) (.slice vb5 i3.length vd5) m3 i3) := hid (Qe_23.out.on b_l)
      have B_24 : Hid (Below w.heap.size w wr) := hid (below_via B_23.out b_l)
      clear Xk_23 Xx_23 Xa_23 Xt_23 Xy_23 Xc_23 Xd_23 Xe_23 Qk_23 Qa_23 Qt_23 Qc_23 Qd_23 Qe_23 B_23
      clear b_l
      have cc0_6 := Xc_24.out.cell (j := 0) rfl
      have cc1_6 := Xc_24.out.cell (j := 1) rfl
      have ca0_6 := Xa_24.out.cell (j := 0) rfl
      have ca1_6 := Xa_24.out.cell (j := 1) rfl
      go_wp2_with fail
      refine Calls.mono (cM.out _ _ _ _ _ _ _ _ _ (sessionR_at Qc_24.out.1) (itemR_at Qc_24.out.2) (sessionR_at Qa_24.out.1) (itemR_at Qa_24.out.2)) ?_
      rintro e w26 ⟨rfl, b_s⟩
      have Xk_25 : Hid (BlockIs w26 (g0) 27 [.slice va ls.length vc, .slice vb li.length vd]) := hid (Xk_24.out.on b_s Xk_24.out.lt)
      have Xx_25 : Hid (BlockIs w26 (g0 + 1) 29 [.int .i64 d.op, .int .i64 d.token, .int .i64 d.seq, .string d.key, .string d.val, .int .i64 d.ver]) := hid (Xx_24.out.on b_s Xx_24.out.lt)
      have Xa_25 : Hid (BlockIs w26 (g1) 27 [.slice va1 ss.length vc1, .slice vb1 is.length vd1]) := hid (Xa_24.out.on b_s Xa_24.out.lt)
      have Xt_25 : Hid (BlockIs w26 (g2) 27 [.slice va2 ss.length vc2, .slice vb2 is.length vd2]) := hid (Xt_24.out.on b_s Xt_24.out.lt)
      have Xy_25 : Hid (BlockIs w26 (g3) 29 [.int .i64 d.op, .int .i64 d.token, .int .i64 (d.seq + 9), .string d.key, .string d.val, .int .i64 d.ver]) := hid (Xy_24.out.on b_s Xy_24.out.lt)
      have Xc_25 : Hid (BlockIs w26 (g4) 27 [.slice va3 ss.length vc3, .slice vb3 is.length vd3]) := hid (Xc_24.out.on b_s Xc_24.out.lt)
      have Xd_25 : Hid (BlockIs w26 (g5) 27 [.slice va4 m2.length vc4, .slice vb4 i2.length vd4]) := hid (Xd_24.out.on b_s Xd_24.out.lt)
      have Xe_25 : Hid (BlockIs w26 (g6) 27 [.slice va5 m3.length vc5, .slice vb5 i3.length vd5]) := hid (Xe_24.out.on b_s Xe_24.out.lt)
      have Qk_25 : Hid (KRows w26 (w.heap.size) (.slice va ls.length vc) (.slice vb li.length vd) ls li) := hid (Qk_24.out.on b_s)
      have Qa_25 : Hid (KRows w26 (V0_7.heap.size) (.slice va1 ss.length vc1) (.slice vb1 is.length vd1) ss is) := hid (Qa_24.out.on b_s)
      have Qt_25 : Hid (KRows w26 (V1_1.heap.size) (.slice va2 ss.length vc2) (.slice vb2 is.length vd2) ss is) := hid (Qt_24.out.on b_s)
      have Qc_25 : Hid (KRows w26 (Y1.heap.size) (.slice va3 ss.length vc3) (.slice vb3 is.length vd3) ss is) := hid (Qc_24.out.on b_s)
      have Qd_25 : Hid (KRows w26 (T6.heap.size) (.slice va4 m2.length vc4) (.slice vb4 i2.length vd4) m2 i2) := hid (Qd_24.out.on b_s)
      have Qe_25 : Hid (KRows w26 (V5_1.heap.size) (.slice va5 m3.length vc5) (.slice vb5 i3.length vd5) m3 i3) := hid (Qe_24.out.on b_s)
      have B_25 : Hid (Below w.heap.size w w26) := hid (below_via B_24.out b_s)
      clear cc0_6 cc1_6 ca0_6 ca1_6
      clear Xk_24 Xx_24 Xa_24 Xt_24 Xy_24 Xc_24 Xd_24 Xe_24 Qk_24 Qa_24 Qt_24 Qc_24 Qd_24 Qe_24 B_24
      clear b_s
      cases mv with
      | false =>
        have heq : ss = ls ∧ is = li := by
          rcases HC.out with h | h
          · exact h
          · rw [HMV.out] at h; exact absurd h.1 (by decide)
        obtain ⟨es, ei⟩ := heq
        have cL' := fun W ao bo co eo ac bc cc ec h1 h2 h3 h4 => specSameKeep_any ao bo co eo ss ls is li ac bc cc ec hl3 hl4 hl1 hl2 W h1 h2 h3 h4
        rw [same_iff.2 ⟨es, ei⟩] at cL'
        have cL := hid cL'
        clear cL' es ei
        have ca0_7 := Xa_25.out.cell (j := 0) rfl
        have ca1_7 := Xa_25.out.cell (j := 1) rfl
        have ck0_7 := Xk_25.out.cell (j := 0) rfl
        have ck1_7 := Xk_25.out.cell (j := 1) rfl
        go_wp2_with fail
        refine Calls.mono (cL.out _ _ _ _ _ _ _ _ _ (sessionR_at Qa_25.out.1) (itemR_at Qa_25.out.2) (sessionR_at Qk_25.out.1) (itemR_at Qk_25.out.2)) ?_
        rintro e w29 ⟨rfl, b_s⟩
        have Xk_26 : Hid (BlockIs w29 (g0) 27 [.slice va ls.length vc, .slice vb li.length vd]) := hid (Xk_25.out.on b_s Xk_25.out.lt)
        have Xx_26 : Hid (BlockIs w29 (g0 + 1) 29 [.int .i64 d.op, .int .i64 d.token, .int .i64 d.seq, .string d.key, .string d.val, .int .i64 d.ver]) := hid (Xx_25.out.on b_s Xx_25.out.lt)
        have Xa_26 : Hid (BlockIs w29 (g1) 27 [.slice va1 ss.length vc1, .slice vb1 is.length vd1]) := hid (Xa_25.out.on b_s Xa_25.out.lt)
        have Xt_26 : Hid (BlockIs w29 (g2) 27 [.slice va2 ss.length vc2, .slice vb2 is.length vd2]) := hid (Xt_25.out.on b_s Xt_25.out.lt)
        have Xy_26 : Hid (BlockIs w29 (g3) 29 [.int .i64 d.op, .int .i64 d.token, .int .i64 (d.seq + 9), .string d.key, .string d.val, .int .i64 d.ver]) := hid (Xy_25.out.on b_s Xy_25.out.lt)
        have Xc_26 : Hid (BlockIs w29 (g4) 27 [.slice va3 ss.length vc3, .slice vb3 is.length vd3]) := hid (Xc_25.out.on b_s Xc_25.out.lt)
        have Xd_26 : Hid (BlockIs w29 (g5) 27 [.slice va4 m2.length vc4, .slice vb4 i2.length vd4]) := hid (Xd_25.out.on b_s Xd_25.out.lt)
        have Xe_26 : Hid (BlockIs w29 (g6) 27 [.slice va5 m3.length vc5, .slice vb5 i3.length vd5]) := hid (Xe_25.out.on b_s Xe_25.out.lt)
        have Qk_26 : Hid (KRows w29 (w.heap.size) (.slice va ls.length vc) (.slice vb li.length vd) ls li) := hid (Qk_25.out.on b_s)
        have Qa_26 : Hid (KRows w29 (V0_7.heap.size) (.slice va1 ss.length vc1) (.slice vb1 is.length vd1) ss is) := hid (Qa_25.out.on b_s)
        have Qt_26 : Hid (KRows w29 (V1_1.heap.size) (.slice va2 ss.length vc2) (.slice vb2 is.length vd2) ss is) := hid (Qt_25.out.on b_s)
        have Qc_26 : Hid (KRows w29 (Y1.heap.size) (.slice va3 ss.length vc3) (.slice vb3 is.length vd3) ss is) := hid (Qc_25.out.on b_s)
        have Qd_26 : Hid (KRows w29 (T6.heap.size) (.slice va4 m2.length vc4) (.slice vb4 i2.length vd4) m2 i2) := hid (Qd_25.out.on b_s)
        have Qe_26 : Hid (KRows w29 (V5_1.heap.size) (.slice va5 m3.length vc5) (.slice vb5 i3.length vd5) m3 i3) := hid (Qe_25.out.on b_s)
        have B_26 : Hid (Below w.heap.size w w29) := hid (below_via B_25.out b_s)
        clear ca0_7 ca1_7 ck0_7 ck1_7
        clear Xk_25 Xx_25 Xa_25 Xt_25 Xy_25 Xc_25 Xd_25 Xe_25 Qk_25 Qa_25 Qt_25 Qc_25 Qd_25 Qe_25 B_25
        clear b_s
        go_wp2
        go_ret
        exact ⟨rfl, B_26.out⟩
      | true =>
        have heq : (true = o3 ∧ rp = rg3 ∧ ss = m3 ∧ is = i3) ∧ (true = o2 ∧ ⟨#[103, 97, 112]⟩ = rg2 ∧ ss = m2 ∧ is = i2) := by
          rcases HC.out with h | h
          · have h2 := HMV.out
            rw [h.1, movedTo_same] at h2
            cases h2
          · obtain ⟨_, p, q⟩ := h
            injection p with p1 p2 p3 p4
            injection q with q1 q2 q3 q4
            exact ⟨⟨p4.symm, p3.symm, p1.symm, p2.symm⟩, q4.symm, q3.symm, q1.symm, q2.symm⟩
        obtain ⟨⟨rfl, rfl, rfl, rfl⟩, rfl, rfl, rfl, rfl⟩ := heq
        have ce0_8 := Xe_25.out.cell (j := 0) rfl
        have ce1_8 := Xe_25.out.cell (j := 1) rfl
        have ca0_8 := Xa_25.out.cell (j := 0) rfl
        have ca1_8 := Xa_25.out.cell (j := 1) rfl
        go_wp2_with fail
        refine Calls.mono (cM.out _ _ _ _ _ _ _ _ _ (sessionR_at Qe_25.out.1) (itemR_at Qe_25.out.2) (sessionR_at Qa_25.out.1) (itemR_at Qa_25.out.2)) ?_
        rintro e w30 ⟨rfl, b_s⟩
        have Xk_26 : Hid (BlockIs w30 (g0) 27 [.slice va ls.length vc, .slice vb li.length vd]) := hid (Xk_25.out.on b_s Xk_25.out.lt)
        have Xx_26 : Hid (BlockIs w30 (g0 + 1) 29 [.int .i64 d.op, .int .i64 d.token, .int .i64 d.seq, .string d.key, .string d.val, .int .i64 d.ver]) := hid (Xx_25.out.on b_s Xx_25.out.lt)
        have Xa_26 : Hid (BlockIs w30 (g1) 27 [.slice va1 ss.length vc1, .slice vb1 is.length vd1]) := hid (Xa_25.out.on b_s Xa_25.out.lt)
        have Xt_26 : Hid (BlockIs w30 (g2) 27 [.slice va2 ss.length vc2, .slice vb2 is.length vd2]) := hid (Xt_25.out.on b_s Xt_25.out.lt)
        have Xy_26 : Hid (BlockIs w30 (g3) 29 [.int .i64 d.op, .int .i64 d.token, .int .i64 (d.seq + 9), .string d.key, .string d.val, .int .i64 d.ver]) := hid (Xy_25.out.on b_s Xy_25.out.lt)
        have Xc_26 : Hid (BlockIs w30 (g4) 27 [.slice va3 ss.length vc3, .slice vb3 is.length vd3]) := hid (Xc_25.out.on b_s Xc_25.out.lt)
        have Xd_26 : Hid (BlockIs w30 (g5) 27 [.slice va4 ss.length vc4, .slice vb4 is.length vd4]) := hid (Xd_25.out.on b_s Xd_25.out.lt)
        have Xe_26 : Hid (BlockIs w30 (g6) 27 [.slice va5 ss.length vc5, .slice vb5 is.length vd5]) := hid (Xe_25.out.on b_s Xe_25.out.lt)
        have Qk_26 : Hid (KRows w30 (w.heap.size) (.slice va ls.length vc) (.slice vb li.length vd) ls li) := hid (Qk_25.out.on b_s)
        have Qa_26 : Hid (KRows w30 (V0_7.heap.size) (.slice va1 ss.length vc1) (.slice vb1 is.length vd1) ss is) := hid (Qa_25.out.on b_s)
        have Qt_26 : Hid (KRows w30 (V1_1.heap.size) (.slice va2 ss.length vc2) (.slice vb2 is.length vd2) ss is) := hid (Qt_25.out.on b_s)
        have Qc_26 : Hid (KRows w30 (Y1.heap.size) (.slice va3 ss.length vc3) (.slice vb3 is.length vd3) ss is) := hid (Qc_25.out.on b_s)
        have Qd_26 : Hid (KRows w30 (T6.heap.size) (.slice va4 ss.length vc4) (.slice vb4 is.length vd4) ss is) := hid (Qd_25.out.on b_s)
        have Qe_26 : Hid (KRows w30 (V5_1.heap.size) (.slice va5 ss.length vc5) (.slice vb5 is.length vd5) ss is) := hid (Qe_25.out.on b_s)
        have B_26 : Hid (Below w.heap.size w w30) := hid (below_via B_25.out b_s)
        clear ce0_8 ce1_8 ca0_8 ca1_8
        clear Xk_25 Xx_25 Xa_25 Xt_25 Xy_25 Xc_25 Xd_25 Xe_25 Qk_25 Qa_25 Qt_25 Qc_25 Qd_25 Qe_25 B_25
        clear b_s
        have cd0_9 := Xd_26.out.cell (j := 0) rfl
        have cd1_9 := Xd_26.out.cell (j := 1) rfl
        have ca0_9 := Xa_26.out.cell (j := 0) rfl
        have ca1_9 := Xa_26.out.cell (j := 1) rfl
        go_wp2_with fail
        refine Calls.mono (cM.out _ _ _ _ _ _ _ _ _ (sessionR_at Qd_26.out.1) (itemR_at Qd_26.out.2) (sessionR_at Qa_26.out.1) (itemR_at Qa_26.out.2)) ?_
        rintro e w31 ⟨rfl, b_s⟩
        have Xk_27 : Hid (BlockIs w31 (g0) 27 [.slice va ls.length vc, .slice vb li.length vd]) := hid (Xk_26.out.on b_s Xk_26.out.lt)
        have Xx_27 : Hid (BlockIs w31 (g0 + 1) 29 [.int .i64 d.op, .int .i64 d.token, .int .i64 d.seq, .string d.key, .string d.val, .int .i64 d.ver]) := hid (Xx_26.out.on b_s Xx_26.out.lt)
        have Xa_27 : Hid (BlockIs w31 (g1) 27 [.slice va1 ss.length vc1, .slice vb1 is.length vd1]) := hid (Xa_26.out.on b_s Xa_26.out.lt)
        have Xt_27 : Hid (BlockIs w31 (g2) 27 [.slice va2 ss.length vc2, .slice vb2 is.length vd2]) := hid (Xt_26.out.on b_s Xt_26.out.lt)
        have Xy_27 : Hid (BlockIs w31 (g3) 29 [.int .i64 d.op, .int .i64 d.token, .int .i64 (d.seq + 9), .string d.key, .string d.val, .int .i64 d.ver]) := hid (Xy_26.out.on b_s Xy_26.out.lt)
        have Xc_27 : Hid (BlockIs w31 (g4) 27 [.slice va3 ss.length vc3, .slice vb3 is.length vd3]) := hid (Xc_26.out.on b_s Xc_26.out.lt)
        have Xd_27 : Hid (BlockIs w31 (g5) 27 [.slice va4 ss.length vc4, .slice vb4 is.length vd4]) := hid (Xd_26.out.on b_s Xd_26.out.lt)
        have Xe_27 : Hid (BlockIs w31 (g6) 27 [.slice va5 ss.length vc5, .slice vb5 is.length vd5]) := hid (Xe_26.out.on b_s Xe_26.out.lt)
        have Qk_27 : Hid (KRows w31 (w.heap.size) (.slice va ls.length vc) (.slice vb li.length vd) ls li) := hid (Qk_26.out.on b_s)
        have Qa_27 : Hid (KRows w31 (V0_7.heap.size) (.slice va1 ss.length vc1) (.slice vb1 is.length vd1) ss is) := hid (Qa_26.out.on b_s)
        have Qt_27 : Hid (KRows w31 (V1_1.heap.size) (.slice va2 ss.length vc2) (.slice vb2 is.length vd2) ss is) := hid (Qt_26.out.on b_s)
        have Qc_27 : Hid (KRows w31 (Y1.heap.size) (.slice va3 ss.length vc3) (.slice vb3 is.length vd3) ss is) := hid (Qc_26.out.on b_s)
        have Qd_27 : Hid (KRows w31 (T6.heap.size) (.slice va4 ss.length vc4) (.slice vb4 is.length vd4) ss is) := hid (Qd_26.out.on b_s)
        have Qe_27 : Hid (KRows w31 (V5_1.heap.size) (.slice va5 ss.length vc5) (.slice vb5 is.length vd5) ss is) := hid (Qe_26.out.on b_s)
        have B_27 : Hid (Below w.heap.size w w31) := hid (below_via B_26.out b_s)
        clear cd0_9 cd1_9 ca0_9 ca1_9
        clear Xk_26 Xx_26 Xa_26 Xt_26 Xy_26 Xc_26 Xd_26 Xe_26 Qk_26 Qa_26 Qt_26 Qc_26 Qd_26 Qe_26 B_26
        clear b_s
        go_wp2
        go_ret
        exact ⟨rfl, B_27.out⟩

theorem own : ownKnob Tryz.prog.godebug = none := by kernel_rfl
theorem laidOut : laidOutB Tryz.prog = true := by kernel_rfl
theorem rowed : varsRowed Tryz.prog Rows.fnSessionsSpec.vars = true := by kernel_rfl
/-- what the row's list gives: what internal/strconv.uint64pow10 holds -/
theorem table0 {W : World} (h : laidMetH Tryz.prog Rows.fnSessionsRow.laid W) : Lib.TabIs Tryz.prog W "internal/strconv.uint64pow10" .u64 Lib.pow10Tab := by
  have h1 : laidMet Tryz.prog Rows.fnSessionsRow.laid W := h
  unfold Rows.fnSessionsRow at h1
  have h2 := h1.tail.tail
  rw [show (Rows.laid_internal_strconv_uint64pow10 : DataW Unit) = Lib.tabData .u64 Lib.pow10Tab by kernel_rfl] at h2
  exact Lib.tabIs_of_head (show Tryz.prog.globalNamed "internal/strconv.uint64pow10" = some 0 by kernel_rfl) (show (Tryz.prog.globals[0]?).map (·.type) = some 177 by kernel_rfl) Tryz.underlying177 Tryz.underlying153 (show Tryz.prog.cellsOf 153 = 1 by kernel_rfl) (show Tryz.prog.cellsOf 177 = 20 by kernel_rfl) h2
set_option maxRecDepth 1000000 in
theorem contract (H : Type) (enc : TypeId × Value → H) (W : World) (base : Nat) (args : Array Value) (ds gs : List (DataW H)) (before : List MemPlace)
    (hval : ∀ (j : Nat) t v, Tryz.f3.params[j]? = some t → args[j]? = some v → Value.okWide Tryz.prog W .any base t v)
    (hW : DataW.Whole enc Tryz.prog Tryz.f3.params.toList Rows.fnSessionsSpec.vars false W args.toList ds gs before) (hL : laidMetH Tryz.prog Rows.fnSessionsRow.laid W) :
    Calls Tryz.prog 3 args W fun e W' => ∃ v, e = .returned v ∧ Rows.fnSessionsSpec.post enc Tryz.prog Tryz.f3 false true false false W args v W' := by
  have hW' := hW
  obtain ⟨p, q, hA0, hV0, rfl, hfz, hnd⟩ := hW
  have hV : DataW.TrodVars enc Tryz.prog W (fun _ => true) Rows.fnSessionsSpec.vars gs q := hV0
  have hA : DataW.TrodAll enc Tryz.prog W 0 (fun _ => true) true Tryz.f3.params.toList args.toList ds p := hA0
  rw [Tryz.params3] at hA hval
  obtain ⟨v0, vs0, d0, ds0, p0, q0, hargs0, rfl, rfl, h0, r0⟩ := trodAll_cons hA
  obtain ⟨rfl, rfl, rfl⟩ := trodAll_nil r0
  obtain rfl : args = #[v0] := by cases args; simp_all
  obtain ⟨a0, len0, cap0, rfl⟩ := okWide_slice Tryz.underlying22 (hval 0 22 v0 rfl rfl)
  have k0 := h0
  have lt0 : ∀ x ∈ p0, x.block < W.heap.size := by obtain ⟨m, hm⟩ := k0; exact DataW.trod_lt m _ _ _ hm
  have hb0 : len0 ≤ cap0 ∧ Bytes W a0 len0 := by
    obtain ⟨fuel, hf⟩ := h0
    rcases open_ints Tryz.underlying22 Tryz.underlying5 (by kernel_rfl) hf with ⟨hcs, _⟩ | ⟨x, l, c, zs, hcs, _, hl, hm, hz, _, hcell, hwz⟩
    · simp [Value.cells] at hcs
      obtain ⟨rfl, rfl, rfl⟩ := hcs
      exact ⟨Nat.le_refl _, fun h => by omega⟩
    · simp [Value.cells] at hcs
      obtain ⟨rfl, rfl, rfl⟩ := hcs
      refine ⟨hl, fun hp => ?_⟩
      have hzl : zs.length = cap0 := by simpa using hz
      obtain ⟨b, off, rfl, hc⟩ := ints_at hcell (by omega)
      refine ⟨b, off, rfl, fun j hj => ?_⟩
      have hjz : j < zs.length := by omega
      have hb8 := bounds_u8 (hwz (zs.getD j 0) (by simp [List.getD, hjz]))
      exact ⟨zs.getD j 0, hb8.1, hb8.2, hc j hjz⟩
  clear hA0 hV0
  obtain ⟨rfl, rfl⟩ := trodVars_none hV
  refine (walk a0 len0 cap0 hb0.1 W hb0.2 (table0 hL)).mono fun e W' ⟨he, bel⟩ => ?_
  subst he
  exact ⟨_, rfl, _, _, _, [], _, [], hW', trodAll_mk1 (shut_bool Tryz.underlying4 _), trodAll_cons_mk (Below.trod laidOut (by kernel_rfl) (of_decide_eq_true (by kernel_rfl)) k0 bel lt0) (trodAll_mk0), rfl, bel.frame _, fun h => by cases h⟩

def put (cs : Array Value) : Obj → Obj
  | .cells _ t frozen => .cells cs t frozen
  | o => o

/-- a world for the witness: the tables hold what their initialisers lay -/
def laidWorld (w : World) : World := { w with heap := (((w.heap.modify 1 (put (([0, 1, 28, 2, 29, 14, 24, 3, 30, 22, 20, 15, 25, 17, 4, 8, 31, 27, 13, 23, 21, 19, 16, 7, 26, 12, 18, 6, 11, 5, 10, 9] : List Int).map (Value.int .u8)).toArray)).modify 2 (put (([0, 1, 56, 2, 57, 49, 28, 3, 61, 58, 42, 50, 38, 29, 17, 4, 62, 47, 59, 36, 45, 43, 51, 22, 53, 39, 33, 30, 24, 18, 12, 5, 63, 55, 48, 27, 60, 41, 37, 16, 46, 35, 44, 21, 52, 32, 23, 11, 54, 26, 40, 15, 34, 20, 31, 10, 25, 14, 19, 9, 13, 8, 7, 6] : List Int).map (Value.int .u8)).toArray)).modify 0 (put (([1, 10, 100, 1000, 10000, 100000, 1000000, 10000000, 100000000, 1000000000, 10000000000, 100000000000, 1000000000000, 10000000000000, 100000000000000, 1000000000000000, 10000000000000000, 100000000000000000, 1000000000000000000, 10000000000000000000] : List Int).map (Value.int .u64)).toArray)) }
theorem laid_met (os : Os) : laidMet Tryz.prog Rows.fnSessionsRow.laid ((laidWorld (World.holding Tryz.prog os ⟨#[], #[], []⟩)).forCall (fun _ _ => 0) ⟨#[], #[.slice none 0 0], []⟩).memory :=
  laidMet_of_run' 8 (by kernel_rfl) (by kernel_rfl)
theorem reads (os : Os) {H : Type} (enc : TypeId × Value → H) : ∃ places, DataW.whole enc Tryz.prog ((laidWorld (World.holding Tryz.prog os ⟨#[], #[], []⟩)).forCall (fun _ _ => 0) ⟨#[], #[.slice none 0 0], []⟩).memory Tryz.f3.params.toList Rows.fnSessionsSpec.vars false #[Value.slice none 0 0].toList 8 = some ([.nil], [], places) :=
  ⟨[], by kernel_rfl⟩

set_option maxRecDepth 1000000 in
theorem lifted (os : Os) (started : os.Started) (H : Type) (enc : TypeId × Value → H) (F : Stop.Interp) :
    ReturnsInHanded {} Tryz.checked os 3 .any ((OpenSpec.ofChange Rows.fnSessionsSpec).preRow enc Tryz.prog Tryz.f3 Rows.fnSessionsRow.domain false Rows.fnSessionsRow.laid) (((OpenSpec.ofChange Rows.fnSessionsSpec).at F).post enc Tryz.prog Tryz.f3 false true false false) := by
  obtain ⟨places, hx⟩ := reads os enc
  refine returnsInHanded_of_row (C := Tryz.checked) (s := OpenSpec.ofChange Rows.fnSessionsSpec) own started (by kernel_rfl) Tryz.func3
    (witness_row_at (enc := enc) (C := Tryz.checked) false (laidWorld (World.holding Tryz.prog os ⟨#[], #[], []⟩)) #[.slice none 0 0] rfl (by kernel_rfl) (by kernel_rfl) (by kernel_rfl)
      (OpenSpec.preRow_of_cond 8 hx (by kernel_rfl) (fun k hk => by cases hk) (by kernel_rfl) (laid_met os))) ?_
  intro W base args ds gs before hval hW _ _ _ hL _ _
  exact contract H enc W base args ds gs before hval hW hL

theorem said : Rows.FnSessionsSaid :=
  OpenClaim.holds_of_cond 3 Tryz.f3 rfl rfl rfl rfl rfl rfl rfl ⟨rfl, rfl, rfl, rfl, rfl⟩ rfl rfl rfl rfl rfl (by kernel_rfl) Tryz.func3 (by kernel_rfl)
    (of_decide_eq_true (by kernel_rfl)) (by unfold Func.isWrapper; first | (rw [if_pos (by decide +kernel)]; kernel_rfl) | (rw [if_neg (by decide +kernel)]; exact ⟨rfl, rfl⟩))
    (fun os started H enc _ F => by rw [OpenClaim.pre_eq_preRow]; exact lifted os started H enc F)

theorem plain (f : FuncId) (fn : Func) (hf : Tryz.pinned.checked.prog.funcNamed "loop.example/g00232/laws.FnSessions" = some f) (hfn : Tryz.pinned.checked.prog.funcs[f]? = some fn) :
    true = Tryz.pinned.checked.prog.looks [] ∧ ∀ (j : Nat) t, fn.params[j]? = some t → Tryz.pinned.checked.prog.wantsStandIn t = false := by
  obtain rfl : f = 3 := Option.some.inj ((show Tryz.prog.funcNamed "loop.example/g00232/laws.FnSessions" = some 3 by kernel_rfl).symm.trans hf) |>.symm
  obtain rfl : fn = Tryz.f3 := (Option.some.inj (Tryz.func3.symm.trans hfn)).symm
  refine ⟨by kernel_rfl, fun j t ht => ?_⟩
  rw [Tryz.params3] at ht
  obtain rfl : t = 22 := by simpa using Array.mem_of_getElem? ht
  exact (show Tryz.prog.wantsStandIn 22 = false by kernel_rfl)

theorem card : Rows.FnSessionsCardSaid :=
  Claim7.holds_tied_plain_at .later [] _ _ _ _ said (fun _ h => by cases h) (by kernel_rfl) (fun _ h => by cases h) fnSessions_row_tie rfl ⟨rfl, rfl⟩ (by kernel_rfl) rfl plain (by kernel_rfl)
end Go.Proofs.YthnbkjbljogdpaaGreatDoor.fnSessions
