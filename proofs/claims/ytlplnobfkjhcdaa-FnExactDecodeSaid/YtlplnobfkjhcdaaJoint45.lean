/-
  The walk of laws.eqMessage: two messages that are alike are found alike.
  The walk of laws.markText: the text by which a place is marked.
-/
import Derived.Test.YtlplnobfkjhcdaaJoint44
import Derived.Test.YtlplnobfkjhcdaaJoint43
import Derived.Test.YtlplnobfkjhcdaaJoint1
import Derived.Test.YtlplnobfkjhcdaaRows
import Derived.BigQuiet
import Derived.Lib.QuietBelow
import Derived.WalkSmall
import Derived.WalkKit
namespace Go.Proofs.Ytlplnobfkjhcdaa
open Go.RowKit Go.Sort

set_option maxRecDepth 1000000 in
set_option maxHeartbeats 1000000 in
theorem eqMessage_same (d : MsgD) (ao : Option Addr) (ac : Nat) (bo : Option Addr) (bc : Nat) (ao' : Option Addr) (ac' : Nat) (bo' : Option Addr) (bc' : Nat) (hl : d.ents.length ≤ 140737488355328) (hl' : d.conf.length ≤ 140737488355328) (w : World) (ha : EntsAt w ao d.ents) (ha' : EntsAt w ao' d.ents) (hb : IntsAt w bo d.conf) (hb' : IntsAt w bo' d.conf) :
    Calls Try.prog 6 #[.agg #[.int .i64 d.kind, .int .i64 d.src, .int .i64 d.dst, .int .i64 d.term, .int .i64 d.index, .int .i64 d.logTerm, .int .i64 d.commit, .bool d.ok, .slice ao d.ents.length ac, .slice bo d.conf.length bc, .string d.data, .bool d.last], .agg #[.int .i64 d.kind, .int .i64 d.src, .int .i64 d.dst, .int .i64 d.term, .int .i64 d.index, .int .i64 d.logTerm, .int .i64 d.commit, .bool d.ok, .slice ao' d.ents.length ac', .slice bo' d.conf.length bc', .string d.data, .bool d.last]] w fun e w' => e = .returned (.bool true) ∧ Below w.heap.size w w' := by
  have C := hid (fun w ha hb => eqEntryS_same ao ao' d.ents ac ac' hl w ha hb)
  have D := hid (fun w ha hb => eqIntS_same bo bo' d.conf bc bc' hl' w ha hb)
  obtain ⟨W0, hW0⟩ : ∃ W0, (w.alloc (.cells #[.int .i64 d.kind, .int .i64 d.src, .int .i64 d.dst, .int .i64 d.term, .int .i64 d.index, .int .i64 d.logTerm, .int .i64 d.commit, .bool d.ok, .slice ao d.ents.length ac, .slice bo d.conf.length bc, .string d.data, .bool d.last] 25)).alloc (.cells #[.int .i64 d.kind, .int .i64 d.src, .int .i64 d.dst, .int .i64 d.term, .int .i64 d.index, .int .i64 d.logTerm, .int .i64 d.commit, .bool d.ok, .slice ao' d.ents.length ac', .slice bo' d.conf.length bc', .string d.data, .bool d.last] 25) = W0 := ⟨_, rfl⟩
  have HBB := hid (below_more (below_more (Below.refl w.heap.size w) (.cells #[.int .i64 d.kind, .int .i64 d.src, .int .i64 d.dst, .int .i64 d.term, .int .i64 d.index, .int .i64 d.logTerm, .int .i64 d.commit, .bool d.ok, .slice ao d.ents.length ac, .slice bo d.conf.length bc, .string d.data, .bool d.last] 25)) (.cells #[.int .i64 d.kind, .int .i64 d.src, .int .i64 d.dst, .int .i64 d.term, .int .i64 d.index, .int .i64 d.logTerm, .int .i64 d.commit, .bool d.ok, .slice ao' d.ents.length ac', .slice bo' d.conf.length bc', .string d.data, .bool d.last] 25))
  have K0 : BlockIs W0 w.heap.size 25 [.int .i64 d.kind, .int .i64 d.src, .int .i64 d.dst, .int .i64 d.term, .int .i64 d.index, .int .i64 d.logTerm, .int .i64 d.commit, .bool d.ok, .slice ao d.ents.length ac, .slice bo d.conf.length bc, .string d.data, .bool d.last] := by
    rw [← hW0]
    show ((w.heap.push _).push _)[w.heap.size]? = some _
    rw [Array.getElem?_push, if_neg (by simp), Array.getElem?_push, if_pos rfl]
  have K1 : BlockIs W0 (w.heap.size + 1) 25 [.int .i64 d.kind, .int .i64 d.src, .int .i64 d.dst, .int .i64 d.term, .int .i64 d.index, .int .i64 d.logTerm, .int .i64 d.commit, .bool d.ok, .slice ao' d.ents.length ac', .slice bo' d.conf.length bc', .string d.data, .bool d.last] := by
    rw [← hW0]
    show ((w.heap.push _).push _)[w.heap.size + 1]? = some _
    rw [Array.getElem?_push, if_pos (by simp)]
  rw [hW0] at HBB
  have HA := hid (ha.on HBB.out)
  have HA' := hid (ha'.on HBB.out)
  have HI := hid (hb.on HBB.out)
  have HI' := hid (hb'.on HBB.out)
  clear ha hb ha' hb'
  have HK0 := hid K0
  have HK1 := hid K1
  have c0 := K0.cell (j := 0) rfl
  have d0 := K1.cell (j := 0) rfl
  have c1 := K0.cell (j := 1) rfl
  have d1 := K1.cell (j := 1) rfl
  have c2 := K0.cell (j := 2) rfl
  have d2 := K1.cell (j := 2) rfl
  have c3 := K0.cell (j := 3) rfl
  have d3 := K1.cell (j := 3) rfl
  have c4 := K0.cell (j := 4) rfl
  have d4 := K1.cell (j := 4) rfl
  have c5 := K0.cell (j := 5) rfl
  have d5 := K1.cell (j := 5) rfl
  have c6 := K0.cell (j := 6) rfl
  have d6 := K1.cell (j := 6) rfl
  have c7 := K0.cell (j := 7) rfl
  have d7 := K1.cell (j := 7) rfl
  have c8 := K0.cell (j := 8) rfl
  have d8 := K1.cell (j := 8) rfl
  have c9 := K0.cell (j := 9) rfl
  have d9 := K1.cell (j := 9) rfl
  have c10 := K0.cell (j := 10) rfl
  have d10 := K1.cell (j := 10) rfl
  have c11 := K0.cell (j := 11) rfl
  have d11 := K1.cell (j := 11) rfl
  clear K0 K1
  go_enter Try.func6, Try.ntmps6
  go_wp2_with fail
  refine (C.out _ HA.out HA'.out).mono ?_
  rintro e w1 ⟨rfl, b1⟩
  have J0 := HK0.out.on b1 HK0.out.lt
  have J1 := HK1.out.on b1 HK1.out.lt
  have g9 := J0.cell (j := 9) rfl
  have h9 := J1.cell (j := 9) rfl
  have g10 := J0.cell (j := 10) rfl
  have h10 := J1.cell (j := 10) rfl
  have g11 := J0.cell (j := 11) rfl
  have h11 := J1.cell (j := 11) rfl
  have L0 := hid J0
  have L1 := hid J1
  have B1 := hid (below_via HBB.out b1)
  have HI1 := hid (HI.out.on b1)
  have HI1' := hid (HI'.out.on b1)
  clear b1 C J0 J1
  go_wp2_with fail
  refine (D.out _ HI1.out HI1'.out).mono ?_
  rintro e w2 ⟨rfl, b2⟩
  have J0 := L0.out.on b2 L0.out.lt
  have J1 := L1.out.on b2 L1.out.lt
  have m10 := J0.cell (j := 10) rfl
  have q10 := J1.cell (j := 10) rfl
  have m11 := J0.cell (j := 11) rfl
  have q11 := J1.cell (j := 11) rfl
  have B2 := hid (below_via B1.out b2)
  clear b2 D J0 J1
  go_wp2
  go_ret
  exact ⟨rfl, B2.out⟩
end Go.Proofs.Ytlplnobfkjhcdaa

namespace Go.Proofs.Ytlplnobfkjhcdaa
open Go.RowKit Go.Sort

/-- the text by which a place is marked -/
def mtx (m : Nat) : ByteArray := if m = 0 then ⟨#[109, 48]⟩ else ⟨#[109]⟩ ++ ⟨(dd m).toArray⟩

/-- the last figure of m -/
def mdig (m : Nat) : UInt8 := UInt8.ofNat (48 + m % 10)

theorem mark_one (m : Nat) (w : World) :
    (convert 58 9 (.slice (some ⟨w.heap.size, 0, none⟩) 1 1)).run Try.prog (w.alloc (.cells #[.int .u8 (48 + (m : Int) % 10)] 5)) = .ok (.string ⟨#[mdig m]⟩) (w.alloc (.cells #[.int .u8 (48 + (m : Int) % 10)] 5)) := by
  have := run_convert_bytes_back (P := Try.prog) (w.alloc (.cells #[.int .u8 (48 + (m : Int) % 10)] 5)) 58 9 5 ⟨w.heap.size, 0, none⟩ 1 [mdig m] Try.underlying58 Try.underlying5 Try.underlying9
    (by
      intro j hj
      have hj0 : j = 0 := by simpa using hj
      subst hj0
      have e : ((mdig m).toNat : Int) = 48 + (m : Int) % 10 := by unfold mdig; rw [UInt8.toNat_ofNat']; omega
      show (w.alloc (.cells #[.int .u8 (48 + (m : Int) % 10)] 5)).cell? ⟨w.heap.size, 0, none⟩ = some (.int .u8 ((mdig m).toNat : Int))
      rw [e]
      simp)
  exact this

theorem mark_step {n m : Nat} {acc : List UInt8} (hm : 0 < m) (h : dd m ++ acc = dd n) : dd (m / 10) ++ (mdig m :: acc) = dd n := by
  rw [← h, dd_pos hm]
  simp [mdig]

theorem ret_i64 {a b : Int} (h : a = b) : Ending.returned (.int .i64 a) = .returned (.int .i64 b) := by rw [h]

theorem cons_text (x : UInt8) (acc : List UInt8) : (⟨#[x]⟩ : ByteArray) ++ ⟨acc.toArray⟩ = ⟨(x :: acc).toArray⟩ := ByteArray.mk_append_mk [x] acc

theorem ret_mark {a b : List UInt8} (h : a = b) : Ending.returned (.string (⟨#[109]⟩ ++ ⟨a.toArray⟩)) = .returned (.string (⟨#[109]⟩ ++ ⟨b.toArray⟩)) := by rw [h]

set_option maxRecDepth 1000000 in
set_option maxHeartbeats 1000000 in
theorem markText_any (n : Nat) (hn : n < 1000000000000000000) (w : World) :
    Calls Try.prog 41 #[.int .i64 n] w fun e w' => e = .returned (.string (mtx n)) ∧ Below w.heap.size w w' := by
  by_cases h0 : n = 0
  · subst h0
    have e : mtx 0 = ⟨#[109, 48]⟩ := rfl
    rw [e]
    clear e
    go_enter Try.func41, Try.ntmps41
    go_wp2
    go_ret
    exact ⟨rfl, Below.refl _ _⟩
  · have g0 : ¬ (n : Int) ≤ 0 := by omega
    have hdl := dd_len 19 n (by omega)
    have hde : mtx n = ⟨#[109]⟩ ++ ⟨(dd n).toArray⟩ := by unfold mtx; rw [if_neg h0]
    rw [hde]
    clear hde
    go_enter Try.func41, Try.ntmps41
    go_wp2
    go_loopw [0, 3] (fun x t wr => ∃ (m : Nat) (acc : List UInt8), m ≤ n ∧ x = .int .i64 m ∧ t = .string ⟨acc.toArray⟩ ∧ Hid (dd m ++ acc = dd n) ∧ acc.length ≤ 19 ∧ Below w.heap.size w wr) (fun x _ _ => (intOf x).toNat)
    case atStart => exact ⟨n, [], Nat.le_refl _, rfl, rfl, by simp [Hid], by simp, Below.refl _ _⟩
    case round =>
      obtain ⟨m, acc, hm, rfl, rfl, HA, hal, hb⟩ := hrel
      have hsz := hb.size
      by_cases hm0 : 0 < (m : Int)
      · have ht := mark_one m
        have HS := (show Hid _ from mark_step (by omega) HA.out)
        have HL : Hid ((mdig m :: acc).length ≤ 19) := by
          have := congrArg List.length HS.out
          simp only [List.length_append] at this
          show _ ≤ _
          omega
        go_wp2
        go_roundw
        case rel => exact ⟨m / 10, mdig m :: acc, by omega, by go_num, congrArg Value.string (cons_text _ _), HS, HL.out, hb.alloc hb.size _⟩
        case measure => simp [intOf]; omega
      · have HE : Hid (acc = dd n) := by
          have h := HA.out
          have e : m = 0 := by omega
          rw [e, dd_zero] at h
          exact h
        go_wp2
        go_ret
        exact ⟨ret_mark HE.out, hb⟩
end Go.Proofs.Ytlplnobfkjhcdaa
