/-
  For every text, laws.FnExactDecode returns true: impl.Decode and spec.Decode answer alike, and the answer owns its memory; nothing that was in memory is written.
-/
import Derived.Test.YtlplnobfkjhcdaaRows
import Derived.Test.YtlplnobfkjhcdaaJoint17
import Derived.Test.YtlplnobfkjhcdaaJoint43
import Derived.Test.YtlplnobfkjhcdaaJoint45
import Derived.Test.YtlplnobfkjhcdaaJoint48
import Derived.WalkSmall
import Derived.WalkKit
import Derived.ProofKit
import Derived.OpenShut
import Derived.OpenVars
import Derived.Deep.DeepHandedRow
import Derived.Lib.LaidTab
import Derived.Stop.LaidErr
namespace Go.Proofs.Ytlplnobfkjhcdaa.fnExactDecode
open Go.ChangeShapes Go.WideShapes Go.ChangeAt Go.ChangeMaps Go.RowKit

def decV : Option MsgD → MsgD
  | none => ⟨0, 0, 0, 0, 0, 0, 0, false, [], [], ⟨#[]⟩, false⟩
  | some d => d
theorem dec_all {o : Option MsgD} {W : World} {e : Ending} {w' : World} (h : decDid o W e w') : ∃ va vc vb vd, e = .returned (.tuple #[.agg #[.int .i64 (decV o).kind, .int .i64 (decV o).src, .int .i64 (decV o).dst, .int .i64 (decV o).term, .int .i64 (decV o).index, .int .i64 (decV o).logTerm, .int .i64 (decV o).commit, .bool (decV o).ok, .slice va (decV o).ents.length vc, .slice vb (decV o).conf.length vd, .string (decV o).data, .bool (decV o).last], .bool o.isSome]) ∧ w'.ownsRow W.heap.size 37 3 (.slice va (decV o).ents.length vc) (decV o).ents.length (entCells (decV o).ents) ∧ w'.ownsRow W.heap.size 3 1 (.slice vb (decV o).conf.length vd) (decV o).conf.length (intCells (decV o).conf) ∧ Below W.heap.size W w' := by
  cases o with
  | none => exact ⟨none, 0, none, 0, h.1, ⟨rfl, Or.inl ⟨rfl, rfl⟩⟩, ⟨rfl, Or.inl ⟨rfl, rfl⟩⟩, h.2⟩
  | some d =>
    obtain ⟨va, vc, vb, vd, h1, ⟨h2, h3⟩, h4⟩ := h
    exact ⟨va, vc, vb, vd, h1, h2, h3, h4⟩
theorem dec_small (s : ByteArray) : (decV (readMsg s)).ents.length ≤ 4 ∧ (decV (readMsg s)).conf.length ≤ 4 := by
  cases h : readMsg s with
  | none => exact ⟨Nat.zero_le _, Nat.zero_le _⟩
  | some d =>
    have hm := messageOk_facts (readMsg_ok h).1
    exact ⟨hm.ents, hm.confs.1⟩
set_option maxRecDepth 1000000 in
set_option maxHeartbeats 4000000 in
theorem walk (s : ByteArray) (_hs : s.size ≤ maxLen) (w : World) :
    Calls Try.prog 3 #[.string s] w fun e w' => e = .returned (.bool true) ∧ Below w.heap.size w w' := by
  by_cases hbig : (1048576 : Int) < (s.size : Int)
  · go_enter Try.func3, Try.ntmps3
    go_wp2
    go_ret
    exact ⟨rfl, Below.refl _ _⟩
  have hl : s.size ≤ 1048576 := by omega
  obtain ⟨D, hD⟩ : ∃ x, decV (readMsg s) = x := ⟨_, rfl⟩
  obtain ⟨ok, hok⟩ : ∃ x, (readMsg s).isSome = x := ⟨_, rfl⟩
  have hsm := dec_small s
  have CS : Hid (∀ W, Calls Try.prog 4 #[.string s] W fun e w' => ∃ va vc vb vd, e = .returned (.tuple #[.agg #[.int .i64 D.kind, .int .i64 D.src, .int .i64 D.dst, .int .i64 D.term, .int .i64 D.index, .int .i64 D.logTerm, .int .i64 D.commit, .bool D.ok, .slice va D.ents.length vc, .slice vb D.conf.length vd, .string D.data, .bool D.last], .bool ok]) ∧ w'.ownsRow W.heap.size 37 3 (.slice va D.ents.length vc) D.ents.length (entCells D.ents) ∧ w'.ownsRow W.heap.size 3 1 (.slice vb D.conf.length vd) D.conf.length (intCells D.conf) ∧ Below W.heap.size W w') := fun W => (specDecode_any s hl W).mono (by rw [← hD, ← hok]; exact fun e w' h => dec_all h)
  have CI : Hid (∀ W, Calls Try.prog 5 #[.string s] W fun e w' => ∃ va vc vb vd, e = .returned (.tuple #[.agg #[.int .i64 D.kind, .int .i64 D.src, .int .i64 D.dst, .int .i64 D.term, .int .i64 D.index, .int .i64 D.logTerm, .int .i64 D.commit, .bool D.ok, .slice va D.ents.length vc, .slice vb D.conf.length vd, .string D.data, .bool D.last], .bool ok]) ∧ w'.ownsRow W.heap.size 37 3 (.slice va D.ents.length vc) D.ents.length (entCells D.ents) ∧ w'.ownsRow W.heap.size 3 1 (.slice vb D.conf.length vd) D.conf.length (intCells D.conf) ∧ Below W.heap.size W w') := fun W => (implDecode_any s hl W).mono (by rw [← hD, ← hok]; exact fun e w' h => dec_all h)
  rw [hD] at hsm
  have hn1 := hsm.1
  have hn2 := hsm.2
  have hle : D.ents.length ≤ 140737488355328 := by omega
  have hle' : D.conf.length ≤ 140737488355328 := by omega
  have hbt : (ok == ok) = true := beq_self_eq_true ok
  have hbf : (ok != ok) = false := by simp
  clear hD hok hsm hbig
  go_enter Try.func3, Try.ntmps3
  go_wp2_with fail
  refine (CS.out w).mono ?_
  rintro e w1 ⟨va3, vc3, vb3, vd3, rfl, hk, hc, hb⟩
  have bn := below_more (Below.refl w1.heap.size w1) (.cells #[.int .i64 D.kind, .int .i64 D.src, .int .i64 D.dst, .int .i64 D.term, .int .i64 D.index, .int .i64 D.logTerm, .int .i64 D.commit, .bool D.ok, .slice va3 D.ents.length vc3, .slice vb3 D.conf.length vd3, .string D.data, .bool D.last] 25)
  have nn : BlockIs (w1.alloc (.cells #[.int .i64 D.kind, .int .i64 D.src, .int .i64 D.dst, .int .i64 D.term, .int .i64 D.index, .int .i64 D.logTerm, .int .i64 D.commit, .bool D.ok, .slice va3 D.ents.length vc3, .slice vb3 D.conf.length vd3, .string D.data, .bool D.last] 25)) w1.heap.size 25 [.int .i64 D.kind, .int .i64 D.src, .int .i64 D.dst, .int .i64 D.term, .int .i64 D.index, .int .i64 D.logTerm, .int .i64 D.commit, .bool D.ok, .slice va3 D.ents.length vc3, .slice vb3 D.conf.length vd3, .string D.data, .bool D.last] := heap_alloc_new w1 _
  obtain ⟨U1, hU1⟩ : ∃ W, w1.alloc (.cells #[.int .i64 0, .int .i64 0, .int .i64 0, .int .i64 0, .int .i64 0, .int .i64 0, .int .i64 0, .bool false, .slice none 0 0, .slice none 0 0, .string ⟨#[]⟩, .bool false] 25) = W := ⟨_, rfl⟩
  have KZ1 : BlockIs U1 w1.heap.size 25 [.int .i64 0, .int .i64 0, .int .i64 0, .int .i64 0, .int .i64 0, .int .i64 0, .int .i64 0, .bool false, .slice none 0 0, .slice none 0 0, .string ⟨#[]⟩, .bool false] := by rw [← hU1]; exact heap_alloc_new _ _
  obtain ⟨w2, hw2⟩ : ∃ W, U1.setRow w1.heap.size #[.int .i64 D.kind, .int .i64 D.src, .int .i64 D.dst, .int .i64 D.term, .int .i64 D.index, .int .i64 D.logTerm, .int .i64 D.commit, .bool D.ok, .slice va3 D.ents.length vc3, .slice vb3 D.conf.length vd3, .string D.data, .bool D.last] = W := ⟨_, rfl⟩
  have hov : w1.alloc (.cells #[.int .i64 D.kind, .int .i64 D.src, .int .i64 D.dst, .int .i64 D.term, .int .i64 D.index, .int .i64 D.logTerm, .int .i64 D.commit, .bool D.ok, .slice va3 D.ents.length vc3, .slice vb3 D.conf.length vd3, .string D.data, .bool D.last] 25) = w2 := by rw [← hw2, ← hU1, whole_over]
  rw [hov] at bn nn
  have Y2 := hid nn
  have RE2 := hid (row_ext hk fun g cs h9 => h9.on bn h9.lt)
  have RC2 := hid (row_ext hc fun g cs h9 => h9.on bn h9.lt)
  have B2 := hid (below_via hb bn)
  have hs2 : w.heap.size ≤ w2.heap.size := B2.out.size
  have HWE : Hid (∀ g, (Value.ownBlock (.slice va3 D.ents.length vc3)) = some g → g < w2.heap.size) := fun g hg => by obtain ⟨_, h9, _⟩ := row_block RE2.out hg; exact h9.lt
  have HWC : Hid (∀ g, (Value.ownBlock (.slice vb3 D.conf.length vd3)) = some g → g < w2.heap.size) := fun g hg => by obtain ⟨_, h9, _⟩ := row_block RC2.out hg; exact h9.lt
  clear bn nn hk hc hb hov
  go_wp2_with (first | (refine wpList_store_whole msg_size KZ1 rfl rfl _ _ rfl _ rfl rfl rfl (by simp [Value.oneCell']) ?_; rw [hw2]) | fail)
  refine (CI.out _).mono ?_
  rintro e w3 ⟨va6, vc6, vb6, vd6, rfl, hk, hc, hb⟩
  have bn := below_more (Below.refl w3.heap.size w3) (.cells #[.int .i64 D.kind, .int .i64 D.src, .int .i64 D.dst, .int .i64 D.term, .int .i64 D.index, .int .i64 D.logTerm, .int .i64 D.commit, .bool D.ok, .slice va6 D.ents.length vc6, .slice vb6 D.conf.length vd6, .string D.data, .bool D.last] 25)
  have nn : BlockIs (w3.alloc (.cells #[.int .i64 D.kind, .int .i64 D.src, .int .i64 D.dst, .int .i64 D.term, .int .i64 D.index, .int .i64 D.logTerm, .int .i64 D.commit, .bool D.ok, .slice va6 D.ents.length vc6, .slice vb6 D.conf.length vd6, .string D.data, .bool D.last] 25)) w3.heap.size 25 [.int .i64 D.kind, .int .i64 D.src, .int .i64 D.dst, .int .i64 D.term, .int .i64 D.index, .int .i64 D.logTerm, .int .i64 D.commit, .bool D.ok, .slice va6 D.ents.length vc6, .slice vb6 D.conf.length vd6, .string D.data, .bool D.last] := heap_alloc_new w3 _
  obtain ⟨U3, hU3⟩ : ∃ W, w3.alloc (.cells #[.int .i64 0, .int .i64 0, .int .i64 0, .int .i64 0, .int .i64 0, .int .i64 0, .int .i64 0, .bool false, .slice none 0 0, .slice none 0 0, .string ⟨#[]⟩, .bool false] 25) = W := ⟨_, rfl⟩
  have KZ3 : BlockIs U3 w3.heap.size 25 [.int .i64 0, .int .i64 0, .int .i64 0, .int .i64 0, .int .i64 0, .int .i64 0, .int .i64 0, .bool false, .slice none 0 0, .slice none 0 0, .string ⟨#[]⟩, .bool false] := by rw [← hU3]; exact heap_alloc_new _ _
  obtain ⟨w4, hw4⟩ : ∃ W, U3.setRow w3.heap.size #[.int .i64 D.kind, .int .i64 D.src, .int .i64 D.dst, .int .i64 D.term, .int .i64 D.index, .int .i64 D.logTerm, .int .i64 D.commit, .bool D.ok, .slice va6 D.ents.length vc6, .slice vb6 D.conf.length vd6, .string D.data, .bool D.last] = W := ⟨_, rfl⟩
  have hov : w3.alloc (.cells #[.int .i64 D.kind, .int .i64 D.src, .int .i64 D.dst, .int .i64 D.term, .int .i64 D.index, .int .i64 D.logTerm, .int .i64 D.commit, .bool D.ok, .slice va6 D.ents.length vc6, .slice vb6 D.conf.length vd6, .string D.data, .bool D.last] 25) = w4 := by rw [← hw4, ← hU3, whole_over]
  rw [hov] at bn nn
  have Z4 := hid nn
  have GE4 := hid (row_ext hk fun g cs h9 => h9.on bn h9.lt)
  have GC4 := hid (row_ext hc fun g cs h9 => h9.on bn h9.lt)
  have bb := below_via hb bn
  have RE4 := hid (row_ext RE2.out fun g cs h9 => h9.on bb h9.lt)
  have RC4 := hid (row_ext RC2.out fun g cs h9 => h9.on bb h9.lt)
  have Y4 := hid (Y2.out.on bb Y2.out.lt)
  have B4 := hid (below_via B2.out bb)
  have HGE : Hid (∀ g, (Value.ownBlock (.slice va6 D.ents.length vc6)) = some g → w2.heap.size ≤ g) := fun g hg => by obtain ⟨_, _, h9⟩ := row_block hk hg; exact h9
  have HGC : Hid (∀ g, (Value.ownBlock (.slice vb6 D.conf.length vd6)) = some g → w2.heap.size ≤ g) := fun g hg => by obtain ⟨_, _, h9⟩ := row_block hc hg; exact h9
  clear bn nn bb hk hc hb hov hw2 hU1 KZ1 RE2 RC2 Y2 B2
  have y0_4 := Y4.out.cell (j := 0) rfl
  have y1_4 := Y4.out.cell (j := 1) rfl
  have y2_4 := Y4.out.cell (j := 2) rfl
  have y3_4 := Y4.out.cell (j := 3) rfl
  have y4_4 := Y4.out.cell (j := 4) rfl
  have y5_4 := Y4.out.cell (j := 5) rfl
  have y6_4 := Y4.out.cell (j := 6) rfl
  have y7_4 := Y4.out.cell (j := 7) rfl
  have y8_4 := Y4.out.cell (j := 8) rfl
  have y9_4 := Y4.out.cell (j := 9) rfl
  have y10_4 := Y4.out.cell (j := 10) rfl
  have y11_4 := Y4.out.cell (j := 11) rfl
  have z0_4 := Z4.out.cell (j := 0) rfl
  have z1_4 := Z4.out.cell (j := 1) rfl
  have z2_4 := Z4.out.cell (j := 2) rfl
  have z3_4 := Z4.out.cell (j := 3) rfl
  have z4_4 := Z4.out.cell (j := 4) rfl
  have z5_4 := Z4.out.cell (j := 5) rfl
  have z6_4 := Z4.out.cell (j := 6) rfl
  have z7_4 := Z4.out.cell (j := 7) rfl
  have z8_4 := Z4.out.cell (j := 8) rfl
  have z9_4 := Z4.out.cell (j := 9) rfl
  have z10_4 := Z4.out.cell (j := 10) rfl
  have z11_4 := Z4.out.cell (j := 11) rfl
  go_wp2_with (first | (refine wpList_store_whole msg_size KZ3 rfl rfl _ _ rfl _ rfl rfl rfl (by simp [Value.oneCell']) ?_; rw [hw4]) | (refine wpList_load_whole Try.underlying25 msg_size Y4.out rfl rfl _ rfl rfl ?_) | (refine wpList_load_whole Try.underlying25 msg_size Z4.out rfl rfl _ rfl rfl ?_) | fail)
  refine (eqMessage_same D va6 vc6 vb6 vd6 va3 vc3 vb3 vd3 hle hle' _ (entsR_atM GE4.out) (entsR_atM RE4.out) (ints_row rfl GC4.out) (ints_row rfl RC4.out)).mono ?_
  rintro e w5 ⟨rfl, b5⟩
  have B5 := hid (below_via B4.out b5)
  have Y5 := hid (Y4.out.on b5 Y4.out.lt)
  have Z5 := hid (Z4.out.on b5 Z4.out.lt)
  have RE5 := hid (row_ext RE4.out fun g cs h9 => h9.on b5 h9.lt)
  have RC5 := hid (row_ext RC4.out fun g cs h9 => h9.on b5 h9.lt)
  have GE5 := hid (row_ext GE4.out fun g cs h9 => h9.on b5 h9.lt)
  have GC5 := hid (row_ext GC4.out fun g cs h9 => h9.on b5 h9.lt)
  clear b5 hw4 hU3 KZ3 B4 Y4 Z4 RE4 RC4 GE4 GC4 y0_4 y1_4 y2_4 y3_4 y4_4 y5_4 y6_4 y7_4 y8_4 y9_4 y10_4 y11_4 z0_4 z1_4 z2_4 z3_4 z4_4 z5_4 z6_4 z7_4 z8_4 z9_4 z10_4 z11_4
  have y0_5 := Y5.out.cell (j := 0) rfl
  have y1_5 := Y5.out.cell (j := 1) rfl
  have y2_5 := Y5.out.cell (j := 2) rfl
  have y3_5 := Y5.out.cell (j := 3) rfl
  have y4_5 := Y5.out.cell (j := 4) rfl
  have y5_5 := Y5.out.cell (j := 5) rfl
  have y6_5 := Y5.out.cell (j := 6) rfl
  have y7_5 := Y5.out.cell (j := 7) rfl
  have y8_5 := Y5.out.cell (j := 8) rfl
  have y9_5 := Y5.out.cell (j := 9) rfl
  have y10_5 := Y5.out.cell (j := 10) rfl
  have y11_5 := Y5.out.cell (j := 11) rfl
  have z0_5 := Z5.out.cell (j := 0) rfl
  have z1_5 := Z5.out.cell (j := 1) rfl
  have z2_5 := Z5.out.cell (j := 2) rfl
  have z3_5 := Z5.out.cell (j := 3) rfl
  have z4_5 := Z5.out.cell (j := 4) rfl
  have z5_5 := Z5.out.cell (j := 5) rfl
  have z6_5 := Z5.out.cell (j := 6) rfl
  have z7_5 := Z5.out.cell (j := 7) rfl
  have z8_5 := Z5.out.cell (j := 8) rfl
  have z9_5 := Z5.out.cell (j := 9) rfl
  have z10_5 := Z5.out.cell (j := 10) rfl
  have z11_5 := Z5.out.cell (j := 11) rfl
  go_wp2_with (first | (refine wpList_load_whole Try.underlying25 msg_size Y5.out rfl rfl _ rfl rfl ?_) | (refine wpList_load_whole Try.underlying25 msg_size Z5.out rfl rfl _ rfl rfl ?_) | fail)
  refine (markMessage_own w2.heap.size D.kind D.src D.dst D.term D.index D.logTerm D.commit D.ok D.last D.data va6 vb6 vc6 vd6 D.ents D.conf (by omega) (by omega) _ GE5.out GC5.out).mono ?_
  rintro e w6 ⟨rfl, ⟨ms, mi⟩, mk⟩
  have B6 := hid (mk.2.2 w hs2 B5.out)
  have Y6 := hid (mk.box Y5.out GE5.out GC5.out (by decide) (by decide))
  have Z6 := hid (mk.box Z5.out GE5.out GC5.out (by decide) (by decide))
  have RE6 := hid (mk.row RE5.out (fun g hg => by have h1 := HWE.out g hg; constructor <;> (intro q; first | (have h2 := HGE.out g q; omega) | (have h2 := HGC.out g q; omega))))
  have RC6 := hid (mk.row RC5.out (fun g hg => by have h1 := HWC.out g hg; constructor <;> (intro q; first | (have h2 := HGE.out g q; omega) | (have h2 := HGC.out g q; omega))))
  have ME6 := hid (entsR_atM (l := marksE 1 D.ents.length) (vc := vc6) (base := w2.heap.size) (by rw [marksE_length]; exact ms))
  have MC6 := hid mi
  clear ms mi mk B5 Y5 Z5 RE5 RC5 GE5 GC5 y0_5 y1_5 y2_5 y3_5 y4_5 y5_5 y6_5 y7_5 y8_5 y9_5 y10_5 y11_5 z0_5 z1_5 z2_5 z3_5 z4_5 z5_5 z6_5 z7_5 z8_5 z9_5 z10_5 z11_5 HWE HWC HGE HGC
  have y0_6 := Y6.out.cell (j := 0) rfl
  have y1_6 := Y6.out.cell (j := 1) rfl
  have y2_6 := Y6.out.cell (j := 2) rfl
  have y3_6 := Y6.out.cell (j := 3) rfl
  have y4_6 := Y6.out.cell (j := 4) rfl
  have y5_6 := Y6.out.cell (j := 5) rfl
  have y6_6 := Y6.out.cell (j := 6) rfl
  have y7_6 := Y6.out.cell (j := 7) rfl
  have y8_6 := Y6.out.cell (j := 8) rfl
  have y9_6 := Y6.out.cell (j := 9) rfl
  have y10_6 := Y6.out.cell (j := 10) rfl
  have y11_6 := Y6.out.cell (j := 11) rfl
  have z0_6 := Z6.out.cell (j := 0) rfl
  have z1_6 := Z6.out.cell (j := 1) rfl
  have z2_6 := Z6.out.cell (j := 2) rfl
  have z3_6 := Z6.out.cell (j := 3) rfl
  have z4_6 := Z6.out.cell (j := 4) rfl
  have z5_6 := Z6.out.cell (j := 5) rfl
  have z6_6 := Z6.out.cell (j := 6) rfl
  have z7_6 := Z6.out.cell (j := 7) rfl
  have z8_6 := Z6.out.cell (j := 8) rfl
  have z9_6 := Z6.out.cell (j := 9) rfl
  have z10_6 := Z6.out.cell (j := 10) rfl
  have z11_6 := Z6.out.cell (j := 11) rfl
  have hmk : ¬ ((1 + 3 * D.ents.length + D.conf.length : Nat) : Int) < 0 := by omega
  have HS := hid (fun W (h1 : EntsAt W va6 (marksE 1 D.ents.length)) (h2 : IntsAt W vb6 (countFrom (1 + 3 * D.ents.length) D.conf.length)) => heldMessage_own D.kind D.src D.dst D.term D.index D.logTerm D.commit D.ok D.last D.data va6 vb6 D.ents.length D.conf.length vc6 vd6 (by omega) (by omega) W h1 h2)
  obtain ⟨K, hK⟩ : ∃ K : Nat, 1 + 3 * D.ents.length + D.conf.length = K := ⟨_, rfl⟩
  rw [hK] at hmk HS ⊢
  clear hK
  go_wp2_with (first | (refine wpList_load_whole Try.underlying25 msg_size Y6.out rfl rfl _ rfl rfl ?_) | (refine wpList_load_whole Try.underlying25 msg_size Z6.out rfl rfl _ rfl rfl ?_) | fail)
  refine (HS.out _ ME6.out MC6.out).mono ?_
  rintro e w7 ⟨rfl, b7⟩
  have B7 := hid (below_via B6.out b7)
  have Y7 := hid (Y6.out.on b7 Y6.out.lt)
  have Z7 := hid (Z6.out.on b7 Z6.out.lt)
  have RE7 := hid (row_ext RE6.out fun g cs h9 => h9.on b7 h9.lt)
  have RC7 := hid (row_ext RC6.out fun g cs h9 => h9.on b7 h9.lt)
  have ME7 := hid (ME6.out.on b7)
  have MC7 := hid (MC6.out.on b7)
  clear b7 B6 Y6 Z6 RE6 RC6 ME6 MC6 y0_6 y1_6 y2_6 y3_6 y4_6 y5_6 y6_6 y7_6 y8_6 y9_6 y10_6 y11_6 z0_6 z1_6 z2_6 z3_6 z4_6 z5_6 z6_6 z7_6 z8_6 z9_6 z10_6 z11_6
  go_wp2_with fail
  refine (CI.out _).mono ?_
  rintro e w8 ⟨va9, vc9, vb9, vd9, rfl, hk, hc, hb⟩
  have bn := below_more (Below.refl w8.heap.size w8) (.cells #[.int .i64 D.kind, .int .i64 D.src, .int .i64 D.dst, .int .i64 D.term, .int .i64 D.index, .int .i64 D.logTerm, .int .i64 D.commit, .bool D.ok, .slice va9 D.ents.length vc9, .slice vb9 D.conf.length vd9, .string D.data, .bool D.last] 25)
  have nn : BlockIs (w8.alloc (.cells #[.int .i64 D.kind, .int .i64 D.src, .int .i64 D.dst, .int .i64 D.term, .int .i64 D.index, .int .i64 D.logTerm, .int .i64 D.commit, .bool D.ok, .slice va9 D.ents.length vc9, .slice vb9 D.conf.length vd9, .string D.data, .bool D.last] 25)) w8.heap.size 25 [.int .i64 D.kind, .int .i64 D.src, .int .i64 D.dst, .int .i64 D.term, .int .i64 D.index, .int .i64 D.logTerm, .int .i64 D.commit, .bool D.ok, .slice va9 D.ents.length vc9, .slice vb9 D.conf.length vd9, .string D.data, .bool D.last] := heap_alloc_new w8 _
  obtain ⟨U8, hU8⟩ : ∃ W, w8.alloc (.cells #[.int .i64 0, .int .i64 0, .int .i64 0, .int .i64 0, .int .i64 0, .int .i64 0, .int .i64 0, .bool false, .slice none 0 0, .slice none 0 0, .string ⟨#[]⟩, .bool false] 25) = W := ⟨_, rfl⟩
  have KZ8 : BlockIs U8 w8.heap.size 25 [.int .i64 0, .int .i64 0, .int .i64 0, .int .i64 0, .int .i64 0, .int .i64 0, .int .i64 0, .bool false, .slice none 0 0, .slice none 0 0, .string ⟨#[]⟩, .bool false] := by rw [← hU8]; exact heap_alloc_new _ _
  obtain ⟨w9, hw9⟩ : ∃ W, U8.setRow w8.heap.size #[.int .i64 D.kind, .int .i64 D.src, .int .i64 D.dst, .int .i64 D.term, .int .i64 D.index, .int .i64 D.logTerm, .int .i64 D.commit, .bool D.ok, .slice va9 D.ents.length vc9, .slice vb9 D.conf.length vd9, .string D.data, .bool D.last] = W := ⟨_, rfl⟩
  have hov : w8.alloc (.cells #[.int .i64 D.kind, .int .i64 D.src, .int .i64 D.dst, .int .i64 D.term, .int .i64 D.index, .int .i64 D.logTerm, .int .i64 D.commit, .bool D.ok, .slice va9 D.ents.length vc9, .slice vb9 D.conf.length vd9, .string D.data, .bool D.last] 25) = w9 := by rw [← hw9, ← hU8, whole_over]
  rw [hov] at bn nn
  have V9 := hid nn
  have HE9 := hid (row_ext hk fun g cs h9 => h9.on bn h9.lt)
  have HC9 := hid (row_ext hc fun g cs h9 => h9.on bn h9.lt)
  have bb := below_via hb bn
  have B9 := hid (below_via B7.out bb)
  have Y9 := hid (Y7.out.on bb Y7.out.lt)
  have Z9 := hid (Z7.out.on bb Z7.out.lt)
  have RE9 := hid (row_ext RE7.out fun g cs h9 => h9.on bb h9.lt)
  have RC9 := hid (row_ext RC7.out fun g cs h9 => h9.on bb h9.lt)
  have ME9 := hid (ME7.out.on bb)
  have MC9 := hid (MC7.out.on bb)
  clear bn nn bb hk hc hb hov B7 Y7 Z7 RE7 RC7 ME7 MC7
  have y0_9 := Y9.out.cell (j := 0) rfl
  have y1_9 := Y9.out.cell (j := 1) rfl
  have y2_9 := Y9.out.cell (j := 2) rfl
  have y3_9 := Y9.out.cell (j := 3) rfl
  have y4_9 := Y9.out.cell (j := 4) rfl
  have y5_9 := Y9.out.cell (j := 5) rfl
  have y6_9 := Y9.out.cell (j := 6) rfl
  have y7_9 := Y9.out.cell (j := 7) rfl
  have y8_9 := Y9.out.cell (j := 8) rfl
  have y9_9 := Y9.out.cell (j := 9) rfl
  have y10_9 := Y9.out.cell (j := 10) rfl
  have y11_9 := Y9.out.cell (j := 11) rfl
  have z0_9 := Z9.out.cell (j := 0) rfl
  have z1_9 := Z9.out.cell (j := 1) rfl
  have z2_9 := Z9.out.cell (j := 2) rfl
  have z3_9 := Z9.out.cell (j := 3) rfl
  have z4_9 := Z9.out.cell (j := 4) rfl
  have z5_9 := Z9.out.cell (j := 5) rfl
  have z6_9 := Z9.out.cell (j := 6) rfl
  have z7_9 := Z9.out.cell (j := 7) rfl
  have z8_9 := Z9.out.cell (j := 8) rfl
  have z9_9 := Z9.out.cell (j := 9) rfl
  have z10_9 := Z9.out.cell (j := 10) rfl
  have z11_9 := Z9.out.cell (j := 11) rfl
  have v0_9 := V9.out.cell (j := 0) rfl
  have v1_9 := V9.out.cell (j := 1) rfl
  have v2_9 := V9.out.cell (j := 2) rfl
  have v3_9 := V9.out.cell (j := 3) rfl
  have v4_9 := V9.out.cell (j := 4) rfl
  have v5_9 := V9.out.cell (j := 5) rfl
  have v6_9 := V9.out.cell (j := 6) rfl
  have v7_9 := V9.out.cell (j := 7) rfl
  have v8_9 := V9.out.cell (j := 8) rfl
  have v9_9 := V9.out.cell (j := 9) rfl
  have v10_9 := V9.out.cell (j := 10) rfl
  have v11_9 := V9.out.cell (j := 11) rfl
  go_wp2_with (first | (refine wpList_store_whole msg_size KZ8 rfl rfl _ _ rfl _ rfl rfl rfl (by simp [Value.oneCell']) ?_; rw [hw9]) | (refine wpList_load_whole Try.underlying25 msg_size Y9.out rfl rfl _ rfl rfl ?_) | (refine wpList_load_whole Try.underlying25 msg_size Z9.out rfl rfl _ rfl rfl ?_) | (refine wpList_load_whole Try.underlying25 msg_size V9.out rfl rfl _ rfl rfl ?_) | fail)
  refine (eqMessage_same D va9 vc9 vb9 vd9 va3 vc3 vb3 vd3 hle hle' _ (entsR_atM HE9.out) (entsR_atM RE9.out) (ints_row rfl HC9.out) (ints_row rfl RC9.out)).mono ?_
  rintro e w10 ⟨rfl, b10⟩
  have B10 := hid (below_via B9.out b10)
  have Y10 := hid (Y9.out.on b10 Y9.out.lt)
  have Z10 := hid (Z9.out.on b10 Z9.out.lt)
  have ME10 := hid (ME9.out.on b10)
  have MC10 := hid (MC9.out.on b10)
  clear b10 hw9 hU8 KZ8 V9 HE9 HC9 RE9 RC9 B9 Y9 Z9 ME9 MC9 y0_9 y1_9 y2_9 y3_9 y4_9 y5_9 y6_9 y7_9 y8_9 y9_9 y10_9 y11_9 z0_9 z1_9 z2_9 z3_9 z4_9 z5_9 z6_9 z7_9 z8_9 z9_9 z10_9 z11_9 v0_9 v1_9 v2_9 v3_9 v4_9 v5_9 v6_9 v7_9 v8_9 v9_9 v10_9 v11_9
  have y0_10 := Y10.out.cell (j := 0) rfl
  have y1_10 := Y10.out.cell (j := 1) rfl
  have y2_10 := Y10.out.cell (j := 2) rfl
  have y3_10 := Y10.out.cell (j := 3) rfl
  have y4_10 := Y10.out.cell (j := 4) rfl
  have y5_10 := Y10.out.cell (j := 5) rfl
  have y6_10 := Y10.out.cell (j := 6) rfl
  have y7_10 := Y10.out.cell (j := 7) rfl
  have y8_10 := Y10.out.cell (j := 8) rfl
  have y9_10 := Y10.out.cell (j := 9) rfl
  have y10_10 := Y10.out.cell (j := 10) rfl
  have y11_10 := Y10.out.cell (j := 11) rfl
  have z0_10 := Z10.out.cell (j := 0) rfl
  have z1_10 := Z10.out.cell (j := 1) rfl
  have z2_10 := Z10.out.cell (j := 2) rfl
  have z3_10 := Z10.out.cell (j := 3) rfl
  have z4_10 := Z10.out.cell (j := 4) rfl
  have z5_10 := Z10.out.cell (j := 5) rfl
  have z6_10 := Z10.out.cell (j := 6) rfl
  have z7_10 := Z10.out.cell (j := 7) rfl
  have z8_10 := Z10.out.cell (j := 8) rfl
  have z9_10 := Z10.out.cell (j := 9) rfl
  have z10_10 := Z10.out.cell (j := 10) rfl
  have z11_10 := Z10.out.cell (j := 11) rfl
  go_wp2_with (first | (refine wpList_load_whole Try.underlying25 msg_size Y10.out rfl rfl _ rfl rfl ?_) | (refine wpList_load_whole Try.underlying25 msg_size Z10.out rfl rfl _ rfl rfl ?_) | fail)
  refine (HS.out _ ME10.out MC10.out).mono ?_
  rintro e w11 ⟨rfl, b11⟩
  have B11 := hid (below_via B10.out b11)
  clear b11
  go_wp2
  go_ret
  exact ⟨rfl, B11.out⟩

theorem own : ownKnob Try.prog.godebug = none := by kernel_rfl
theorem laidOut : laidOutB Try.prog = true := by kernel_rfl
theorem rowed : varsRowed Try.prog Rows.fnExactDecodeSpec.vars = true := by kernel_rfl
set_option maxRecDepth 1000000 in
theorem contract (H : Type) (enc : TypeId × Value → H) (W : World) (base : Nat) (args : Array Value) (ds gs : List (DataW H)) (before : List MemPlace)
    (hval : ∀ (j : Nat) t v, Try.f3.params[j]? = some t → args[j]? = some v → Value.okWide Try.prog W .any base t v)
    (hW : DataW.Whole enc Try.prog Try.f3.params.toList Rows.fnExactDecodeSpec.vars false W args.toList ds gs before) (_hL : laidMetH Try.prog Rows.fnExactDecodeRow.laid W) :
    Calls Try.prog 3 args W fun e W' => ∃ v, e = .returned v ∧ Rows.fnExactDecodeSpec.post enc Try.prog Try.f3 false true false false W args v W' := by
  have hW' := hW
  obtain ⟨p, q, hA0, hV0, rfl, hfz, hnd⟩ := hW
  have hV : DataW.TrodVars enc Try.prog W (fun _ => true) Rows.fnExactDecodeSpec.vars gs q := hV0
  have hA : DataW.TrodAll enc Try.prog W 0 (fun _ => true) true Try.f3.params.toList args.toList ds p := hA0
  rw [Try.params3] at hA hval
  obtain ⟨v0, vs0, d0, ds0, p0, q0, hargs0, rfl, rfl, h0, r0⟩ := trodAll_cons hA
  obtain ⟨rfl, rfl, rfl⟩ := trodAll_nil r0
  obtain rfl : args = #[v0] := by cases args; simp_all
  obtain ⟨a0, rfl, rfl, rfl, w0⟩ := open_string Try.underlying9 (hval 0 9 v0 rfl rfl) h0
  clear hA0 hV0
  obtain ⟨rfl, rfl⟩ := trodVars_none hV
  refine (walk a0 w0 W ).mono fun e W' ⟨he, bel⟩ => ?_
  subst he
  exact ⟨_, rfl, _, _, _, [], _, [], hW', trodAll_mk1 (shut_bool Try.underlying4 _), trodAll_cons_mk (shut_string Try.underlying9 w0) (trodAll_mk0), rfl, bel.frame _, fun h => by cases h⟩

def put (cs : Array Value) : Obj → Obj
  | .cells _ t frozen => .cells cs t frozen
  | o => o

/-- a world for the witness: the tables hold what their initialisers lay -/
def laidWorld (w : World) : World := { w with heap := w.heap }
theorem laid_met (os : Os) : laidMet Try.prog Rows.fnExactDecodeRow.laid ((laidWorld (World.holding Try.prog os ⟨#[], #[], []⟩)).forCall (fun _ _ => 0) ⟨#[], #[.string ByteArray.empty], []⟩).memory :=
  laidMet_of_run' 8 (by kernel_rfl) (by kernel_rfl)
theorem reads (os : Os) {H : Type} (enc : TypeId × Value → H) : ∃ places, DataW.whole enc Try.prog ((laidWorld (World.holding Try.prog os ⟨#[], #[], []⟩)).forCall (fun _ _ => 0) ⟨#[], #[.string ByteArray.empty], []⟩).memory Try.f3.params.toList Rows.fnExactDecodeSpec.vars false #[Value.string ByteArray.empty].toList 8 = some ([.lit (.string [])], [], places) :=
  ⟨[], by kernel_rfl⟩

set_option maxRecDepth 1000000 in
theorem lifted (os : Os) (started : os.Started) (H : Type) (enc : TypeId × Value → H) (F : Stop.Interp) :
    ReturnsInHanded {} Try.checked os 3 .any ((OpenSpec.ofChange Rows.fnExactDecodeSpec).preRow enc Try.prog Try.f3 Rows.fnExactDecodeRow.domain false Rows.fnExactDecodeRow.laid) (((OpenSpec.ofChange Rows.fnExactDecodeSpec).at F).post enc Try.prog Try.f3 false true false false) := by
  obtain ⟨places, hx⟩ := reads os enc
  refine returnsInHanded_of_row (C := Try.checked) (s := OpenSpec.ofChange Rows.fnExactDecodeSpec) own started (by kernel_rfl) Try.func3
    (witness_row_at (enc := enc) (C := Try.checked) false (laidWorld (World.holding Try.prog os ⟨#[], #[], []⟩)) #[.string ByteArray.empty] rfl (by kernel_rfl) (by kernel_rfl) (by kernel_rfl)
      (OpenSpec.preRow_of_cond 8 hx (by kernel_rfl) (fun k hk => by cases hk) (by kernel_rfl) (laid_met os))) ?_
  intro W base args ds gs before hval hW _ _ _ hL _ _
  exact contract H enc W base args ds gs before hval hW hL

theorem said : Rows.FnExactDecodeSaid :=
  OpenClaim.holds_of_cond 3 Try.f3 rfl rfl rfl rfl rfl rfl rfl ⟨rfl, rfl, rfl, rfl, rfl⟩ rfl rfl rfl rfl rfl (by kernel_rfl) Try.func3 (by kernel_rfl)
    (of_decide_eq_true (by kernel_rfl)) (by unfold Func.isWrapper; first | (rw [if_pos (by decide +kernel)]; kernel_rfl) | (rw [if_neg (by decide +kernel)]; exact ⟨rfl, rfl⟩))
    (fun os started H enc _ F => by rw [OpenClaim.pre_eq_preRow]; exact lifted os started H enc F)

end Go.Proofs.Ytlplnobfkjhcdaa.fnExactDecode
