/-
  The walk of spec.DrawLogPut: some log of at most 61 entries, some index, some entry.
  The walk of impl.LogLast: what it answers.
-/
import Derived.Test.YtjkgjnpifdafaaaJoint23
import Derived.Test.YtjkgjnpifdafaaaJoint32
import Derived.Test.YtjkgjnpifdafaaaJoint33
import Derived.Test.YtjkgjnpifdafaaaJoint34
import Derived.Test.YtjkgjnpifdafaaaJoint35
import Derived.Test.YtjkgjnpifdafaaaJoint36
import Derived.Test.YtjkgjnpifdafaaaJoint1
import Derived.Test.YtjkgjnpifdafaaaRows
import Derived.Deep.QuietTactic
namespace Go.Proofs.Ytjkgjnpifdafaaa
open Go.RowKit

theorem below_beyond {B C : Nat} {w w1 w2 : World} (b : Below B w w1) (q : w1.grownBy w2 (some C)) (hC : B ≤ C) (hB : B ≤ w1.heap.size := by exact Below.size (by assumption)) : Below B w w2 := b.grown q hB (fun j hj => by cases hj; exact hC)
theorem row_ents {w : World} {base c : Nat} {va : Option Addr} {L : List EntD} (h : w.ownsRow base 35 3 (.slice va L.length c) L.length (entCells L)) : EntsAt w va L := by
  obtain ⟨va', vc', e, _, ho⟩ := own_of_row h
  cases e
  exact ho.ents
theorem row_caps {w : World} {base c : Nat} {va : Option Addr} {L : List EntD} (h : w.ownsRow base 35 3 (.slice va L.length c) L.length (entCells L)) : L.length ≤ c := by
  obtain ⟨va', vc', e, hc, _⟩ := own_of_row h
  cases e
  exact hc
theorem row_off {x : World} {base size n b j : Nat} {t : TypeId} {v u : Value} {xs : List Value} (h : x.ownsRow base t size u n xs) (hb : ∀ k, u.ownBlock = some k → k < b) : (x.setCell ⟨b, j, none⟩ v).ownsRow base t size u n xs := by
  refine ⟨h.1, h.2.imp id ?_⟩
  rintro ⟨g, cap, cur, rfl, b', c, r⟩
  have := hb g rfl
  exact ⟨g, cap, cur, rfl, b', (Below.heap_setCell _ _ _ _ (by show g ≠ b; omega)).trans c, r⟩
theorem lastT_tame {t : Int} {L : List EntD} (h : ∀ d ∈ L, d.Tame) (ht : -1 ≤ t ∧ t ≤ 100001) : -1 ≤ lastT t L ∧ lastT t L ≤ 100001 := by
  by_cases hp : 0 < L.length
  · rw [lastT_last t L hp]
    exact (h _ (List.getElem_mem _)).1
  · have : L = [] := List.length_eq_zero_iff.1 (by omega)
    rw [this]
    exact ht
/-- a log, an index, an entry -/
def PutDrew (w : World) (e : Ending) (w' : World) : Prop := ∃ (s t : Int) (va : Option Addr) (vc : Nat) (L : List EntD) (i : Int) (d : EntD), e = .returned (.tuple #[.agg #[.int .i64 s, .int .i64 t, .slice va L.length vc], .int .i64 i, .agg #[.int .i64 d.term, .int .i64 d.kind, .string d.data]]) ∧ L.length ≤ 61 ∧ L.length ≤ vc ∧ (-1 ≤ s ∧ s ≤ 1000001) ∧ (∀ d ∈ L, d.Tame) ∧ d.data.size ≤ 200 ∧ EntsAt w' va L ∧ Below w.heap.size w w'

set_option maxRecDepth 1000000 in
set_option maxHeartbeats 4000000 in
theorem drawLogPut_any (ao : Option Addr) (len cap : Nat) (hlen : len ≤ 1048576) (hcap : len ≤ cap) (w : World) (hr : Bytes w ao len) :
    Calls Try.prog 23 #[.slice ao len cap] w (PutDrew w) := by
  have hx0 : BlockIs (w.alloc (.cells #[.int .i64 0, .int .i64 0, .slice none 0 0] 31)) w.heap.size 31 [.int .i64 0, .int .i64 0, .slice none 0 0] := heap_alloc_new w _
  have hx2 : BlockIs ((w.alloc (.cells #[.int .i64 0, .int .i64 0, .slice none 0 0] 31)).alloc (.cells #[.int .i64 0, .int .i64 0, .string ⟨#[]⟩] 35)) (w.heap.size + 1) 35 [.int .i64 0, .int .i64 0, .string ⟨#[]⟩] := by
    have := heap_alloc_new (w.alloc (.cells #[.int .i64 0, .int .i64 0, .slice none 0 0] 31)) (.cells #[.int .i64 0, .int .i64 0, .string ⟨#[]⟩] 35)
    rw [show (w.alloc (.cells #[.int .i64 0, .int .i64 0, .slice none 0 0] 31)).heap.size = w.heap.size + 1 by simp [World.alloc, -World.alloc_eq]] at this
    exact this
  have hx1 := hx0.on (below_more (Below.refl _ _) (.cells #[.int .i64 0, .int .i64 0, .string ⟨#[]⟩] 35)) hx0.lt
  have be := below_more (below_more (Below.refl w.heap.size w) (.cells #[.int .i64 0, .int .i64 0, .slice none 0 0] 31)) (.cells #[.int .i64 0, .int .i64 0, .string ⟨#[]⟩] 35)
  obtain ⟨W0, hW0⟩ : ∃ W, (w.alloc (.cells #[.int .i64 0, .int .i64 0, .slice none 0 0] 31)).alloc (.cells #[.int .i64 0, .int .i64 0, .string ⟨#[]⟩] 35) = W := ⟨_, rfl⟩
  rw [hW0] at be hx1 hx2
  have X0 := hid hx1
  have X1 := hid hx2
  have BW := hid be
  have HR := hid (bytes_on hr be)
  obtain ⟨C, hC⟩ : ∃ C, W0.heap.size = C := ⟨_, rfl⟩
  have HC : Hid (w.heap.size + 1 < C) := (show _ < _ by have := hx2.lt; omega)
  clear hx0 hx1 hx2 be hr
  go_enter Try.func23, Try.ntmps23
  go_wp2_with fail
  refine Calls.mono (l01New_any ao len cap hlen hcap _ HR.out) ?_
  rintro e w1 ⟨rfl, k1, b1⟩
  rw [hC] at k1 ⊢
  have K2 := hid k1
  have B2 := hid (below_via BW.out b1)
  have Y0 := hid (X0.out.on b1 X0.out.lt)
  have Y1 := hid (X1.out.on b1 X1.out.lt)
  have HS1 := hid b1.size
  clear k1 b1 BW X0 X1 HR
  have KC := K2
  have BW := B2
  have X0 := Y0
  have X1 := Y1
  clear K2 B2 Y0 Y1
  go_wp2_with fail
  refine Calls.mono (l06Any_any C _ KC.out) ?_
  rintro e w2 ⟨s, t, va, vc, L, rfl, hL, hs, ht, ht9, ho, k2, q2⟩
  have HT := hid ht9
  have HO := hid ho
  have HCR : Hid (C < w1.heap.size) := KC.out.lt
  have HS2 := hid q2.size
  clear ho ht9
  have K2 := hid k2
  have B2 := hid (below_beyond BW.out q2 (by have := HC.out; omega))
  have YX0 := hid (X0.out.past q2 (fun j hj => by cases hj; have := HC.out; omega))
  have YX1 := hid (X1.out.past q2 (fun j hj => by cases hj; have := HC.out; omega))
  clear k2 q2 KC BW X0 X1
  have KC := K2
  have BW := B2
  have X0 := YX0
  have X1 := YX1
  clear K2 B2 YX0 YX1
  have ba := below_more (Below.refl w2.heap.size w2) (.cells #[.int .i64 s, .int .i64 t, .slice va L.length vc] 31)
  have XL : Hid (BlockIs (w2.alloc (.cells #[.int .i64 s, .int .i64 t, .slice va L.length vc] 31)) w2.heap.size 31 [.int .i64 s, .int .i64 t, .slice va L.length vc]) := heap_alloc_new w2 _
  have NL : Hid (C < w2.heap.size) := (show _ < _ by have := HCR.out; have := HS2.out; omega)
  have K2 := hid (KC.out.below ba)
  have B2 := hid (below_via BW.out ba)
  have YX0 := hid (X0.out.on ba X0.out.lt)
  have YX1 := hid (X1.out.on ba X1.out.lt)
  have YHO := hid (row_below HO.out ba)
  clear ba KC BW X0 X1 HO
  have KC := K2
  have BW := B2
  have X0 := YX0
  have X1 := YX1
  have HO := YHO
  clear K2 B2 YX0 YX1 YHO
  have zX00_1 := X0.out.cell (j := 0) rfl
  have yX00_1 := X0.out.thaw 0
  have zX01_1 := X0.out.cell (j := 1) rfl
  have yX01_1 := X0.out.thaw 1
  have zX02_1 := X0.out.cell (j := 2) rfl
  have yX02_1 := X0.out.thaw 2
  have zX10_1 := X1.out.cell (j := 0) rfl
  have yX10_1 := X1.out.thaw 0
  have zX11_1 := X1.out.cell (j := 1) rfl
  have yX11_1 := X1.out.thaw 1
  have zX12_1 := X1.out.cell (j := 2) rfl
  have yX12_1 := X1.out.thaw 2
  have zXL0_1 := XL.out.cell (j := 0) rfl
  have yXL0_1 := XL.out.thaw 0
  have zXL1_1 := XL.out.cell (j := 1) rfl
  have yXL1_1 := XL.out.thaw 1
  have zXL2_1 := XL.out.cell (j := 2) rfl
  have yXL2_1 := XL.out.thaw 2
  have HEA := hid (row_ents HO.out)
  go_wp2_with fail
  refine Calls.mono (specLogLast_any s t (by omega) va L vc (by omega) _ HEA.out) ?_
  rintro e w3 ⟨rfl, b3⟩
  clear HEA
  obtain ⟨tm, htm⟩ : ∃ tm, lastT t L = tm := ⟨_, rfl⟩
  have htb : -1 ≤ tm ∧ tm ≤ 100001 := by rw [← htm]; exact lastT_tame HT.out ht
  rw [htm]
  clear htm
  have K2 := hid (KC.out.below b3)
  have B2 := hid (below_via BW.out b3)
  have YX0 := hid (X0.out.on b3 X0.out.lt)
  have YX1 := hid (X1.out.on b3 X1.out.lt)
  have YXL := hid (XL.out.on b3 XL.out.lt)
  have YHO := hid (row_below HO.out b3)
  clear b3 KC BW X0 X1 HO XL zX00_1 yX00_1 zX01_1 yX01_1 zX02_1 yX02_1 zX10_1 yX10_1 zX11_1 yX11_1 zX12_1 yX12_1 zXL0_1 yXL0_1 zXL1_1 yXL1_1 zXL2_1 yXL2_1
  have KC := K2
  have BW := B2
  have X0 := YX0
  have X1 := YX1
  have XL := YXL
  have HO := YHO
  clear K2 B2 YX0 YX1 YXL YHO
  have zX00_2 := X0.out.cell (j := 0) rfl
  have yX00_2 := X0.out.thaw 0
  have zX01_2 := X0.out.cell (j := 1) rfl
  have yX01_2 := X0.out.thaw 1
  have zX02_2 := X0.out.cell (j := 2) rfl
  have yX02_2 := X0.out.thaw 2
  have zX10_2 := X1.out.cell (j := 0) rfl
  have yX10_2 := X1.out.thaw 0
  have zX11_2 := X1.out.cell (j := 1) rfl
  have yX11_2 := X1.out.thaw 1
  have zX12_2 := X1.out.cell (j := 2) rfl
  have yX12_2 := X1.out.thaw 2
  have zXL0_2 := XL.out.cell (j := 0) rfl
  have yXL0_2 := XL.out.thaw 0
  have zXL1_2 := XL.out.cell (j := 1) rfl
  have yXL1_2 := XL.out.thaw 1
  have zXL2_2 := XL.out.cell (j := 2) rfl
  have yXL2_2 := XL.out.thaw 2
  go_wp2_with fail
  refine Calls.mono (l01Below_any C 2 (by omega) (by omega) _ KC.out) ?_
  rintro e w4 ⟨x, rfl, x0, x1, k4, q4⟩
  have K2 := hid k4
  have B2 := hid (below_beyond BW.out q4 (by have := HC.out; omega))
  have YX0 := hid (X0.out.past q4 (fun j hj => by cases hj; have := HC.out; omega))
  have YX1 := hid (X1.out.past q4 (fun j hj => by cases hj; have := HC.out; omega))
  have YXL := hid (XL.out.cur q4 NL.out)
  have YHO := hid (row_past HO.out q4 HCR.out)
  clear k4 q4 KC BW X0 X1 HO XL zX00_2 yX00_2 zX01_2 yX01_2 zX02_2 yX02_2 zX10_2 yX10_2 zX11_2 yX11_2 zX12_2 yX12_2 zXL0_2 yXL0_2 zXL1_2 yXL1_2 zXL2_2 yXL2_2
  have KC := K2
  have BW := B2
  have X0 := YX0
  have X1 := YX1
  have XL := YXL
  have HO := YHO
  clear K2 B2 YX0 YX1 YXL YHO
  have zX00_3 := X0.out.cell (j := 0) rfl
  have yX00_3 := X0.out.thaw 0
  have zX01_3 := X0.out.cell (j := 1) rfl
  have yX01_3 := X0.out.thaw 1
  have zX02_3 := X0.out.cell (j := 2) rfl
  have yX02_3 := X0.out.thaw 2
  have zX10_3 := X1.out.cell (j := 0) rfl
  have yX10_3 := X1.out.thaw 0
  have zX11_3 := X1.out.cell (j := 1) rfl
  have yX11_3 := X1.out.thaw 1
  have zX12_3 := X1.out.cell (j := 2) rfl
  have yX12_3 := X1.out.thaw 2
  have zXL0_3 := XL.out.cell (j := 0) rfl
  have yXL0_3 := XL.out.thaw 0
  have zXL1_3 := XL.out.cell (j := 1) rfl
  have yXL1_3 := XL.out.thaw 1
  have zXL2_3 := XL.out.cell (j := 2) rfl
  have yXL2_3 := XL.out.thaw 2
  go_wp2_with fail
  refine Calls.mono (l05Right_any C (tm + x) _ KC.out) ?_
  rintro e w5 ⟨d, rfl, hd, k5, q5⟩
  have hds : d.data.size ≤ 200 := Nat.le_trans hd.2.2.2.1 (by omega)
  clear hd
  have K2 := hid k5
  have B2 := hid (below_beyond BW.out q5 (by have := HC.out; omega))
  have YX0 := hid (X0.out.past q5 (fun j hj => by cases hj; have := HC.out; omega))
  have YX1 := hid (X1.out.past q5 (fun j hj => by cases hj; have := HC.out; omega))
  have YXL := hid (XL.out.cur q5 NL.out)
  have YHO := hid (row_past HO.out q5 HCR.out)
  clear k5 q5 KC BW X0 X1 HO XL zX00_3 yX00_3 zX01_3 yX01_3 zX02_3 yX02_3 zX10_3 yX10_3 zX11_3 yX11_3 zX12_3 yX12_3 zXL0_3 yXL0_3 zXL1_3 yXL1_3 zXL2_3 yXL2_3
  have KC := K2
  have BW := B2
  have X0 := YX0
  have X1 := YX1
  have XL := YXL
  have HO := YHO
  clear K2 B2 YX0 YX1 YXL YHO
  have ba := below_more (Below.refl w5.heap.size w5) (.cells #[.int .i64 d.term, .int .i64 d.kind, .string d.data] 35)
  have XE : Hid (BlockIs (w5.alloc (.cells #[.int .i64 d.term, .int .i64 d.kind, .string d.data] 35)) w5.heap.size 35 [.int .i64 d.term, .int .i64 d.kind, .string d.data]) := heap_alloc_new w5 _
  have NE : Hid (C < w5.heap.size) := KC.out.lt
  have HRE := hid (fun k hk => (HO.out.lt k hk).2)
  have HLE : Hid (w2.heap.size < w5.heap.size) := XL.out.lt
  have K2 := hid (KC.out.below ba)
  have B2 := hid (below_via BW.out ba)
  have YX0 := hid (X0.out.on ba X0.out.lt)
  have YX1 := hid (X1.out.on ba X1.out.lt)
  have YXL := hid (XL.out.on ba XL.out.lt)
  have YHO := hid (row_below HO.out ba)
  clear ba KC BW X0 X1 HO XL
  have KC := K2
  have BW := B2
  have X0 := YX0
  have X1 := YX1
  have XL := YXL
  have HO := YHO
  clear K2 B2 YX0 YX1 YXL YHO
  have zX00_4 := X0.out.cell (j := 0) rfl
  have yX00_4 := X0.out.thaw 0
  have zX01_4 := X0.out.cell (j := 1) rfl
  have yX01_4 := X0.out.thaw 1
  have zX02_4 := X0.out.cell (j := 2) rfl
  have yX02_4 := X0.out.thaw 2
  have zX10_4 := X1.out.cell (j := 0) rfl
  have yX10_4 := X1.out.thaw 0
  have zX11_4 := X1.out.cell (j := 1) rfl
  have yX11_4 := X1.out.thaw 1
  have zX12_4 := X1.out.cell (j := 2) rfl
  have yX12_4 := X1.out.thaw 2
  have zXL0_4 := XL.out.cell (j := 0) rfl
  have yXL0_4 := XL.out.thaw 0
  have zXL1_4 := XL.out.cell (j := 1) rfl
  have yXL1_4 := XL.out.thaw 1
  have zXL2_4 := XL.out.cell (j := 2) rfl
  have yXL2_4 := XL.out.thaw 2
  have zXE0_4 := XE.out.cell (j := 0) rfl
  have yXE0_4 := XE.out.thaw 0
  have zXE1_4 := XE.out.cell (j := 1) rfl
  have yXE1_4 := XE.out.thaw 1
  have zXE2_4 := XE.out.cell (j := 2) rfl
  have yXE2_4 := XE.out.thaw 2
  go_wp2_with fail
  refine Calls.mono (l01Once_any C 8 (by omega) (by omega) _ KC.out) ?_
  rintro e w6 ⟨b, rfl, k6, q6⟩
  have K2 := hid k6
  have B2 := hid (below_beyond BW.out q6 (by have := HC.out; omega))
  have YX0 := hid (X0.out.past q6 (fun j hj => by cases hj; have := HC.out; omega))
  have YX1 := hid (X1.out.past q6 (fun j hj => by cases hj; have := HC.out; omega))
  have YXL := hid (XL.out.cur q6 NL.out)
  have YXE := hid (XE.out.cur q6 NE.out)
  have YHO := hid (row_past HO.out q6 HCR.out)
  clear k6 q6 KC BW X0 X1 HO XL XE zX00_4 yX00_4 zX01_4 yX01_4 zX02_4 yX02_4 zX10_4 yX10_4 zX11_4 yX11_4 zX12_4 yX12_4 zXL0_4 yXL0_4 zXL1_4 yXL1_4 zXL2_4 yXL2_4 zXE0_4 yXE0_4 zXE1_4 yXE1_4 zXE2_4 yXE2_4
  have KC := K2
  have BW := B2
  have X0 := YX0
  have X1 := YX1
  have XL := YXL
  have XE := YXE
  have HO := YHO
  clear K2 B2 YX0 YX1 YXL YXE YHO
  cases b with
  | false =>
    have zX00_5 := X0.out.cell (j := 0) rfl
    have yX00_5 := X0.out.thaw 0
    have zX01_5 := X0.out.cell (j := 1) rfl
    have yX01_5 := X0.out.thaw 1
    have zX02_5 := X0.out.cell (j := 2) rfl
    have yX02_5 := X0.out.thaw 2
    have zX10_5 := X1.out.cell (j := 0) rfl
    have yX10_5 := X1.out.thaw 0
    have zX11_5 := X1.out.cell (j := 1) rfl
    have yX11_5 := X1.out.thaw 1
    have zX12_5 := X1.out.cell (j := 2) rfl
    have yX12_5 := X1.out.thaw 2
    have zXL0_5 := XL.out.cell (j := 0) rfl
    have yXL0_5 := XL.out.thaw 0
    have zXL1_5 := XL.out.cell (j := 1) rfl
    have yXL1_5 := XL.out.thaw 1
    have zXL2_5 := XL.out.cell (j := 2) rfl
    have yXL2_5 := XL.out.thaw 2
    have zXE0_5 := XE.out.cell (j := 0) rfl
    have yXE0_5 := XE.out.thaw 0
    have zXE1_5 := XE.out.cell (j := 1) rfl
    have yXE1_5 := XE.out.thaw 1
    have zXE2_5 := XE.out.cell (j := 2) rfl
    have yXE2_5 := XE.out.thaw 2
    go_wp2
    clear zX00_5 yX00_5 zX01_5 yX01_5 zX02_5 yX02_5 zX10_5 yX10_5 zX11_5 yX11_5 zX12_5 yX12_5 zXL0_5 yXL0_5 zXL1_5 yXL1_5 zXL2_5 yXL2_5 zXE0_5 yXE0_5 zXE1_5 yXE1_5 zXE2_5 yXE2_5
    refine wp_region_from (N := 40) (by kernel_rfl) (by kernel_rfl) rfl (by kernel_rfl) (fun W => Below w.heap.size w W ∧ BlockIs W w2.heap.size 31 [.int .i64 s, .int .i64 t, .slice va L.length vc] ∧ BlockIs W w5.heap.size 35 [.int .i64 d.term, .int .i64 d.kind, .string d.data] ∧ W.ownsRow w1.heap.size 35 3 (.slice va L.length vc) L.length (entCells L)) (fun j v _ W => match j with | 0 => v = .agg #[.int .i64 s, .int .i64 t, .slice va L.length vc] | 1 => v = .pointer (some ⟨w2.heap.size, 0, none⟩) | 2 => v = .int .i64 s | 3 => v = .pointer (some ⟨C, 0, none⟩) | 4 => v = .pointer (some ⟨w2.heap.size, 2, none⟩) | 5 => v = .slice va L.length vc | 6 => v = .int .i64 (L.length : Int) | 7 => v = .int .i64 ((L.length : Int) + 2) | 8 => ∃ x : Int, v = .int .i64 x | 9 => ∃ x : Int, v = .int .i64 x | 10 => v = .agg #[.int .i64 d.term, .int .i64 d.kind, .string d.data] | 11 => BlockIs W w.heap.size 31 [.int .i64 s, .int .i64 t, .slice va L.length vc] | 12 => ∃ x : Int, v = .int .i64 x | 13 => BlockIs W (w.heap.size + 1) 35 [.int .i64 d.term, .int .i64 d.kind, .string d.data] | _ => True) (fun i => i) (fun _ _ => false) (fun i x y => (∀ cs, i ≠ 11 → BlockIs x w.heap.size 31 cs → BlockIs y w.heap.size 31 cs) ∧ (∀ cs, i ≠ 13 → BlockIs x (w.heap.size + 1) 35 cs → BlockIs y (w.heap.size + 1) 35 cs) ∧ (i ≠ 11 → i ≠ 13 → CurAt x C → CurAt y C)) (fun m W => match m with | 0 => BlockIs W w.heap.size 31 [.int .i64 0, .int .i64 0, .slice none 0 0] | 1 => BlockIs W (w.heap.size + 1) 35 [.int .i64 0, .int .i64 0, .string ⟨#[]⟩] | 2 => CurAt W C | _ => True) (fun m k => decide ((m, k) ∈ ([(0, 11), (1, 13), (2, 11), (2, 13)] : List (Nat × Nat)))) ?_ (fun _ => 0) (by kernel_rfl) (fun _ _ => rfl) ?_ ⟨below_via BW.out (below_drewN (Below.refl _ _) 1), XL.out.on (below_drewN (Below.refl _ _) 1) XL.out.lt, XE.out.on (below_drewN (Below.refl _ _) 1) XE.out.lt, row_below HO.out (below_drewN (Below.refl _ _) 1)⟩ (fun m => match m with | 0 => X0.out.on (below_drewN (Below.refl _ _) 1) X0.out.lt | 1 => X1.out.on (below_drewN (Below.refl _ _) 1) X1.out.lt | 2 => KC.out.below (below_drewN (Below.refl _ _) 1) | _ + 3 => trivial) ?_ ?_
    · intro i m x y hen hxy hm
      match m, hen, hm with
      | 0, hen, hm =>
        simp at hen
        exact hxy.1 _ hen hm
      | 1, hen, hm =>
        simp at hen
        exact hxy.2.1 _ hen hm
      | 2, hen, hm =>
        simp at hen
        exact hxy.2.2 hen.1 hen.2 hm
      | n + 3, _, _ => exact trivial
    · intro i j v u x y hij hdd hwt hxy hg
      match j, hg with
      | 0, hg => exact hg
      | 1, hg => exact hg
      | 2, hg => exact hg
      | 3, hg => exact hg
      | 4, hg => exact hg
      | 5, hg => exact hg
      | 6, hg => exact hg
      | 7, hg => exact hg
      | 8, hg => exact hg
      | 9, hg => exact hg
      | 10, hg => exact hg
      | 11, hg =>
        exact hxy.1 _ hij hg
      | 12, hg => exact hg
      | 13, hg =>
        exact hxy.2.1 _ hij hg
      | n + 14, _ => exact trivial
    · refine ⟨?_, ?_, ?_, ?_, ?_, ?_, ?_, ?_, ?_, ?_, ?_, ?_, ?_, ?_, trivial⟩
      · intro A W hC hI hg hb
        have h6 : A.eval (.tmp 6) = .pointer (some ⟨w2.heap.size, 0, none⟩) := hb 6 (base_of (by kernel_rfl))
        have hc0 := (hC.2.1).cell (j := 0) rfl
        have hc1 := (hC.2.1).cell (j := 1) rfl
        have hc2 := (hC.2.1).cell (j := 2) rfl
        exact does_value (v := .agg #[.int .i64 s, .int .i64 t, .slice va L.length vc]) (w' := W) (by simp only [execOp, h6]; simp [go_sem, hc0, hc1, hc2]) ⟨rfl, hC, ⟨fun _ _ h => h, fun _ _ h => h, fun _ _ h => h⟩⟩
      · intro A W hC hI hg hb
        have h6 : A.eval (.tmp 6) = .pointer (some ⟨w2.heap.size, 0, none⟩) := hb 6 (base_of (by kernel_rfl))
        exact does_value (v := .pointer (some ⟨w2.heap.size, 0, none⟩)) (w' := W) (by simp only [execOp, h6]; simp [go_sem]) ⟨rfl, hC, ⟨fun _ _ h => h, fun _ _ h => h, fun _ _ h => h⟩⟩
      · intro A W hC hI hg hb
        have h30 : A.eval (.tmp 30) = .pointer (some ⟨w2.heap.size, 0, none⟩) := hg 1 30 (by decide) rfl (by simp [Op.operands]) (by kernel_rfl) rfl
        have hc0 := (hC.2.1).cell (j := 0) rfl
        exact does_value (v := .int .i64 s) (w' := W) (by simp only [execOp, h30]; simp [go_sem, hc0]) ⟨rfl, hC, ⟨fun _ _ h => h, fun _ _ h => h, fun _ _ h => h⟩⟩
      · intro A W hC hI hg hb
        have h5 : A.eval (.tmp 5) = .pointer (some ⟨C, 0, none⟩) := hb 5 (base_of (by kernel_rfl))
        exact does_value (v := .pointer (some ⟨C, 0, none⟩)) (w' := W) (by simp only [execOp, h5]; simp [go_sem]) ⟨rfl, hC, ⟨fun _ _ h => h, fun _ _ h => h, fun _ _ h => h⟩⟩
      · intro A W hC hI hg hb
        have h6 : A.eval (.tmp 6) = .pointer (some ⟨w2.heap.size, 0, none⟩) := hb 6 (base_of (by kernel_rfl))
        exact does_value (v := .pointer (some ⟨w2.heap.size, 2, none⟩)) (w' := W) (by simp only [execOp, h6]; simp [go_sem]) ⟨rfl, hC, ⟨fun _ _ h => h, fun _ _ h => h, fun _ _ h => h⟩⟩
      · intro A W hC hI hg hb
        have h33 : A.eval (.tmp 33) = .pointer (some ⟨w2.heap.size, 2, none⟩) := hg 4 33 (by decide) rfl (by simp [Op.operands]) (by kernel_rfl) rfl
        have hc2 := (hC.2.1).cell (j := 2) rfl
        exact does_value (v := .slice va L.length vc) (w' := W) (by simp only [execOp, h33]; simp [go_sem, hc2]) ⟨rfl, hC, ⟨fun _ _ h => h, fun _ _ h => h, fun _ _ h => h⟩⟩
      · intro A W hC hI hg hb
        have h34 : A.eval (.tmp 34) = .slice va L.length vc := hg 5 34 (by decide) rfl (by simp [Op.operands, Call.operands]) (by kernel_rfl) rfl
        exact does_value (v := .int .i64 (L.length : Int)) (w' := W) (by simp [go_sem] at h34; simp [go_sem, h34]) ⟨rfl, hC, ⟨fun _ _ h => h, fun _ _ h => h, fun _ _ h => h⟩⟩
      · intro A W hC hI hg hb
        have h35 : A.eval (.tmp 35) = .int .i64 (L.length : Int) := hg 6 35 (by decide) rfl (by simp [Op.operands]) (by kernel_rfl) rfl
        have hw : IntKind.i64.wrap ((L.length : Int) + 2) = (L.length : Int) + 2 := by rw [IntKind.wrap_i64]; omega
        exact does_value (v := .int .i64 ((L.length : Int) + 2)) (w' := W) (by simp [go_sem] at h35; simp [go_sem, h35, hw]) ⟨rfl, hC, ⟨fun _ _ h => h, fun _ _ h => h, fun _ _ h => h⟩⟩
      · intro A W hC hI hg hb
        have h32 : A.eval (.tmp 32) = .pointer (some ⟨C, 0, none⟩) := hg 3 32 (by decide) rfl (by simp [Op.operands, Call.operands]) (by kernel_rfl) rfl
        have h36 : A.eval (.tmp 36) = .int .i64 ((L.length : Int) + 2) := hg 7 36 (by decide) rfl (by simp [Op.operands, Call.operands]) (by kernel_rfl) rfl
        simp [go_sem] at h32 h36
        refine does_enter (f := 56) (args := #[.pointer (some ⟨C, 0, none⟩), .int .i64 ((L.length : Int) + 2)]) (w' := W) (by simp [go_sem, h32, h36]) ?_
        obtain ⟨hbw, hl2, he2, hrow⟩ := hC
        have hk : CurAt W C := hI 2 (by kernel_rfl)
        refine (l01Place_any C ((L.length : Int) + 2) (by omega) (by omega) W hk).mono ?_
        rintro e W' ⟨x, rfl, k', q'⟩
        exact ⟨_, rfl, ⟨x, rfl⟩, ⟨below_beyond hbw q' (by have := HC.out; omega), hl2.cur q' NL.out, he2.cur q' NE.out, row_past hrow q' HCR.out⟩, fun _ _ h => h.past q' (fun j hj => by cases hj; have := HC.out; omega), fun _ _ h => h.past q' (fun j hj => by cases hj; have := HC.out; omega), fun _ _ _ => k'⟩
      · intro A W hC hI hg hb
        have h31 : A.eval (.tmp 31) = .int .i64 s := hg 2 31 (by decide) rfl (by simp [Op.operands]) (by kernel_rfl) rfl
        have g8 := hg 8 37 (by decide) rfl (by simp [Op.operands]) (by kernel_rfl) rfl
        obtain ⟨x, h37⟩ := g8
        simp [go_sem] at h31 h37
        exact does_value (v := .int .i64 (IntKind.i64.wrap (s + x))) (w' := W) (by simp [execOp, go_sem, h31, h37]) ⟨⟨_, rfl⟩, hC, ⟨fun _ _ h => h, fun _ _ h => h, fun _ _ h => h⟩⟩
      · intro A W hC hI hg hb
        have h9 : A.eval (.tmp 9) = .pointer (some ⟨w5.heap.size, 0, none⟩) := hb 9 (base_of (by kernel_rfl))
        have hc0 := (hC.2.2.1).cell (j := 0) rfl
        have hc1 := (hC.2.2.1).cell (j := 1) rfl
        have hc2 := (hC.2.2.1).cell (j := 2) rfl
        exact does_value (v := .agg #[.int .i64 d.term, .int .i64 d.kind, .string d.data]) (w' := W) (by simp only [execOp, h9]; simp [go_sem, hc0, hc1, hc2]) ⟨rfl, hC, ⟨fun _ _ h => h, fun _ _ h => h, fun _ _ h => h⟩⟩
      · intro A W hC hI hg hb
        have h2 : A.eval (.tmp 2) = .pointer (some ⟨w.heap.size, 0, none⟩) := hb 2 (base_of (by kernel_rfl))
        have h29 : A.eval (.tmp 29) = .agg #[.int .i64 s, .int .i64 t, .slice va L.length vc] := hg 0 29 (by decide) rfl (by simp [Op.operands]) (by kernel_rfl) rfl
        have hb : BlockIs W (w.heap.size) 31 [.int .i64 0, .int .i64 0, .slice none 0 0] := hI 0 (by kernel_rfl)
        have c0 := hb.cell (j := 0) rfl
        have c1 := hb.cell (j := 1) rfl
        have c2 := hb.cell (j := 2) rfl
        have f0 := hb.thaw 0
        have f1 := hb.thaw 1
        have f2 := hb.thaw 2
        exact does_skip (w' := (((W.setCell ⟨w.heap.size, 0, none⟩ (.int .i64 s)).setCell ⟨w.heap.size, 1, none⟩ (.int .i64 t)).setCell ⟨w.heap.size, 2, none⟩ (.slice va L.length vc))) (by simp only [execOp, h2, h29]; simp [go_sem, c0, c1, c2, f0, f1, f2]) ⟨(((hb.set 0 (.int .i64 s)).set 1 (.int .i64 t)).set 2 (.slice va L.length vc)), ⟨((hC.1.setCell (Nat.le_refl _) _).setCell (Nat.le_refl _) _).setCell (Nat.le_refl _) _, (((hC.2.1.far (by have p1 := HC.out; have p2 := NL.out; have p3 := NE.out; omega) _).far (by have p1 := HC.out; have p2 := NL.out; have p3 := NE.out; omega) _).far (by have p1 := HC.out; have p2 := NL.out; have p3 := NE.out; omega) _), (((hC.2.2.1.far (by have p1 := HC.out; have p2 := NL.out; have p3 := NE.out; omega) _).far (by have p1 := HC.out; have p2 := NL.out; have p3 := NE.out; omega) _).far (by have p1 := HC.out; have p2 := NL.out; have p3 := NE.out; omega) _), row_set (row_set (row_set hC.2.2.2 (by have := HC.out; have := HCR.out; omega)) (by have := HC.out; have := HCR.out; omega)) (by have := HC.out; have := HCR.out; omega)⟩, ⟨fun _ h _ => absurd rfl h, fun _ _ h => (((h.far (by omega) _).far (by omega) _).far (by omega) _), fun h _ _ => absurd rfl h⟩⟩
      · intro A W hC hI hg hb
        have g9 := hg 9 38 (by decide) rfl (by simp [Op.operands]) (by kernel_rfl) rfl
        obtain ⟨x, h38⟩ := g9
        simp [go_sem] at h38
        exact does_value (v := .int .i64 x) (w' := W) (by simp [execOp, go_sem, h38]) ⟨⟨_, rfl⟩, hC, ⟨fun _ _ h => h, fun _ _ h => h, fun _ _ h => h⟩⟩
      · intro A W hC hI hg hb
        have h4 : A.eval (.tmp 4) = .pointer (some ⟨w.heap.size + 1, 0, none⟩) := hb 4 (base_of (by kernel_rfl))
        have h39 : A.eval (.tmp 39) = .agg #[.int .i64 d.term, .int .i64 d.kind, .string d.data] := hg 10 39 (by decide) rfl (by simp [Op.operands]) (by kernel_rfl) rfl
        have hb : BlockIs W (w.heap.size + 1) 35 [.int .i64 0, .int .i64 0, .string ⟨#[]⟩] := hI 1 (by kernel_rfl)
        have c0 := hb.cell (j := 0) rfl
        have c1 := hb.cell (j := 1) rfl
        have c2 := hb.cell (j := 2) rfl
        have f0 := hb.thaw 0
        have f1 := hb.thaw 1
        have f2 := hb.thaw 2
        exact does_skip (w' := (((W.setCell ⟨w.heap.size + 1, 0, none⟩ (.int .i64 d.term)).setCell ⟨w.heap.size + 1, 1, none⟩ (.int .i64 d.kind)).setCell ⟨w.heap.size + 1, 2, none⟩ (.string d.data))) (by simp only [execOp, h4, h39]; simp [go_sem, c0, c1, c2, f0, f1, f2]) ⟨(((hb.set 0 (.int .i64 d.term)).set 1 (.int .i64 d.kind)).set 2 (.string d.data)), ⟨((hC.1.setCell (Nat.le_succ _) _).setCell (Nat.le_succ _) _).setCell (Nat.le_succ _) _, (((hC.2.1.far (by have p1 := HC.out; have p2 := NL.out; have p3 := NE.out; omega) _).far (by have p1 := HC.out; have p2 := NL.out; have p3 := NE.out; omega) _).far (by have p1 := HC.out; have p2 := NL.out; have p3 := NE.out; omega) _), (((hC.2.2.1.far (by have p1 := HC.out; have p2 := NL.out; have p3 := NE.out; omega) _).far (by have p1 := HC.out; have p2 := NL.out; have p3 := NE.out; omega) _).far (by have p1 := HC.out; have p2 := NL.out; have p3 := NE.out; omega) _), row_set (row_set (row_set hC.2.2.2 (by have := HC.out; have := HCR.out; omega)) (by have := HC.out; have := HCR.out; omega)) (by have := HC.out; have := HCR.out; omega)⟩, ⟨fun _ _ h => (((h.far (by omega) _).far (by omega) _).far (by omega) _), fun _ h _ => absurd rfl h, fun _ h _ => absurd rfl h⟩⟩
    · intro vs w9 hC hI hg
      have h0 : BlockIs w9 w.heap.size 31 [.int .i64 s, .int .i64 t, .slice va L.length vc] := hg 11 (by decide) (fun k => rfl)
      have h1 : BlockIs w9 (w.heap.size + 1) 35 [.int .i64 d.term, .int .i64 d.kind, .string d.data] := hg 13 (by decide) (fun k => rfl)
      obtain ⟨x9, hx9⟩ : ∃ x : Int, vs 12 = .int .i64 x := hg 12 (by decide) (fun k => rfl)
      obtain ⟨hbw, hl2, he2, hrow⟩ := hC
      clear hg hI hl2 he2
      change Exit.then _ _ _ (laidBy _ vs _ 14 _) w9
      simp only [laidBy, if_true, dstAt, List.getElem?_toArray, List.getElem?_cons_succ, List.getElem?_cons_zero, Option.bind_some]
      simp only [Act.put, List.setIfInBounds_toArray, List.set_cons_succ, List.set_cons_zero]
      rw [hx9]
      have HE := hid (row_ents hrow)
      have HCP := hid (row_caps hrow)
      have BW := hid hbw
      have a0 := h0.cell (j := 0) rfl
      have a1 := h0.cell (j := 1) rfl
      have a2 := h0.cell (j := 2) rfl
      have c0 := h1.cell (j := 0) rfl
      have c1 := h1.cell (j := 1) rfl
      have c2 := h1.cell (j := 2) rfl
      clear hrow hbw h0 h1 hx9
      go_wp2
      refine bodyPost_ret (v := .tuple #[.agg #[.int .i64 s, .int .i64 t, .slice va L.length vc], .int .i64 x9, .agg #[.int .i64 d.term, .int .i64 d.kind, .string d.data]]) (by simp [results, Try.results23, go_sem, a0, a1, a2, c0, c1, c2]) rfl ?_
      exact ⟨s, t, va, vc, L, x9, d, rfl, hL, HCP.out, hs, HT.out, hds, HE.out, BW.out⟩
  | true =>
    go_wp2_with fail
    refine Calls.mono (l05Any_any C _ KC.out) ?_
    rintro e w7 ⟨d2, rfl, hd, k7, q7⟩
    have hds2 : d2.data.size ≤ 200 := hd.2.2
    clear hd
    have K2 := hid k7
    have B2 := hid (below_beyond BW.out q7 (by have := HC.out; omega))
    have YX0 := hid (X0.out.past q7 (fun j hj => by cases hj; have := HC.out; omega))
    have YX1 := hid (X1.out.past q7 (fun j hj => by cases hj; have := HC.out; omega))
    have YXL := hid (XL.out.cur q7 NL.out)
    have YXE := hid (XE.out.cur q7 NE.out)
    have YHO := hid (row_past HO.out q7 HCR.out)
    clear k7 q7 KC BW X0 X1 HO XL XE
    have KC := K2
    have BW := B2
    have X0 := YX0
    have X1 := YX1
    have XL := YXL
    have XE := YXE
    have HO := YHO
    clear K2 B2 YX0 YX1 YXL YXE YHO
    have zX00_5 := X0.out.cell (j := 0) rfl
    have yX00_5 := X0.out.thaw 0
    have zX01_5 := X0.out.cell (j := 1) rfl
    have yX01_5 := X0.out.thaw 1
    have zX02_5 := X0.out.cell (j := 2) rfl
    have yX02_5 := X0.out.thaw 2
    have zX10_5 := X1.out.cell (j := 0) rfl
    have yX10_5 := X1.out.thaw 0
    have zX11_5 := X1.out.cell (j := 1) rfl
    have yX11_5 := X1.out.thaw 1
    have zX12_5 := X1.out.cell (j := 2) rfl
    have yX12_5 := X1.out.thaw 2
    have zXL0_5 := XL.out.cell (j := 0) rfl
    have yXL0_5 := XL.out.thaw 0
    have zXL1_5 := XL.out.cell (j := 1) rfl
    have yXL1_5 := XL.out.thaw 1
    have zXL2_5 := XL.out.cell (j := 2) rfl
    have yXL2_5 := XL.out.thaw 2
    have zXE0_5 := XE.out.cell (j := 0) rfl
    have yXE0_5 := XE.out.thaw 0
    have zXE1_5 := XE.out.cell (j := 1) rfl
    have yXE1_5 := XE.out.thaw 1
    have zXE2_5 := XE.out.cell (j := 2) rfl
    have yXE2_5 := XE.out.thaw 2
    have K2 := hid (((KC.out.set (b := w5.heap.size) (j := 0) (v := .int .i64 d2.term) NE.out).set (b := w5.heap.size) (j := 1) (v := .int .i64 d2.kind) NE.out).set (b := w5.heap.size) (j := 2) (v := .string d2.data) NE.out)
    have B2 := hid (((BW.out.setCell (p := ⟨w5.heap.size, 0, none⟩) (show w.heap.size ≤ w5.heap.size by have := NE.out; have := HC.out; omega) (.int .i64 d2.term)).setCell (p := ⟨w5.heap.size, 1, none⟩) (show w.heap.size ≤ w5.heap.size by have := NE.out; have := HC.out; omega) (.int .i64 d2.kind)).setCell (p := ⟨w5.heap.size, 2, none⟩) (show w.heap.size ≤ w5.heap.size by have := NE.out; have := HC.out; omega) (.string d2.data))
    have YX0 := hid (((X0.out.far (b := w5.heap.size) (j := 0) (by have p1 := HC.out; have p2 := NE.out; have p3 := HLE.out; omega) (.int .i64 d2.term)).far (b := w5.heap.size) (j := 1) (by have p1 := HC.out; have p2 := NE.out; have p3 := HLE.out; omega) (.int .i64 d2.kind)).far (b := w5.heap.size) (j := 2) (by have p1 := HC.out; have p2 := NE.out; have p3 := HLE.out; omega) (.string d2.data))
    have YX1 := hid (((X1.out.far (b := w5.heap.size) (j := 0) (by have p1 := HC.out; have p2 := NE.out; have p3 := HLE.out; omega) (.int .i64 d2.term)).far (b := w5.heap.size) (j := 1) (by have p1 := HC.out; have p2 := NE.out; have p3 := HLE.out; omega) (.int .i64 d2.kind)).far (b := w5.heap.size) (j := 2) (by have p1 := HC.out; have p2 := NE.out; have p3 := HLE.out; omega) (.string d2.data))
    have YXL := hid (((XL.out.far (b := w5.heap.size) (j := 0) (by have p1 := HC.out; have p2 := NE.out; have p3 := HLE.out; omega) (.int .i64 d2.term)).far (b := w5.heap.size) (j := 1) (by have p1 := HC.out; have p2 := NE.out; have p3 := HLE.out; omega) (.int .i64 d2.kind)).far (b := w5.heap.size) (j := 2) (by have p1 := HC.out; have p2 := NE.out; have p3 := HLE.out; omega) (.string d2.data))
    have YXE := hid (((XE.out.set 0 (.int .i64 d2.term)).set 1 (.int .i64 d2.kind)).set 2 (.string d2.data))
    have YHO := hid (row_off (b := w5.heap.size) (j := 2) (v := .string d2.data) (row_off (b := w5.heap.size) (j := 1) (v := .int .i64 d2.kind) (row_off (b := w5.heap.size) (j := 0) (v := .int .i64 d2.term) HO.out HRE.out) HRE.out) HRE.out)
    obtain ⟨w8, hw8⟩ : ∃ w8, ((w7.setCell ⟨w5.heap.size, 0, none⟩ (.int .i64 d2.term)).setCell ⟨w5.heap.size, 1, none⟩ (.int .i64 d2.kind)).setCell ⟨w5.heap.size, 2, none⟩ (.string d2.data) = w8 := ⟨_, rfl⟩
    rw [hw8] at K2 B2 YX0 YX1 YXL YXE YHO
    clear KC BW X0 X1 XL XE HO
    have KC := K2
    have BW := B2
    have X0 := YX0
    have X1 := YX1
    have XL := YXL
    have XE := YXE
    have HO := YHO
    clear K2 B2 YX0 YX1 YXL YXE YHO
    have zX00_6 := X0.out.cell (j := 0) rfl
    have yX00_6 := X0.out.thaw 0
    have zX01_6 := X0.out.cell (j := 1) rfl
    have yX01_6 := X0.out.thaw 1
    have zX02_6 := X0.out.cell (j := 2) rfl
    have yX02_6 := X0.out.thaw 2
    have zX10_6 := X1.out.cell (j := 0) rfl
    have yX10_6 := X1.out.thaw 0
    have zX11_6 := X1.out.cell (j := 1) rfl
    have yX11_6 := X1.out.thaw 1
    have zX12_6 := X1.out.cell (j := 2) rfl
    have yX12_6 := X1.out.thaw 2
    have zXL0_6 := XL.out.cell (j := 0) rfl
    have yXL0_6 := XL.out.thaw 0
    have zXL1_6 := XL.out.cell (j := 1) rfl
    have yXL1_6 := XL.out.thaw 1
    have zXL2_6 := XL.out.cell (j := 2) rfl
    have yXL2_6 := XL.out.thaw 2
    have zXE0_6 := XE.out.cell (j := 0) rfl
    have yXE0_6 := XE.out.thaw 0
    have zXE1_6 := XE.out.cell (j := 1) rfl
    have yXE1_6 := XE.out.thaw 1
    have zXE2_6 := XE.out.cell (j := 2) rfl
    have yXE2_6 := XE.out.thaw 2
    go_wp2
    clear zX00_5 yX00_5 zX01_5 yX01_5 zX02_5 yX02_5 zX10_5 yX10_5 zX11_5 yX11_5 zX12_5 yX12_5 zXL0_5 yXL0_5 zXL1_5 yXL1_5 zXL2_5 yXL2_5 zXE0_5 yXE0_5 zXE1_5 yXE1_5 zXE2_5 yXE2_5 zX00_6 yX00_6 zX01_6 yX01_6 zX02_6 yX02_6 zX10_6 yX10_6 zX11_6 yX11_6 zX12_6 yX12_6 zXL0_6 yXL0_6 zXL1_6 yXL1_6 zXL2_6 yXL2_6 zXE0_6 yXE0_6 zXE1_6 yXE1_6 zXE2_6 yXE2_6
    refine wp_region_from (N := 40) (by kernel_rfl) (by kernel_rfl) rfl (by kernel_rfl) (fun W => Below w.heap.size w W ∧ BlockIs W w2.heap.size 31 [.int .i64 s, .int .i64 t, .slice va L.length vc] ∧ BlockIs W w5.heap.size 35 [.int .i64 d2.term, .int .i64 d2.kind, .string d2.data] ∧ W.ownsRow w1.heap.size 35 3 (.slice va L.length vc) L.length (entCells L)) (fun j v _ W => match j with | 0 => v = .agg #[.int .i64 s, .int .i64 t, .slice va L.length vc] | 1 => v = .pointer (some ⟨w2.heap.size, 0, none⟩) | 2 => v = .int .i64 s | 3 => v = .pointer (some ⟨C, 0, none⟩) | 4 => v = .pointer (some ⟨w2.heap.size, 2, none⟩) | 5 => v = .slice va L.length vc | 6 => v = .int .i64 (L.length : Int) | 7 => v = .int .i64 ((L.length : Int) + 2) | 8 => ∃ x : Int, v = .int .i64 x | 9 => ∃ x : Int, v = .int .i64 x | 10 => v = .agg #[.int .i64 d2.term, .int .i64 d2.kind, .string d2.data] | 11 => BlockIs W w.heap.size 31 [.int .i64 s, .int .i64 t, .slice va L.length vc] | 12 => ∃ x : Int, v = .int .i64 x | 13 => BlockIs W (w.heap.size + 1) 35 [.int .i64 d2.term, .int .i64 d2.kind, .string d2.data] | _ => True) (fun i => i) (fun _ _ => false) (fun i x y => (∀ cs, i ≠ 11 → BlockIs x w.heap.size 31 cs → BlockIs y w.heap.size 31 cs) ∧ (∀ cs, i ≠ 13 → BlockIs x (w.heap.size + 1) 35 cs → BlockIs y (w.heap.size + 1) 35 cs) ∧ (i ≠ 11 → i ≠ 13 → CurAt x C → CurAt y C)) (fun m W => match m with | 0 => BlockIs W w.heap.size 31 [.int .i64 0, .int .i64 0, .slice none 0 0] | 1 => BlockIs W (w.heap.size + 1) 35 [.int .i64 0, .int .i64 0, .string ⟨#[]⟩] | 2 => CurAt W C | _ => True) (fun m k => decide ((m, k) ∈ ([(0, 11), (1, 13), (2, 11), (2, 13)] : List (Nat × Nat)))) ?_ (fun _ => 0) (by kernel_rfl) (fun _ _ => rfl) ?_ ⟨below_via BW.out (below_drewN (Below.refl _ _) 1), XL.out.on (below_drewN (Below.refl _ _) 1) XL.out.lt, XE.out.on (below_drewN (Below.refl _ _) 1) XE.out.lt, row_below HO.out (below_drewN (Below.refl _ _) 1)⟩ (fun m => match m with | 0 => X0.out.on (below_drewN (Below.refl _ _) 1) X0.out.lt | 1 => X1.out.on (below_drewN (Below.refl _ _) 1) X1.out.lt | 2 => KC.out.below (below_drewN (Below.refl _ _) 1) | _ + 3 => trivial) ?_ ?_
    · intro i m x y hen hxy hm
      match m, hen, hm with
      | 0, hen, hm =>
        simp at hen
        exact hxy.1 _ hen hm
      | 1, hen, hm =>
        simp at hen
        exact hxy.2.1 _ hen hm
      | 2, hen, hm =>
        simp at hen
        exact hxy.2.2 hen.1 hen.2 hm
      | n + 3, _, _ => exact trivial
    · intro i j v u x y hij hdd hwt hxy hg
      match j, hg with
      | 0, hg => exact hg
      | 1, hg => exact hg
      | 2, hg => exact hg
      | 3, hg => exact hg
      | 4, hg => exact hg
      | 5, hg => exact hg
      | 6, hg => exact hg
      | 7, hg => exact hg
      | 8, hg => exact hg
      | 9, hg => exact hg
      | 10, hg => exact hg
      | 11, hg =>
        exact hxy.1 _ hij hg
      | 12, hg => exact hg
      | 13, hg =>
        exact hxy.2.1 _ hij hg
      | n + 14, _ => exact trivial
    · refine ⟨?_, ?_, ?_, ?_, ?_, ?_, ?_, ?_, ?_, ?_, ?_, ?_, ?_, ?_, trivial⟩
      · intro A W hC hI hg hb
        have h6 : A.eval (.tmp 6) = .pointer (some ⟨w2.heap.size, 0, none⟩) := hb 6 (base_of (by kernel_rfl))
        have hc0 := (hC.2.1).cell (j := 0) rfl
        have hc1 := (hC.2.1).cell (j := 1) rfl
        have hc2 := (hC.2.1).cell (j := 2) rfl
        exact does_value (v := .agg #[.int .i64 s, .int .i64 t, .slice va L.length vc]) (w' := W) (by simp only [execOp, h6]; simp [go_sem, hc0, hc1, hc2]) ⟨rfl, hC, ⟨fun _ _ h => h, fun _ _ h => h, fun _ _ h => h⟩⟩
      · intro A W hC hI hg hb
        have h6 : A.eval (.tmp 6) = .pointer (some ⟨w2.heap.size, 0, none⟩) := hb 6 (base_of (by kernel_rfl))
        exact does_value (v := .pointer (some ⟨w2.heap.size, 0, none⟩)) (w' := W) (by simp only [execOp, h6]; simp [go_sem]) ⟨rfl, hC, ⟨fun _ _ h => h, fun _ _ h => h, fun _ _ h => h⟩⟩
      · intro A W hC hI hg hb
        have h30 : A.eval (.tmp 30) = .pointer (some ⟨w2.heap.size, 0, none⟩) := hg 1 30 (by decide) rfl (by simp [Op.operands]) (by kernel_rfl) rfl
        have hc0 := (hC.2.1).cell (j := 0) rfl
        exact does_value (v := .int .i64 s) (w' := W) (by simp only [execOp, h30]; simp [go_sem, hc0]) ⟨rfl, hC, ⟨fun _ _ h => h, fun _ _ h => h, fun _ _ h => h⟩⟩
      · intro A W hC hI hg hb
        have h5 : A.eval (.tmp 5) = .pointer (some ⟨C, 0, none⟩) := hb 5 (base_of (by kernel_rfl))
        exact does_value (v := .pointer (some ⟨C, 0, none⟩)) (w' := W) (by simp only [execOp, h5]; simp [go_sem]) ⟨rfl, hC, ⟨fun _ _ h => h, fun _ _ h => h, fun _ _ h => h⟩⟩
      · intro A W hC hI hg hb
        have h6 : A.eval (.tmp 6) = .pointer (some ⟨w2.heap.size, 0, none⟩) := hb 6 (base_of (by kernel_rfl))
        exact does_value (v := .pointer (some ⟨w2.heap.size, 2, none⟩)) (w' := W) (by simp only [execOp, h6]; simp [go_sem]) ⟨rfl, hC, ⟨fun _ _ h => h, fun _ _ h => h, fun _ _ h => h⟩⟩
      · intro A W hC hI hg hb
        have h33 : A.eval (.tmp 33) = .pointer (some ⟨w2.heap.size, 2, none⟩) := hg 4 33 (by decide) rfl (by simp [Op.operands]) (by kernel_rfl) rfl
        have hc2 := (hC.2.1).cell (j := 2) rfl
        exact does_value (v := .slice va L.length vc) (w' := W) (by simp only [execOp, h33]; simp [go_sem, hc2]) ⟨rfl, hC, ⟨fun _ _ h => h, fun _ _ h => h, fun _ _ h => h⟩⟩
      · intro A W hC hI hg hb
        have h34 : A.eval (.tmp 34) = .slice va L.length vc := hg 5 34 (by decide) rfl (by simp [Op.operands, Call.operands]) (by kernel_rfl) rfl
        exact does_value (v := .int .i64 (L.length : Int)) (w' := W) (by simp [go_sem] at h34; simp [go_sem, h34]) ⟨rfl, hC, ⟨fun _ _ h => h, fun _ _ h => h, fun _ _ h => h⟩⟩
      · intro A W hC hI hg hb
        have h35 : A.eval (.tmp 35) = .int .i64 (L.length : Int) := hg 6 35 (by decide) rfl (by simp [Op.operands]) (by kernel_rfl) rfl
        have hw : IntKind.i64.wrap ((L.length : Int) + 2) = (L.length : Int) + 2 := by rw [IntKind.wrap_i64]; omega
        exact does_value (v := .int .i64 ((L.length : Int) + 2)) (w' := W) (by simp [go_sem] at h35; simp [go_sem, h35, hw]) ⟨rfl, hC, ⟨fun _ _ h => h, fun _ _ h => h, fun _ _ h => h⟩⟩
      · intro A W hC hI hg hb
        have h32 : A.eval (.tmp 32) = .pointer (some ⟨C, 0, none⟩) := hg 3 32 (by decide) rfl (by simp [Op.operands, Call.operands]) (by kernel_rfl) rfl
        have h36 : A.eval (.tmp 36) = .int .i64 ((L.length : Int) + 2) := hg 7 36 (by decide) rfl (by simp [Op.operands, Call.operands]) (by kernel_rfl) rfl
        simp [go_sem] at h32 h36
        refine does_enter (f := 56) (args := #[.pointer (some ⟨C, 0, none⟩), .int .i64 ((L.length : Int) + 2)]) (w' := W) (by simp [go_sem, h32, h36]) ?_
        obtain ⟨hbw, hl2, he2, hrow⟩ := hC
        have hk : CurAt W C := hI 2 (by kernel_rfl)
        refine (l01Place_any C ((L.length : Int) + 2) (by omega) (by omega) W hk).mono ?_
        rintro e W' ⟨x, rfl, k', q'⟩
        exact ⟨_, rfl, ⟨x, rfl⟩, ⟨below_beyond hbw q' (by have := HC.out; omega), hl2.cur q' NL.out, he2.cur q' NE.out, row_past hrow q' HCR.out⟩, fun _ _ h => h.past q' (fun j hj => by cases hj; have := HC.out; omega), fun _ _ h => h.past q' (fun j hj => by cases hj; have := HC.out; omega), fun _ _ _ => k'⟩
      · intro A W hC hI hg hb
        have h31 : A.eval (.tmp 31) = .int .i64 s := hg 2 31 (by decide) rfl (by simp [Op.operands]) (by kernel_rfl) rfl
        have g8 := hg 8 37 (by decide) rfl (by simp [Op.operands]) (by kernel_rfl) rfl
        obtain ⟨x, h37⟩ := g8
        simp [go_sem] at h31 h37
        exact does_value (v := .int .i64 (IntKind.i64.wrap (s + x))) (w' := W) (by simp [execOp, go_sem, h31, h37]) ⟨⟨_, rfl⟩, hC, ⟨fun _ _ h => h, fun _ _ h => h, fun _ _ h => h⟩⟩
      · intro A W hC hI hg hb
        have h9 : A.eval (.tmp 9) = .pointer (some ⟨w5.heap.size, 0, none⟩) := hb 9 (base_of (by kernel_rfl))
        have hc0 := (hC.2.2.1).cell (j := 0) rfl
        have hc1 := (hC.2.2.1).cell (j := 1) rfl
        have hc2 := (hC.2.2.1).cell (j := 2) rfl
        exact does_value (v := .agg #[.int .i64 d2.term, .int .i64 d2.kind, .string d2.data]) (w' := W) (by simp only [execOp, h9]; simp [go_sem, hc0, hc1, hc2]) ⟨rfl, hC, ⟨fun _ _ h => h, fun _ _ h => h, fun _ _ h => h⟩⟩
      · intro A W hC hI hg hb
        have h2 : A.eval (.tmp 2) = .pointer (some ⟨w.heap.size, 0, none⟩) := hb 2 (base_of (by kernel_rfl))
        have h29 : A.eval (.tmp 29) = .agg #[.int .i64 s, .int .i64 t, .slice va L.length vc] := hg 0 29 (by decide) rfl (by simp [Op.operands]) (by kernel_rfl) rfl
        have hb : BlockIs W (w.heap.size) 31 [.int .i64 0, .int .i64 0, .slice none 0 0] := hI 0 (by kernel_rfl)
        have c0 := hb.cell (j := 0) rfl
        have c1 := hb.cell (j := 1) rfl
        have c2 := hb.cell (j := 2) rfl
        have f0 := hb.thaw 0
        have f1 := hb.thaw 1
        have f2 := hb.thaw 2
        exact does_skip (w' := (((W.setCell ⟨w.heap.size, 0, none⟩ (.int .i64 s)).setCell ⟨w.heap.size, 1, none⟩ (.int .i64 t)).setCell ⟨w.heap.size, 2, none⟩ (.slice va L.length vc))) (by simp only [execOp, h2, h29]; simp [go_sem, c0, c1, c2, f0, f1, f2]) ⟨(((hb.set 0 (.int .i64 s)).set 1 (.int .i64 t)).set 2 (.slice va L.length vc)), ⟨((hC.1.setCell (Nat.le_refl _) _).setCell (Nat.le_refl _) _).setCell (Nat.le_refl _) _, (((hC.2.1.far (by have p1 := HC.out; have p2 := NL.out; have p3 := NE.out; omega) _).far (by have p1 := HC.out; have p2 := NL.out; have p3 := NE.out; omega) _).far (by have p1 := HC.out; have p2 := NL.out; have p3 := NE.out; omega) _), (((hC.2.2.1.far (by have p1 := HC.out; have p2 := NL.out; have p3 := NE.out; omega) _).far (by have p1 := HC.out; have p2 := NL.out; have p3 := NE.out; omega) _).far (by have p1 := HC.out; have p2 := NL.out; have p3 := NE.out; omega) _), row_set (row_set (row_set hC.2.2.2 (by have := HC.out; have := HCR.out; omega)) (by have := HC.out; have := HCR.out; omega)) (by have := HC.out; have := HCR.out; omega)⟩, ⟨fun _ h _ => absurd rfl h, fun _ _ h => (((h.far (by omega) _).far (by omega) _).far (by omega) _), fun h _ _ => absurd rfl h⟩⟩
      · intro A W hC hI hg hb
        have g9 := hg 9 38 (by decide) rfl (by simp [Op.operands]) (by kernel_rfl) rfl
        obtain ⟨x, h38⟩ := g9
        simp [go_sem] at h38
        exact does_value (v := .int .i64 x) (w' := W) (by simp [execOp, go_sem, h38]) ⟨⟨_, rfl⟩, hC, ⟨fun _ _ h => h, fun _ _ h => h, fun _ _ h => h⟩⟩
      · intro A W hC hI hg hb
        have h4 : A.eval (.tmp 4) = .pointer (some ⟨w.heap.size + 1, 0, none⟩) := hb 4 (base_of (by kernel_rfl))
        have h39 : A.eval (.tmp 39) = .agg #[.int .i64 d2.term, .int .i64 d2.kind, .string d2.data] := hg 10 39 (by decide) rfl (by simp [Op.operands]) (by kernel_rfl) rfl
        have hb : BlockIs W (w.heap.size + 1) 35 [.int .i64 0, .int .i64 0, .string ⟨#[]⟩] := hI 1 (by kernel_rfl)
        have c0 := hb.cell (j := 0) rfl
        have c1 := hb.cell (j := 1) rfl
        have c2 := hb.cell (j := 2) rfl
        have f0 := hb.thaw 0
        have f1 := hb.thaw 1
        have f2 := hb.thaw 2
        exact does_skip (w' := (((W.setCell ⟨w.heap.size + 1, 0, none⟩ (.int .i64 d2.term)).setCell ⟨w.heap.size + 1, 1, none⟩ (.int .i64 d2.kind)).setCell ⟨w.heap.size + 1, 2, none⟩ (.string d2.data))) (by simp only [execOp, h4, h39]; simp [go_sem, c0, c1, c2, f0, f1, f2]) ⟨(((hb.set 0 (.int .i64 d2.term)).set 1 (.int .i64 d2.kind)).set 2 (.string d2.data)), ⟨((hC.1.setCell (Nat.le_succ _) _).setCell (Nat.le_succ _) _).setCell (Nat.le_succ _) _, (((hC.2.1.far (by have p1 := HC.out; have p2 := NL.out; have p3 := NE.out; omega) _).far (by have p1 := HC.out; have p2 := NL.out; have p3 := NE.out; omega) _).far (by have p1 := HC.out; have p2 := NL.out; have p3 := NE.out; omega) _), (((hC.2.2.1.far (by have p1 := HC.out; have p2 := NL.out; have p3 := NE.out; omega) _).far (by have p1 := HC.out; have p2 := NL.out; have p3 := NE.out; omega) _).far (by have p1 := HC.out; have p2 := NL.out; have p3 := NE.out; omega) _), row_set (row_set (row_set hC.2.2.2 (by have := HC.out; have := HCR.out; omega)) (by have := HC.out; have := HCR.out; omega)) (by have := HC.out; have := HCR.out; omega)⟩, ⟨fun _ _ h => (((h.far (by omega) _).far (by omega) _).far (by omega) _), fun _ h _ => absurd rfl h, fun _ h _ => absurd rfl h⟩⟩
    · intro vs w9 hC hI hg
      have h0 : BlockIs w9 w.heap.size 31 [.int .i64 s, .int .i64 t, .slice va L.length vc] := hg 11 (by decide) (fun k => rfl)
      have h1 : BlockIs w9 (w.heap.size + 1) 35 [.int .i64 d2.term, .int .i64 d2.kind, .string d2.data] := hg 13 (by decide) (fun k => rfl)
      obtain ⟨x9, hx9⟩ : ∃ x : Int, vs 12 = .int .i64 x := hg 12 (by decide) (fun k => rfl)
      obtain ⟨hbw, hl2, he2, hrow⟩ := hC
      clear hg hI hl2 he2
      change Exit.then _ _ _ (laidBy _ vs _ 14 _) w9
      simp only [laidBy, if_true, dstAt, List.getElem?_toArray, List.getElem?_cons_succ, List.getElem?_cons_zero, Option.bind_some]
      simp only [Act.put, List.setIfInBounds_toArray, List.set_cons_succ, List.set_cons_zero]
      rw [hx9]
      have HE := hid (row_ents hrow)
      have HCP := hid (row_caps hrow)
      have BW := hid hbw
      have a0 := h0.cell (j := 0) rfl
      have a1 := h0.cell (j := 1) rfl
      have a2 := h0.cell (j := 2) rfl
      have c0 := h1.cell (j := 0) rfl
      have c1 := h1.cell (j := 1) rfl
      have c2 := h1.cell (j := 2) rfl
      clear hrow hbw h0 h1 hx9
      go_wp2
      refine bodyPost_ret (v := .tuple #[.agg #[.int .i64 s, .int .i64 t, .slice va L.length vc], .int .i64 x9, .agg #[.int .i64 d2.term, .int .i64 d2.kind, .string d2.data]]) (by simp [results, Try.results23, go_sem, a0, a1, a2, c0, c1, c2]) rfl ?_
      exact ⟨s, t, va, vc, L, x9, d2, rfl, hL, HCP.out, hs, HT.out, hds2, HE.out, BW.out⟩
end Go.Proofs.Ytjkgjnpifdafaaa

namespace Go.Proofs.Ytjkgjnpifdafaaa
open Go.RowKit

set_option maxRecDepth 1000000 in
set_option maxHeartbeats 1000000 in
theorem implLogLast_any (s t : Int) (hs : -9223372036854775808 ≤ s ∧ s ≤ 9223372036854775807) (ao : Option Addr) (l : List EntD) (cap : Nat) (hl : l.length ≤ 1048577) (w : World) (ha : EntsAt w ao l) :
    Calls Try.prog 29 #[.agg #[.int .i64 s, .int .i64 t, .slice ao l.length cap]] w fun e w' => e = .returned (.tuple #[.int .i64 (wrap64 (s + l.length)), .int .i64 (lastT t l)]) ∧ Below w.heap.size w w' := by
  have HB := hid (below_more (Below.refl w.heap.size w) (.cells #[.int .i64 s, .int .i64 t, .slice ao l.length cap] 31))
  have hx : BlockIs (w.alloc (.cells #[.int .i64 s, .int .i64 t, .slice ao l.length cap] 31)) w.heap.size 31 [.int .i64 s, .int .i64 t, .slice ao l.length cap] := heap_alloc_new w _
  have hE := ha.on HB.out
  obtain ⟨W, hW⟩ : ∃ W, w.alloc (.cells #[.int .i64 s, .int .i64 t, .slice ao l.length cap] 31) = W := ⟨_, rfl⟩
  rw [hW] at HB hx hE
  have c0 := hx.cell (j := 0) rfl
  have c1 := hx.cell (j := 1) rfl
  have c2 := hx.cell (j := 2) rfl
  clear hx ha
  by_cases h0 : l.length = 0
  · have hl0 : l = [] := List.length_eq_zero_iff.1 h0
    subst hl0
    have hw0 : wrap64 (s + ((([] : List EntD).length : Nat) : Int)) = s := by rw [IntWalk.wrap64_in] <;> simp <;> omega
    rw [hw0]
    clear hw0
    go_enter Try.func29, Try.ntmps29
    go_wp2
    go_quiet (fail)
    go_wp2
    go_ret2
    exact ⟨rfl, below_drewN (below_more (Below.refl _ w) _) _⟩
  · have hne : ¬ (l.length : Int) = 0 := by omega
    obtain ⟨b, off, rfl, hc⟩ := hE (by intro e; rw [e] at h0; simp at h0)
    have hlt : l.length - 1 < l.length := by omega
    obtain ⟨x0, _, _⟩ := hc (l.length - 1) hlt
    have hsub : (l.length : Int) - 1 = ((l.length - 1 : Nat) : Int) := by omega
    have HL := hid (lastT_last t l (by omega))
    clear hc hE
    obtain ⟨tm, htm⟩ : ∃ tm, l[l.length - 1].term = tm := ⟨_, rfl⟩
    rw [htm] at HL x0
    rw [HL.out]
    obtain ⟨N, hN⟩ : ∃ N, l.length = N := ⟨_, rfl⟩
    rw [hN] at hsub c2 hne hlt hW x0 ⊢
    obtain ⟨n, hn⟩ : ∃ n, N - 1 = n := ⟨_, rfl⟩
    rw [hn] at hsub hlt x0
    have hnl : (n : Int) < (N : Int) := by omega
    have hn0 : (0 : Int) ≤ (n : Int) := by omega
    have hwn : IntKind.i64.wrap (n : Int) = (n : Int) := by rw [IntKind.wrap_i64]; omega
    clear hn HL htm hN h0
    go_enter Try.func29, Try.ntmps29
    go_wp2
    go_quiet (fail)
    go_wp2
    go_ret2
    exact ⟨rfl, below_drewN HB.out _⟩
end Go.Proofs.Ytjkgjnpifdafaaa
