/-
  The walk of impl.MessageOk: what it answers.
-/
import Derived.Test.YtlplnobfkjhcdaaJoint37
import Derived.Test.YtlplnobfkjhcdaaJoint38
import Derived.Deep.QuietTactic
import Derived.BigQuiet
import Derived.Lib.QuietBelow
import Derived.Test.YtlplnobfkjhcdaaRows
import Derived.Test.YtlplnobfkjhcdaaJoint1
namespace Go.Proofs.Ytlplnobfkjhcdaa
open Go.RowKit

set_option maxRecDepth 1000000 in
set_option maxHeartbeats 400000 in
theorem implMessageOk_any (d : MsgD) (ao : Option Addr) (ac : Nat) (bo : Option Addr) (bc : Nat) (hs : d.Small) (w : World) (ha : EntsAt w ao d.ents) (hb : IntsAt w bo d.conf) :
    Calls Try.prog 39 #[.agg #[.int .i64 d.kind, .int .i64 d.src, .int .i64 d.dst, .int .i64 d.term, .int .i64 d.index, .int .i64 d.logTerm, .int .i64 d.commit, .bool d.ok, .slice ao d.ents.length ac, .slice bo d.conf.length bc, .string d.data, .bool d.last]] w fun e w' => e = .returned (.bool (messageOk d)) ∧ Below w.heap.size w w' := by
  have HA := hid ha
  have HI := hid hb
  have HS := hid hs
  clear ha hb hs
  by_cases k1 : d.kind = 1
  · have HR : Hid ((headOk d && bareOk d && true) = messageOk d) := messageOk_bare (by omega)
    have C := hid (fun w => noRight_any d ao ac bo bc w)
    rw [HR.out] at C
    rw [k1] at C ⊢
    have HB := hid (below_more (Below.refl w.heap.size w) (.cells #[.int .i64 1, .int .i64 d.src, .int .i64 d.dst, .int .i64 d.term, .int .i64 d.index, .int .i64 d.logTerm, .int .i64 d.commit, .bool d.ok, .slice ao d.ents.length ac, .slice bo d.conf.length bc, .string d.data, .bool d.last] 25))
    have hx : BlockIs (w.alloc (.cells #[.int .i64 1, .int .i64 d.src, .int .i64 d.dst, .int .i64 d.term, .int .i64 d.index, .int .i64 d.logTerm, .int .i64 d.commit, .bool d.ok, .slice ao d.ents.length ac, .slice bo d.conf.length bc, .string d.data, .bool d.last] 25)) w.heap.size 25 [.int .i64 1, .int .i64 d.src, .int .i64 d.dst, .int .i64 d.term, .int .i64 d.index, .int .i64 d.logTerm, .int .i64 d.commit, .bool d.ok, .slice ao d.ents.length ac, .slice bo d.conf.length bc, .string d.data, .bool d.last] := heap_alloc_new w _
    obtain ⟨W, hW⟩ : ∃ W, w.alloc (.cells #[.int .i64 1, .int .i64 d.src, .int .i64 d.dst, .int .i64 d.term, .int .i64 d.index, .int .i64 d.logTerm, .int .i64 d.commit, .bool d.ok, .slice ao d.ents.length ac, .slice bo d.conf.length bc, .string d.data, .bool d.last] 25) = W := ⟨_, rfl⟩
    rw [hW] at HB hx
    have c0 := hx.cell (j := 0) rfl
    have c1 := hx.cell (j := 1) rfl
    have c2 := hx.cell (j := 2) rfl
    have c3 := hx.cell (j := 3) rfl
    have c4 := hx.cell (j := 4) rfl
    have c5 := hx.cell (j := 5) rfl
    have c6 := hx.cell (j := 6) rfl
    have c7 := hx.cell (j := 7) rfl
    have c8 := hx.cell (j := 8) rfl
    have c9 := hx.cell (j := 9) rfl
    have c10 := hx.cell (j := 10) rfl
    have c11 := hx.cell (j := 11) rfl
    clear hx
    clear k1 HR
    go_enter Try.func39, Try.ntmps39
    go_wp2_with fail
    refine (C.out _).mono ?_
    rintro e w1 ⟨rfl, b1⟩
    have B1 := hid (below_via HB.out b1)
    clear b1 C
    go_wp2
    go_ret
    exact ⟨rfl, B1.out⟩
  by_cases k2 : d.kind = 2
  · have HR : Hid ((headOk d && bareOk d && true) = messageOk d) := messageOk_bare (by omega)
    have C := hid (fun w => noRight_any d ao ac bo bc w)
    rw [HR.out] at C
    rw [k2] at C ⊢
    have HB := hid (below_more (Below.refl w.heap.size w) (.cells #[.int .i64 2, .int .i64 d.src, .int .i64 d.dst, .int .i64 d.term, .int .i64 d.index, .int .i64 d.logTerm, .int .i64 d.commit, .bool d.ok, .slice ao d.ents.length ac, .slice bo d.conf.length bc, .string d.data, .bool d.last] 25))
    have hx : BlockIs (w.alloc (.cells #[.int .i64 2, .int .i64 d.src, .int .i64 d.dst, .int .i64 d.term, .int .i64 d.index, .int .i64 d.logTerm, .int .i64 d.commit, .bool d.ok, .slice ao d.ents.length ac, .slice bo d.conf.length bc, .string d.data, .bool d.last] 25)) w.heap.size 25 [.int .i64 2, .int .i64 d.src, .int .i64 d.dst, .int .i64 d.term, .int .i64 d.index, .int .i64 d.logTerm, .int .i64 d.commit, .bool d.ok, .slice ao d.ents.length ac, .slice bo d.conf.length bc, .string d.data, .bool d.last] := heap_alloc_new w _
    obtain ⟨W, hW⟩ : ∃ W, w.alloc (.cells #[.int .i64 2, .int .i64 d.src, .int .i64 d.dst, .int .i64 d.term, .int .i64 d.index, .int .i64 d.logTerm, .int .i64 d.commit, .bool d.ok, .slice ao d.ents.length ac, .slice bo d.conf.length bc, .string d.data, .bool d.last] 25) = W := ⟨_, rfl⟩
    rw [hW] at HB hx
    have c0 := hx.cell (j := 0) rfl
    have c1 := hx.cell (j := 1) rfl
    have c2 := hx.cell (j := 2) rfl
    have c3 := hx.cell (j := 3) rfl
    have c4 := hx.cell (j := 4) rfl
    have c5 := hx.cell (j := 5) rfl
    have c6 := hx.cell (j := 6) rfl
    have c7 := hx.cell (j := 7) rfl
    have c8 := hx.cell (j := 8) rfl
    have c9 := hx.cell (j := 9) rfl
    have c10 := hx.cell (j := 10) rfl
    have c11 := hx.cell (j := 11) rfl
    clear hx
    clear k2 HR
    go_enter Try.func39, Try.ntmps39
    go_wp2_with fail
    refine (C.out _).mono ?_
    rintro e w1 ⟨rfl, b1⟩
    have B1 := hid (below_via HB.out b1)
    clear b1 C
    go_wp2
    go_ret
    exact ⟨rfl, B1.out⟩
  by_cases k4 : d.kind = 4
  · have HR : Hid ((headOk d && bareOk d && true) = messageOk d) := messageOk_bare (by omega)
    have C := hid (fun w => noRight_any d ao ac bo bc w)
    rw [HR.out] at C
    rw [k4] at C ⊢
    have HB := hid (below_more (Below.refl w.heap.size w) (.cells #[.int .i64 4, .int .i64 d.src, .int .i64 d.dst, .int .i64 d.term, .int .i64 d.index, .int .i64 d.logTerm, .int .i64 d.commit, .bool d.ok, .slice ao d.ents.length ac, .slice bo d.conf.length bc, .string d.data, .bool d.last] 25))
    have hx : BlockIs (w.alloc (.cells #[.int .i64 4, .int .i64 d.src, .int .i64 d.dst, .int .i64 d.term, .int .i64 d.index, .int .i64 d.logTerm, .int .i64 d.commit, .bool d.ok, .slice ao d.ents.length ac, .slice bo d.conf.length bc, .string d.data, .bool d.last] 25)) w.heap.size 25 [.int .i64 4, .int .i64 d.src, .int .i64 d.dst, .int .i64 d.term, .int .i64 d.index, .int .i64 d.logTerm, .int .i64 d.commit, .bool d.ok, .slice ao d.ents.length ac, .slice bo d.conf.length bc, .string d.data, .bool d.last] := heap_alloc_new w _
    obtain ⟨W, hW⟩ : ∃ W, w.alloc (.cells #[.int .i64 4, .int .i64 d.src, .int .i64 d.dst, .int .i64 d.term, .int .i64 d.index, .int .i64 d.logTerm, .int .i64 d.commit, .bool d.ok, .slice ao d.ents.length ac, .slice bo d.conf.length bc, .string d.data, .bool d.last] 25) = W := ⟨_, rfl⟩
    rw [hW] at HB hx
    have c0 := hx.cell (j := 0) rfl
    have c1 := hx.cell (j := 1) rfl
    have c2 := hx.cell (j := 2) rfl
    have c3 := hx.cell (j := 3) rfl
    have c4 := hx.cell (j := 4) rfl
    have c5 := hx.cell (j := 5) rfl
    have c6 := hx.cell (j := 6) rfl
    have c7 := hx.cell (j := 7) rfl
    have c8 := hx.cell (j := 8) rfl
    have c9 := hx.cell (j := 9) rfl
    have c10 := hx.cell (j := 10) rfl
    have c11 := hx.cell (j := 11) rfl
    clear hx
    clear k4 HR
    go_enter Try.func39, Try.ntmps39
    go_wp2_with fail
    refine (C.out _).mono ?_
    rintro e w1 ⟨rfl, b1⟩
    have B1 := hid (below_via HB.out b1)
    clear b1 C
    go_wp2
    go_ret
    exact ⟨rfl, B1.out⟩
  by_cases k6 : d.kind = 6
  · have HR : Hid ((headOk d && bareOk d && true) = messageOk d) := messageOk_bare (by omega)
    have C := hid (fun w => noRight_any d ao ac bo bc w)
    rw [HR.out] at C
    rw [k6] at C ⊢
    have HB := hid (below_more (Below.refl w.heap.size w) (.cells #[.int .i64 6, .int .i64 d.src, .int .i64 d.dst, .int .i64 d.term, .int .i64 d.index, .int .i64 d.logTerm, .int .i64 d.commit, .bool d.ok, .slice ao d.ents.length ac, .slice bo d.conf.length bc, .string d.data, .bool d.last] 25))
    have hx : BlockIs (w.alloc (.cells #[.int .i64 6, .int .i64 d.src, .int .i64 d.dst, .int .i64 d.term, .int .i64 d.index, .int .i64 d.logTerm, .int .i64 d.commit, .bool d.ok, .slice ao d.ents.length ac, .slice bo d.conf.length bc, .string d.data, .bool d.last] 25)) w.heap.size 25 [.int .i64 6, .int .i64 d.src, .int .i64 d.dst, .int .i64 d.term, .int .i64 d.index, .int .i64 d.logTerm, .int .i64 d.commit, .bool d.ok, .slice ao d.ents.length ac, .slice bo d.conf.length bc, .string d.data, .bool d.last] := heap_alloc_new w _
    obtain ⟨W, hW⟩ : ∃ W, w.alloc (.cells #[.int .i64 6, .int .i64 d.src, .int .i64 d.dst, .int .i64 d.term, .int .i64 d.index, .int .i64 d.logTerm, .int .i64 d.commit, .bool d.ok, .slice ao d.ents.length ac, .slice bo d.conf.length bc, .string d.data, .bool d.last] 25) = W := ⟨_, rfl⟩
    rw [hW] at HB hx
    have c0 := hx.cell (j := 0) rfl
    have c1 := hx.cell (j := 1) rfl
    have c2 := hx.cell (j := 2) rfl
    have c3 := hx.cell (j := 3) rfl
    have c4 := hx.cell (j := 4) rfl
    have c5 := hx.cell (j := 5) rfl
    have c6 := hx.cell (j := 6) rfl
    have c7 := hx.cell (j := 7) rfl
    have c8 := hx.cell (j := 8) rfl
    have c9 := hx.cell (j := 9) rfl
    have c10 := hx.cell (j := 10) rfl
    have c11 := hx.cell (j := 11) rfl
    clear hx
    clear k6 HR
    go_enter Try.func39, Try.ntmps39
    go_wp2_with fail
    refine (C.out _).mono ?_
    rintro e w1 ⟨rfl, b1⟩
    have B1 := hid (below_via HB.out b1)
    clear b1 C
    go_wp2
    go_ret
    exact ⟨rfl, B1.out⟩
  by_cases k3 : d.kind = 3
  · have HR : Hid ((headOk { d with ents := [] } && bareOk { d with ents := [] } && (decide (d.ents.length ≤ 4) && sentOk d.logTerm d.term d.ents)) = messageOk d) := messageOk_ask k3
    have C := hid (fun w ha => entsRight_any ao d.ents ac HS.out.ents { d with ents := [] } none 0 bo bc w ha)
    have CL := hid (fun w => entryLetter_any d ao ac bo bc w)
    have C' : Hid (∀ (w : World) (_ : _), _) := C
    rw [HR.out] at C
    rw [k3] at CL ⊢
    clear C'
    have HB := hid (below_more (Below.refl w.heap.size w) (.cells #[.int .i64 3, .int .i64 d.src, .int .i64 d.dst, .int .i64 d.term, .int .i64 d.index, .int .i64 d.logTerm, .int .i64 d.commit, .bool d.ok, .slice ao d.ents.length ac, .slice bo d.conf.length bc, .string d.data, .bool d.last] 25))
    have hx : BlockIs (w.alloc (.cells #[.int .i64 3, .int .i64 d.src, .int .i64 d.dst, .int .i64 d.term, .int .i64 d.index, .int .i64 d.logTerm, .int .i64 d.commit, .bool d.ok, .slice ao d.ents.length ac, .slice bo d.conf.length bc, .string d.data, .bool d.last] 25)) w.heap.size 25 [.int .i64 3, .int .i64 d.src, .int .i64 d.dst, .int .i64 d.term, .int .i64 d.index, .int .i64 d.logTerm, .int .i64 d.commit, .bool d.ok, .slice ao d.ents.length ac, .slice bo d.conf.length bc, .string d.data, .bool d.last] := heap_alloc_new w _
    obtain ⟨W, hW⟩ : ∃ W, w.alloc (.cells #[.int .i64 3, .int .i64 d.src, .int .i64 d.dst, .int .i64 d.term, .int .i64 d.index, .int .i64 d.logTerm, .int .i64 d.commit, .bool d.ok, .slice ao d.ents.length ac, .slice bo d.conf.length bc, .string d.data, .bool d.last] 25) = W := ⟨_, rfl⟩
    rw [hW] at HB hx
    have c0 := hx.cell (j := 0) rfl
    have c1 := hx.cell (j := 1) rfl
    have c2 := hx.cell (j := 2) rfl
    have c3 := hx.cell (j := 3) rfl
    have c4 := hx.cell (j := 4) rfl
    have c5 := hx.cell (j := 5) rfl
    have c6 := hx.cell (j := 6) rfl
    have c7 := hx.cell (j := 7) rfl
    have c8 := hx.cell (j := 8) rfl
    have c9 := hx.cell (j := 9) rfl
    have c10 := hx.cell (j := 10) rfl
    have c11 := hx.cell (j := 11) rfl
    clear hx
    have HK := hid k3
    clear k3 HR
    go_enter Try.func39, Try.ntmps39
    go_wp2_with fail
    refine (CL.out _).mono ?_
    rintro e w1 ⟨rfl, b1⟩
    have B1 := hid (below_via HB.out b1)
    clear b1 CL
    rw [show (Value.int .i64 3) = .int .i64 d.kind by rw [HK.out]]
    go_wp2_with fail
    refine (C.out _ (HA.out.on B1.out)).mono ?_
    rintro e w2 ⟨rfl, b2⟩
    have B2 := hid (below_via B1.out b2)
    clear b2 C
    go_wp2
    go_ret
    exact ⟨rfl, B2.out⟩
  by_cases k5 : d.kind = 5
  · have HR : Hid ((headOk { d with conf := [], data := ⟨#[]⟩, last := false } && bareOk { d with conf := [], data := ⟨#[]⟩, last := false } && (confOk d.conf && decide (d.data.size ≤ 60))) = messageOk d) := messageOk_chunk k5
    have C := hid (fun w ha => chunkRight_any bo d.conf bc d.data d.last HS.out.conf { d with conf := [], data := ⟨#[]⟩, last := false } ao ac none 0 w ha)
    have CL := hid (fun w => chunkLetter_any d ao ac bo bc w)
    have C' : Hid (∀ (w : World) (_ : _), _) := C
    rw [HR.out] at C
    rw [k5] at CL ⊢
    clear C'
    have HB := hid (below_more (Below.refl w.heap.size w) (.cells #[.int .i64 5, .int .i64 d.src, .int .i64 d.dst, .int .i64 d.term, .int .i64 d.index, .int .i64 d.logTerm, .int .i64 d.commit, .bool d.ok, .slice ao d.ents.length ac, .slice bo d.conf.length bc, .string d.data, .bool d.last] 25))
    have hx : BlockIs (w.alloc (.cells #[.int .i64 5, .int .i64 d.src, .int .i64 d.dst, .int .i64 d.term, .int .i64 d.index, .int .i64 d.logTerm, .int .i64 d.commit, .bool d.ok, .slice ao d.ents.length ac, .slice bo d.conf.length bc, .string d.data, .bool d.last] 25)) w.heap.size 25 [.int .i64 5, .int .i64 d.src, .int .i64 d.dst, .int .i64 d.term, .int .i64 d.index, .int .i64 d.logTerm, .int .i64 d.commit, .bool d.ok, .slice ao d.ents.length ac, .slice bo d.conf.length bc, .string d.data, .bool d.last] := heap_alloc_new w _
    obtain ⟨W, hW⟩ : ∃ W, w.alloc (.cells #[.int .i64 5, .int .i64 d.src, .int .i64 d.dst, .int .i64 d.term, .int .i64 d.index, .int .i64 d.logTerm, .int .i64 d.commit, .bool d.ok, .slice ao d.ents.length ac, .slice bo d.conf.length bc, .string d.data, .bool d.last] 25) = W := ⟨_, rfl⟩
    rw [hW] at HB hx
    have c0 := hx.cell (j := 0) rfl
    have c1 := hx.cell (j := 1) rfl
    have c2 := hx.cell (j := 2) rfl
    have c3 := hx.cell (j := 3) rfl
    have c4 := hx.cell (j := 4) rfl
    have c5 := hx.cell (j := 5) rfl
    have c6 := hx.cell (j := 6) rfl
    have c7 := hx.cell (j := 7) rfl
    have c8 := hx.cell (j := 8) rfl
    have c9 := hx.cell (j := 9) rfl
    have c10 := hx.cell (j := 10) rfl
    have c11 := hx.cell (j := 11) rfl
    clear hx
    have HK := hid k5
    clear k5 HR
    go_enter Try.func39, Try.ntmps39
    go_wp2_with fail
    refine (CL.out _).mono ?_
    rintro e w1 ⟨rfl, b1⟩
    have B1 := hid (below_via HB.out b1)
    clear b1 CL
    rw [show (Value.int .i64 5) = .int .i64 d.kind by rw [HK.out]]
    go_wp2_with fail
    refine (C.out _ (HI.out.on B1.out)).mono ?_
    rintro e w2 ⟨rfl, b2⟩
    have B2 := hid (below_via B1.out b2)
    clear b2 C
    go_wp2
    go_ret
    exact ⟨rfl, B2.out⟩
  have n1 : ¬ d.kind = 1 := by omega
  have n2 : ¬ d.kind = 2 := by omega
  have n3 : ¬ d.kind = 3 := by omega
  have n4 : ¬ d.kind = 4 := by omega
  have n5 : ¬ d.kind = 5 := by omega
  have n6 : ¬ d.kind = 6 := by omega
  have HR := hid (messageOk_kind (m := d) (by omega))
  have HB := hid (below_more (Below.refl w.heap.size w) (.cells #[.int .i64 d.kind, .int .i64 d.src, .int .i64 d.dst, .int .i64 d.term, .int .i64 d.index, .int .i64 d.logTerm, .int .i64 d.commit, .bool d.ok, .slice ao d.ents.length ac, .slice bo d.conf.length bc, .string d.data, .bool d.last] 25))
  have hx : BlockIs (w.alloc (.cells #[.int .i64 d.kind, .int .i64 d.src, .int .i64 d.dst, .int .i64 d.term, .int .i64 d.index, .int .i64 d.logTerm, .int .i64 d.commit, .bool d.ok, .slice ao d.ents.length ac, .slice bo d.conf.length bc, .string d.data, .bool d.last] 25)) w.heap.size 25 [.int .i64 d.kind, .int .i64 d.src, .int .i64 d.dst, .int .i64 d.term, .int .i64 d.index, .int .i64 d.logTerm, .int .i64 d.commit, .bool d.ok, .slice ao d.ents.length ac, .slice bo d.conf.length bc, .string d.data, .bool d.last] := heap_alloc_new w _
  obtain ⟨W, hW⟩ : ∃ W, w.alloc (.cells #[.int .i64 d.kind, .int .i64 d.src, .int .i64 d.dst, .int .i64 d.term, .int .i64 d.index, .int .i64 d.logTerm, .int .i64 d.commit, .bool d.ok, .slice ao d.ents.length ac, .slice bo d.conf.length bc, .string d.data, .bool d.last] 25) = W := ⟨_, rfl⟩
  rw [hW] at HB hx
  have c0 := hx.cell (j := 0) rfl
  have c1 := hx.cell (j := 1) rfl
  have c2 := hx.cell (j := 2) rfl
  have c3 := hx.cell (j := 3) rfl
  have c4 := hx.cell (j := 4) rfl
  have c5 := hx.cell (j := 5) rfl
  have c6 := hx.cell (j := 6) rfl
  have c7 := hx.cell (j := 7) rfl
  have c8 := hx.cell (j := 8) rfl
  have c9 := hx.cell (j := 9) rfl
  have c10 := hx.cell (j := 10) rfl
  have c11 := hx.cell (j := 11) rfl
  clear hx
  clear k1 k2 k3 k4 k5 k6
  go_enter Try.func39, Try.ntmps39
  go_wp2
  go_ret
  exact ⟨by rw [HR.out]; rfl, HB.out⟩
end Go.Proofs.Ytlplnobfkjhcdaa
