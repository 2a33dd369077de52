/-
  The walk of impl.Encode: what it answers.
-/
import Derived.Test.YtkdbdgeaceigfaaDoorJoint37
import Derived.Test.YtkdbdgeaceigfaaDoorJoint43
namespace Go.Proofs.YtkdbdgeaceigfaaDoor
open Go.RowKit

set_option maxRecDepth 1000000 in
set_option maxHeartbeats 1000000 in
theorem implEncode_any (d : MsgD) (ao : Option Addr) (ac : Nat) (bo : Option Addr) (bc : Nat) (hs : d.Small) (w : World) (ha : EntsAt w ao d.ents) (hb : IntsAt w bo d.conf) :
    Calls Tryd.prog 7 #[.agg #[.int .i64 d.kind, .int .i64 d.src, .int .i64 d.dst, .int .i64 d.term, .int .i64 d.index, .int .i64 d.logTerm, .int .i64 d.commit, .bool d.ok, .slice ao d.ents.length ac, .slice bo d.conf.length bc, .string d.data, .bool d.last]] w fun e w' => e = .returned (encAns d) ∧ Below w.heap.size w w' := by
  have hX := below_more (Below.refl w.heap.size w) (.cells #[.int .i64 d.kind, .int .i64 d.src, .int .i64 d.dst, .int .i64 d.term, .int .i64 d.index, .int .i64 d.logTerm, .int .i64 d.commit, .bool d.ok, .slice ao d.ents.length ac, .slice bo d.conf.length bc, .string d.data, .bool d.last] 31)
  have HB := hid hX
  have HX : Hid (BlockIs (w.alloc (.cells #[.int .i64 d.kind, .int .i64 d.src, .int .i64 d.dst, .int .i64 d.term, .int .i64 d.index, .int .i64 d.logTerm, .int .i64 d.commit, .bool d.ok, .slice ao d.ents.length ac, .slice bo d.conf.length bc, .string d.data, .bool d.last] 31)) w.heap.size 31 [.int .i64 d.kind, .int .i64 d.src, .int .i64 d.dst, .int .i64 d.term, .int .i64 d.index, .int .i64 d.logTerm, .int .i64 d.commit, .bool d.ok, .slice ao d.ents.length ac, .slice bo d.conf.length bc, .string d.data, .bool d.last]) := heap_alloc_new w _
  obtain ⟨W, hW⟩ : ∃ W, w.alloc (.cells #[.int .i64 d.kind, .int .i64 d.src, .int .i64 d.dst, .int .i64 d.term, .int .i64 d.index, .int .i64 d.logTerm, .int .i64 d.commit, .bool d.ok, .slice ao d.ents.length ac, .slice bo d.conf.length bc, .string d.data, .bool d.last] 31) = W := ⟨_, rfl⟩
  rw [hW] at HB HX hX
  have HA := hid ha
  have HI := hid hb
  have c0 := HX.out.cell (j := 0) rfl
  have c1 := HX.out.cell (j := 1) rfl
  have c2 := HX.out.cell (j := 2) rfl
  have c3 := HX.out.cell (j := 3) rfl
  have c4 := HX.out.cell (j := 4) rfl
  have c5 := HX.out.cell (j := 5) rfl
  have c6 := HX.out.cell (j := 6) rfl
  have c7 := HX.out.cell (j := 7) rfl
  have c8 := HX.out.cell (j := 8) rfl
  have c9 := HX.out.cell (j := 9) rfl
  have c10 := HX.out.cell (j := 10) rfl
  have c11 := HX.out.cell (j := 11) rfl
  have cO' := fun w ha hb => implMessageOk_any d ao ac bo bc hs w ha hb
  clear ha hb hX
  cases hok : messageOk d with
  | false =>
    rw [hok] at cO'
    have cO := hid cO'
    have HN : Hid (encAns d = .tuple #[.string ByteArray.empty, .bool false]) := (show _ = _ by rw [encAns, hok]; exact if_neg (by simp))
    clear cO' hok
    go_enter Tryd.func7, Tryd.ntmps7
    go_wp2_with fail
    refine (cO.out _ (HA.out.on HB.out) (HI.out.on HB.out)).mono ?_
    rintro e w2 ⟨rfl, b2⟩
    have B2 := hid (below_via HB.out b2)
    clear b2 cO
    go_wp2
    go_ret2
    exact ⟨by rw [HN.out]; rfl, B2.out⟩
  | true =>
    have HR := hid (messageOk_facts hok)
    rw [hok] at cO'
    have cO := hid cO'
    have HN : Hid (encAns d = .tuple #[.string (msgText d), .bool true]) := (show _ = _ by rw [encAns, hok]; exact if_pos rfl)
    clear cO' hok
    go_enter Tryd.func7, Tryd.ntmps7
    go_wp2_with fail
    refine (cO.out _ (HA.out.on HB.out) (HI.out.on HB.out)).mono ?_
    rintro e w2 ⟨rfl, b2⟩
    have X2 := HX.out.on b2 HX.out.lt
    have B2 := below_via HB.out b2
    have l2 := X2.lt
    have hba := below_more (Below.refl w2.heap.size w2) (.cells #[.slice none 0 0, .int .i64 0, .int .i8 0] 54)
    have W3 := hid (wr_new w2 (w.heap.size + 1) l2)
    have X3 := hid (X2.on hba l2)
    have B3 := hid (B2.trans (hba.mono B2.size))
    have S3 : Hid (w.heap.size + 1 ≤ (w2.alloc (.cells #[.slice none 0 0, .int .i64 0, .int .i8 0] 54)).heap.size) := Nat.le_trans l2 hba.size
    obtain ⟨q, hq2⟩ : ∃ q, w2.heap.size = q := ⟨_, rfl⟩
    rw [hq2] at W3
    obtain ⟨u, hu⟩ : ∃ W, w2.alloc (.cells #[.slice none 0 0, .int .i64 0, .int .i8 0] 54) = W := ⟨_, rfl⟩
    rw [hu] at W3 X3 B3 S3
    clear b2 c0 c1 c2 c3 c4 c5 c6 c7 c8 c9 c10 c11 HX HB hW X2 B2 hba l2 cO
    have c0 := X3.out.cell (j := 0) rfl
    have c1 := X3.out.cell (j := 1) rfl
    have c2 := X3.out.cell (j := 2) rfl
    have c3 := X3.out.cell (j := 3) rfl
    have c4 := X3.out.cell (j := 4) rfl
    have c5 := X3.out.cell (j := 5) rfl
    have c6 := X3.out.cell (j := 6) rfl
    have c7 := X3.out.cell (j := 7) rfl
    have c8 := X3.out.cell (j := 8) rfl
    have c9 := X3.out.cell (j := 9) rfl
    have c10 := X3.out.cell (j := 10) rfl
    have c11 := X3.out.cell (j := 11) rfl
    go_wp2_with fail
    refine (wrMessage_on w (w.heap.size + 1) q d HR.out ao ac bo bc u B3.out (Nat.le_succ _) HA.out HI.out W3.out S3.out).mono ?_
    rintro e w4 ⟨rfl, hw4, b4⟩
    have cS := hid (string_on (w.heap.size + 1) q _ w4 hw4)
    have B4 := hid b4
    rw [show (⟨(msgL d).toArray⟩ : ByteArray) = msgText d from rfl] at cS
    obtain ⟨T, hT⟩ : ∃ T, msgText d = T := ⟨_, rfl⟩
    rw [hT] at cS HN
    clear hT hw4 b4 W3 X3 B3 S3 c0 c1 c2 c3 c4 c5 c6 c7 c8 c9 c10 c11
    go_wp2_with fail
    refine cS.out.mono ?_
    rintro e w10 ⟨rfl, b10⟩
    have B10 := hid (below_via B4.out b10)
    clear b10 cS
    go_wp2
    go_ret2
    exact ⟨by rw [HN.out]; rfl, B10.out⟩
end Go.Proofs.YtkdbdgeaceigfaaDoor
