/-
  The walks of impl's three cargoes: rightBehind, and right of a letter of each.
-/
import Derived.Test.YtohmfmajgehadaaGreatDoorJoint35
import Derived.Test.YtohmfmajgehadaaGreatDoorJoint34
import Derived.Test.YtohmfmajgehadaaGreatDoorJoint29
import Derived.Deep.QuietTactic
import Derived.BigQuiet
import Derived.Lib.QuietBelow
import Derived.Test.YtohmfmajgehadaaGreatDoorRows
import Derived.Test.YtohmfmajgehadaaGreatDoorJoint1
namespace Go.Proofs.YtohmfmajgehadaaGreatDoor
open Go.RowKit

/-- the place of a field without cells -/
theorem byte_no (w : World) (b k n : Nat) (cs : List Value) (h : BlockIs w b 90 cs) (hk : k % 12 = 0) (hn : k / 12 * 144 = n) : (byteOf ⟨b, k, none⟩).run Tryz.prog w = .ok n w := by
  have hs : w.shape? b = some (90, cs.toArray.size) := by unfold World.shape?; rw [show w.heap[b]? = _ from h]
  have h1 : Tryz.prog.cellsOf 90 = 12 := by kernel_rfl
  have h2 : Tryz.prog.bytesOf 90 = 144 := by kernel_rfl
  have h3 : byteOfCell Tryz.prog Tryz.prog.depth 90 0 = some 0 := by kernel_rfl
  unfold byteOf noView viewAt
  simp [h1, h2, hk, h3, hn, hs, Sem.run_bind]
theorem part_no (w : World) (b : Nat) (cs : List Value) (h : BlockIs w b 90 cs) : (partAt ⟨b, 0, none⟩ 12 136).run Tryz.prog w = .ok ⟨b, 12, some 136⟩ w := by
  unfold partAt
  simp [byte_no w b 0 0 cs h rfl rfl, byte_no w b 12 144 cs h rfl rfl, Sem.run_bind]
theorem load_no (w : World) (b : Nat) : (Instr.loadAt 88 (.pointer (some ⟨b, 12, some 136⟩))).run Tryz.prog w = .ok (.agg #[]) w := by
  kernel_rfl

set_option maxRecDepth 1000000 in
set_option maxHeartbeats 1000000 in
theorem noBehind_any (d : MsgD) (ao : Option Addr) (ac : Nat) (bo : Option Addr) (bc : Nat) (w : World) :
    Calls Tryz.prog 231 #[.agg #[], .agg #[.int .i64 d.kind, .int .i64 d.src, .int .i64 d.dst, .int .i64 d.term, .int .i64 d.index, .int .i64 d.logTerm, .int .i64 d.commit, .bool d.ok, .slice ao d.ents.length ac, .slice bo d.conf.length bc, .string d.data, .bool d.last]] w fun e w' => e = .returned (.bool true) ∧ Below w.heap.size w w' := by
  have HB := hid (below_more (below_more (Below.refl w.heap.size w) (.cells #[] 88)) (.cells #[.int .i64 d.kind, .int .i64 d.src, .int .i64 d.dst, .int .i64 d.term, .int .i64 d.index, .int .i64 d.logTerm, .int .i64 d.commit, .bool d.ok, .slice ao d.ents.length ac, .slice bo d.conf.length bc, .string d.data, .bool d.last] 39))
  go_enter Tryz.func231, Tryz.ntmps231
  go_wp2
  go_ret
  exact ⟨rfl, HB.out⟩

set_option maxRecDepth 1000000 in
set_option maxHeartbeats 1000000 in
theorem entsBehind_nil (co : Option Addr) (cc : Nat) (d : MsgD) (ao : Option Addr) (ac : Nat) (bo : Option Addr) (bc : Nat) (w : World) :
    Calls Tryz.prog 232 #[.agg #[.slice co 0 cc], .agg #[.int .i64 d.kind, .int .i64 d.src, .int .i64 d.dst, .int .i64 d.term, .int .i64 d.index, .int .i64 d.logTerm, .int .i64 d.commit, .bool d.ok, .slice ao d.ents.length ac, .slice bo d.conf.length bc, .string d.data, .bool d.last]] w fun e w' => e = .returned (.bool true) ∧ Below w.heap.size w w' := by
  obtain ⟨W, hW⟩ : ∃ W, (w.alloc (.cells #[.slice co 0 cc] 93)).alloc (.cells #[.int .i64 d.kind, .int .i64 d.src, .int .i64 d.dst, .int .i64 d.term, .int .i64 d.index, .int .i64 d.logTerm, .int .i64 d.commit, .bool d.ok, .slice ao d.ents.length ac, .slice bo d.conf.length bc, .string d.data, .bool d.last] 39) = W := ⟨_, rfl⟩
  have HB := hid (below_more (below_more (Below.refl w.heap.size w) (.cells #[.slice co 0 cc] 93)) (.cells #[.int .i64 d.kind, .int .i64 d.src, .int .i64 d.dst, .int .i64 d.term, .int .i64 d.index, .int .i64 d.logTerm, .int .i64 d.commit, .bool d.ok, .slice ao d.ents.length ac, .slice bo d.conf.length bc, .string d.data, .bool d.last] 39))
  have K0 : BlockIs W w.heap.size 93 [.slice co 0 cc] := by
    rw [← hW]
    show ((w.heap.push _).push _)[w.heap.size]? = some _
    rw [Array.getElem?_push, if_neg (by simp), Array.getElem?_push, if_pos rfl]
  have K1 : BlockIs W (w.heap.size + 1) 39 [.int .i64 d.kind, .int .i64 d.src, .int .i64 d.dst, .int .i64 d.term, .int .i64 d.index, .int .i64 d.logTerm, .int .i64 d.commit, .bool d.ok, .slice ao d.ents.length ac, .slice bo d.conf.length bc, .string d.data, .bool d.last] := by
    rw [← hW]
    show ((w.heap.push _).push _)[w.heap.size + 1]? = some _
    rw [Array.getElem?_push, if_pos (by simp)]
  rw [hW] at HB
  have c0 := K0.cell (j := 0) rfl
  have d3 := K1.cell (j := 3) rfl
  have d5 := K1.cell (j := 5) rfl
  clear K0 K1
  have C : Hid (∀ w : World, Calls Tryz.prog 233 #[.slice co 0 cc, .int .i64 d.logTerm] w fun e w' => e = .returned (.bool true) ∧ Below w.heap.size w w') := fun w => entriesOk_any d.logTerm co [] cc (Nat.zero_le _) w (fun h => absurd rfl h)
  go_enter Tryz.func232, Tryz.ntmps232
  go_wp2_with fail
  refine (C.out _).mono ?_
  rintro e w1 ⟨rfl, b1⟩
  have B1 := hid (below_via HB.out b1)
  clear b1 C
  go_wp2
  go_quiet (fail)
  go_wp2
  go_ret
  exact ⟨rfl, below_drewN B1.out _⟩

set_option maxRecDepth 1000000 in
set_option maxHeartbeats 1000000 in
theorem entsBehind_pos (co : Option Addr) (es : List EntD) (k cc : Nat) (hk : es.length = k + 1) (he : es.length ≤ 1048576) (d : MsgD) (ao : Option Addr) (ac : Nat) (bo : Option Addr) (bc : Nat) (w : World) (ha : EntsAt w co es) :
    Calls Tryz.prog 232 #[.agg #[.slice co (k + 1) cc], .agg #[.int .i64 d.kind, .int .i64 d.src, .int .i64 d.dst, .int .i64 d.term, .int .i64 d.index, .int .i64 d.logTerm, .int .i64 d.commit, .bool d.ok, .slice ao d.ents.length ac, .slice bo d.conf.length bc, .string d.data, .bool d.last]] w fun e w' => e = .returned (.bool (decide (es.length ≤ 4) && sentOk d.logTerm d.term es)) ∧ Below w.heap.size w w' := by
  have HA := hid ha
  obtain ⟨W, hW⟩ : ∃ W, (w.alloc (.cells #[.slice co (k + 1) cc] 93)).alloc (.cells #[.int .i64 d.kind, .int .i64 d.src, .int .i64 d.dst, .int .i64 d.term, .int .i64 d.index, .int .i64 d.logTerm, .int .i64 d.commit, .bool d.ok, .slice ao d.ents.length ac, .slice bo d.conf.length bc, .string d.data, .bool d.last] 39) = W := ⟨_, rfl⟩
  have HB := hid (below_more (below_more (Below.refl w.heap.size w) (.cells #[.slice co (k + 1) cc] 93)) (.cells #[.int .i64 d.kind, .int .i64 d.src, .int .i64 d.dst, .int .i64 d.term, .int .i64 d.index, .int .i64 d.logTerm, .int .i64 d.commit, .bool d.ok, .slice ao d.ents.length ac, .slice bo d.conf.length bc, .string d.data, .bool d.last] 39))
  have K0 : BlockIs W w.heap.size 93 [.slice co (k + 1) cc] := by
    rw [← hW]
    show ((w.heap.push _).push _)[w.heap.size]? = some _
    rw [Array.getElem?_push, if_neg (by simp), Array.getElem?_push, if_pos rfl]
  have K1 : BlockIs W (w.heap.size + 1) 39 [.int .i64 d.kind, .int .i64 d.src, .int .i64 d.dst, .int .i64 d.term, .int .i64 d.index, .int .i64 d.logTerm, .int .i64 d.commit, .bool d.ok, .slice ao d.ents.length ac, .slice bo d.conf.length bc, .string d.data, .bool d.last] := by
    rw [← hW]
    show ((w.heap.push _).push _)[w.heap.size + 1]? = some _
    rw [Array.getElem?_push, if_pos (by simp)]
  rw [hW] at HB
  have HK0 := hid K0
  have HK1 := hid K1
  have c0 := K0.cell (j := 0) rfl
  have d3 := K1.cell (j := 3) rfl
  have d5 := K1.cell (j := 5) rfl
  have HL := hid hk
  clear K0 K1 ha
  by_cases h4 : (4 : Int) < (k : Int) + 1
  · have hr : Hid ((decide (es.length ≤ 4) && sentOk d.logTerm d.term es) = false) := by show _ = _; rw [decide_eq_false (by omega), Bool.false_and]
    clear hk he
    go_enter Tryz.func232, Tryz.ntmps232
    go_wp2
    go_ret
    exact ⟨by rw [hr.out]; rfl, HB.out⟩
  have m := fun w ha => entriesOk_any d.logTerm co es cc he w ha
  rw [hk] at m
  have hS : (decide (es.length ≤ 4) && sentOk d.logTerm d.term es) = (termsOk d.logTerm es && (decide (es.length = 0) || decide (lastT d.logTerm es ≤ d.term))) := by rw [decide_eq_true (by omega), Bool.true_and, sentOk_is]
  cases hT : termsOk d.logTerm es with
  | false =>
    rw [hT] at m hS
    have C := hid m
    have hr := hid hS
    clear m hS hT hk he
    go_enter Tryz.func232, Tryz.ntmps232
    go_wp2_with fail
    refine (C.out _ (HA.out.on HB.out)).mono ?_
    rintro e w1 ⟨rfl, b1⟩
    have B1 := hid (below_via HB.out b1)
    clear b1 C
    go_wp2
    go_ret
    exact ⟨by rw [hr.out]; rfl, B1.out⟩
  | true =>
    rw [hT] at m hS
    have C := hid m
    have hr := hid hS
    clear m hS hT
    have hl : k < es.length := by omega
    have hLast : Hid (lastT d.logTerm es = es[k].term) := by
      show _ = _
      rw [lastT_last _ _ (by omega)]
      congr 2
      omega
    have hr2 : Hid ((decide (es.length ≤ 4) && sentOk d.logTerm d.term es) = decide (es[k].term ≤ d.term)) := by
      show _ = _
      rw [hr.out, hLast.out, decide_eq_false (by omega : ¬ es.length = 0)]
      simp
    have hne : es ≠ [] := by intro e; rw [e] at hk; simp at hk
    have HNE := hid hne
    have hz : ¬ (k : Int) + 1 = 0 := by omega
    have hgd : decide ((k : Int) + 1 = 0) = false := decide_eq_false hz
    have hi0 : (0 : Int) ≤ (k : Int) := by omega
    have hi1 : (k : Int) < (k : Int) + 1 := by omega
    have hi2 : k < k + 1 := by omega
    have hkb : (k : Int) ≤ 1048575 := by omega
    have hwk : IntKind.i64.wrap (k : Int) = (k : Int) := by rw [IntKind.wrap_i64]; omega
    clear hne hk hr hLast he
    go_enter Tryz.func232, Tryz.ntmps232
    go_wp2_with fail
    refine (C.out _ (HA.out.on HB.out)).mono ?_
    rintro e w1 ⟨rfl, b1⟩
    have B1 := hid (below_via HB.out b1)
    have f0 := (HK0.out.on b1 HK0.out.lt).cell (j := 0) rfl
    have g3 := (HK1.out.on b1 HK1.out.lt).cell (j := 3) rfl
    obtain ⟨b, off, rfl, hc⟩ := HA.out.on B1.out HNE.out
    obtain ⟨x0, x1, x2⟩ := hc k hl
    clear b1 C hc c0 d3 d5
    go_wp2
    go_quiet (fail)
    go_wp2
    go_ret
    exact ⟨by rw [hr2.out]; rfl, below_drewN B1.out _⟩

theorem entsBehind_any (co : Option Addr) (es : List EntD) (cc : Nat) (he : es.length ≤ 1048576) (d : MsgD) (ao : Option Addr) (ac : Nat) (bo : Option Addr) (bc : Nat) (w : World) (ha : EntsAt w co es) :
    Calls Tryz.prog 232 #[.agg #[.slice co es.length cc], .agg #[.int .i64 d.kind, .int .i64 d.src, .int .i64 d.dst, .int .i64 d.term, .int .i64 d.index, .int .i64 d.logTerm, .int .i64 d.commit, .bool d.ok, .slice ao d.ents.length ac, .slice bo d.conf.length bc, .string d.data, .bool d.last]] w fun e w' => e = .returned (.bool (decide (es.length ≤ 4) && sentOk d.logTerm d.term es)) ∧ Below w.heap.size w w' := by
  rcases Nat.eq_zero_or_pos es.length with h | h
  · obtain rfl : es = [] := List.length_eq_zero_iff.1 h
    exact entsBehind_nil co cc d ao ac bo bc w
  · obtain ⟨k, hk⟩ : ∃ k, es.length = k + 1 := ⟨es.length - 1, by omega⟩
    have := entsBehind_pos co es k cc hk he d ao ac bo bc w ha
    rw [← hk] at this
    exact this

set_option maxRecDepth 1000000 in
set_option maxHeartbeats 1000000 in
theorem chunkBehind_any (co : Option Addr) (zs : List Int) (cc : Nat) (dt : ByteArray) (la : Bool) (hz : zs.length ≤ 1048576) (d : MsgD) (ao : Option Addr) (ac : Nat) (bo : Option Addr) (bc : Nat) (w : World) (ha : IntsAt w co zs) :
    Calls Tryz.prog 234 #[.agg #[.slice co zs.length cc, .string dt, .bool la], .agg #[.int .i64 d.kind, .int .i64 d.src, .int .i64 d.dst, .int .i64 d.term, .int .i64 d.index, .int .i64 d.logTerm, .int .i64 d.commit, .bool d.ok, .slice ao d.ents.length ac, .slice bo d.conf.length bc, .string d.data, .bool d.last]] w fun e w' => e = .returned (.bool (confOk zs && decide (dt.size ≤ 60))) ∧ Below w.heap.size w w' := by
  have HA := hid ha
  obtain ⟨W, hW⟩ : ∃ W, (w.alloc (.cells #[.slice co zs.length cc, .string dt, .bool la] 98)).alloc (.cells #[.int .i64 d.kind, .int .i64 d.src, .int .i64 d.dst, .int .i64 d.term, .int .i64 d.index, .int .i64 d.logTerm, .int .i64 d.commit, .bool d.ok, .slice ao d.ents.length ac, .slice bo d.conf.length bc, .string d.data, .bool d.last] 39) = W := ⟨_, rfl⟩
  have HB := hid (below_more (below_more (Below.refl w.heap.size w) (.cells #[.slice co zs.length cc, .string dt, .bool la] 98)) (.cells #[.int .i64 d.kind, .int .i64 d.src, .int .i64 d.dst, .int .i64 d.term, .int .i64 d.index, .int .i64 d.logTerm, .int .i64 d.commit, .bool d.ok, .slice ao d.ents.length ac, .slice bo d.conf.length bc, .string d.data, .bool d.last] 39))
  have K0 : BlockIs W w.heap.size 98 [.slice co zs.length cc, .string dt, .bool la] := by
    rw [← hW]
    show ((w.heap.push _).push _)[w.heap.size]? = some _
    rw [Array.getElem?_push, if_neg (by simp), Array.getElem?_push, if_pos rfl]
  rw [hW] at HB
  have HK0 := hid K0
  have c0 := K0.cell (j := 0) rfl
  clear K0 ha
  have m := fun w ha => implConfOk_any co zs cc hz w ha
  cases hT : confOk zs with
  | false =>
    rw [hT] at m
    have C := hid m
    clear m hT
    go_enter Tryz.func234, Tryz.ntmps234
    go_wp2_with fail
    refine (C.out _ (HA.out.on HB.out)).mono ?_
    rintro e w1 ⟨rfl, b1⟩
    have B1 := hid (below_via HB.out b1)
    clear b1 C
    go_wp2
    go_ret
    exact ⟨rfl, B1.out⟩
  | true =>
    rw [hT] at m
    have C := hid m
    have HQ : Hid (decide (dt.size ≤ 60) = decide ((dt.size : Int) ≤ 60)) := by show _ = _; congr 1; exact propext (by omega)
    clear m hT
    go_enter Tryz.func234, Tryz.ntmps234
    go_wp2_with fail
    refine (C.out _ (HA.out.on HB.out)).mono ?_
    rintro e w1 ⟨rfl, b1⟩
    have B1 := hid (below_via HB.out b1)
    have f1 := (HK0.out.on b1 HK0.out.lt).cell (j := 1) rfl
    clear b1 C c0
    go_wp2
    go_ret
    exact ⟨by rw [HQ.out]; rfl, B1.out⟩

theorem invoke_no  : ∀ w : World, (method 379 88 (.agg #[]) "loop.example/g00232/impl.rightBehind").run Tryz.prog w = .ok (231, .agg #[]) w := fun _ => by kernel_rfl
set_option maxRecDepth 1000000 in
set_option maxHeartbeats 4000000 in
theorem noRight_any (d : MsgD) (ao : Option Addr) (ac : Nat) (bo : Option Addr) (bc : Nat) (w : World) :
    Calls Tryz.prog 42 #[.agg #[.int .i64 d.kind, .int .i64 d.src, .int .i64 d.dst, .int .i64 d.term, .int .i64 d.index, .int .i64 d.logTerm, .int .i64 d.commit, .bool d.ok, .slice ao d.ents.length ac, .slice bo d.conf.length bc, .string d.data, .bool d.last]] w fun e w' => e = .returned (.bool (headOk d && bareOk d && true)) ∧ Below w.heap.size w w' := by
  have HB := hid (below_more (Below.refl w.heap.size w) (.cells #[.int .i64 d.kind, .int .i64 d.src, .int .i64 d.dst, .int .i64 d.term, .int .i64 d.index, .int .i64 d.logTerm, .int .i64 d.commit, .bool d.ok, .slice ao d.ents.length ac, .slice bo d.conf.length bc, .string d.data, .bool d.last] 90))
  have hx : BlockIs (w.alloc (.cells #[.int .i64 d.kind, .int .i64 d.src, .int .i64 d.dst, .int .i64 d.term, .int .i64 d.index, .int .i64 d.logTerm, .int .i64 d.commit, .bool d.ok, .slice ao d.ents.length ac, .slice bo d.conf.length bc, .string d.data, .bool d.last] 90)) w.heap.size 90 [.int .i64 d.kind, .int .i64 d.src, .int .i64 d.dst, .int .i64 d.term, .int .i64 d.index, .int .i64 d.logTerm, .int .i64 d.commit, .bool d.ok, .slice ao d.ents.length ac, .slice bo d.conf.length bc, .string d.data, .bool d.last] := heap_alloc_new w _
  obtain ⟨W, hW⟩ : ∃ W, w.alloc (.cells #[.int .i64 d.kind, .int .i64 d.src, .int .i64 d.dst, .int .i64 d.term, .int .i64 d.index, .int .i64 d.logTerm, .int .i64 d.commit, .bool d.ok, .slice ao d.ents.length ac, .slice bo d.conf.length bc, .string d.data, .bool d.last] 90) = W := ⟨_, rfl⟩
  rw [hW] at HB hx
  have HX := hid hx
  have c0 := hx.cell (j := 0) rfl
  have c1 := hx.cell (j := 1) rfl
  have c2 := hx.cell (j := 2) rfl
  have c3 := hx.cell (j := 3) rfl
  have c4 := hx.cell (j := 4) rfl
  have c5 := hx.cell (j := 5) rfl
  have c6 := hx.cell (j := 6) rfl
  have c7 := hx.cell (j := 7) rfl
  have c8 := hx.cell (j := 8) rfl
  have c9 := hx.cell (j := 9) rfl
  have c10 := hx.cell (j := 10) rfl
  have c11 := hx.cell (j := 11) rfl
  clear hx
  have m1 := fun w => messageHeadOk_any d ao ac bo bc w
  have m2 := fun w => carriesNothing_any d ao ac bo bc w
  cases h1 : headOk d with
  | false =>
    rw [h1] at m1
    have C1 := hid m1
    clear m1 m2 h1
    go_enter Tryz.func42, Tryz.ntmps42
    go_wp2_with fail
    refine (C1.out _).mono ?_
    rintro e w1 ⟨rfl, b1⟩
    have B1 := hid (below_via HB.out b1)
    clear b1 C1
    go_wp2
    go_ret
    exact ⟨by rw [Bool.false_and, Bool.false_and]; rfl, B1.out⟩
  | true =>
  rw [h1] at m1
  have C1 := hid m1
  clear m1 h1
  cases h2 : bareOk d with
  | false =>
    rw [h2] at m2
    have C2 := hid m2
    clear m2 h2
    go_enter Tryz.func42, Tryz.ntmps42
    go_wp2_with fail
    refine (C1.out _).mono ?_
    rintro e w1 ⟨rfl, b1⟩
    have B1 := hid (below_via HB.out b1)
    have X1 := HX.out.on b1 HX.out.lt
    have g0 := X1.cell (j := 0) rfl
    have g1 := X1.cell (j := 1) rfl
    have g2 := X1.cell (j := 2) rfl
    have g3 := X1.cell (j := 3) rfl
    have g4 := X1.cell (j := 4) rfl
    have g5 := X1.cell (j := 5) rfl
    have g6 := X1.cell (j := 6) rfl
    have g7 := X1.cell (j := 7) rfl
    have g8 := X1.cell (j := 8) rfl
    have g9 := X1.cell (j := 9) rfl
    have g10 := X1.cell (j := 10) rfl
    have g11 := X1.cell (j := 11) rfl
    clear b1 C1 X1
    go_wp2_with fail
    refine (C2.out _).mono ?_
    rintro e w2 ⟨rfl, b2⟩
    have B2 := hid (below_via B1.out b2)
    clear b2 C2
    go_wp2
    go_ret
    exact ⟨by rw [Bool.and_false, Bool.false_and]; rfl, B2.out⟩
  | true =>
    rw [h2] at m2
    have C2 := hid m2
    clear m2 h2
    have hm := invoke_no
    go_enter Tryz.func42, Tryz.ntmps42
    go_wp2_with fail
    refine (C1.out _).mono ?_
    rintro e w1 ⟨rfl, b1⟩
    have B1 := hid (below_via HB.out b1)
    have X1 := hid (HX.out.on b1 HX.out.lt)
    have g0 := X1.out.cell (j := 0) rfl
    have g1 := X1.out.cell (j := 1) rfl
    have g2 := X1.out.cell (j := 2) rfl
    have g3 := X1.out.cell (j := 3) rfl
    have g4 := X1.out.cell (j := 4) rfl
    have g5 := X1.out.cell (j := 5) rfl
    have g6 := X1.out.cell (j := 6) rfl
    have g7 := X1.out.cell (j := 7) rfl
    have g8 := X1.out.cell (j := 8) rfl
    have g9 := X1.out.cell (j := 9) rfl
    have g10 := X1.out.cell (j := 10) rfl
    have g11 := X1.out.cell (j := 11) rfl
    clear b1 C1
    go_wp2_with fail
    refine (C2.out _).mono ?_
    rintro e w2 ⟨rfl, b2⟩
    have B2 := hid (below_via B1.out b2)
    have X2 := X1.out.on b2 X1.out.lt
    have k0 := X2.cell (j := 0) rfl
    have k1 := X2.cell (j := 1) rfl
    have k2 := X2.cell (j := 2) rfl
    have k3 := X2.cell (j := 3) rfl
    have k4 := X2.cell (j := 4) rfl
    have k5 := X2.cell (j := 5) rfl
    have k6 := X2.cell (j := 6) rfl
    have k7 := X2.cell (j := 7) rfl
    have k8 := X2.cell (j := 8) rfl
    have k9 := X2.cell (j := 9) rfl
    have k10 := X2.cell (j := 10) rfl
    have k11 := X2.cell (j := 11) rfl
    have hp := part_no w2 w.heap.size _ X2
    have hl := load_no w2 w.heap.size
    clear b2 C2 X2
    go_wp2_with fail
    refine (noBehind_any d ao ac bo bc _).mono ?_
    rintro e w3 ⟨rfl, b3⟩
    have B3 := hid (below_via B2.out b3)
    clear b3
    go_wp2
    go_ret
    exact ⟨by simp, B3.out⟩

theorem invoke_ents (x0 : Value) : ∀ w : World, (method 379 93 (.agg #[x0]) "loop.example/g00232/impl.rightBehind").run Tryz.prog w = .ok (232, .agg #[x0]) w := fun _ => by kernel_rfl
set_option maxRecDepth 1000000 in
set_option maxHeartbeats 4000000 in
theorem entsRight_any (co : Option Addr) (es : List EntD) (cc : Nat) (he : es.length ≤ 1048576) (d : MsgD) (ao : Option Addr) (ac : Nat) (bo : Option Addr) (bc : Nat) (w : World) (ha : EntsAt w co es) :
    Calls Tryz.prog 44 #[.agg #[.int .i64 d.kind, .int .i64 d.src, .int .i64 d.dst, .int .i64 d.term, .int .i64 d.index, .int .i64 d.logTerm, .int .i64 d.commit, .bool d.ok, .slice ao d.ents.length ac, .slice bo d.conf.length bc, .string d.data, .bool d.last, .slice co es.length cc]] w fun e w' => e = .returned (.bool (headOk d && bareOk d && (decide (es.length ≤ 4) && sentOk d.logTerm d.term es))) ∧ Below w.heap.size w w' := by
  have HB := hid (below_more (Below.refl w.heap.size w) (.cells #[.int .i64 d.kind, .int .i64 d.src, .int .i64 d.dst, .int .i64 d.term, .int .i64 d.index, .int .i64 d.logTerm, .int .i64 d.commit, .bool d.ok, .slice ao d.ents.length ac, .slice bo d.conf.length bc, .string d.data, .bool d.last, .slice co es.length cc] 95))
  have hx : BlockIs (w.alloc (.cells #[.int .i64 d.kind, .int .i64 d.src, .int .i64 d.dst, .int .i64 d.term, .int .i64 d.index, .int .i64 d.logTerm, .int .i64 d.commit, .bool d.ok, .slice ao d.ents.length ac, .slice bo d.conf.length bc, .string d.data, .bool d.last, .slice co es.length cc] 95)) w.heap.size 95 [.int .i64 d.kind, .int .i64 d.src, .int .i64 d.dst, .int .i64 d.term, .int .i64 d.index, .int .i64 d.logTerm, .int .i64 d.commit, .bool d.ok, .slice ao d.ents.length ac, .slice bo d.conf.length bc, .string d.data, .bool d.last, .slice co es.length cc] := heap_alloc_new w _
  obtain ⟨W, hW⟩ : ∃ W, w.alloc (.cells #[.int .i64 d.kind, .int .i64 d.src, .int .i64 d.dst, .int .i64 d.term, .int .i64 d.index, .int .i64 d.logTerm, .int .i64 d.commit, .bool d.ok, .slice ao d.ents.length ac, .slice bo d.conf.length bc, .string d.data, .bool d.last, .slice co es.length cc] 95) = W := ⟨_, rfl⟩
  rw [hW] at HB hx
  have HX := hid hx
  have c0 := hx.cell (j := 0) rfl
  have c1 := hx.cell (j := 1) rfl
  have c2 := hx.cell (j := 2) rfl
  have c3 := hx.cell (j := 3) rfl
  have c4 := hx.cell (j := 4) rfl
  have c5 := hx.cell (j := 5) rfl
  have c6 := hx.cell (j := 6) rfl
  have c7 := hx.cell (j := 7) rfl
  have c8 := hx.cell (j := 8) rfl
  have c9 := hx.cell (j := 9) rfl
  have c10 := hx.cell (j := 10) rfl
  have c11 := hx.cell (j := 11) rfl
  have c12 := hx.cell (j := 12) rfl
  have HA := hid ha
  clear ha
  clear hx
  have m1 := fun w => messageHeadOk_any d ao ac bo bc w
  have m2 := fun w => carriesNothing_any d ao ac bo bc w
  cases h1 : headOk d with
  | false =>
    rw [h1] at m1
    have C1 := hid m1
    clear m1 m2 h1
    go_enter Tryz.func44, Tryz.ntmps44
    go_wp2_with fail
    refine (C1.out _).mono ?_
    rintro e w1 ⟨rfl, b1⟩
    have B1 := hid (below_via HB.out b1)
    clear b1 C1
    go_wp2
    go_ret
    exact ⟨by rw [Bool.false_and, Bool.false_and]; rfl, B1.out⟩
  | true =>
  rw [h1] at m1
  have C1 := hid m1
  clear m1 h1
  cases h2 : bareOk d with
  | false =>
    rw [h2] at m2
    have C2 := hid m2
    clear m2 h2
    go_enter Tryz.func44, Tryz.ntmps44
    go_wp2_with fail
    refine (C1.out _).mono ?_
    rintro e w1 ⟨rfl, b1⟩
    have B1 := hid (below_via HB.out b1)
    have X1 := HX.out.on b1 HX.out.lt
    have g0 := X1.cell (j := 0) rfl
    have g1 := X1.cell (j := 1) rfl
    have g2 := X1.cell (j := 2) rfl
    have g3 := X1.cell (j := 3) rfl
    have g4 := X1.cell (j := 4) rfl
    have g5 := X1.cell (j := 5) rfl
    have g6 := X1.cell (j := 6) rfl
    have g7 := X1.cell (j := 7) rfl
    have g8 := X1.cell (j := 8) rfl
    have g9 := X1.cell (j := 9) rfl
    have g10 := X1.cell (j := 10) rfl
    have g11 := X1.cell (j := 11) rfl
    have g12 := X1.cell (j := 12) rfl
    clear b1 C1 X1
    go_wp2_with fail
    refine (C2.out _).mono ?_
    rintro e w2 ⟨rfl, b2⟩
    have B2 := hid (below_via B1.out b2)
    clear b2 C2
    go_wp2
    go_ret
    exact ⟨by rw [Bool.and_false, Bool.false_and]; rfl, B2.out⟩
  | true =>
    rw [h2] at m2
    have C2 := hid m2
    clear m2 h2
    have hm := invoke_ents (.slice co es.length cc)
    go_enter Tryz.func44, Tryz.ntmps44
    go_wp2_with fail
    refine (C1.out _).mono ?_
    rintro e w1 ⟨rfl, b1⟩
    have B1 := hid (below_via HB.out b1)
    have X1 := hid (HX.out.on b1 HX.out.lt)
    have g0 := X1.out.cell (j := 0) rfl
    have g1 := X1.out.cell (j := 1) rfl
    have g2 := X1.out.cell (j := 2) rfl
    have g3 := X1.out.cell (j := 3) rfl
    have g4 := X1.out.cell (j := 4) rfl
    have g5 := X1.out.cell (j := 5) rfl
    have g6 := X1.out.cell (j := 6) rfl
    have g7 := X1.out.cell (j := 7) rfl
    have g8 := X1.out.cell (j := 8) rfl
    have g9 := X1.out.cell (j := 9) rfl
    have g10 := X1.out.cell (j := 10) rfl
    have g11 := X1.out.cell (j := 11) rfl
    have g12 := X1.out.cell (j := 12) rfl
    clear b1 C1
    go_wp2_with fail
    refine (C2.out _).mono ?_
    rintro e w2 ⟨rfl, b2⟩
    have B2 := hid (below_via B1.out b2)
    have X2 := X1.out.on b2 X1.out.lt
    have k0 := X2.cell (j := 0) rfl
    have k1 := X2.cell (j := 1) rfl
    have k2 := X2.cell (j := 2) rfl
    have k3 := X2.cell (j := 3) rfl
    have k4 := X2.cell (j := 4) rfl
    have k5 := X2.cell (j := 5) rfl
    have k6 := X2.cell (j := 6) rfl
    have k7 := X2.cell (j := 7) rfl
    have k8 := X2.cell (j := 8) rfl
    have k9 := X2.cell (j := 9) rfl
    have k10 := X2.cell (j := 10) rfl
    have k11 := X2.cell (j := 11) rfl
    have k12 := X2.cell (j := 12) rfl
    clear b2 C2 X2
    go_wp2_with fail
    refine (entsBehind_any co es cc he d ao ac bo bc _ (HA.out.on B2.out)).mono ?_
    rintro e w3 ⟨rfl, b3⟩
    have B3 := hid (below_via B2.out b3)
    clear b3
    go_wp2
    go_ret
    exact ⟨by simp, B3.out⟩

theorem invoke_chunk (x0 x1 x2 : Value) : ∀ w : World, (method 379 98 (.agg #[x0, x1, x2]) "loop.example/g00232/impl.rightBehind").run Tryz.prog w = .ok (234, .agg #[x0, x1, x2]) w := fun _ => by kernel_rfl
set_option maxRecDepth 1000000 in
set_option maxHeartbeats 4000000 in
theorem chunkRight_any (co : Option Addr) (zs : List Int) (cc : Nat) (dt : ByteArray) (la : Bool) (hz : zs.length ≤ 1048576) (d : MsgD) (ao : Option Addr) (ac : Nat) (bo : Option Addr) (bc : Nat) (w : World) (ha : IntsAt w co zs) :
    Calls Tryz.prog 46 #[.agg #[.int .i64 d.kind, .int .i64 d.src, .int .i64 d.dst, .int .i64 d.term, .int .i64 d.index, .int .i64 d.logTerm, .int .i64 d.commit, .bool d.ok, .slice ao d.ents.length ac, .slice bo d.conf.length bc, .string d.data, .bool d.last, .slice co zs.length cc, .string dt, .bool la]] w fun e w' => e = .returned (.bool (headOk d && bareOk d && (confOk zs && decide (dt.size ≤ 60)))) ∧ Below w.heap.size w w' := by
  have HB := hid (below_more (Below.refl w.heap.size w) (.cells #[.int .i64 d.kind, .int .i64 d.src, .int .i64 d.dst, .int .i64 d.term, .int .i64 d.index, .int .i64 d.logTerm, .int .i64 d.commit, .bool d.ok, .slice ao d.ents.length ac, .slice bo d.conf.length bc, .string d.data, .bool d.last, .slice co zs.length cc, .string dt, .bool la] 100))
  have hx : BlockIs (w.alloc (.cells #[.int .i64 d.kind, .int .i64 d.src, .int .i64 d.dst, .int .i64 d.term, .int .i64 d.index, .int .i64 d.logTerm, .int .i64 d.commit, .bool d.ok, .slice ao d.ents.length ac, .slice bo d.conf.length bc, .string d.data, .bool d.last, .slice co zs.length cc, .string dt, .bool la] 100)) w.heap.size 100 [.int .i64 d.kind, .int .i64 d.src, .int .i64 d.dst, .int .i64 d.term, .int .i64 d.index, .int .i64 d.logTerm, .int .i64 d.commit, .bool d.ok, .slice ao d.ents.length ac, .slice bo d.conf.length bc, .string d.data, .bool d.last, .slice co zs.length cc, .string dt, .bool la] := heap_alloc_new w _
  obtain ⟨W, hW⟩ : ∃ W, w.alloc (.cells #[.int .i64 d.kind, .int .i64 d.src, .int .i64 d.dst, .int .i64 d.term, .int .i64 d.index, .int .i64 d.logTerm, .int .i64 d.commit, .bool d.ok, .slice ao d.ents.length ac, .slice bo d.conf.length bc, .string d.data, .bool d.last, .slice co zs.length cc, .string dt, .bool la] 100) = W := ⟨_, rfl⟩
  rw [hW] at HB hx
  have HX := hid hx
  have c0 := hx.cell (j := 0) rfl
  have c1 := hx.cell (j := 1) rfl
  have c2 := hx.cell (j := 2) rfl
  have c3 := hx.cell (j := 3) rfl
  have c4 := hx.cell (j := 4) rfl
  have c5 := hx.cell (j := 5) rfl
  have c6 := hx.cell (j := 6) rfl
  have c7 := hx.cell (j := 7) rfl
  have c8 := hx.cell (j := 8) rfl
  have c9 := hx.cell (j := 9) rfl
  have c10 := hx.cell (j := 10) rfl
  have c11 := hx.cell (j := 11) rfl
  have c12 := hx.cell (j := 12) rfl
  have c13 := hx.cell (j := 13) rfl
  have c14 := hx.cell (j := 14) rfl
  have HA := hid ha
  clear ha
  clear hx
  have m1 := fun w => messageHeadOk_any d ao ac bo bc w
  have m2 := fun w => carriesNothing_any d ao ac bo bc w
  cases h1 : headOk d with
  | false =>
    rw [h1] at m1
    have C1 := hid m1
    clear m1 m2 h1
    go_enter Tryz.func46, Tryz.ntmps46
    go_wp2_with fail
    refine (C1.out _).mono ?_
    rintro e w1 ⟨rfl, b1⟩
    have B1 := hid (below_via HB.out b1)
    clear b1 C1
    go_wp2
    go_ret
    exact ⟨by rw [Bool.false_and, Bool.false_and]; rfl, B1.out⟩
  | true =>
  rw [h1] at m1
  have C1 := hid m1
  clear m1 h1
  cases h2 : bareOk d with
  | false =>
    rw [h2] at m2
    have C2 := hid m2
    clear m2 h2
    go_enter Tryz.func46, Tryz.ntmps46
    go_wp2_with fail
    refine (C1.out _).mono ?_
    rintro e w1 ⟨rfl, b1⟩
    have B1 := hid (below_via HB.out b1)
    have X1 := HX.out.on b1 HX.out.lt
    have g0 := X1.cell (j := 0) rfl
    have g1 := X1.cell (j := 1) rfl
    have g2 := X1.cell (j := 2) rfl
    have g3 := X1.cell (j := 3) rfl
    have g4 := X1.cell (j := 4) rfl
    have g5 := X1.cell (j := 5) rfl
    have g6 := X1.cell (j := 6) rfl
    have g7 := X1.cell (j := 7) rfl
    have g8 := X1.cell (j := 8) rfl
    have g9 := X1.cell (j := 9) rfl
    have g10 := X1.cell (j := 10) rfl
    have g11 := X1.cell (j := 11) rfl
    have g12 := X1.cell (j := 12) rfl
    have g13 := X1.cell (j := 13) rfl
    have g14 := X1.cell (j := 14) rfl
    clear b1 C1 X1
    go_wp2_with fail
    refine (C2.out _).mono ?_
    rintro e w2 ⟨rfl, b2⟩
    have B2 := hid (below_via B1.out b2)
    clear b2 C2
    go_wp2
    go_ret
    exact ⟨by rw [Bool.and_false, Bool.false_and]; rfl, B2.out⟩
  | true =>
    rw [h2] at m2
    have C2 := hid m2
    clear m2 h2
    have hm := invoke_chunk (.slice co zs.length cc) (.string dt) (.bool la)
    go_enter Tryz.func46, Tryz.ntmps46
    go_wp2_with fail
    refine (C1.out _).mono ?_
    rintro e w1 ⟨rfl, b1⟩
    have B1 := hid (below_via HB.out b1)
    have X1 := hid (HX.out.on b1 HX.out.lt)
    have g0 := X1.out.cell (j := 0) rfl
    have g1 := X1.out.cell (j := 1) rfl
    have g2 := X1.out.cell (j := 2) rfl
    have g3 := X1.out.cell (j := 3) rfl
    have g4 := X1.out.cell (j := 4) rfl
    have g5 := X1.out.cell (j := 5) rfl
    have g6 := X1.out.cell (j := 6) rfl
    have g7 := X1.out.cell (j := 7) rfl
    have g8 := X1.out.cell (j := 8) rfl
    have g9 := X1.out.cell (j := 9) rfl
    have g10 := X1.out.cell (j := 10) rfl
    have g11 := X1.out.cell (j := 11) rfl
    have g12 := X1.out.cell (j := 12) rfl
    have g13 := X1.out.cell (j := 13) rfl
    have g14 := X1.out.cell (j := 14) rfl
    clear b1 C1
    go_wp2_with fail
    refine (C2.out _).mono ?_
    rintro e w2 ⟨rfl, b2⟩
    have B2 := hid (below_via B1.out b2)
    have X2 := X1.out.on b2 X1.out.lt
    have k0 := X2.cell (j := 0) rfl
    have k1 := X2.cell (j := 1) rfl
    have k2 := X2.cell (j := 2) rfl
    have k3 := X2.cell (j := 3) rfl
    have k4 := X2.cell (j := 4) rfl
    have k5 := X2.cell (j := 5) rfl
    have k6 := X2.cell (j := 6) rfl
    have k7 := X2.cell (j := 7) rfl
    have k8 := X2.cell (j := 8) rfl
    have k9 := X2.cell (j := 9) rfl
    have k10 := X2.cell (j := 10) rfl
    have k11 := X2.cell (j := 11) rfl
    have k12 := X2.cell (j := 12) rfl
    have k13 := X2.cell (j := 13) rfl
    have k14 := X2.cell (j := 14) rfl
    clear b2 C2 X2
    go_wp2_with fail
    refine (chunkBehind_any co zs cc dt la hz d ao ac bo bc _ (HA.out.on B2.out)).mono ?_
    rintro e w3 ⟨rfl, b3⟩
    have B3 := hid (below_via B2.out b3)
    clear b3
    go_wp2
    go_ret
    exact ⟨by simp, B3.out⟩

end Go.Proofs.YtohmfmajgehadaaGreatDoor
