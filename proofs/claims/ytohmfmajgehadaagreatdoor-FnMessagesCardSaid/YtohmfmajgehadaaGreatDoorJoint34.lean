/-
  The walks of impl.textWriter's methods flag, entry and message.
  The walk of impl.entriesOk: what it answers.
  The walk of impl.placeOk.
-/
import Derived.Test.YtohmfmajgehadaaGreatDoorJoint29
import Derived.Test.YtohmfmajgehadaaGreatDoorJoint33
import Derived.Test.YtohmfmajgehadaaGreatDoorJoint32
import Derived.Test.YtohmfmajgehadaaGreatDoorJoint1
import Derived.Deep.RegionWith
import Derived.Deep.LoopGhost
import Derived.Test.YtohmfmajgehadaaGreatDoorRows
import Derived.WalkSmall
import Derived.WalkKit
namespace Go.Proofs.YtohmfmajgehadaaGreatDoor
open Go.RowKit

set_option maxRecDepth 1000000 in
set_option maxHeartbeats 1000000 in
theorem wrFlag_on (B b : Nat) (l : List UInt8) (up : Bool) (w : World) (h : WrIs w B b l) (hB : B ≤ w.heap.size) (hl : l.length ≤ 500000) :
    Calls Tryz.prog 82 #[.pointer (some ⟨b, 0, none⟩), .bool up] w fun e w' => e = .returned (.tuple #[]) ∧ WrIs w' B b (l ++ flagL up) ∧ Below B w w' ∧ Lib.OthersKept 5 (some b) w w' := by
  cases up with
  | false =>
    have H := hid h
    have cB := hid (fun (x : World) (hx : WrIs x B b l) (hs : B ≤ x.heap.size) => writeByte_on B b l 0 (by omega) x hx hs (by omega))
    rw [show ((0 : Nat) : Int) = 0 from rfl] at cB
    clear h
    go_enter Tryz.func82, Tryz.ntmps82
    go_wp2_with fail
    refine (cB.out _ H.out hB).mono ?_
    rintro e w2 ⟨rfl, h2, b2, k2⟩
    have K2 := hid k2
    have H2 := hid h2
    have B2 := hid b2
    clear h2 b2 k2 H cB
    go_wp2
    go_end0
    exact ⟨rfl, H2.out, B2.out, K2.out⟩
  | true =>
    have H := hid h
    have cB := hid (fun (x : World) (hx : WrIs x B b l) (hs : B ≤ x.heap.size) => writeByte_on B b l 1 (by omega) x hx hs (by omega))
    rw [show ((1 : Nat) : Int) = 1 from rfl] at cB
    clear h
    go_enter Tryz.func82, Tryz.ntmps82
    go_wp2_with fail
    refine (cB.out _ H.out hB).mono ?_
    rintro e w2 ⟨rfl, h2, b2, k2⟩
    have K2 := hid k2
    have H2 := hid h2
    have B2 := hid b2
    clear h2 b2 k2 H cB
    go_wp2
    go_end0
    exact ⟨rfl, H2.out, B2.out, K2.out⟩

set_option maxRecDepth 1000000 in
set_option maxHeartbeats 1000000 in
theorem wrEntry_on (B b : Nat) (l : List UInt8) (d : EntD) (hd : entryOk d = true) (w : World) (h : WrIs w B b l) (hB : B ≤ w.heap.size) (hl : l.length ≤ 500000) :
    Calls Tryz.prog 83 #[.pointer (some ⟨b, 0, none⟩), .agg #[.int .i64 d.term, .int .i64 d.kind, .string d.data]] w fun e w' => e = .returned (.tuple #[]) ∧ WrIs w' B b (l ++ sentL d) ∧ Below B w w' ∧ Lib.OthersKept 5 (some b) w w' := by
  have cE' := implEntryText_any 1 d
  rw [entryText_yes hd (by decide)] at cE'
  have hsz := entText_size hd
  have HS : Hid (sentL d = vb (entText 1 d).size ++ (entText 1 d).data.toList) := rfl
  obtain ⟨s, hs⟩ : ∃ s, entText 1 d = s := ⟨_, rfl⟩
  rw [hs] at cE' hsz HS
  have cE := hid cE'
  have hX := below_more (Below.refl w.heap.size w) (.cells #[.int .i64 d.term, .int .i64 d.kind, .string d.data] 57)
  have hx : BlockIs (w.alloc (.cells #[.int .i64 d.term, .int .i64 d.kind, .string d.data] 57)) w.heap.size 57 [.int .i64 d.term, .int .i64 d.kind, .string d.data] := heap_alloc_new w _
  have H := hid (h.on hX)
  have B0 := hid (hX.mono hB)
  have K0 := hid ((Lib.OthersKept.refl 5 (some b) w).below hX)
  have S0 : Hid (B ≤ (w.alloc (.cells #[.int .i64 d.term, .int .i64 d.kind, .string d.data] 57)).heap.size) := Nat.le_trans hB hX.size
  obtain ⟨W, hW⟩ : ∃ W, w.alloc (.cells #[.int .i64 d.term, .int .i64 d.kind, .string d.data] 57) = W := ⟨_, rfl⟩
  rw [hW] at hx H B0 K0 S0
  have c0 := hx.cell (j := 0) rfl
  have c1 := hx.cell (j := 1) rfl
  have c2 := hx.cell (j := 2) rfl
  clear hX hx h cE' hs
  go_enter Tryz.func83, Tryz.ntmps83
  go_wp2_with fail
  refine (cE.out _).mono ?_
  rintro e w1 ⟨rfl, b1⟩
  have H1 := hid (H.out.on b1)
  have B1 := hid (B0.out.trans (b1.mono S0.out))
  have K1 := hid (K0.out.below b1)
  have S1 : Hid (B ≤ w1.heap.size) := Nat.le_trans S0.out b1.size
  clear b1 cE H B0 K0 S0
  go_wp2_with fail
  refine (wrShort_on B b l s (by omega) w1 H1.out S1.out (by omega)).mono ?_
  rintro e w2 ⟨rfl, h2, b2, k2⟩
  have K2 := hid (K1.out.trans k2)
  have H2 := hid h2
  have B2 := hid (B1.out.trans b2)
  clear h2 b2 k2 H1 B1 K1
  go_wp2
  go_end0
  exact ⟨rfl, by rw [HS.out]; exact H2.out, B2.out, K2.out⟩

/-- where the walk stands: a writer, the message's box -/
def MTIn (w0 wr : World) (B q x : Nat) (bx : List Value) (l : List UInt8) : Prop := WrIs wr B q l ∧ B ≤ wr.heap.size ∧ Below w0.heap.size w0 wr ∧ BlockIs wr x 39 bx
theorem MTIn.next {w0 w1 w2 : World} {B q x : Nat} {bx : List Value} {l l' : List UInt8} (h : MTIn w0 w1 B q x bx l) (hq : q < x) (hB0 : w0.heap.size ≤ B) (h1 : WrIs w2 B q l') (h2 : Below B w1 w2) (h3 : Lib.OthersKept 5 (some q) w1 w2) : MTIn w0 w2 B q x bx l' :=
  ⟨h1, Nat.le_trans h.2.1 h2.size, h.2.2.1.trans (h2.mono hB0), blk_others h.2.2.2 h3 (by decide) (by omega)⟩

set_option maxRecDepth 1000000 in
set_option maxHeartbeats 4000000 in
theorem wrMessage_on (w0 : World) (B b : Nat) (d : MsgD) (hr : MsgR d) (ao : Option Addr) (ac : Nat) (bo : Option Addr) (bc : Nat) (w : World) (hw0 : Below w0.heap.size w0 w) (hB0 : w0.heap.size ≤ B) (ha : EntsAt w0 ao d.ents) (hb : IntsAt w0 bo d.conf) (h : WrIs w B b []) (hB : B ≤ w.heap.size) :
    Calls Tryz.prog 35 #[.pointer (some ⟨b, 0, none⟩), .agg #[.int .i64 d.kind, .int .i64 d.src, .int .i64 d.dst, .int .i64 d.term, .int .i64 d.index, .int .i64 d.logTerm, .int .i64 d.commit, .bool d.ok, .slice ao d.ents.length ac, .slice bo d.conf.length bc, .string d.data, .bool d.last]] w fun e w' => e = .returned (.tuple #[]) ∧ WrIs w' B b (msgL d) ∧ Below w0.heap.size w0 w' := by
  obtain ⟨hk, hs, hd, ht, hi, hg, hc, he, hea, _, hdt⟩ := id hr
  have hcf := hr.confs
  have hsum := sentL_sum d.ents hea
  clear hr
  obtain ⟨k0, k1, k2, k3, k4, k5, k6, up, es, zs, dt, la⟩ := d
  dsimp only at hk hs hd ht hi hg hc he hea hdt hcf hsum ha hb ⊢
  obtain ⟨n0, rfl⟩ : ∃ n : Nat, k0 = n := ⟨k0.toNat, by omega⟩
  obtain ⟨n1, rfl⟩ : ∃ n : Nat, k1 = n := ⟨k1.toNat, by omega⟩
  obtain ⟨n2, rfl⟩ : ∃ n : Nat, k2 = n := ⟨k2.toNat, by omega⟩
  obtain ⟨n3, rfl⟩ : ∃ n : Nat, k3 = n := ⟨k3.toNat, by omega⟩
  obtain ⟨n4, rfl⟩ : ∃ n : Nat, k4 = n := ⟨k4.toNat, by omega⟩
  obtain ⟨n5, rfl⟩ : ∃ n : Nat, k5 = n := ⟨k5.toNat, by omega⟩
  obtain ⟨n6, rfl⟩ : ∃ n : Nat, k6 = n := ⟨k6.toNat, by omega⟩
  have hblt : b < w.heap.size := LibA.IsBuffer.lt h
  have hX := below_more (Below.refl w.heap.size w) (.cells #[.int .i64 (n0 : Int), .int .i64 (n1 : Int), .int .i64 (n2 : Int), .int .i64 (n3 : Int), .int .i64 (n4 : Int), .int .i64 (n5 : Int), .int .i64 (n6 : Int), .bool up, .slice ao es.length ac, .slice bo zs.length bc, .string dt, .bool la] 39)
  have hx : BlockIs (w.alloc (.cells #[.int .i64 (n0 : Int), .int .i64 (n1 : Int), .int .i64 (n2 : Int), .int .i64 (n3 : Int), .int .i64 (n4 : Int), .int .i64 (n5 : Int), .int .i64 (n6 : Int), .bool up, .slice ao es.length ac, .slice bo zs.length bc, .string dt, .bool la] 39)) w.heap.size 39 [.int .i64 (n0 : Int), .int .i64 (n1 : Int), .int .i64 (n2 : Int), .int .i64 (n3 : Int), .int .i64 (n4 : Int), .int .i64 (n5 : Int), .int .i64 (n6 : Int), .bool up, .slice ao es.length ac, .slice bo zs.length bc, .string dt, .bool la] := heap_alloc_new w _
  have M0 : Hid (MTIn w0 (w.alloc (.cells #[.int .i64 (n0 : Int), .int .i64 (n1 : Int), .int .i64 (n2 : Int), .int .i64 (n3 : Int), .int .i64 (n4 : Int), .int .i64 (n5 : Int), .int .i64 (n6 : Int), .bool up, .slice ao es.length ac, .slice bo zs.length bc, .string dt, .bool la] 39)) B b w.heap.size [.int .i64 (n0 : Int), .int .i64 (n1 : Int), .int .i64 (n2 : Int), .int .i64 (n3 : Int), .int .i64 (n4 : Int), .int .i64 (n5 : Int), .int .i64 (n6 : Int), .bool up, .slice ao es.length ac, .slice bo zs.length bc, .string dt, .bool la] []) := ⟨h.on hX, Nat.le_trans hB hX.size, hw0.trans (hX.mono hw0.size), hx⟩
  obtain ⟨W, hW⟩ : ∃ W, w.alloc (.cells #[.int .i64 (n0 : Int), .int .i64 (n1 : Int), .int .i64 (n2 : Int), .int .i64 (n3 : Int), .int .i64 (n4 : Int), .int .i64 (n5 : Int), .int .i64 (n6 : Int), .bool up, .slice ao es.length ac, .slice bo zs.length bc, .string dt, .bool la] 39) = W := ⟨_, rfl⟩
  rw [hW] at M0
  have HA := hid ha
  have HI := hid hb
  have HEA := hid hea
  have HCF := hid hcf
  have HSUM := hid hsum
  have HW0 := hid hw0
  clear hX hx h ha hb hea hcf hsum hw0
  have HT : Hid (msgL ⟨(n0 : Int), (n1 : Int), (n2 : Int), (n3 : Int), (n4 : Int), (n5 : Int), (n6 : Int), up, es, zs, dt, la⟩ = (((([] ++ [UInt8.ofNat n0]) ++ [UInt8.ofNat n1]) ++ [UInt8.ofNat n2]) ++ vb n3 ++ vb n4 ++ vb n5 ++ vb n6 ++ flagL up ++ flagL la ++ vb es.length) ++ es.flatMap sentL ++ shortL (confB zs) ++ shortL dt) := by
    show _ = _
    simp only [msgL, headL, Int.toNat_natCast, List.nil_append]
  have hwr0 : IntKind.u8.wrap (n0 : Int) = (n0 : Int) := by rw [IntKind.wrap_u8]; omega
  have hwr1 : IntKind.u8.wrap (n1 : Int) = (n1 : Int) := by rw [IntKind.wrap_u8]; omega
  have hwr2 : IntKind.u8.wrap (n2 : Int) = (n2 : Int) := by rw [IntKind.wrap_u8]; omega
  have vn3 := vb_len (n := n3) (by omega)
  have vn4 := vb_len (n := n4) (by omega)
  have vn5 := vb_len (n := n5) (by omega)
  have vn6 := vb_len (n := n6) (by omega)
  have ves_length := vb_len (n := es.length) (by omega)
  have vup := flagL_len up
  have vla := flagL_len la
  go_enter Tryz.func35, Tryz.ntmps35
  have c := M0.out.2.2.2.cell (j := 0) rfl
  go_wp2
  have cB := hid (fun (x : World) (hx : WrIs x B b ([])) (hs : B ≤ x.heap.size) => writeByte_on B b ([]) n0 (by omega) x hx hs (by first | (simp; done) | (simp only [List.length_append, List.length_cons, List.length_nil]; omega)))
  go_region_with (go_at_call 80; refine (cB.out _ (M0.out.1.on (below_drewN (Below.refl _ _) 1)) M0.out.2.1).mono ?_; rintro e w1 ⟨rfl, h2, b2, k2⟩)
  have bd : Below W.heap.size W W.drew := below_drewN (Below.refl _ _) 1
  have M1 : Hid (MTIn w0 w1 B b w.heap.size [.int .i64 (n0 : Int), .int .i64 (n1 : Int), .int .i64 (n2 : Int), .int .i64 (n3 : Int), .int .i64 (n4 : Int), .int .i64 (n5 : Int), .int .i64 (n6 : Int), .bool up, .slice ao es.length ac, .slice bo zs.length bc, .string dt, .bool la] ([] ++ [UInt8.ofNat n0])) := MTIn.next M0.out hblt hB0 h2 ((bd.mono M0.out.2.1).trans b2) (((Lib.OthersKept.refl 5 (some b) _).below bd).trans k2)
  clear h2 b2 k2 bd M0 c cB
  have c := M1.out.2.2.2.cell (j := 1) rfl
  go_wp2
  have cB := hid (fun (x : World) (hx : WrIs x B b (([] ++ [UInt8.ofNat n0]))) (hs : B ≤ x.heap.size) => writeByte_on B b (([] ++ [UInt8.ofNat n0])) n1 (by omega) x hx hs (by first | (simp; done) | (simp only [List.length_append, List.length_cons, List.length_nil]; omega)))
  go_region_with (go_at_call 80; refine (cB.out _ (M1.out.1.on (below_drewN (Below.refl _ _) 1)) M1.out.2.1).mono ?_; rintro e w2 ⟨rfl, h2, b2, k2⟩)
  have bd : Below w1.heap.size w1 w1.drew := below_drewN (Below.refl _ _) 1
  have M2 : Hid (MTIn w0 w2 B b w.heap.size [.int .i64 (n0 : Int), .int .i64 (n1 : Int), .int .i64 (n2 : Int), .int .i64 (n3 : Int), .int .i64 (n4 : Int), .int .i64 (n5 : Int), .int .i64 (n6 : Int), .bool up, .slice ao es.length ac, .slice bo zs.length bc, .string dt, .bool la] (([] ++ [UInt8.ofNat n0]) ++ [UInt8.ofNat n1])) := MTIn.next M1.out hblt hB0 h2 ((bd.mono M1.out.2.1).trans b2) (((Lib.OthersKept.refl 5 (some b) _).below bd).trans k2)
  clear h2 b2 k2 bd M1 c cB
  have c := M2.out.2.2.2.cell (j := 2) rfl
  go_wp2
  have cB := hid (fun (x : World) (hx : WrIs x B b ((([] ++ [UInt8.ofNat n0]) ++ [UInt8.ofNat n1]))) (hs : B ≤ x.heap.size) => writeByte_on B b ((([] ++ [UInt8.ofNat n0]) ++ [UInt8.ofNat n1])) n2 (by omega) x hx hs (by first | (simp; done) | (simp only [List.length_append, List.length_cons, List.length_nil]; omega)))
  go_region_with (go_at_call 80; refine (cB.out _ (M2.out.1.on (below_drewN (Below.refl _ _) 1)) M2.out.2.1).mono ?_; rintro e w3 ⟨rfl, h2, b2, k2⟩)
  have bd : Below w2.heap.size w2 w2.drew := below_drewN (Below.refl _ _) 1
  have M3 : Hid (MTIn w0 w3 B b w.heap.size [.int .i64 (n0 : Int), .int .i64 (n1 : Int), .int .i64 (n2 : Int), .int .i64 (n3 : Int), .int .i64 (n4 : Int), .int .i64 (n5 : Int), .int .i64 (n6 : Int), .bool up, .slice ao es.length ac, .slice bo zs.length bc, .string dt, .bool la] ((([] ++ [UInt8.ofNat n0]) ++ [UInt8.ofNat n1]) ++ [UInt8.ofNat n2])) := MTIn.next M2.out hblt hB0 h2 ((bd.mono M2.out.2.1).trans b2) (((Lib.OthersKept.refl 5 (some b) _).below bd).trans k2)
  clear h2 b2 k2 bd M2 c cB
  have c := M3.out.2.2.2.cell (j := 3) rfl
  go_wp2_with fail
  refine (wrNumber_on B b ((([] ++ [UInt8.ofNat n0]) ++ [UInt8.ofNat n1]) ++ [UInt8.ofNat n2]) n3 (by omega) _ M3.out.1 M3.out.2.1 (by first | (simp; done) | (simp only [List.length_append, List.length_cons, List.length_nil]; omega))).mono ?_
  rintro e w4 ⟨rfl, h2, b2, k2⟩
  have M4 : Hid (MTIn w0 w4 B b w.heap.size [.int .i64 (n0 : Int), .int .i64 (n1 : Int), .int .i64 (n2 : Int), .int .i64 (n3 : Int), .int .i64 (n4 : Int), .int .i64 (n5 : Int), .int .i64 (n6 : Int), .bool up, .slice ao es.length ac, .slice bo zs.length bc, .string dt, .bool la] (((([] ++ [UInt8.ofNat n0]) ++ [UInt8.ofNat n1]) ++ [UInt8.ofNat n2]) ++ vb n3)) := MTIn.next M3.out hblt hB0 h2 b2 k2
  clear h2 b2 k2 M3 c
  have c := M4.out.2.2.2.cell (j := 4) rfl
  go_wp2_with fail
  refine (wrNumber_on B b (((([] ++ [UInt8.ofNat n0]) ++ [UInt8.ofNat n1]) ++ [UInt8.ofNat n2]) ++ vb n3) n4 (by omega) _ M4.out.1 M4.out.2.1 (by first | (simp; done) | (simp only [List.length_append, List.length_cons, List.length_nil]; omega))).mono ?_
  rintro e w5 ⟨rfl, h2, b2, k2⟩
  have M5 : Hid (MTIn w0 w5 B b w.heap.size [.int .i64 (n0 : Int), .int .i64 (n1 : Int), .int .i64 (n2 : Int), .int .i64 (n3 : Int), .int .i64 (n4 : Int), .int .i64 (n5 : Int), .int .i64 (n6 : Int), .bool up, .slice ao es.length ac, .slice bo zs.length bc, .string dt, .bool la] ((((([] ++ [UInt8.ofNat n0]) ++ [UInt8.ofNat n1]) ++ [UInt8.ofNat n2]) ++ vb n3) ++ vb n4)) := MTIn.next M4.out hblt hB0 h2 b2 k2
  clear h2 b2 k2 M4 c
  have c := M5.out.2.2.2.cell (j := 5) rfl
  go_wp2_with fail
  refine (wrNumber_on B b ((((([] ++ [UInt8.ofNat n0]) ++ [UInt8.ofNat n1]) ++ [UInt8.ofNat n2]) ++ vb n3) ++ vb n4) n5 (by omega) _ M5.out.1 M5.out.2.1 (by first | (simp; done) | (simp only [List.length_append, List.length_cons, List.length_nil]; omega))).mono ?_
  rintro e w6 ⟨rfl, h2, b2, k2⟩
  have M6 : Hid (MTIn w0 w6 B b w.heap.size [.int .i64 (n0 : Int), .int .i64 (n1 : Int), .int .i64 (n2 : Int), .int .i64 (n3 : Int), .int .i64 (n4 : Int), .int .i64 (n5 : Int), .int .i64 (n6 : Int), .bool up, .slice ao es.length ac, .slice bo zs.length bc, .string dt, .bool la] (((((([] ++ [UInt8.ofNat n0]) ++ [UInt8.ofNat n1]) ++ [UInt8.ofNat n2]) ++ vb n3) ++ vb n4) ++ vb n5)) := MTIn.next M5.out hblt hB0 h2 b2 k2
  clear h2 b2 k2 M5 c
  have c := M6.out.2.2.2.cell (j := 6) rfl
  go_wp2_with fail
  refine (wrNumber_on B b (((((([] ++ [UInt8.ofNat n0]) ++ [UInt8.ofNat n1]) ++ [UInt8.ofNat n2]) ++ vb n3) ++ vb n4) ++ vb n5) n6 (by omega) _ M6.out.1 M6.out.2.1 (by first | (simp; done) | (simp only [List.length_append, List.length_cons, List.length_nil]; omega))).mono ?_
  rintro e w7 ⟨rfl, h2, b2, k2⟩
  have M7 : Hid (MTIn w0 w7 B b w.heap.size [.int .i64 (n0 : Int), .int .i64 (n1 : Int), .int .i64 (n2 : Int), .int .i64 (n3 : Int), .int .i64 (n4 : Int), .int .i64 (n5 : Int), .int .i64 (n6 : Int), .bool up, .slice ao es.length ac, .slice bo zs.length bc, .string dt, .bool la] ((((((([] ++ [UInt8.ofNat n0]) ++ [UInt8.ofNat n1]) ++ [UInt8.ofNat n2]) ++ vb n3) ++ vb n4) ++ vb n5) ++ vb n6)) := MTIn.next M6.out hblt hB0 h2 b2 k2
  clear h2 b2 k2 M6 c
  have c := M7.out.2.2.2.cell (j := 7) rfl
  go_wp2_with fail
  refine (wrFlag_on B b ((((((([] ++ [UInt8.ofNat n0]) ++ [UInt8.ofNat n1]) ++ [UInt8.ofNat n2]) ++ vb n3) ++ vb n4) ++ vb n5) ++ vb n6) up _ M7.out.1 M7.out.2.1 (by first | (simp; done) | (simp only [List.length_append, List.length_cons, List.length_nil]; omega))).mono ?_
  rintro e w8 ⟨rfl, h2, b2, k2⟩
  have M8 : Hid (MTIn w0 w8 B b w.heap.size [.int .i64 (n0 : Int), .int .i64 (n1 : Int), .int .i64 (n2 : Int), .int .i64 (n3 : Int), .int .i64 (n4 : Int), .int .i64 (n5 : Int), .int .i64 (n6 : Int), .bool up, .slice ao es.length ac, .slice bo zs.length bc, .string dt, .bool la] (((((((([] ++ [UInt8.ofNat n0]) ++ [UInt8.ofNat n1]) ++ [UInt8.ofNat n2]) ++ vb n3) ++ vb n4) ++ vb n5) ++ vb n6) ++ flagL up)) := MTIn.next M7.out hblt hB0 h2 b2 k2
  clear h2 b2 k2 M7 c
  have c := M8.out.2.2.2.cell (j := 11) rfl
  go_wp2_with fail
  refine (wrFlag_on B b (((((((([] ++ [UInt8.ofNat n0]) ++ [UInt8.ofNat n1]) ++ [UInt8.ofNat n2]) ++ vb n3) ++ vb n4) ++ vb n5) ++ vb n6) ++ flagL up) la _ M8.out.1 M8.out.2.1 (by first | (simp; done) | (simp only [List.length_append, List.length_cons, List.length_nil]; omega))).mono ?_
  rintro e w9 ⟨rfl, h2, b2, k2⟩
  have M9 : Hid (MTIn w0 w9 B b w.heap.size [.int .i64 (n0 : Int), .int .i64 (n1 : Int), .int .i64 (n2 : Int), .int .i64 (n3 : Int), .int .i64 (n4 : Int), .int .i64 (n5 : Int), .int .i64 (n6 : Int), .bool up, .slice ao es.length ac, .slice bo zs.length bc, .string dt, .bool la] ((((((((([] ++ [UInt8.ofNat n0]) ++ [UInt8.ofNat n1]) ++ [UInt8.ofNat n2]) ++ vb n3) ++ vb n4) ++ vb n5) ++ vb n6) ++ flagL up) ++ flagL la)) := MTIn.next M8.out hblt hB0 h2 b2 k2
  clear h2 b2 k2 M8 c
  have c := M9.out.2.2.2.cell (j := 8) rfl
  go_wp2_with fail
  refine (wrNumber_on B b ((((((((([] ++ [UInt8.ofNat n0]) ++ [UInt8.ofNat n1]) ++ [UInt8.ofNat n2]) ++ vb n3) ++ vb n4) ++ vb n5) ++ vb n6) ++ flagL up) ++ flagL la) es.length (by omega) _ M9.out.1 M9.out.2.1 (by first | (simp; done) | (simp only [List.length_append, List.length_cons, List.length_nil]; omega))).mono ?_
  rintro e w10 ⟨rfl, h2, b2, k2⟩
  have M10 : Hid (MTIn w0 w10 B b w.heap.size [.int .i64 (n0 : Int), .int .i64 (n1 : Int), .int .i64 (n2 : Int), .int .i64 (n3 : Int), .int .i64 (n4 : Int), .int .i64 (n5 : Int), .int .i64 (n6 : Int), .bool up, .slice ao es.length ac, .slice bo zs.length bc, .string dt, .bool la] (((((((((([] ++ [UInt8.ofNat n0]) ++ [UInt8.ofNat n1]) ++ [UInt8.ofNat n2]) ++ vb n3) ++ vb n4) ++ vb n5) ++ vb n6) ++ flagL up) ++ flagL la) ++ vb es.length)) := MTIn.next M9.out hblt hB0 h2 b2 k2
  clear h2 b2 k2 M9 c
  obtain ⟨L0, hL0⟩ : ∃ L, (((((((((([] ++ [UInt8.ofNat n0]) ++ [UInt8.ofNat n1]) ++ [UInt8.ofNat n2]) ++ vb n3) ++ vb n4) ++ vb n5) ++ vb n6) ++ flagL up) ++ flagL la) ++ vb es.length) = L := ⟨_, rfl⟩
  have hz : Hid (L0.length ≤ 100) := by show _ ≤ _; rw [← hL0]; simp only [List.length_append, List.length_cons, List.length_nil]; omega
  rw [hL0] at M10
  have HT2 : Hid (msgL ⟨(n0 : Int), (n1 : Int), (n2 : Int), (n3 : Int), (n4 : Int), (n5 : Int), (n6 : Int), up, es, zs, dt, la⟩ = L0 ++ es.flatMap sentL ++ shortL (confB zs) ++ shortL dt) := by
    show _ = _
    rw [HT.out, ← hL0]
  clear HT hL0 vn3 vn4 vn5 vn6 ves_length vup vla hwr0 hwr1 hwr2
  have c8 := M10.out.2.2.2.cell (j := 8) rfl
  go_wp2
  go_loopg [59] es.length (fun g i wr => ∃ (k : Nat), k + g = es.length ∧ i = .int .i64 k ∧ Hid (MTIn w0 wr B b w.heap.size [.int .i64 (n0 : Int), .int .i64 (n1 : Int), .int .i64 (n2 : Int), .int .i64 (n3 : Int), .int .i64 (n4 : Int), .int .i64 (n5 : Int), .int .i64 (n6 : Int), .bool up, .slice ao es.length ac, .slice bo zs.length bc, .string dt, .bool la] (L0 ++ (es.take k).flatMap sentL)))
  case atStart => exact ⟨0, by omega, rfl, (show MTIn _ _ _ _ _ _ _ by rw [List.take_zero, List.flatMap_nil, List.append_nil]; exact M10.out)⟩
  case round =>
    obtain ⟨k, hkg, rfl, SR⟩ := hrel
    clear M10 c8
    cases gk with
    | succ g =>
      have hlt : (k : Int) < (es.length : Int) := by omega
      have hltd : decide ((k : Int) < (es.length : Int)) = true := by simp; omega
      have h1 : k < es.length := by omega
      have hne : es ≠ [] := by intro e; rw [e] at h1; simp at h1
      obtain ⟨bb, off, rfl, hcc⟩ := HA.out.on SR.out.2.2.1 hne
      obtain ⟨x0, x1, x2⟩ := hcc k h1
      have hfk := HEA.out es[k] (List.getElem_mem h1)
      have ST := hid (flag_take es k h1)
      have hts : Hid (((es.take k).flatMap sentL).length ≤ 548) := by
        show _ ≤ _
        have := sentL_sum (es.take k) (fun x hx => HEA.out x (List.take_subset k es hx))
        rw [List.length_take] at this
        omega
      obtain ⟨p, hp⟩ : ∃ p, es[k] = p := ⟨_, rfl⟩
      rw [hp] at x0 x1 x2 hfk ST
      obtain ⟨p0, p1, p2⟩ := p
      dsimp only at x0 x1 x2
      clear hcc hp hne h1
      have hX := below_more (Below.refl wr.heap.size wr) (.cells #[.int .i64 p0, .int .i64 p1, .string p2] 57)
      have MA : Hid (MTIn w0 (wr.alloc (.cells #[.int .i64 p0, .int .i64 p1, .string p2] 57)) B b w.heap.size [.int .i64 (n0 : Int), .int .i64 (n1 : Int), .int .i64 (n2 : Int), .int .i64 (n3 : Int), .int .i64 (n4 : Int), .int .i64 (n5 : Int), .int .i64 (n6 : Int), .bool up, .slice (some ⟨bb, off, none⟩) es.length ac, .slice bo zs.length bc, .string dt, .bool la] (L0 ++ (es.take k).flatMap sentL)) := MTIn.next SR.out hblt hB0 (SR.out.1.on hX) (hX.mono SR.out.2.1) ((Lib.OthersKept.refl 5 (some b) _).below hX)
      have hx : BlockIs (wr.alloc (.cells #[.int .i64 p0, .int .i64 p1, .string p2] 57)) wr.heap.size 57 [.int .i64 p0, .int .i64 p1, .string p2] := heap_alloc_new wr _
      obtain ⟨U, hU⟩ : ∃ U, wr.alloc (.cells #[.int .i64 p0, .int .i64 p1, .string p2] 57) = U := ⟨_, rfl⟩
      rw [hU] at MA hx
      have y0 := hx.cell (j := 0) rfl
      have y1 := hx.cell (j := 1) rfl
      have y2 := hx.cell (j := 2) rfl
      clear hX hx SR
      go_wp2_with fail
      refine (wrEntry_on B b _ ⟨p0, p1, p2⟩ hfk U MA.out.1 MA.out.2.1 (by have := hz.out; have := hts.out; rw [List.length_append]; omega)).mono ?_
      rintro e w11 ⟨rfl, h2, b2, k2⟩
      have SN : Hid (MTIn w0 w11 B b w.heap.size [.int .i64 (n0 : Int), .int .i64 (n1 : Int), .int .i64 (n2 : Int), .int .i64 (n3 : Int), .int .i64 (n4 : Int), .int .i64 (n5 : Int), .int .i64 (n6 : Int), .bool up, .slice (some ⟨bb, off, none⟩) es.length ac, .slice bo zs.length bc, .string dt, .bool la] (L0 ++ (es.take (k + 1)).flatMap sentL)) := MTIn.next MA.out hblt hB0 (by rw [ST.out, ← List.append_assoc]; exact h2) b2 k2
      clear h2 b2 k2 MA x0 x1 x2 y0 y1 y2 hU
      go_wp2
      go_roundg g
      case measure => omega
      case rel => exact ⟨k + 1, by omega, by go_num, SN⟩
    | zero =>
      have hlt : ¬ (k : Int) < (es.length : Int) := by omega
      have hk : k = es.length := by omega
      have MZ : Hid (MTIn w0 wr B b w.heap.size [.int .i64 (n0 : Int), .int .i64 (n1 : Int), .int .i64 (n2 : Int), .int .i64 (n3 : Int), .int .i64 (n4 : Int), .int .i64 (n5 : Int), .int .i64 (n6 : Int), .bool up, .slice ao es.length ac, .slice bo zs.length bc, .string dt, .bool la] (L0 ++ es.flatMap sentL)) := by
        have := SR.out
        rw [List.take_of_length_le (by omega)] at this
        exact this
      clear SR
      have hLL : (L0 ++ es.flatMap sentL).length ≤ 700 := by have := hz.out; have := HSUM.out; rw [List.length_append]; omega
      obtain ⟨L1, hL1⟩ : ∃ L, L0 ++ es.flatMap sentL = L := ⟨_, rfl⟩
      rw [hL1] at MZ HT2 hLL
      clear hL1 hz
      have c9 := MZ.out.2.2.2.cell (j := 9) rfl
      go_wp2_with fail
      refine (confBytes_all bo zs bc HCF.out.1 HCF.out.2 _ (HI.out.on MZ.out.2.2.1)).mono ?_
      rintro e x1 ⟨rfl, b2⟩
      have N1 : Hid (MTIn w0 x1 B b w.heap.size [.int .i64 (n0 : Int), .int .i64 (n1 : Int), .int .i64 (n2 : Int), .int .i64 (n3 : Int), .int .i64 (n4 : Int), .int .i64 (n5 : Int), .int .i64 (n6 : Int), .bool up, .slice ao es.length ac, .slice bo zs.length bc, .string dt, .bool la] L1) := MTIn.next MZ.out hblt hB0 (MZ.out.1.on b2) (b2.mono MZ.out.2.1) ((Lib.OthersKept.refl 5 (some b) _).below b2)
      have hcs : (confB zs).size ≤ 4 := by rw [confB_size]; exact HCF.out.1
      have hsl := shortL_len (s := confB zs) (by omega)
      rw [show (⟨(confBytes zs).toArray⟩ : ByteArray) = confB zs from rfl]
      obtain ⟨cz, hcz⟩ : ∃ s, confB zs = s := ⟨_, rfl⟩
      rw [hcz] at hcs hsl HT2 ⊢
      clear b2 MZ c9 hcz
      go_wp2_with fail
      refine (wrShort_on B b L1 cz (by omega) _ N1.out.1 N1.out.2.1 (by omega)).mono ?_
      rintro e x2 ⟨rfl, h2, b2, k2⟩
      have N2 : Hid (MTIn w0 x2 B b w.heap.size [.int .i64 (n0 : Int), .int .i64 (n1 : Int), .int .i64 (n2 : Int), .int .i64 (n3 : Int), .int .i64 (n4 : Int), .int .i64 (n5 : Int), .int .i64 (n6 : Int), .bool up, .slice ao es.length ac, .slice bo zs.length bc, .string dt, .bool la] (L1 ++ shortL cz)) := MTIn.next N1.out hblt hB0 h2 b2 k2
      clear h2 b2 k2 N1
      have c10 := N2.out.2.2.2.cell (j := 10) rfl
      go_wp2_with fail
      refine (wrShort_on B b (L1 ++ shortL cz) dt (by omega) _ N2.out.1 N2.out.2.1 (by rw [List.length_append]; omega)).mono ?_
      rintro e x3 ⟨rfl, h2, b2, k2⟩
      have N3 : Hid (MTIn w0 x3 B b w.heap.size [.int .i64 (n0 : Int), .int .i64 (n1 : Int), .int .i64 (n2 : Int), .int .i64 (n3 : Int), .int .i64 (n4 : Int), .int .i64 (n5 : Int), .int .i64 (n6 : Int), .bool up, .slice ao es.length ac, .slice bo zs.length bc, .string dt, .bool la] (L1 ++ shortL cz ++ shortL dt)) := MTIn.next N2.out hblt hB0 h2 b2 k2
      clear h2 b2 k2 N2 c10
      go_wp2
      go_end0
      exact ⟨rfl, by rw [HT2.out]; exact N3.out.1, N3.out.2.2.1⟩
end Go.Proofs.YtohmfmajgehadaaGreatDoor

namespace Go.Proofs.YtohmfmajgehadaaGreatDoor
open Go.RowKit

set_option maxRecDepth 1000000 in
set_option maxHeartbeats 1000000 in
theorem entriesOk_any (t : Int) (ao : Option Addr) (l : List EntD) (cap : Nat) (hl : l.length ≤ 1048576) (w : World) (ha : EntsAt w ao l) :
    Calls Tryz.prog 233 #[.slice ao l.length cap, .int .i64 t] w fun e w' => e = .returned (.bool (termsOk t l)) ∧ Below w.heap.size w w' := by
  have HA := hid ha
  have HB : Hid (Below w.heap.size w w) := Below.refl w.heap.size w
  clear ha
  go_enter Tryz.func233, Tryz.ntmps233
  go_wp2
  go_loopg [1, 9] l.length (fun g y i wr => ∃ (k : Nat), k + g = l.length ∧ i = .int .i64 k ∧ y = .int .i64 (lastT t (l.take k)) ∧ Hid (termsOk t (l.take k) = true) ∧ Hid (Below w.heap.size w wr))
  case atStart => exact ⟨0, by omega, rfl, rfl, rfl, HB⟩
  case round =>
    obtain ⟨k, hkg, rfl, rfl, RT, BR⟩ := hrel
    clear HB
    cases gk with
    | zero =>
      have hlt : ¬ (k : Int) < (l.length : Int) := by omega
      have hr : Hid (termsOk t l = true) := by
        have := RT.out
        rw [List.take_of_length_le (by omega)] at this
        exact this
      go_wp2
      go_ret
      exact ⟨by rw [hr.out]; rfl, BR.out⟩
    | succ g =>
      have hlt : k < l.length := by omega
      have hlt' : (k : Int) < (l.length : Int) := by omega
      have hne : l ≠ [] := by intro e; rw [e] at hlt; simp at hlt
      obtain ⟨b, off, rfl, hc⟩ := HA.out.on BR.out hne
      obtain ⟨x0, x1, x2⟩ := hc k hlt
      clear hc
      have C' := fun w => implEntryOk_all l[k] w
      have HT := hid (termsOk_take t l k hlt)
      have HL := hid (lastT_take t l k hlt)
      have HBX := hid (below_more (Below.refl wr.heap.size wr) (.cells #[.int .i64 l[k].term, .int .i64 l[k].kind, .string l[k].data] 57))
      have hx : BlockIs (wr.alloc (.cells #[.int .i64 l[k].term, .int .i64 l[k].kind, .string l[k].data] 57)) wr.heap.size 57 [.int .i64 l[k].term, .int .i64 l[k].kind, .string l[k].data] := heap_alloc_new wr _
      have HXX := hid hx
      clear hx
      obtain ⟨tm, htm⟩ : ∃ tm, lastT t (l.take k) = tm := ⟨_, rfl⟩
      rw [htm] at HT ⊢
      clear htm
      cases hE : entryOk l[k] with
      | false =>
        have hr := hid (termsOk_not t l (k + 1) (by rw [HT.out, hE]; simp))
        rw [hE] at C'
        have C := hid C'
        clear C' hE
        go_wp2_with fail
        refine (C.out _).mono ?_
        rintro e w1 ⟨rfl, b1⟩
        have B1 := hid (below_via BR.out (below_via HBX.out b1))
        clear b1 C
        go_wp2
        go_ret
        exact ⟨by rw [hr.out]; rfl, B1.out⟩
      | true =>
        rw [hE] at C'
        have C := hid C'
        clear C'
        by_cases hF : l[k].term < tm
        · have hr := hid (termsOk_not t l (k + 1) (by rw [HT.out, hE]; simp; omega))
          clear hE
          go_wp2_with fail
          refine (C.out _).mono ?_
          rintro e w1 ⟨rfl, b1⟩
          have B1 := hid (below_via BR.out (below_via HBX.out b1))
          have y0 := (HXX.out.on b1 HXX.out.lt).cell (j := 0) rfl
          clear b1 C x0 x1 x2
          go_wp2
          go_ret
          exact ⟨by rw [hr.out]; rfl, B1.out⟩
        · have RT2 : Hid (termsOk t (l.take (k + 1)) = true) := by show _ = _; rw [HT.out, hE, RT.out]; simp; omega
          clear hE
          go_wp2_with fail
          refine (C.out _).mono ?_
          rintro e w1 ⟨rfl, b1⟩
          have B1 := hid (below_via BR.out (below_via HBX.out b1))
          have y0 := (HXX.out.on b1 HXX.out.lt).cell (j := 0) rfl
          clear b1 C x0 x1 x2
          go_wp2
          go_roundg g
          case measure => omega
          case rel => exact ⟨k + 1, by omega, by go_num, by rw [HL.out], RT2, B1⟩
end Go.Proofs.YtohmfmajgehadaaGreatDoor

namespace Go.Proofs.YtohmfmajgehadaaGreatDoor
open Go.RowKit

set_option maxRecDepth 1000000 in
theorem placeOk_any (ix tm : Int) (w : World) : Calls Tryz.prog 134 #[.int .i64 ix, .int .i64 tm] w fun e w' => e = .returned (.bool (within ix 0 1000000 && within tm 0 100000)) ∧ w' = w := by
  by_cases h1 : 0 ≤ ix
  · by_cases h2 : ix ≤ 1000000
    · by_cases h3 : 0 ≤ tm
      · have HQ : Hid ((within ix 0 1000000 && within tm 0 100000) = decide (tm ≤ 100000)) := (show _ = _ by simp [within, h1, h2, h3])
        go_enter Tryz.func134, Tryz.ntmps134
        go_wp2
        go_ret
        exact ⟨by rw [HQ.out]; rfl, rfl⟩
      · have HQ : Hid ((within ix 0 1000000 && within tm 0 100000) = false) := (show _ = _ by simp [within]; omega)
        go_enter Tryz.func134, Tryz.ntmps134
        go_wp2
        go_ret
        exact ⟨by rw [HQ.out]; rfl, rfl⟩
    · have HQ : Hid ((within ix 0 1000000 && within tm 0 100000) = false) := (show _ = _ by simp [within]; omega)
      go_enter Tryz.func134, Tryz.ntmps134
      go_wp2
      go_ret
      exact ⟨by rw [HQ.out]; rfl, rfl⟩
  · have HQ : Hid ((within ix 0 1000000 && within tm 0 100000) = false) := (show _ = _ by simp [within]; omega)
    go_enter Tryz.func134, Tryz.ntmps134
    go_wp2
    go_ret
    exact ⟨by rw [HQ.out]; rfl, rfl⟩
end Go.Proofs.YtohmfmajgehadaaGreatDoor
