/-
  For every slice of bytes, laws.FnRings returns true: what is posted to a drawn ring is taken, in order, as long as there is room; a slot is the driver's or the card's; nothing that was in memory is written.
-/
import Derived.Test.YtjcphahbplmmdaaRows
import Derived.Test.YtjcphahbplmmdaaJoint24
import Derived.Test.YtjcphahbplmmdaaJoint33
import Derived.Test.YtjcphahbplmmdaaJoint35
import Derived.Test.YtjcphahbplmmdaaJoint36
import Derived.Test.YtjcphahbplmmdaaJoint37
import Derived.Test.YtjcphahbplmmdaaJoint39
import Derived.Test.YtjcphahbplmmdaaJoint1
import Derived.Test.YtjcphahbplmmdaaJoint8
import Derived.Deep.LoopGhost
import Derived.WalkSmall
import Derived.WalkKit
import Derived.ProofKit
import Derived.OpenShut
import Derived.OpenVars
import Derived.Deep.DeepHandedRow
import Derived.Lib.LaidTab
import Derived.Stop.LaidErr
namespace Go.Proofs.Ytjcphahbplmmdaa.fnRings
open Go.ChangeShapes Go.WideShapes Go.ChangeAt Go.ChangeMaps Go.RowKit

/-- the i-th text that is posted -/
def tx (i : Nat) : ByteArray := ⟨#[116, 101, 120, 116]⟩ ++ ⟨(dec i).toArray⟩
def texts (p : Nat) : List ByteArray := (List.range p).map tx
theorem texts_length (p : Nat) : (texts p).length = p := by simp [texts]
theorem texts_succ (p : Nat) : texts (p + 1) = texts p ++ [tx p] := by simp [texts, List.range_succ]
theorem tx_size {i : Nat} (hi : i < 10) : 1 ≤ (tx i).size ∧ (tx i).size ≤ 100 := by
  have h1 : (dec i).length ≤ 1 := by
    unfold dec
    split
    · exact Nat.le_refl _
    · split
      · omega
      · exact dd_len 1 _ (by simpa using hi)
  have h2 : (tx i).size = 4 + (dec i).length := by
    unfold tx
    rw [ByteArray.size_append]
    rfl
  omega
theorem qAt_text {q0 : List ByteArray} {hd p k : Nat} (h0 : q0.length = hd) (h1 : hd ≤ k) (h2 : k < hd + p) : qAt (q0 ++ texts p) k = tx (k - hd) := by
  have h3 : k - q0.length < (texts p).length := by rw [texts_length]; omega
  unfold qAt
  rw [List.getD, List.getElem?_append_right (by omega), List.getElem?_eq_getElem h3]
  simp [texts, h0]
theorem drop_cons {q : List ByteArray} {k : Nat} (h : k < q.length) : q.drop k = qAt q k :: q.drop (k + 1) := by
  rw [List.drop_eq_getElem_cons h]
  simp [qAt, h]
set_option maxRecDepth 1000000 in
set_option maxHeartbeats 8000000 in
theorem walk (ao : Option Addr) (len cap : Nat) (hcap : len ≤ cap) (w : World) (hr : Bytes w ao len) :
    Calls Try.prog 3 #[.slice ao len cap] w fun e w' => e = .returned (.bool true) ∧ Below w.heap.size w w' := by
  have HBY := hid hr
  clear hr
  by_cases hbig : 1048576 < len
  · go_enter Try.func3, Try.ntmps3
    go_wp2
    go_ret
    exact ⟨rfl, Below.refl _ _⟩
  have hlen : len ≤ 1048576 := by omega
  clear hbig
  go_enter Try.func3, Try.ntmps3
  go_wp2_with fail
  refine (big_no ao len cap hlen _).mono ?_
  rintro e w0 ⟨rfl, hw0⟩
  rw [hw0]
  clear hw0 w0
  go_wp2_with fail
  refine (drawRing_any ao len cap hlen hcap _ HBY.out).mono ?_
  rintro e w1 ⟨h0, t0, q0, l0, va0, vc0, rfl, hr0, ho, b1⟩
  have R0 := hid hr0
  have ba := below_more (Below.refl w1.heap.size w1) (.cells #[.slice va0 l0.length vc0, .int .i64 h0, .int .i64 t0] 26)
  have hxb : BlockIs (w1.alloc (.cells #[.slice va0 l0.length vc0, .int .i64 h0, .int .i64 t0] 26)) w1.heap.size 26 [.slice va0 l0.length vc0, .int .i64 h0, .int .i64 t0] := heap_alloc_new w1 _
  have B1 := hid (below_via b1 ba)
  have X1 := hid hxb
  have O1 := hid ((ho.on ba).down (Nat.le_refl _) ba.size)
  obtain ⟨w2, hw2⟩ : ∃ W, w1.alloc (.cells #[.slice va0 l0.length vc0, .int .i64 h0, .int .i64 t0] 26) = W := ⟨_, rfl⟩
  have hBs : w.heap.size ≤ w1.heap.size := b1.size
  rw [hw2] at B1 X1 O1
  obtain ⟨B, hB⟩ : ∃ B, w1.heap.size = B := ⟨_, rfl⟩
  rw [hB] at X1 hBs
  obtain ⟨n, hn⟩ : ∃ n, l0.length = n := ⟨_, rfl⟩
  obtain ⟨hd, hhd⟩ : ∃ hd, q0.length = hd := ⟨_, rfl⟩
  have hn1 : 1 ≤ n ∧ n ≤ 8 := by rw [← hn]; exact hr0.1
  have hdn : hd ≤ n := by rw [← hn, ← hhd]; exact hr0.2.2.2.1
  have hhb : heldBy l0 = hd := by rw [hr0.heldBy, hhd]
  obtain ⟨n1, n8⟩ := hn1
  have x0 := X1.out.cell (j := 0) rfl
  have x1 := X1.out.cell (j := 1) rfl
  have x2 := X1.out.cell (j := 2) rfl
  have HN := hid hn
  have HHD := hid hhd
  have CH := hid (implHeldBy_any h0 t0 va0 l0 vc0 (by omega) w2 O1.out.slots)
  rw [hhb, hn] at CH
  rw [hn] at x0
  clear ba hxb ho b1 hn hhd hhb hr0
  go_wp2_with fail
  refine CH.out.mono ?_
  rintro e w3 ⟨rfl, b3⟩
  have B3 := hid (below_via B1.out b3)
  have X3 := hid (X1.out.on b3 X1.out.lt)
  have O3 := hid ((O1.out.on b3).down (Nat.le_refl _) b3.size)
  have hn8 : (n : Int) ≤ 8 := by omega
  clear b3 B1 X1 O1 CH x0 x1 x2 hw2 hB
  go_wp2
  go_loopg [6, 7] (n + 1) (fun g ps i wr => ∃ (k p h t : Nat) (q : List ByteArray) (l : List SlotD) (va : Option Addr) (vc : Nat), k + g = n + 1 ∧ i = .int .i64 k ∧ ps = .int .i64 p ∧ Hid (p = min k (n - hd)) ∧ Hid (q = q0 ++ texts p) ∧ Hid (RingIs l h t q) ∧ Hid (l.length = n) ∧ Hid (Below w.heap.size w wr) ∧ Hid (BlockIs wr B 26 [.slice va l.length vc, .int .i64 h, .int .i64 t]) ∧ Hid (OwnAt wr 52 (slotCells l) l.length va (w.heap.size) wr.heap.size))
  case atStart => exact ⟨0, 0, h0, t0, q0, l0, va0, vc0, by omega, rfl, rfl, by show _ = _; omega, by show _ = _; simp [texts], R0, HN, B3, X3, O3⟩
  case round =>
    clear B3 X3 O3
    obtain ⟨k, p, h, t, q, l, va, vc, hkg, rfl, rfl, HP, HQ, HR, HL, BR, XB, HO⟩ := hrel
    have hXBl := XB.out.lt
    have hql : q.length = hd + p := by rw [HQ.out, List.length_append, texts_length, HHD.out]
    have hp1 := HP.out
    have hRl := HR.out.head_lt
    have hRt := HR.out.2.1
    rw [HL.out] at hRl hRt
    have hlen2 := HL.out
    cases gk with
    | zero =>
      have hlt : ¬ (k : Int) < (n : Int) + 1 := by omega
      have hpn : p = n - hd := by omega
      have hqn : q.length = n := by omega
      have CH := hid (implHeldBy_any h t va l vc (by omega) wr HO.out.slots)
      rw [HR.out.heldBy, hqn, HL.out] at CH
      have y0 := XB.out.cell (j := 0) rfl
      have y1 := XB.out.cell (j := 1) rfl
      have y2 := XB.out.cell (j := 2) rfl
      rw [HL.out] at y0
      have hps : (p : Int) = (n : Int) - (hd : Int) := by omega
      have HQ2 : Hid (q = (q0 ++ texts (n - hd)).drop 0) := by show _ = _; rw [List.drop_zero, ← hpn]; exact HQ.out
      have HPS := hid hps
      clear hql hp1 hpn hqn hlen2 hps
      go_wp2_with fail
      refine CH.out.mono ?_
      rintro e w4 ⟨rfl, b4⟩
      have B4 := hid (below_via BR.out b4)
      have X4 := hid (XB.out.on b4 XB.out.lt)
      have O4 := hid ((HO.out.on b4).down (Nat.le_refl _) b4.size)
      have hsub : ((p : Int) == (n : Int) - (hd : Int)) = true := by rw [HPS.out]; simp
      have hps2 := HPS.out
      clear b4 CH y0 y1 y2
      go_wp2
      go_loopg [10] n (fun g i wr => ∃ (k h t : Nat) (q : List ByteArray) (l : List SlotD) (va : Option Addr) (vc : Nat), k + g = n ∧ i = .int .i64 k ∧ Hid (q = (q0 ++ texts (n - hd)).drop k) ∧ Hid (RingIs l h t q) ∧ Hid (l.length = n) ∧ Hid (Below w.heap.size w wr) ∧ Hid (BlockIs wr B 26 [.slice va l.length vc, .int .i64 h, .int .i64 t]) ∧ Hid (OwnAt wr 52 (slotCells l) l.length va (w.heap.size) wr.heap.size))
      case atStart => exact ⟨0, h, t, q, l, va, vc, by omega, rfl, HQ2, HR, HL, B4, X4, O4⟩
      case round =>
        clear B4 X4 O4 BR XB HO HR HQ HQ2 HP
        obtain ⟨k2, h2, t2, q2, l2, va2, vc2, hkg2, rfl, HQ, HR, HL2, BR, XB, HO⟩ := hrel
        have hXB2 := XB.out.lt
        have hfull : (q0 ++ texts (n - hd)).length = n := by rw [List.length_append, texts_length, HHD.out]; omega
        have hql : q2.length = n - k2 := by rw [HQ.out, List.length_drop, hfull]
        have hR2 := HR.out.head_lt
        have hT2 := HR.out.2.1
        rw [HL2.out] at hR2 hT2
        have hll2 := HL2.out
        have y0 := XB.out.cell (j := 0) rfl
        have y1 := XB.out.cell (j := 1) rfl
        have y2 := XB.out.cell (j := 2) rfl
        rw [HL2.out] at y0
        have CT := hid (implTake_any h2 t2 va2 l2 vc2 (by omega) HR.out.small wr HO.out.slots)
        unfold TakeRDid at CT
        have htk := HR.out.takeOk
        cases gk with
        | zero =>
          have hlt2 : ¬ (k2 : Int) < (n : Int) := by omega
          have hz : q2.length = 0 := by omega
          have hto : takeOk l2 h2 t2 = false := by rw [htk, hz]; rfl
          have CH := hid (fun w ha => implHeldBy_any h2 t2 va2 l2 vc2 (by omega) w ha)
          have CO := hid (fun w ha => implRingOk_any h2 t2 va2 l2 vc2 (by omega) HR.out.small w ha)
          rw [HR.out.ok, HL2.out] at CO
          rw [HR.out.heldBy, hz, HL2.out] at CH
          rw [hto, HL2.out] at CT
          obtain ⟨TL, hTL⟩ : ∃ x, takeL l2 h2 t2 = x := ⟨_, rfl⟩
          obtain ⟨TT, hTT⟩ : ∃ x, takeT l2 h2 t2 = x := ⟨_, rfl⟩
          obtain ⟨TS, hTS⟩ : ∃ x, takeS l2 h2 t2 = x := ⟨_, rfl⟩
          rw [hTL, hTT, hTS] at CT
          clear hfull hql hz hto htk hTL hTT hTS hll2
          go_wp2_with fail
          refine CT.out.mono ?_
          rintro e w5 ⟨va3, vc3, rfl, _, _, b5⟩
          have ba := below_more (Below.refl w5.heap.size w5) (.cells #[.slice va3 TL.length vc3, .int .i64 h2, .int .i64 TT] 26)
          have b6 := below_via b5 ba
          have B6 := hid (below_via BR.out b6)
          have X6 := hid (XB.out.on b6 XB.out.lt)
          have O6 := hid ((HO.out.on b6).down (Nat.le_refl _) b6.size)
          obtain ⟨w6, hw6⟩ : ∃ W, w5.alloc (.cells #[.slice va3 TL.length vc3, .int .i64 h2, .int .i64 TT] 26) = W := ⟨_, rfl⟩
          rw [hw6] at B6 X6 O6
          have z0 := X6.out.cell (j := 0) rfl
          have z1 := X6.out.cell (j := 1) rfl
          have z2 := X6.out.cell (j := 2) rfl
          rw [HL2.out] at z0
          clear ba b5 b6 CT y0 y1 y2
          go_wp2_with fail
          refine (CO.out _ O6.out.slots).mono ?_
          rintro e w7 ⟨rfl, b7⟩
          have B7 := hid (below_via B6.out b7)
          have X7 := hid (X6.out.on b7 X6.out.lt)
          have O7 := hid ((O6.out.on b7).down (Nat.le_refl _) b7.size)
          have u0 := X7.out.cell (j := 0) rfl
          have u1 := X7.out.cell (j := 1) rfl
          have u2 := X7.out.cell (j := 2) rfl
          rw [HL2.out] at u0
          clear b7 z0 z1 z2 CO
          go_wp2_with fail
          refine (CH.out _ O7.out.slots).mono ?_
          rintro e w8 ⟨rfl, b8⟩
          have B8 := hid (below_via B7.out b8)
          clear b8 CH u0 u1 u2
          go_wp2
          go_ret
          exact ⟨rfl, B8.out⟩
        | succ g2 =>
          have hlt2 : (k2 : Int) < (n : Int) := by omega
          obtain ⟨a, q3, hq3⟩ : ∃ a q3, q2 = a :: q3 := by
            cases q2 with
            | nil => simp at hql; omega
            | cons a q3 => exact ⟨a, q3, rfl⟩
          have hk2n : k2 < (q0 ++ texts (n - hd)).length := by omega
          have hcons := drop_cons hk2n
          rw [← HQ.out, hq3] at hcons
          have ha : a = qAt (q0 ++ texts (n - hd)) k2 := (List.cons.inj hcons).1
          have hq3' : q3 = (q0 ++ texts (n - hd)).drop (k2 + 1) := (List.cons.inj hcons).2
          have hrr := HR.out
          rw [hq3] at hrr
          have htake := hrr.take
          have hto : takeOk l2 h2 t2 = true := by rw [htk, hq3]; simp
          have hTLe : takeL l2 h2 t2 = l2.set t2 slot0 := by unfold takeL; rw [hto, if_pos rfl, Int.toNat_natCast]
          have hTTe : takeT l2 h2 t2 = (((t2 + 1) % n : Nat) : Int) := by unfold takeT; rw [hto, if_pos rfl, Int.toNat_natCast, HL2.out]
          have hTl : (takeL l2 h2 t2).length = n := by rw [takeL_length, HL2.out]
          have hR3 := htake.2
          rw [← hTLe, HL2.out] at hR3
          rw [hto, htake.1, hTTe, HL2.out] at CT
          obtain ⟨TL, hTL⟩ : ∃ x, takeL l2 h2 t2 = x := ⟨_, rfl⟩
          obtain ⟨TT, hTT⟩ : ∃ x : Nat, (t2 + 1) % n = x := ⟨_, rfl⟩
          rw [hTL] at CT hR3 hTl
          rw [hTT] at CT hR3
          rw [hTl] at CT
          have hq3l : q3.length = n - k2 - 1 := by rw [hq3', List.length_drop, hfull]; omega
          have HQ3 := hid hq3'
          have R3 := hid hR3
          have HTL := hid hTl
          have hTlt := hR3.2.1
          rw [hTl] at hTlt
          have HA := hid ha
          have HCH := hid hR3.heldBy
          have HQL := hid hq3l
          clear hfull hql htk hcons ha hq3' hrr htake hto hTLe hTTe hTL hTT hR3 hll2 hq3 hq3l
          go_wp2_with fail
          refine CT.out.mono ?_
          rintro e w5 ⟨va3, vc3, rfl, _, ho, b5⟩
          have ba := below_more (Below.refl w5.heap.size w5) (.cells #[.slice va3 n vc3, .int .i64 h2, .int .i64 TT] 26)
          have hxn : BlockIs (w5.alloc (.cells #[.slice va3 n vc3, .int .i64 h2, .int .i64 TT] 26)) w5.heap.size 26 [.slice va3 n vc3, .int .i64 h2, .int .i64 TT] := heap_alloc_new w5 _
          have b6 := below_via b5 ba
          have hb5 := b5.size
          have BX0 := hid (below_via BR.out b6)
          have XBn0 := hid (XB.out.on b6 XB.out.lt)
          have XN0 := hid hxn
          rw [← HTL.out] at ho
          have ON0 := hid ((ho.on ba).down (Nat.le_refl _) ba.size)
          obtain ⟨w6, hw6⟩ : ∃ W, w5.alloc (.cells #[.slice va3 n vc3, .int .i64 h2, .int .i64 TT] 26) = W := ⟨_, rfl⟩
          rw [hw6] at BX0 XBn0 XN0 ON0
          have CH := hid (fun w ha => implHeldBy_any h2 TT va3 TL vc3 (by have := HTL.out; omega) w ha)
          rw [HCH.out, HQL.out, HTL.out] at CH
          have e0 := XN0.out.cell (j := 0) rfl
          have e1 := XN0.out.cell (j := 1) rfl
          have e2 := XN0.out.cell (j := 2) rfl
          have hcast : ((n - k2 - 1 : Nat) : Int) = (n : Int) - (k2 : Int) - 1 := by omega
          clear ba hxn b5 b6 ho CT y0 y1 y2
          by_cases hge : (hd : Int) ≤ (k2 : Int)
          · have hxe : a = tx (k2 - hd) := by rw [HA.out]; exact qAt_text HHD.out (by omega) (by omega)
            have CD := hid (fun w => specDecimal_nat (k2 - hd) (by omega) w)
            have hkd : (k2 : Int) - (hd : Int) = ((k2 - hd : Nat) : Int) := by omega
            rw [← hkd] at CD
            have hxe2 : ByteArray.mk #[116, 101, 120, 116] ++ ByteArray.mk (dec ((k2 : Int) - (hd : Int))).toArray = a := by rw [hxe, hkd]; rfl
            have HXE := hid hxe2
            obtain ⟨Dk, hDk⟩ : ∃ x, ByteArray.mk (dec ((k2 : Int) - (hd : Int))).toArray = x := ⟨_, rfl⟩
            rw [hDk] at CD HXE
            have hxe3 := HXE.out
            have hDs : Dk.size ≤ 96 := by have := (tx_size (i := k2 - hd) (by omega)).2; rw [← hxe, ← HXE.out, ByteArray.size_append] at this; have h4 : (ByteArray.mk #[116, 101, 120, 116]).size = 4 := rfl; omega
            have hDs' : (Dk.size : Int) ≤ 96 := by omega
            clear hxe hkd hxe2 hDk
            go_wp2_with fail
            refine (CD.out _).mono ?_
            rintro e w7 ⟨rfl, b7⟩
            have BX1 := hid (below_via BX0.out b7)
            have XBn1 := hid (XBn0.out.on b7 XBn0.out.lt)
            have XN1 := hid (XN0.out.on b7 XN0.out.lt)
            have ON1 := hid ((ON0.out.on b7).down (Nat.le_refl _) b7.size)
            have e0 := XN1.out.cell (j := 0) rfl
            have e1 := XN1.out.cell (j := 1) rfl
            have e2 := XN1.out.cell (j := 2) rfl
            clear b7 BX0 XBn0 XN0 ON0 CD
            go_wp2_with fail
            refine (CH.out _ ON1.out.slots).mono ?_
            rintro e w8 ⟨rfl, b8⟩
            have BX := hid (below_via BX1.out b8)
            have XBn := hid (XBn1.out.on b8 XBn1.out.lt)
            have XN := hid (XN1.out.on b8 XN1.out.lt)
            have ON := hid (((ON1.out.on b8).down (Nat.le_refl _) b8.size))
            have d0 := XN.out.cell (j := 0) rfl
            have d1 := XN.out.cell (j := 1) rfl
            have d2 := XN.out.cell (j := 2) rfl
            have g0 := XBn.out.cell (j := 0) rfl
            have g1 := XBn.out.cell (j := 1) rfl
            have g2' := XBn.out.cell (j := 2) rfl
            have f0 := XBn.out.thaw 0
            have f1 := XBn.out.thaw 1
            have f2 := XBn.out.thaw 2
            have KB := hid (((BX.out.setCell (p := ⟨B, 0, none⟩) (by show _ ≤ B; omega) (.slice va3 n vc3)).setCell (p := ⟨B, 1, none⟩) (by show _ ≤ B; omega) (.int .i64 h2)).setCell (p := ⟨B, 2, none⟩) (by show _ ≤ B; omega) (.int .i64 TT))
            have KX := hid (((XBn.out.set 0 (.slice va3 n vc3)).set 1 (.int .i64 h2)).set 2 (.int .i64 TT))
            have KO := hid ((((ON.out.far (b := B) (j := 0) (by omega) (.slice va3 n vc3)).far (b := B) (j := 1) (by omega) (.int .i64 h2)).far (b := B) (j := 2) (by omega) (.int .i64 TT)).down (show w.heap.size ≤ _ by omega) (Nat.le_refl _))
            have KX2 : Hid (BlockIs (((w8.setCell ⟨B, 0, none⟩ (.slice va3 n vc3)).setCell ⟨B, 1, none⟩ (.int .i64 h2)).setCell ⟨B, 2, none⟩ (.int .i64 TT)) B 26 [.slice va3 TL.length vc3, .int .i64 h2, .int .i64 TT]) := by rw [HTL.out]; exact KX.out
            clear b8 e0 e1 e2
            go_wp2
            go_roundg g2
            case measure => omega
            case rel => exact ⟨k2 + 1, h2, TT, q3, TL, va3, vc3, by omega, by go_num, HQ3, R3, HTL, KB, KX2, KO⟩
          · go_wp2_with fail
            refine (CH.out _ ON0.out.slots).mono ?_
            rintro e w8 ⟨rfl, b8⟩
            have BX := hid (below_via BX0.out b8)
            have XBn := hid (XBn0.out.on b8 XBn0.out.lt)
            have XN := hid (XN0.out.on b8 XN0.out.lt)
            have ON := hid (((ON0.out.on b8).down (Nat.le_refl _) b8.size))
            have d0 := XN.out.cell (j := 0) rfl
            have d1 := XN.out.cell (j := 1) rfl
            have d2 := XN.out.cell (j := 2) rfl
            have g0 := XBn.out.cell (j := 0) rfl
            have g1 := XBn.out.cell (j := 1) rfl
            have g2' := XBn.out.cell (j := 2) rfl
            have f0 := XBn.out.thaw 0
            have f1 := XBn.out.thaw 1
            have f2 := XBn.out.thaw 2
            have KB := hid (((BX.out.setCell (p := ⟨B, 0, none⟩) (by show _ ≤ B; omega) (.slice va3 n vc3)).setCell (p := ⟨B, 1, none⟩) (by show _ ≤ B; omega) (.int .i64 h2)).setCell (p := ⟨B, 2, none⟩) (by show _ ≤ B; omega) (.int .i64 TT))
            have KX := hid (((XBn.out.set 0 (.slice va3 n vc3)).set 1 (.int .i64 h2)).set 2 (.int .i64 TT))
            have KO := hid ((((ON.out.far (b := B) (j := 0) (by omega) (.slice va3 n vc3)).far (b := B) (j := 1) (by omega) (.int .i64 h2)).far (b := B) (j := 2) (by omega) (.int .i64 TT)).down (show w.heap.size ≤ _ by omega) (Nat.le_refl _))
            have KX2 : Hid (BlockIs (((w8.setCell ⟨B, 0, none⟩ (.slice va3 n vc3)).setCell ⟨B, 1, none⟩ (.int .i64 h2)).setCell ⟨B, 2, none⟩ (.int .i64 TT)) B 26 [.slice va3 TL.length vc3, .int .i64 h2, .int .i64 TT]) := by rw [HTL.out]; exact KX.out
            clear b8 e0 e1 e2
            go_wp2
            go_roundg g2
            case measure => omega
            case rel => exact ⟨k2 + 1, h2, TT, q3, TL, va3, vc3, by omega, by go_num, HQ3, R3, HTL, KB, KX2, KO⟩
    | succ g =>
      have hlt : (k : Int) < (n : Int) + 1 := by omega
      obtain ⟨D, hD⟩ : ∃ D, ByteArray.mk (dec (k : Int)).toArray = D := ⟨_, rfl⟩
      obtain ⟨T, hT⟩ : ∃ T, ByteArray.mk #[116, 101, 120, 116] ++ D = T := ⟨_, rfl⟩
      have HT := hid hT
      have hTk : T = tx k := by rw [← hT, ← hD]; rfl
      have hTs := tx_size (i := k) (by omega)
      rw [← hTk] at hTs
      obtain ⟨hTs1, hTs2⟩ := hTs
      have hDs : D.size ≤ 96 := by rw [← hT, ByteArray.size_append] at hTs2; have h4 : (ByteArray.mk #[116, 101, 120, 116]).size = 4 := rfl; omega
      have CD := hid (fun w => specDecimal_nat k (by omega) w)
      rw [hD] at CD
      have CP := hid (fun w ha => implPost_any h t va l vc (by omega) HR.out.small T (by omega) w ha)
      unfold PostRDid at CP
      have hpo := HR.out.postOk T
      have hpost : Hid (∃ (h' : Nat) (q' : List ByteArray), postH l h t T = (h' : Int) ∧ RingIs (postL l h t T) h' t q' ∧ q' = (if q.length < n then q ++ [T] else q)) := by
        by_cases hc : q.length < n
        · refine ⟨(h + 1) % l.length, q ++ [T], ?_, ?_, by rw [if_pos hc]⟩
          · unfold postH; rw [hpo, if_pos (by simp [hTs1, hTs2, HL.out, hc]), Int.toNat_natCast]
          · unfold postL; rw [hpo, if_pos (by simp [hTs1, hTs2, HL.out, hc]), Int.toNat_natCast]; exact HR.out.post hTs1 hTs2 (by rw [HL.out]; exact hc)
        · refine ⟨h, q, ?_, ?_, by rw [if_neg hc]⟩
          · unfold postH; rw [hpo, if_neg (by simp [HL.out, hc])]
          · unfold postL; rw [hpo, if_neg (by simp [HL.out, hc])]; exact HR.out
      obtain ⟨h', q', hh', hrr, hq'⟩ := hpost.out
      have hPl : (postL l h t T).length = n := by rw [postL_length, HL.out]
      obtain ⟨OK, hOK⟩ : ∃ x, postOk l h t T = x := ⟨_, rfl⟩
      have hOKv : OK = decide (q.length < n) := by rw [← hOK, hpo, HL.out]; simp [hTs1, hTs2]
      obtain ⟨PL, hPL⟩ : ∃ x, postL l h t T = x := ⟨_, rfl⟩
      obtain ⟨PH, hPH⟩ : ∃ x, postH l h t T = x := ⟨_, rfl⟩
      rw [hPL] at CP hrr hPl
      rw [hPH] at CP hh'
      rw [hOK] at CP
      rw [hh'] at CP
      obtain rfl : PH = (h' : Int) := hh'
      have R2 := hid hrr
      have HPL := hid hPl
      have HQ' := hid hq'
      have HOKV := hid hOKv
      have HTK := hid hTk
      have hh'l := hrr.head_lt
      rw [hPl] at hh'l
      clear hpo hpost hrr hq' hOK hPL hPH hPl hOKv hT hD hTk
      go_wp2
      refine wp_region_each (N := 121) (by kernel_rfl) (by kernel_rfl) rfl (by kernel_rfl) (fun W => Below wr.heap.size wr W) (fun j v u W => match j with | 0 => v = .agg #[.slice va l.length vc, .int .i64 h, .int .i64 t] | 1 => v = .int .i64 k | 2 => v = .string D | 3 => v = .string T | 4 => ∃ (va' : Option Addr) (vc' : Nat), v = .tuple #[.agg #[.slice va' PL.length vc', .int .i64 h', .int .i64 t], .bool OK] ∧ OwnAt W 52 (slotCells PL) PL.length va' wr.heap.size W.heap.size | 5 => ∃ (va' : Option Addr) (vc' : Nat), v = .tuple #[.agg #[.slice va' PL.length vc', .int .i64 h', .int .i64 t], .bool OK] ∧ OwnAt W 52 (slotCells PL) PL.length va' wr.heap.size W.heap.size | 6 => ∃ (va' : Option Addr) (vc' : Nat), v = .agg #[.slice va' PL.length vc', .int .i64 h', .int .i64 t] ∧ OwnAt W 52 (slotCells PL) PL.length va' wr.heap.size W.heap.size | 7 => v = .bool OK | 8 => ∃ X, v = .pointer (some ⟨X, 0, none⟩) ∧ wr.heap.size ≤ X ∧ BlockIs W X 26 [.slice none 0 0, .int .i64 0, .int .i64 0] | 9 => ∃ (X : Nat) (va' : Option Addr) (vc' : Nat), u = .pointer (some ⟨X, 0, none⟩) ∧ wr.heap.size ≤ X ∧ BlockIs W X 26 [.slice va' PL.length vc', .int .i64 h', .int .i64 t] ∧ OwnAt W 52 (slotCells PL) PL.length va' wr.heap.size W.heap.size | 10 => v = .bool OK | _ => True) (fun i => if i = 9 then 8 else i) (fun j i => decide ((j, i) ∈ ([(8, 9)] : List (Nat × Nat)))) (fun i x y => x.heap.size ≤ y.heap.size ∧ ∀ g ty cs, BlockIs x g ty cs → (i = 9 → ty ≠ 26) → BlockIs y g ty cs) (fun i => if i = 9 then 8 else 0) (by kernel_rfl) (fun i hi => by have : 11 ≤ i := hi; simp; omega) ?_ (below_drewN (Below.refl _ _) 1) ?_ ?_
      · intro i j v u x y hij hdd hwt hxy hg
        match j, hg with
        | 0, hg => exact hg
        | 1, hg => exact hg
        | 2, hg => exact hg
        | 3, hg => exact hg
        | 4, hg =>
          obtain ⟨va', vc', e1, ho⟩ := hg
          exact ⟨va', vc', e1, ho.ext hxy.1 fun g r h => hxy.2 _ _ _ h (fun _ => by decide)⟩
        | 5, hg =>
          obtain ⟨va', vc', e1, ho⟩ := hg
          exact ⟨va', vc', e1, ho.ext hxy.1 fun g r h => hxy.2 _ _ _ h (fun _ => by decide)⟩
        | 6, hg =>
          obtain ⟨va', vc', e1, ho⟩ := hg
          exact ⟨va', vc', e1, ho.ext hxy.1 fun g r h => hxy.2 _ _ _ h (fun _ => by decide)⟩
        | 7, hg => exact hg
        | 8, hg =>
          obtain ⟨X, e1, e2, e3⟩ := hg
          simp at hdd
          exact ⟨X, e1, e2, hxy.2 _ _ _ e3 (fun e => absurd e hdd)⟩
        | 9, hg =>
          obtain ⟨X, va', vc', e1, e2, e3, ho⟩ := hg
          exact ⟨X, va', vc', e1, e2, hxy.2 _ _ _ e3 (fun e => absurd e hij), ho.ext hxy.1 fun g r h => hxy.2 _ _ _ h (fun _ => by decide)⟩
        | 10, hg => exact hg
        | n + 11, _ => exact trivial
      · refine ⟨?_, ?_, ?_, ?_, ?_, ?_, ?_, ?_, ?_, ?_, ?_, trivial⟩
        · intro A W hC hg hb
          have h3 : A.eval (.tmp 3) = .pointer (some ⟨B, 0, none⟩) := hb 3 (base_of (by kernel_rfl))
          have xb := XB.out.on hC XB.out.lt
          have hc0 := xb.cell (j := 0) rfl
          have hc1 := xb.cell (j := 1) rfl
          have hc2 := xb.cell (j := 2) rfl
          exact does_value (v := .agg #[.slice va l.length vc, .int .i64 h, .int .i64 t]) (w' := W) (by simp only [execOp, h3]; simp [go_sem, hc0, hc1, hc2]) ⟨rfl, hC, Nat.le_refl _, fun _ _ _ h _ => h⟩
        · intro A W hC hg hb
          have h7 : A.eval (.tmp 7) = .int .i64 k := hb 7 (base_of (by kernel_rfl))
          exact does_value (v := .int .i64 k) (w' := W) (by simp only [execOp, h7]; simp [go_sem]) ⟨rfl, hC, Nat.le_refl _, fun _ _ _ h _ => h⟩
        · intro A W hC hg hb
          have h34 : A.eval (.tmp 34) = .int .i64 k := hg 1 34 (by decide) rfl (by simp [Op.operands, Call.operands]) (by kernel_rfl) rfl
          simp [go_sem] at h34
          refine does_enter (f := 13) (args := #[.int .i64 k]) (w' := W) (by simp [go_sem, h34]) ?_
          refine (CD.out W).mono ?_
          rintro e W' ⟨rfl, hb'⟩
          exact ⟨_, rfl, rfl, below_via hC hb', hb'.size, fun g ty cs hq _ => hq.on hb' hq.lt⟩
        · intro A W hC hg hb
          have h35 : A.eval (.tmp 35) = .string D := hg 2 35 (by decide) rfl (by simp [Op.operands]) (by kernel_rfl) rfl
          exact does_value (v := .string T) (w' := W) (by simp only [execOp, h35]; simp [go_sem, HT.out]; omega) ⟨rfl, hC, Nat.le_refl _, fun _ _ _ h _ => h⟩
        · intro A W hC hg hb
          have h33 : A.eval (.tmp 33) = .agg #[.slice va l.length vc, .int .i64 h, .int .i64 t] := hg 0 33 (by decide) rfl (by simp [Op.operands, Call.operands]) (by kernel_rfl) rfl
          have h36 : A.eval (.tmp 36) = .string T := hg 3 36 (by decide) rfl (by simp [Op.operands, Call.operands]) (by kernel_rfl) rfl
          simp [go_sem] at h33 h36
          refine does_enter (f := 12) (args := #[.agg #[.slice va l.length vc, .int .i64 h, .int .i64 t], .string T]) (w' := W) (by simp [go_sem, h33, h36]) ?_
          refine (CP.out W (HO.out.on hC).slots).mono ?_
          rintro e W' ⟨va', vc', rfl, _, ho, hb'⟩
          exact ⟨_, rfl, ⟨va', vc', rfl, ho.down hC.size (Nat.le_refl _)⟩, below_via hC hb', hb'.size, fun g ty cs hq _ => hq.on hb' hq.lt⟩
        · intro A W hC hg hb
          have g4 := hg 4 37 (by decide) rfl (by simp [Op.operands]) (by kernel_rfl) rfl
          obtain ⟨va', vc', h37, ho⟩ := g4
          simp [go_sem] at h37
          refine does_value (v := .tuple #[.agg #[.slice va' PL.length vc', .int .i64 h', .int .i64 t], .bool OK]) (w' := W) (by simp [execOp, go_sem, h37]) ⟨⟨va', vc', rfl, ho⟩, hC, Nat.le_refl _, fun _ _ _ h _ => h⟩
        · intro A W hC hg hb
          have g5 := hg 5 32 (by decide) rfl (by simp [Op.operands]) (by kernel_rfl) rfl
          obtain ⟨va', vc', h32, ho⟩ := g5
          simp [go_sem] at h32
          refine does_value (v := .agg #[.slice va' PL.length vc', .int .i64 h', .int .i64 t]) (w' := W) (by simp [execOp, go_sem, h32]) ⟨⟨va', vc', rfl, ho⟩, hC, Nat.le_refl _, fun _ _ _ h _ => h⟩
        · intro A W hC hg hb
          have g5 := hg 5 32 (by decide) rfl (by simp [Op.operands]) (by kernel_rfl) rfl
          obtain ⟨va', vc', h32, ho⟩ := g5
          simp [go_sem] at h32
          refine does_value (v := .bool OK) (w' := W) (by simp [execOp, go_sem, h32]) ⟨rfl, hC, Nat.le_refl _, fun _ _ _ h _ => h⟩
        · intro A W hC hg hb
          have hbm := below_more (Below.refl W.heap.size W) (.cells #[.slice none 0 0, .int .i64 0, .int .i64 0] 26)
          exact does_value (v := .pointer (some ⟨W.heap.size, 0, none⟩)) (w' := W.alloc (.cells #[.slice none 0 0, .int .i64 0, .int .i64 0] 26)) (by simp [execOp, go_sem]) ⟨⟨_, rfl, hC.size, heap_alloc_new W _⟩, below_more hC _, hbm.size, fun _ _ _ h _ => h.on hbm h.lt⟩
        · intro A W hC hg hb
          have g8 := hg 8 8 (by decide) rfl (by simp [Op.operands]) (by kernel_rfl) rfl
          have g6 := hg 6 38 (by decide) rfl (by simp [Op.operands]) (by kernel_rfl) rfl
          obtain ⟨X, h8, hlo, hX⟩ := g8
          obtain ⟨va', vc', h38, ho⟩ := g6
          have c0 := hX.cell (j := 0) rfl
          have c1 := hX.cell (j := 1) rfl
          have c2 := hX.cell (j := 2) rfl
          have f0 := hX.thaw 0
          have f1 := hX.thaw 1
          have f2 := hX.thaw 2
          have hX3 := ((hX.set 0 (.slice va' PL.length vc')).set 1 (.int .i64 h')).set 2 (.int .i64 t)
          have far : ∀ q ty cs, BlockIs W q ty cs → ty ≠ 26 → BlockIs (((W.setCell ⟨X, 0, none⟩ (.slice va' PL.length vc')).setCell ⟨X, 1, none⟩ (.int .i64 h')).setCell ⟨X, 2, none⟩ (.int .i64 t)) q ty cs := fun q ty cs hq hne => by
            have hqX : X ≠ q := by intro e; subst e; exact hne (block_one hq hX).1
            exact ((hq.far hqX _).far hqX _).far hqX _
          refine does_skip (w' := ((W.setCell ⟨X, 0, none⟩ (.slice va' PL.length vc')).setCell ⟨X, 1, none⟩ (.int .i64 h')).setCell ⟨X, 2, none⟩ (.int .i64 t)) (by simp only [execOp, h8, h38]; simp [go_sem, c0, c1, c2, f0, f1, f2]) ⟨⟨X, va', vc', h8, hlo, hX3, ?_⟩, ((hC.setCell hlo _).setCell hlo _).setCell hlo _, by simp [World.size_setCell], fun q ty cs hq hne => far q ty cs hq (hne rfl)⟩
          exact ho.ext (by simp [World.size_setCell]) (fun g r h => far g _ _ h (by decide))
        · intro A W hC hg hb
          have h39 : A.eval (.tmp 39) = .bool OK := hg 7 39 (by decide) rfl (by simp [Op.operands]) (by kernel_rfl) rfl
          exact does_value (v := .bool OK) (w' := W) (by simp only [execOp, h39]; simp [go_sem]) ⟨rfl, hC, Nat.le_refl _, fun _ _ _ h _ => h⟩
      intro vs w4 hC hg
      obtain ⟨X, va', vc', hu, hX, hb, ho⟩ := hg 9 (by decide) (fun k => by simp)
      have hv10 := hg 10 (by decide) (fun k => by simp)
      change vs 10 = _ at hv10
      change vs 8 = _ at hu
      clear hg
      change Exit.then _ _ _ (laidBy _ vs _ 11 _) w4
      simp only [laidBy, if_true, dstAt, List.getElem?_toArray, List.getElem?_cons_succ, List.getElem?_cons_zero, Option.bind_some]
      simp only [Act.put, List.setIfInBounds_toArray, List.set_cons_succ, List.set_cons_zero]
      rw [hv10, hu]
      have BX0 := hid (below_via BR.out hC)
      have XBn0 := hid (XB.out.on hC XB.out.lt)
      have XN0 := hid hb
      have ON0 := hid ho
      have CO := hid (fun w ha => implRingOk_any h' t va' PL vc' (by have := HPL.out; omega) R2.out.small w ha)
      rw [R2.out.ok, HPL.out] at CO
      have e0 := XN0.out.cell (j := 0) rfl
      have e1 := XN0.out.cell (j := 1) rfl
      have e2 := XN0.out.cell (j := 2) rfl
      rw [HPL.out] at e0
      clear hC hb ho hv10 hu BR XB HO CD CP HT
      by_cases hc : q.length < n
      · have hOKt : OK = true := by rw [HOKV.out]; simp [hc]
        have hhp : (hd : Int) + (p : Int) < (n : Int) := by omega
        rw [hOKt]
        have HQn : Hid (q' = q0 ++ texts (p + 1)) := by show _ = _; rw [HQ'.out, if_pos hc, HQ.out, texts_succ, List.append_assoc, HTK.out, show k = p by omega]
        have HPn : Hid (p + 1 = min (k + 1) (n - hd)) := by show _ = _; omega
        have hp8 : p ≤ 8 := by omega
        clear hOKt hql hp1
        go_wp2_with fail
        refine (CO.out _ ON0.out.slots).mono ?_
        rintro e w8 ⟨rfl, b8⟩
        have BX := hid (below_via BX0.out b8)
        have XBn := hid (XBn0.out.on b8 XBn0.out.lt)
        have XN := hid (XN0.out.on b8 XN0.out.lt)
        have ON := hid (((ON0.out.on b8).down (Nat.le_refl _) b8.size))
        have d0 := XN.out.cell (j := 0) rfl
        have d1 := XN.out.cell (j := 1) rfl
        have d2 := XN.out.cell (j := 2) rfl
        rw [HPL.out] at d0
        have g0 := XBn.out.cell (j := 0) rfl
        have g1 := XBn.out.cell (j := 1) rfl
        have g2' := XBn.out.cell (j := 2) rfl
        have f0 := XBn.out.thaw 0
        have f1 := XBn.out.thaw 1
        have f2 := XBn.out.thaw 2
        have KB := hid (((BX.out.setCell (p := ⟨B, 0, none⟩) (by show _ ≤ B; omega) (.slice va' n vc')).setCell (p := ⟨B, 1, none⟩) (by show _ ≤ B; omega) (.int .i64 h')).setCell (p := ⟨B, 2, none⟩) (by show _ ≤ B; omega) (.int .i64 t))
        have KX := hid (((XBn.out.set 0 (.slice va' n vc')).set 1 (.int .i64 h')).set 2 (.int .i64 t))
        have KO := hid ((((ON.out.far (b := B) (j := 0) (by omega) (.slice va' n vc')).far (b := B) (j := 1) (by omega) (.int .i64 h')).far (b := B) (j := 2) (by omega) (.int .i64 t)).down (show w.heap.size ≤ _ by omega) (Nat.le_refl _))
        have KX2 : Hid (BlockIs (((w8.setCell ⟨B, 0, none⟩ (.slice va' n vc')).setCell ⟨B, 1, none⟩ (.int .i64 h')).setCell ⟨B, 2, none⟩ (.int .i64 t)) B 26 [.slice va' PL.length vc', .int .i64 h', .int .i64 t]) := by rw [HPL.out]; exact KX.out
        clear b8 e0 e1 e2
        go_wp2
        go_roundg g
        case measure => omega
        case rel => exact ⟨k + 1, p + 1, h', t, q', PL, va', vc', by omega, by go_num, by go_num, HPn, HQn, R2, HPL, KB, KX2, KO⟩
      · have hOKt : OK = false := by rw [HOKV.out]; simp [hc]
        have hhp : ¬ (hd : Int) + (p : Int) < (n : Int) := by omega
        rw [hOKt]
        have HQn : Hid (q' = q0 ++ texts p) := by show _ = _; rw [HQ'.out, if_neg hc, HQ.out]
        have HPn : Hid (p = min (k + 1) (n - hd)) := by show _ = _; omega
        have hp8 : p ≤ 8 := by omega
        clear hOKt hql hp1
        go_wp2_with fail
        refine (CO.out _ ON0.out.slots).mono ?_
        rintro e w8 ⟨rfl, b8⟩
        have BX := hid (below_via BX0.out b8)
        have XBn := hid (XBn0.out.on b8 XBn0.out.lt)
        have XN := hid (XN0.out.on b8 XN0.out.lt)
        have ON := hid (((ON0.out.on b8).down (Nat.le_refl _) b8.size))
        have d0 := XN.out.cell (j := 0) rfl
        have d1 := XN.out.cell (j := 1) rfl
        have d2 := XN.out.cell (j := 2) rfl
        rw [HPL.out] at d0
        have g0 := XBn.out.cell (j := 0) rfl
        have g1 := XBn.out.cell (j := 1) rfl
        have g2' := XBn.out.cell (j := 2) rfl
        have f0 := XBn.out.thaw 0
        have f1 := XBn.out.thaw 1
        have f2 := XBn.out.thaw 2
        have KB := hid (((BX.out.setCell (p := ⟨B, 0, none⟩) (by show _ ≤ B; omega) (.slice va' n vc')).setCell (p := ⟨B, 1, none⟩) (by show _ ≤ B; omega) (.int .i64 h')).setCell (p := ⟨B, 2, none⟩) (by show _ ≤ B; omega) (.int .i64 t))
        have KX := hid (((XBn.out.set 0 (.slice va' n vc')).set 1 (.int .i64 h')).set 2 (.int .i64 t))
        have KO := hid ((((ON.out.far (b := B) (j := 0) (by omega) (.slice va' n vc')).far (b := B) (j := 1) (by omega) (.int .i64 h')).far (b := B) (j := 2) (by omega) (.int .i64 t)).down (show w.heap.size ≤ _ by omega) (Nat.le_refl _))
        have KX2 : Hid (BlockIs (((w8.setCell ⟨B, 0, none⟩ (.slice va' n vc')).setCell ⟨B, 1, none⟩ (.int .i64 h')).setCell ⟨B, 2, none⟩ (.int .i64 t)) B 26 [.slice va' PL.length vc', .int .i64 h', .int .i64 t]) := by rw [HPL.out]; exact KX.out
        clear b8 e0 e1 e2
        go_wp2
        go_roundg g
        case measure => omega
        case rel => exact ⟨k + 1, p, h', t, q', PL, va', vc', by omega, by go_num, rfl, HPn, HQn, R2, HPL, KB, KX2, KO⟩

theorem own : ownKnob Try.prog.godebug = none := by kernel_rfl
theorem laidOut : laidOutB Try.prog = true := by kernel_rfl
theorem rowed : varsRowed Try.prog Rows.fnRingsSpec.vars = true := by kernel_rfl
set_option maxRecDepth 1000000 in
theorem contract (H : Type) (enc : TypeId × Value → H) (W : World) (base : Nat) (args : Array Value) (ds gs : List (DataW H)) (before : List MemPlace)
    (hval : ∀ (j : Nat) t v, Try.f3.params[j]? = some t → args[j]? = some v → Value.okWide Try.prog W .any base t v)
    (hW : DataW.Whole enc Try.prog Try.f3.params.toList Rows.fnRingsSpec.vars false W args.toList ds gs before) (_hL : laidMetH Try.prog Rows.fnRingsRow.laid W) :
    Calls Try.prog 3 args W fun e W' => ∃ v, e = .returned v ∧ Rows.fnRingsSpec.post enc Try.prog Try.f3 false true false false W args v W' := by
  have hW' := hW
  obtain ⟨p, q, hA0, hV0, rfl, hfz, hnd⟩ := hW
  have hV : DataW.TrodVars enc Try.prog W (fun _ => true) Rows.fnRingsSpec.vars gs q := hV0
  have hA : DataW.TrodAll enc Try.prog W 0 (fun _ => true) true Try.f3.params.toList args.toList ds p := hA0
  rw [Try.params3] at hA hval
  obtain ⟨v0, vs0, d0, ds0, p0, q0, hargs0, rfl, rfl, h0, r0⟩ := trodAll_cons hA
  obtain ⟨rfl, rfl, rfl⟩ := trodAll_nil r0
  obtain rfl : args = #[v0] := by cases args; simp_all
  obtain ⟨a0, len0, cap0, rfl⟩ := okWide_slice Try.underlying22 (hval 0 22 v0 rfl rfl)
  have k0 := h0
  have lt0 : ∀ x ∈ p0, x.block < W.heap.size := by obtain ⟨m, hm⟩ := k0; exact DataW.trod_lt m _ _ _ hm
  have hb0 : len0 ≤ cap0 ∧ Bytes W a0 len0 := by
    obtain ⟨fuel, hf⟩ := h0
    rcases open_ints Try.underlying22 Try.underlying5 (by kernel_rfl) hf with ⟨hcs, _⟩ | ⟨x, l, c, zs, hcs, _, hl, hm, hz, _, hcell, hwz⟩
    · simp [Value.cells] at hcs
      obtain ⟨rfl, rfl, rfl⟩ := hcs
      exact ⟨Nat.le_refl _, fun h => by omega⟩
    · simp [Value.cells] at hcs
      obtain ⟨rfl, rfl, rfl⟩ := hcs
      refine ⟨hl, fun hp => ?_⟩
      have hzl : zs.length = cap0 := by simpa using hz
      obtain ⟨b, off, rfl, hc⟩ := ints_at hcell (by omega)
      refine ⟨b, off, rfl, fun j hj => ?_⟩
      have hjz : j < zs.length := by omega
      have hb8 := bounds_u8 (hwz (zs.getD j 0) (by simp [List.getD, hjz]))
      exact ⟨zs.getD j 0, hb8.1, hb8.2, hc j hjz⟩
  clear hA0 hV0
  obtain ⟨rfl, rfl⟩ := trodVars_none hV
  refine (walk a0 len0 cap0 hb0.1 W hb0.2).mono fun e W' ⟨he, bel⟩ => ?_
  subst he
  exact ⟨_, rfl, _, _, _, [], _, [], hW', trodAll_mk1 (shut_bool Try.underlying4 _), trodAll_cons_mk (Below.trod laidOut (by kernel_rfl) (of_decide_eq_true (by kernel_rfl)) k0 bel lt0) (trodAll_mk0), rfl, bel.frame _, fun h => by cases h⟩

def put (cs : Array Value) : Obj → Obj
  | .cells _ t frozen => .cells cs t frozen
  | o => o

/-- a world for the witness: the tables hold what their initialisers lay -/
def laidWorld (w : World) : World := { w with heap := w.heap }
theorem laid_met (os : Os) : laidMet Try.prog Rows.fnRingsRow.laid ((laidWorld (World.holding Try.prog os ⟨#[], #[], []⟩)).forCall (fun _ _ => 0) ⟨#[], #[.slice none 0 0], []⟩).memory :=
  laidMet_of_run' 8 (by kernel_rfl) (by kernel_rfl)
theorem reads (os : Os) {H : Type} (enc : TypeId × Value → H) : ∃ places, DataW.whole enc Try.prog ((laidWorld (World.holding Try.prog os ⟨#[], #[], []⟩)).forCall (fun _ _ => 0) ⟨#[], #[.slice none 0 0], []⟩).memory Try.f3.params.toList Rows.fnRingsSpec.vars false #[Value.slice none 0 0].toList 8 = some ([.nil], [], places) :=
  ⟨[], by kernel_rfl⟩

set_option maxRecDepth 1000000 in
theorem lifted (os : Os) (started : os.Started) (H : Type) (enc : TypeId × Value → H) (F : Stop.Interp) :
    ReturnsInHanded {} Try.checked os 3 .any ((OpenSpec.ofChange Rows.fnRingsSpec).preRow enc Try.prog Try.f3 Rows.fnRingsRow.domain false Rows.fnRingsRow.laid) (((OpenSpec.ofChange Rows.fnRingsSpec).at F).post enc Try.prog Try.f3 false true false false) := by
  obtain ⟨places, hx⟩ := reads os enc
  refine returnsInHanded_of_row (C := Try.checked) (s := OpenSpec.ofChange Rows.fnRingsSpec) own started (by kernel_rfl) Try.func3
    (witness_row_at (enc := enc) (C := Try.checked) false (laidWorld (World.holding Try.prog os ⟨#[], #[], []⟩)) #[.slice none 0 0] rfl (by kernel_rfl) (by kernel_rfl) (by kernel_rfl)
      (OpenSpec.preRow_of_cond 8 hx (by kernel_rfl) (fun k hk => by cases hk) (by kernel_rfl) (laid_met os))) ?_
  intro W base args ds gs before hval hW _ _ _ hL _ _
  exact contract H enc W base args ds gs before hval hW hL

theorem said : Rows.FnRingsSaid :=
  OpenClaim.holds_of_cond 3 Try.f3 rfl rfl rfl rfl rfl rfl rfl ⟨rfl, rfl, rfl, rfl, rfl⟩ rfl rfl rfl rfl rfl (by kernel_rfl) Try.func3 (by kernel_rfl)
    (of_decide_eq_true (by kernel_rfl)) (by unfold Func.isWrapper; first | (rw [if_pos (by decide +kernel)]; kernel_rfl) | (rw [if_neg (by decide +kernel)]; exact ⟨rfl, rfl⟩))
    (fun os started H enc _ F => by rw [OpenClaim.pre_eq_preRow]; exact lifted os started H enc F)

end Go.Proofs.Ytjcphahbplmmdaa.fnRings
