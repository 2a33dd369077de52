/-
  The walk of impl.TakeRing: what it answers, in memory of its own.
-/
import Derived.Test.YtbajffpkfjkolaaWheelOfI
import Derived.Test.YtbajffpkfjkolaaWheelRingI
import Derived.Test.YtbajffpkfjkolaaWheelTakeI
import Derived.Test.YtbajffpkfjkolaaPostDid
namespace Go.Proofs.Ytbajffpkfjkolaa
open Go.RowKit

set_option maxRecDepth 1000000 in
set_option maxHeartbeats 4000000 in
theorem implTake_any (s t : Int) (ao : Option Addr) (l : List SlotD) (cap : Nat) (hl : l.length ≤ 1048576) (hsm : ∀ f ∈ l, slotOne f ≤ 1048576) (w : World) (ha : SlotsAt w ao l) :
    Calls Try.prog 11 #[.agg #[.slice ao l.length cap, .int .i64 s, .int .i64 t]] w fun e w' => TakeRDid l s t w e w' := by
  have CW := hid (fun w ha => wheelOf_any s t ao l cap hl hsm w ha)
  have CC := hid (fun w ha => copiedRing_any s t ao l cap hl hsm w ha)
  have HSM := hid hsm
  have hx0 : BlockIs ((w.alloc (.cells #[.slice ao l.length cap, .int .i64 s, .int .i64 t] 26)).alloc (.cells #[.slice none 0 0, .int .i64 0, .int .i64 0] 26)) w.heap.size 26 [.slice ao l.length cap, .int .i64 s, .int .i64 t] := by
    show ((w.heap.push _).push _)[w.heap.size]? = some _
    rw [Array.getElem?_push, if_neg (by simp), Array.getElem?_push, if_pos rfl]
  have hx1 : BlockIs ((w.alloc (.cells #[.slice ao l.length cap, .int .i64 s, .int .i64 t] 26)).alloc (.cells #[.slice none 0 0, .int .i64 0, .int .i64 0] 26)) (w.heap.size + 1) 26 [.slice none 0 0, .int .i64 0, .int .i64 0] := by
    show ((w.heap.push _).push _)[w.heap.size + 1]? = some _
    rw [Array.getElem?_push, if_pos (by simp)]
  have hb0 := below_more (below_more (Below.refl w.heap.size w) (.cells #[.slice ao l.length cap, .int .i64 s, .int .i64 t] 26)) (.cells #[.slice none 0 0, .int .i64 0, .int .i64 0] 26)
  obtain ⟨WW, hWW⟩ : ∃ WW, (w.alloc (.cells #[.slice ao l.length cap, .int .i64 s, .int .i64 t] 26)).alloc (.cells #[.slice none 0 0, .int .i64 0, .int .i64 0] 26) = WW := ⟨_, rfl⟩
  rw [hWW] at hx0 hx1 hb0
  have HA := hid ha
  have X0 := hid hx0
  have X1 := hid hx1
  have B0 := hid hb0
  have c00 := hx0.cell (j := 0) rfl
  have c01 := hx0.cell (j := 1) rfl
  have c02 := hx0.cell (j := 2) rfl
  clear hx0 hx1 hb0 ha hsm
  go_enter Try.func11, Try.ntmps11
  go_wp2_with fail
  refine (CW.out _ (HA.out.on B0.out)).mono ?_
  rintro e w1 ⟨A, rfl, hA, h1, hpl, b1⟩
  have K : Hid (BlockIs (w1.alloc (.cells #[.int .i64 0, .string ⟨#[]⟩, .int .i64 0, .string ⟨#[]⟩, .int .i64 0, .string ⟨#[]⟩, .int .i64 0, .string ⟨#[]⟩, .int .i64 0, .string ⟨#[]⟩, .int .i64 0, .string ⟨#[]⟩, .int .i64 0, .string ⟨#[]⟩, .int .i64 0, .string ⟨#[]⟩, .int .i64 0, .int .i64 0, .int .i64 0] 45)) w1.heap.size 45 [.int .i64 0, .string ⟨#[]⟩, .int .i64 0, .string ⟨#[]⟩, .int .i64 0, .string ⟨#[]⟩, .int .i64 0, .string ⟨#[]⟩, .int .i64 0, .string ⟨#[]⟩, .int .i64 0, .string ⟨#[]⟩, .int .i64 0, .string ⟨#[]⟩, .int .i64 0, .string ⟨#[]⟩, .int .i64 0, .int .i64 0, .int .i64 0]) := heap_alloc_new w1 _
  have OV := hid (wheel_over w1 #[.int .i64 0, .string ⟨#[]⟩, .int .i64 0, .string ⟨#[]⟩, .int .i64 0, .string ⟨#[]⟩, .int .i64 0, .string ⟨#[]⟩, .int .i64 0, .string ⟨#[]⟩, .int .i64 0, .string ⟨#[]⟩, .int .i64 0, .string ⟨#[]⟩, .int .i64 0, .string ⟨#[]⟩, .int .i64 0, .int .i64 0, .int .i64 0] A 45)
  have HL := hid hA
  have HO := hid h1
  have ba := below_more (Below.refl w1.heap.size w1) (.cells A 45)
  have hxw : BlockIs (w1.alloc (.cells A 45)) w1.heap.size 45 A.toList := heap_alloc_new w1 _
  have hWl := X1.out.lt
  have hw1l := b1.size
  have bc := below_via b1 ba
  have X0a := hid (X0.out.on bc X0.out.lt)
  have X1a := hid (X1.out.on bc X1.out.lt)
  have B0a := hid (below_via B0.out bc)
  have XW := hid hxw
  have HPL := hid hpl
  obtain ⟨w2, hw2⟩ : ∃ w2, w1.alloc (.cells A 45) = w2 := ⟨_, rfl⟩
  rw [hw2] at X0a X1a B0a XW OV
  clear hxw ba bc b1 c00 c01 c02 X0 X1 B0 CW hA h1 hpl
  have d00 := X0a.out.cell (j := 0) rfl
  have d01 := X0a.out.cell (j := 1) rfl
  have d02 := X0a.out.cell (j := 2) rfl
  cases hok : ringOk l s t with
  | false =>
    have HN : Hid (takeOk l s t = false) := by show _ = _; simp [takeOk, hok]
    go_wp2_with (first | (refine wpList_store_wheel rfl (.tmp 5) (.tmp 12) rfl w1.heap.size A rfl rfl [.int .i64 0, .string ⟨#[]⟩, .int .i64 0, .string ⟨#[]⟩, .int .i64 0, .string ⟨#[]⟩, .int .i64 0, .string ⟨#[]⟩, .int .i64 0, .string ⟨#[]⟩, .int .i64 0, .string ⟨#[]⟩, .int .i64 0, .string ⟨#[]⟩, .int .i64 0, .string ⟨#[]⟩, .int .i64 0, .int .i64 0, .int .i64 0] K.out rfl HL.out HO.out ?_; rw [OV.out]) | fail)
    refine (CC.out _ (HA.out.on B0a.out)).mono ?_
    rintro e w5 ⟨g, hg0, rfl, hk5, b5⟩
    have Q1 := X1a.out.on b5 X1a.out.lt
    have B5 := hid (B0a.out.trans (b5.mono (B0a.out.size)))
    have hQl := X1a.out.lt
    have q0 := Q1.cell (j := 0) rfl
    have r0 := Q1.thaw 0
    have q1 := Q1.cell (j := 1) rfl
    have r1 := Q1.thaw 1
    have q2 := Q1.cell (j := 2) rfl
    have r2 := Q1.thaw 2
    have HP := hid ((((hk5.far (show w.heap.size + 1 ≠ g by omega) (j := 0) (.slice (some ⟨g, 0, none⟩) l.length l.length)).far (show w.heap.size + 1 ≠ g by omega) (j := 1) (.int .i64 s))).far (show w.heap.size + 1 ≠ g by omega) (j := 2) (.int .i64 t))
    have BL := hid (((B5.out.setCell (p := ⟨w.heap.size + 1, 0, none⟩) (by show _ ≤ _ + 1; omega) (.slice (some ⟨g, 0, none⟩) l.length l.length)).setCell (p := ⟨w.heap.size + 1, 1, none⟩) (by show _ ≤ _ + 1; omega) (.int .i64 s)).setCell (p := ⟨w.heap.size + 1, 2, none⟩) (by show _ ≤ _ + 1; omega) (.int .i64 t))
    clear Q1 b5 hk5
    go_wp2
    refine bodyPost_ret (v := .tuple #[.agg #[.slice (some ⟨g, 0, none⟩) l.length l.length, .int .i64 s, .int .i64 t], .string ByteArray.empty, .bool false]) (by simp [results, Try.results11, go_sem, q0, q1, q2]; rfl) rfl ?_
    exact take_no HN.out (Nat.le_refl _) (Or.inr ⟨g, [], rfl, by omega, HP.out.lt, by rw [List.append_nil]; exact HP.out⟩) BL.out
  | true =>
    have hp := ringOk_places hok
    have hA2 := HPL.out hp
    obtain ⟨⟨p0, p1⟩, ⟨p2, p3⟩, p4, p5⟩ := hp
    obtain ⟨h, rfl⟩ := Int.eq_ofNat_of_zero_le p2
    obtain ⟨u, rfl⟩ := Int.eq_ofNat_of_zero_le p4
    have q3 : h < l.length := by omega
    have q5 : u < l.length := by omega
    rw [Int.toNat_natCast, Int.toNat_natCast] at hA2
    have hall : ringAll l h u l.length = true := by rw [← ringOk_in ⟨⟨p0, p1⟩, ⟨p2, p3⟩, p4, p5⟩]; exact hok
    have W2 : Hid (WheelIs w2 w1.heap.size l h u) := ⟨by have := XW.out; rw [hA2] at this; exact this, ⟨p0, p1⟩, q3, q5⟩
    have hei := slot_either hall q5 q5
    have HOK := hid hok
    have HEI := hid hei
    have hb6 : w1.heap.size < w2.heap.size := XW.out.lt
    clear hall hei hA2 hok
    go_wp2_with (first | (refine wpList_store_wheel rfl (.tmp 5) (.tmp 12) rfl w1.heap.size A rfl rfl [.int .i64 0, .string ⟨#[]⟩, .int .i64 0, .string ⟨#[]⟩, .int .i64 0, .string ⟨#[]⟩, .int .i64 0, .string ⟨#[]⟩, .int .i64 0, .string ⟨#[]⟩, .int .i64 0, .string ⟨#[]⟩, .int .i64 0, .string ⟨#[]⟩, .int .i64 0, .string ⟨#[]⟩, .int .i64 0, .int .i64 0, .int .i64 0] K.out rfl HL.out HO.out ?_; rw [OV.out]) | fail)
    refine (wheelTake_any w1.heap.size l h u HSM.out w2 W2.out).mono ?_
    rintro e w3 (⟨hc, rfl, W3, b3⟩ | ⟨hc, rfl, W3, b3⟩)
    · have HN : Hid (takeOk l h u = false) := by
        show _ = _
        unfold takeOk
        rw [HOK.out, Int.toNat_natCast, free_own hc]; rfl
      have X1b := hid (X1a.out.on b3 X1a.out.lt)
      have B0b := hid (below_via B0a.out b3)
      have CR := hid (wheelRing_any w1.heap.size l h u HSM.out w3 W3)
      clear b3 W3
      go_wp2_with fail
      refine (CR.out).mono ?_
      rintro e w5 ⟨g, hg0, rfl, hk5, b5⟩
      have Q1 := X1b.out.on b5 X1b.out.lt
      have B5 := hid (B0b.out.trans (b5.mono (B0b.out.size)))
      have hQl := X1b.out.lt
      have q0 := Q1.cell (j := 0) rfl
      have r0 := Q1.thaw 0
      have q1 := Q1.cell (j := 1) rfl
      have r1 := Q1.thaw 1
      have q2 := Q1.cell (j := 2) rfl
      have r2 := Q1.thaw 2
      have HP := hid ((((hk5.far (show w.heap.size + 1 ≠ g by omega) (j := 0) (.slice (some ⟨g, 0, none⟩) l.length l.length)).far (show w.heap.size + 1 ≠ g by omega) (j := 1) (.int .i64 h))).far (show w.heap.size + 1 ≠ g by omega) (j := 2) (.int .i64 u))
      have BL := hid (((B5.out.setCell (p := ⟨w.heap.size + 1, 0, none⟩) (by show _ ≤ _ + 1; omega) (.slice (some ⟨g, 0, none⟩) l.length l.length)).setCell (p := ⟨w.heap.size + 1, 1, none⟩) (by show _ ≤ _ + 1; omega) (.int .i64 h)).setCell (p := ⟨w.heap.size + 1, 2, none⟩) (by show _ ≤ _ + 1; omega) (.int .i64 u))
      clear Q1 b5 hk5
      go_wp2
      refine bodyPost_ret (v := .tuple #[.agg #[.slice (some ⟨g, 0, none⟩) l.length l.length, .int .i64 h, .int .i64 u], .string ByteArray.empty, .bool false]) (by simp [results, Try.results11, go_sem, q0, q1, q2]) rfl ?_
      exact take_no HN.out (Nat.le_refl _) (Or.inr ⟨g, [], rfl, by omega, HP.out.lt, by rw [List.append_nil]; exact HP.out⟩) BL.out
    · have HN : Hid (takeOk l h u = true) := by
        show _ = _
        unfold takeOk
        rw [HOK.out, Int.toNat_natCast]
        rcases HEI.out with h1 | h1
        · rw [posted_own h1]; rfl
        · rw [h1] at hc; cases hc
      have X1b := hid (X1a.out.on b3 (by omega))
      have B0b := hid (B0a.out.trans (b3.mono (by omega)))
      have hsm2 : ∀ f ∈ l.set u slot0, slotOne f ≤ 1048576 := mem_set_all (by decide) HSM.out
      have CR := hid (wheelRing_any w1.heap.size (l.set u slot0) h ((u + 1) % l.length) hsm2 w3 W3)
      rw [List.length_set] at CR
      obtain ⟨N, hN⟩ : ∃ N, (u + 1) % l.length = N := ⟨_, rfl⟩
      have HNN := hid hN
      rw [hN] at CR
      rw [slotAt_eq q5]
      clear b3 hN W3 hsm2
      go_wp2_with fail
      refine (CR.out).mono ?_
      rintro e w5 ⟨g, hg0, rfl, hk5, b5⟩
      have Q1 := X1b.out.on b5 X1b.out.lt
      have B5 := hid (B0b.out.trans (b5.mono (B0b.out.size)))
      have hQl := X1b.out.lt
      have q0 := Q1.cell (j := 0) rfl
      have r0 := Q1.thaw 0
      have q1 := Q1.cell (j := 1) rfl
      have r1 := Q1.thaw 1
      have q2 := Q1.cell (j := 2) rfl
      have r2 := Q1.thaw 2
      have HP := hid ((((hk5.far (show w.heap.size + 1 ≠ g by omega) (j := 0) (.slice (some ⟨g, 0, none⟩) l.length l.length)).far (show w.heap.size + 1 ≠ g by omega) (j := 1) (.int .i64 h))).far (show w.heap.size + 1 ≠ g by omega) (j := 2) (.int .i64 N))
      have BL := hid (((B5.out.setCell (p := ⟨w.heap.size + 1, 0, none⟩) (by show _ ≤ _ + 1; omega) (.slice (some ⟨g, 0, none⟩) l.length l.length)).setCell (p := ⟨w.heap.size + 1, 1, none⟩) (by show _ ≤ _ + 1; omega) (.int .i64 h)).setCell (p := ⟨w.heap.size + 1, 2, none⟩) (by show _ ≤ _ + 1; omega) (.int .i64 N))
      clear Q1 b5 hk5
      go_wp2
      refine bodyPost_ret (v := .tuple #[.agg #[.slice (some ⟨g, 0, none⟩) l.length l.length, .int .i64 h, .int .i64 N], .string l[u].text, .bool true]) (by simp [results, Try.results11, go_sem, q0, q1, q2]) rfl ?_
      exact take_yes (r := []) q5 HN.out HNN.out (Nat.le_refl _) (by omega) (by rw [List.append_nil]; exact HP.out) BL.out
end Go.Proofs.Ytbajffpkfjkolaa
