/-
  The walk of laws.markStreamS over two new streams.
-/
import Derived.Test.YthkkhmmcgjcedaaEndsNil
import Derived.Test.YthkkhmmcgjcedaaMarkText
namespace Go.Proofs.Ythkkhmmcgjcedaa
open Go.RowKit

/-- just one block has turned -/
def JustAt (p : Nat) (w w' : World) : Prop := (∀ j t cs, j ≠ p → BlockIs w j t cs → BlockIs w' j t cs) ∧ ∀ m, m ≤ p → m ≤ w.heap.size → Below m w w'
theorem JustAt.refl (p : Nat) (w : World) : JustAt p w w := ⟨fun _ _ _ _ h => h, fun _ _ _ => Below.refl _ _⟩
theorem JustAt.set {p : Nat} {w w1 : World} (h : JustAt p w w1) (j : Nat) (v : Value) : JustAt p w (w1.setCell ⟨p, j, none⟩ v) := ⟨fun i t cs hi hb => (h.1 i t cs hi hb).far (fun e => hi e.symm) v, fun m hm hw => (h.2 m hm hw).setCell hm v⟩
theorem JustAt.on {p : Nat} {w w1 w2 : World} (h : JustAt p w w1) (hb : Below w1.heap.size w1 w2) : JustAt p w w2 := ⟨fun i t cs hi hk => (h.1 i t cs hi hk).on hb (h.1 i t cs hi hk).lt, fun m hm hw => (h.2 m hm hw).trans (hb.mono (Nat.le_trans hw (h.2 m hm hw).size))⟩
theorem JustAt.trans {p : Nat} {w w1 w2 : World} (h : JustAt p w w1) (h2 : JustAt p w1 w2) : JustAt p w w2 := ⟨fun i t cs hi hk => h2.1 i t cs hi (h.1 i t cs hi hk), fun m hm hw => (h.2 m hm hw).trans (h2.2 m hm (Nat.le_trans hw (h.2 m hm hw).size))⟩
set_option maxRecDepth 1000000 in
set_option maxHeartbeats 4000000 in
theorem markStreamS_two (p : Nat) (x y : StrD) (w : World) (h : BlockIs w p 42 [.int .i64 x.st, .int .i64 x.iss, .int .i64 x.una, .int .i64 x.rcv, .string x.wait, .int .i64 x.sent, .int .i64 x.fin, .bool x.pf, .string x.inn, .slice none 0 0, .bool x.owe, .int .i64 x.due, .int .i64 x.times, .int .i64 y.st, .int .i64 y.iss, .int .i64 y.una, .int .i64 y.rcv, .string y.wait, .int .i64 y.sent, .int .i64 y.fin, .bool y.pf, .string y.inn, .slice none 0 0, .bool y.owe, .int .i64 y.due, .int .i64 y.times]) : Calls Try.prog 20 #[.slice (some ⟨p, 0, none⟩) 2 2, .int .i64 1] w fun e w' => e = .returned (.int .i64 25) ∧ BlockIs w' p 42 [.int .i64 1, .int .i64 2, .int .i64 3, .int .i64 4, .string (mtx 5), .int .i64 6, .int .i64 7, .bool false, .string (mtx 9), .slice none 0 0, .bool false, .int .i64 11, .int .i64 12, .int .i64 13, .int .i64 14, .int .i64 15, .int .i64 16, .string (mtx 17), .int .i64 18, .int .i64 19, .bool false, .string (mtx 21), .slice none 0 0, .bool false, .int .i64 23, .int .i64 24] ∧ JustAt p w w' := by
  have C0 := hid h
  have K0 := hid (JustAt.refl p w)
  clear h
  go_enter Try.func20, Try.ntmps20
  go_wp2
  go_loopg [1, 5] 2 (fun n y9 i wr => (n = 2 ∧ i = .int .i64 0 ∧ y9 = .int .i64 1 ∧ wr = w) ∨ (n = 1 ∧ i = .int .i64 1 ∧ y9 = .int .i64 13 ∧ Hid (BlockIs wr p 42 [.int .i64 1, .int .i64 2, .int .i64 3, .int .i64 4, .string (mtx 5), .int .i64 6, .int .i64 7, .bool false, .string (mtx 9), .slice none 0 0, .bool false, .int .i64 11, .int .i64 12, .int .i64 y.st, .int .i64 y.iss, .int .i64 y.una, .int .i64 y.rcv, .string y.wait, .int .i64 y.sent, .int .i64 y.fin, .bool y.pf, .string y.inn, .slice none 0 0, .bool y.owe, .int .i64 y.due, .int .i64 y.times] ∧ JustAt p w wr)) ∨ (n = 0 ∧ i = .int .i64 2 ∧ y9 = .int .i64 25 ∧ Hid (BlockIs wr p 42 [.int .i64 1, .int .i64 2, .int .i64 3, .int .i64 4, .string (mtx 5), .int .i64 6, .int .i64 7, .bool false, .string (mtx 9), .slice none 0 0, .bool false, .int .i64 11, .int .i64 12, .int .i64 13, .int .i64 14, .int .i64 15, .int .i64 16, .string (mtx 17), .int .i64 18, .int .i64 19, .bool false, .string (mtx 21), .slice none 0 0, .bool false, .int .i64 23, .int .i64 24] ∧ JustAt p w wr)))
  case atStart => exact Or.inl ⟨rfl, rfl, rfl, rfl⟩
  case round =>
    rcases hrel with ⟨hn, rfl, rfl, hwr⟩ | ⟨hn, rfl, rfl, HR⟩ | ⟨hn, rfl, rfl, HR⟩
    · rw [hwr]
      clear hwr wr
      have z1_0 := C0.out.cell (j := 0) rfl
      have z1_1 := C0.out.cell (j := 1) rfl
      have z1_2 := C0.out.cell (j := 2) rfl
      have z1_3 := C0.out.cell (j := 3) rfl
      have f1_0 := C0.out.thaw 0
      have f1_1 := C0.out.thaw 1
      have f1_2 := C0.out.thaw 2
      have f1_3 := C0.out.thaw 3
      obtain ⟨V1, hV1⟩ : ∃ V, ((((w.setCell ⟨p, 0, none⟩ (.int .i64 1)).setCell ⟨p, 1, none⟩ (.int .i64 2)).setCell ⟨p, 2, none⟩ (.int .i64 3)).setCell ⟨p, 3, none⟩ (.int .i64 4)) = V := ⟨_, rfl⟩
      have D1 : Hid (BlockIs V1 p 42 [.int .i64 1, .int .i64 2, .int .i64 3, .int .i64 4, .string x.wait, .int .i64 x.sent, .int .i64 x.fin, .bool x.pf, .string x.inn, .slice none 0 0, .bool x.owe, .int .i64 x.due, .int .i64 x.times, .int .i64 y.st, .int .i64 y.iss, .int .i64 y.una, .int .i64 y.rcv, .string y.wait, .int .i64 y.sent, .int .i64 y.fin, .bool y.pf, .string y.inn, .slice none 0 0, .bool y.owe, .int .i64 y.due, .int .i64 y.times]) := by rw [← hV1]; exact ((((((((C0.out).set 0 _)).set 1 _)).set 2 _)).set 3 _)
      have L1 : Hid (JustAt p w V1) := by rw [← hV1]; exact ((((((((K0.out).set 0 _)).set 1 _)).set 2 _)).set 3 _)
      go_wp2_with fail
      refine (markText_any 5 (by omega) _).mono ?_
      rintro e u1 ⟨rfl, b1⟩
      have E1 := hid (D1.out.on b1 D1.out.lt)
      have M1 := hid (L1.out.on b1)
      clear b1
      have z2_4 := E1.out.cell (j := 4) rfl
      have z2_5 := E1.out.cell (j := 5) rfl
      have z2_6 := E1.out.cell (j := 6) rfl
      have z2_7 := E1.out.cell (j := 7) rfl
      have f2_4 := E1.out.thaw 4
      have f2_5 := E1.out.thaw 5
      have f2_6 := E1.out.thaw 6
      have f2_7 := E1.out.thaw 7
      obtain ⟨V2, hV2⟩ : ∃ V, ((((u1.setCell ⟨p, 4, none⟩ (.string (mtx 5))).setCell ⟨p, 5, none⟩ (.int .i64 6)).setCell ⟨p, 6, none⟩ (.int .i64 7)).setCell ⟨p, 7, none⟩ (.bool false)) = V := ⟨_, rfl⟩
      have D2 : Hid (BlockIs V2 p 42 [.int .i64 1, .int .i64 2, .int .i64 3, .int .i64 4, .string (mtx 5), .int .i64 6, .int .i64 7, .bool false, .string x.inn, .slice none 0 0, .bool x.owe, .int .i64 x.due, .int .i64 x.times, .int .i64 y.st, .int .i64 y.iss, .int .i64 y.una, .int .i64 y.rcv, .string y.wait, .int .i64 y.sent, .int .i64 y.fin, .bool y.pf, .string y.inn, .slice none 0 0, .bool y.owe, .int .i64 y.due, .int .i64 y.times]) := by rw [← hV2]; exact ((((((((E1.out).set 4 _)).set 5 _)).set 6 _)).set 7 _)
      have L2 : Hid (JustAt p w V2) := by rw [← hV2]; exact ((((((((M1.out).set 4 _)).set 5 _)).set 6 _)).set 7 _)
      go_wp2_with fail
      refine (markText_any 9 (by omega) _).mono ?_
      rintro e u2 ⟨rfl, b2⟩
      have E2 := hid (D2.out.on b2 D2.out.lt)
      have M2 := hid (L2.out.on b2)
      clear b2
      have z3_8 := E2.out.cell (j := 8) rfl
      have f3_8 := E2.out.thaw 8
      obtain ⟨V3, hV3⟩ : ∃ V, (u2.setCell ⟨p, 8, none⟩ (.string (mtx 9))) = V := ⟨_, rfl⟩
      have D3 : Hid (BlockIs V3 p 42 [.int .i64 1, .int .i64 2, .int .i64 3, .int .i64 4, .string (mtx 5), .int .i64 6, .int .i64 7, .bool false, .string (mtx 9), .slice none 0 0, .bool x.owe, .int .i64 x.due, .int .i64 x.times, .int .i64 y.st, .int .i64 y.iss, .int .i64 y.una, .int .i64 y.rcv, .string y.wait, .int .i64 y.sent, .int .i64 y.fin, .bool y.pf, .string y.inn, .slice none 0 0, .bool y.owe, .int .i64 y.due, .int .i64 y.times]) := by rw [← hV3]; exact ((E2.out).set 8 _)
      have L3 : Hid (JustAt p w V3) := by rw [← hV3]; exact ((M2.out).set 8 _)
      have q9 := D3.out.cell (j := 9) rfl
      go_wp2_with fail
      refine (markLateS_nil none 0 10 _).mono ?_
      rintro e u9 ⟨rfl, hw9⟩
      rw [hw9]
      clear hw9 u9
      have z4_10 := D3.out.cell (j := 10) rfl
      have z4_11 := D3.out.cell (j := 11) rfl
      have z4_12 := D3.out.cell (j := 12) rfl
      have f4_10 := D3.out.thaw 10
      have f4_11 := D3.out.thaw 11
      have f4_12 := D3.out.thaw 12
      obtain ⟨V4, hV4⟩ : ∃ V, (((V3.setCell ⟨p, 10, none⟩ (.bool false)).setCell ⟨p, 11, none⟩ (.int .i64 11)).setCell ⟨p, 12, none⟩ (.int .i64 12)) = V := ⟨_, rfl⟩
      have D4 : Hid (BlockIs V4 p 42 [.int .i64 1, .int .i64 2, .int .i64 3, .int .i64 4, .string (mtx 5), .int .i64 6, .int .i64 7, .bool false, .string (mtx 9), .slice none 0 0, .bool false, .int .i64 11, .int .i64 12, .int .i64 y.st, .int .i64 y.iss, .int .i64 y.una, .int .i64 y.rcv, .string y.wait, .int .i64 y.sent, .int .i64 y.fin, .bool y.pf, .string y.inn, .slice none 0 0, .bool y.owe, .int .i64 y.due, .int .i64 y.times]) := by rw [← hV4]; exact ((((((D3.out).set 10 _)).set 11 _)).set 12 _)
      have L4 : Hid (JustAt p w V4) := by rw [← hV4]; exact ((((((L3.out).set 10 _)).set 11 _)).set 12 _)
      go_wp2
      go_roundg (gk - 1)
      case measure => omega
      case rel => exact Or.inr (Or.inl ⟨by omega, rfl, rfl, D4.out, L4.out⟩)
    · have C0 := hid HR.out.1
      have K0 := hid HR.out.2
      clear HR
      have z1_0 := C0.out.cell (j := 13) rfl
      have z1_1 := C0.out.cell (j := 14) rfl
      have z1_2 := C0.out.cell (j := 15) rfl
      have z1_3 := C0.out.cell (j := 16) rfl
      have f1_0 := C0.out.thaw 13
      have f1_1 := C0.out.thaw 14
      have f1_2 := C0.out.thaw 15
      have f1_3 := C0.out.thaw 16
      obtain ⟨V1, hV1⟩ : ∃ V, ((((wr.setCell ⟨p, 13, none⟩ (.int .i64 13)).setCell ⟨p, 14, none⟩ (.int .i64 14)).setCell ⟨p, 15, none⟩ (.int .i64 15)).setCell ⟨p, 16, none⟩ (.int .i64 16)) = V := ⟨_, rfl⟩
      have D1 : Hid (BlockIs V1 p 42 [.int .i64 1, .int .i64 2, .int .i64 3, .int .i64 4, .string (mtx 5), .int .i64 6, .int .i64 7, .bool false, .string (mtx 9), .slice none 0 0, .bool false, .int .i64 11, .int .i64 12, .int .i64 13, .int .i64 14, .int .i64 15, .int .i64 16, .string y.wait, .int .i64 y.sent, .int .i64 y.fin, .bool y.pf, .string y.inn, .slice none 0 0, .bool y.owe, .int .i64 y.due, .int .i64 y.times]) := by rw [← hV1]; exact ((((((((C0.out).set 13 _)).set 14 _)).set 15 _)).set 16 _)
      have L1 : Hid (JustAt p w V1) := by rw [← hV1]; exact ((((((((K0.out).set 13 _)).set 14 _)).set 15 _)).set 16 _)
      go_wp2_with fail
      refine (markText_any 17 (by omega) _).mono ?_
      rintro e u1 ⟨rfl, b1⟩
      have E1 := hid (D1.out.on b1 D1.out.lt)
      have M1 := hid (L1.out.on b1)
      clear b1
      have z2_4 := E1.out.cell (j := 17) rfl
      have z2_5 := E1.out.cell (j := 18) rfl
      have z2_6 := E1.out.cell (j := 19) rfl
      have z2_7 := E1.out.cell (j := 20) rfl
      have f2_4 := E1.out.thaw 17
      have f2_5 := E1.out.thaw 18
      have f2_6 := E1.out.thaw 19
      have f2_7 := E1.out.thaw 20
      obtain ⟨V2, hV2⟩ : ∃ V, ((((u1.setCell ⟨p, 17, none⟩ (.string (mtx 17))).setCell ⟨p, 18, none⟩ (.int .i64 18)).setCell ⟨p, 19, none⟩ (.int .i64 19)).setCell ⟨p, 20, none⟩ (.bool false)) = V := ⟨_, rfl⟩
      have D2 : Hid (BlockIs V2 p 42 [.int .i64 1, .int .i64 2, .int .i64 3, .int .i64 4, .string (mtx 5), .int .i64 6, .int .i64 7, .bool false, .string (mtx 9), .slice none 0 0, .bool false, .int .i64 11, .int .i64 12, .int .i64 13, .int .i64 14, .int .i64 15, .int .i64 16, .string (mtx 17), .int .i64 18, .int .i64 19, .bool false, .string y.inn, .slice none 0 0, .bool y.owe, .int .i64 y.due, .int .i64 y.times]) := by rw [← hV2]; exact ((((((((E1.out).set 17 _)).set 18 _)).set 19 _)).set 20 _)
      have L2 : Hid (JustAt p w V2) := by rw [← hV2]; exact ((((((((M1.out).set 17 _)).set 18 _)).set 19 _)).set 20 _)
      go_wp2_with fail
      refine (markText_any 21 (by omega) _).mono ?_
      rintro e u2 ⟨rfl, b2⟩
      have E2 := hid (D2.out.on b2 D2.out.lt)
      have M2 := hid (L2.out.on b2)
      clear b2
      have z3_8 := E2.out.cell (j := 21) rfl
      have f3_8 := E2.out.thaw 21
      obtain ⟨V3, hV3⟩ : ∃ V, (u2.setCell ⟨p, 21, none⟩ (.string (mtx 21))) = V := ⟨_, rfl⟩
      have D3 : Hid (BlockIs V3 p 42 [.int .i64 1, .int .i64 2, .int .i64 3, .int .i64 4, .string (mtx 5), .int .i64 6, .int .i64 7, .bool false, .string (mtx 9), .slice none 0 0, .bool false, .int .i64 11, .int .i64 12, .int .i64 13, .int .i64 14, .int .i64 15, .int .i64 16, .string (mtx 17), .int .i64 18, .int .i64 19, .bool false, .string (mtx 21), .slice none 0 0, .bool y.owe, .int .i64 y.due, .int .i64 y.times]) := by rw [← hV3]; exact ((E2.out).set 21 _)
      have L3 : Hid (JustAt p w V3) := by rw [← hV3]; exact ((M2.out).set 21 _)
      have q9 := D3.out.cell (j := 22) rfl
      go_wp2_with fail
      refine (markLateS_nil none 0 22 _).mono ?_
      rintro e u9 ⟨rfl, hw9⟩
      rw [hw9]
      clear hw9 u9
      have z4_10 := D3.out.cell (j := 23) rfl
      have z4_11 := D3.out.cell (j := 24) rfl
      have z4_12 := D3.out.cell (j := 25) rfl
      have f4_10 := D3.out.thaw 23
      have f4_11 := D3.out.thaw 24
      have f4_12 := D3.out.thaw 25
      obtain ⟨V4, hV4⟩ : ∃ V, (((V3.setCell ⟨p, 23, none⟩ (.bool false)).setCell ⟨p, 24, none⟩ (.int .i64 23)).setCell ⟨p, 25, none⟩ (.int .i64 24)) = V := ⟨_, rfl⟩
      have D4 : Hid (BlockIs V4 p 42 [.int .i64 1, .int .i64 2, .int .i64 3, .int .i64 4, .string (mtx 5), .int .i64 6, .int .i64 7, .bool false, .string (mtx 9), .slice none 0 0, .bool false, .int .i64 11, .int .i64 12, .int .i64 13, .int .i64 14, .int .i64 15, .int .i64 16, .string (mtx 17), .int .i64 18, .int .i64 19, .bool false, .string (mtx 21), .slice none 0 0, .bool false, .int .i64 23, .int .i64 24]) := by rw [← hV4]; exact ((((((D3.out).set 23 _)).set 24 _)).set 25 _)
      have L4 : Hid (JustAt p w V4) := by rw [← hV4]; exact ((((((L3.out).set 23 _)).set 24 _)).set 25 _)
      go_wp2
      go_roundg (gk - 1)
      case measure => omega
      case rel => exact Or.inr (Or.inr ⟨by omega, rfl, rfl, D4.out, L4.out⟩)
    · go_wp2
      go_ret
      exact ⟨rfl, HR.out.1, HR.out.2⟩
end Go.Proofs.Ythkkhmmcgjcedaa
