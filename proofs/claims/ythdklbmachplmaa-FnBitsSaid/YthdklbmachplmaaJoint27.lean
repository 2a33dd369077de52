/-
  The walk of spec.l11Bits: some bits that wait, at most three, each of few parts.
-/
import Derived.Test.YthdklbmachplmaaJoint3
import Derived.Test.YthdklbmachplmaaJoint17
import Derived.Test.YthdklbmachplmaaJoint18
import Derived.Test.YthdklbmachplmaaJoint26
import Derived.Test.YthdklbmachplmaaJoint22
import Derived.Test.YthdklbmachplmaaJoint8
import Derived.Test.YthdklbmachplmaaJoint23
import Derived.Deep.LoopGhost
import Derived.Deep.RegionWith
namespace Go.Proofs.Ythdklbmachplmaa
open Go.RowKit

/-- what stands while a part is drawn -/
def BitsCls (w : World) (C : Nat) (va : Option Addr) (l : List BitD) (rs : List BitsD) (pg : Nat) (PA : List DgramD) (r9 : List Value) (W : World) : Prop := CurAt W C ∧ w.grownBy W (some C) ∧ BitsTy W va l rs w.heap.size ∧ BlockIs W pg 26 (dgramCells PA ++ r9)
theorem BitsCls.cur {w : World} {C : Nat} {va : Option Addr} {l : List BitD} {rs : List BitsD} {pg : Nat} {PA : List DgramD} {r9 : List Value} {W W' : World} (h : BitsCls w C va l rs pg PA r9 W) (hk : CurAt W' C) (hq : W.grownBy W' (some C)) (hC : C < w.heap.size) (hp : w.heap.size ≤ pg) : BitsCls w C va l rs pg PA r9 W' :=
  ⟨hk, h.2.1.trans hq, h.2.2.1.cur hq hC, h.2.2.2.cur hq (by omega)⟩

set_option maxRecDepth 1000000 in
set_option maxHeartbeats 8000000 in
theorem l11Bits_any (C : Nat) (w : World) (hc : CurAt w C) :
    Calls Try.prog 17 #[.pointer (some ⟨C, 0, none⟩)] w fun e w' => ∃ l va vc rs, e = .returned (.slice va (List.length l) vc) ∧ BitsOk l 8 ∧ BitsTy w' va l rs w.heap.size ∧ CurAt w' C ∧ w.grownBy w' (some C) := by
  have hCl := hc.lt
  have ba := below_more (Below.refl w.heap.size w) (.cells #[] 35)
  have K0 := hid (hc.below ba)
  have G0 := hid (grown_below (World.grownBy.refl w (some C)) ba)
  obtain ⟨W0, hW0⟩ : ∃ W, w.alloc (.cells #[] 35) = W := ⟨_, rfl⟩
  rw [hW0] at K0 G0
  clear hc ba
  go_enter Try.func17, Try.ntmps17
  go_wp2
  go_loopg [3, 4] 7 (fun q a b wr => ∃ (k : Nat), ∃ l va vc rs, k + q = 7 ∧ b = .int .i64 (k : Int) ∧ a = .slice va (List.length l) vc ∧ Hid (BitsOk l k) ∧ Hid (BitsTy wr va l rs w.heap.size) ∧ Hid (CurAt wr C) ∧ Hid (w.grownBy wr (some C)))
  case atStart => exact ⟨0, [], _, _, [], by omega, rfl, rfl, bitsOk_nil 0, ⟨Or.inl rfl, trivial⟩, K0, G0⟩
  case round =>
    obtain ⟨k, l, va, vc, rs, hkq, rfl, rfl, HOK, T1, K1, G1⟩ := hrel
    clear K0 G0 hW0
    go_wp2_with fail
    refine Calls.mono (l01Below_any C 7 (by omega) (by omega) _ K1.out) ?_
    rintro e w2 ⟨y, rfl, y0, y1, k2, q2⟩
    have K2 := hid k2
    have G2 := hid (G1.out.trans q2)
    have T2 := hid (T1.out.cur q2 hCl)
    clear k2 q2 K1 G1 T1
    by_cases hky : (k : Int) < y
    · obtain ⟨q, rfl⟩ : ∃ q, gk = q + 1 := ⟨gk - 1, by omega⟩
      go_wp2_with fail
      refine Calls.mono (l11Dgram_any C _ K2.out) ?_
      rintro e w3 ⟨d, rfl, hd, k3, q3⟩
      have K3 := hid k3
      have G3 := hid (G2.out.trans q3)
      have T3 := hid (T2.out.cur q3 hCl)
      have HDD := hid hd
      clear k3 q3 K2 G2 T2 hd
      go_wp2_with fail
      refine Calls.mono (l01Below_any C 2 (by omega) (by omega) _ K3.out) ?_
      rintro e w4 ⟨y2, rfl, y20, y21, k4, q4⟩
      have K4 := hid k4
      have G4 := hid (G3.out.trans q4)
      have T4 := hid (T3.out.cur q4 hCl)
      clear k4 q4 K3 G3 T3
      go_wp2_with fail
      refine Calls.mono (specCutDgram_any d (8 + 8 * y2) (by have := HDD.out.2.2.2.2.2; omega) _) ?_
      rintro e w5 ⟨pa, pc, rfl, hpc, hown, b5⟩
      have K5 := hid (K4.out.below b5)
      have G5 := hid (grown_below G4.out b5)
      have T5 := hid (T4.out.on b5)
      have HLO : Hid (w.heap.size ≤ w4.heap.size) := G4.out.size
      have HCO := hid (fun h => cutD_some (d := d) (size := 8 + 8 * y2) h)
      have HSM : Hid (∀ g ∈ cutD d (8 + 8 * y2), g.body.size ≤ 1048576) := fun g hg => cutD_small (by have := HDD.out.2.2.2.2.2; omega) hg
      obtain ⟨PA, hA⟩ : ∃ A, cutD d (8 + 8 * y2) = A := ⟨_, rfl⟩
      rw [hA] at HCO HSM hown hpc ⊢
      obtain ⟨ok, hok⟩ : ∃ ok, cutOk d (8 + 8 * y2) = ok := ⟨_, rfl⟩
      rw [hok] at HCO ⊢
      clear hA hok b5 K4 G4 T4 HDD
      cases ok with
      | false =>
        clear hown hpc HCO HSM
        go_wp2_with fail
        go_roundg q
        case measure => omega
        case rel => exact ⟨k + 1, l, va, vc, rs, by omega, by go_num, rfl, HOK.out.up (by omega), T5, K5, G5⟩
      | true =>
        obtain ⟨hA0, hA20⟩ := HCO.out rfl
        have hpx : ∃ pg r9, pa = some ⟨pg, 0, none⟩ ∧ w.heap.size ≤ pg ∧ BlockIs w5 pg 26 (dgramCells PA ++ r9) := by
          rcases hown with h0 | ⟨pg, r9, e1, e2, _, e4⟩
          · omega
          · exact ⟨pg, r9, e1, by have := HLO.out; omega, e4⟩
        obtain ⟨pg, r9, rfl, hpg, hpb⟩ := hpx
        have P5 := hid hpb
        have hk6 : k ≤ 6 := by omega
        clear hown hpb HCO
        have h5 : BitsCls w C va l rs pg PA r9 w5.drew := ⟨K5.out.below (below_drewN (Below.refl _ _) 1), grown_below G5.out (below_drewN (Below.refl _ _) 1), T5.out.on (below_drewN (Below.refl _ _) 1), P5.out.on (below_drewN (Below.refl _ _) 1) P5.out.lt⟩
        have H5 := hid h5
        have BA : Hid (∀ W, BitsCls w C va l rs pg PA r9 W → Calls Try.prog 22 #[.pointer (some ⟨C, 0, none⟩), .int .i64 (PA.length : Int)] W fun e W' => ∃ z : Nat, e = .returned (.int .i64 (z : Int)) ∧ z < PA.length ∧ Hid (BitsCls w C va l rs pg PA r9 W')) := fun W hW => by
          refine (l01Below_any C (PA.length : Int) (by omega) (by omega) W hW.1).mono ?_
          rintro e W' ⟨z, rfl, z0, z1, k', q'⟩
          exact ⟨z.toNat, by rw [show ((z.toNat : Nat) : Int) = z by omega], by omega, hW.cur k' q' hCl hpg⟩
        have BT : Hid (∀ W, BitsCls w C va l rs pg PA r9 W → Calls Try.prog 22 #[.pointer (some ⟨C, 0, none⟩), .int .i64 20] W fun e W' => ∃ yy : Int, e = .returned (.int .i64 yy) ∧ Hid (BitsCls w C va l rs pg PA r9 W')) := fun W hW => by
          refine (l01Below_any C 20 (by omega) (by omega) W hW.1).mono ?_
          rintro e W' ⟨z, rfl, z0, z1, k', q'⟩
          exact ⟨z, rfl, hW.cur k' q' hCl hpg⟩
        have BJ : Hid (∀ W (z : Nat) (hz : z < PA.length) (yy : Int), BitsCls w C va l rs pg PA r9 W → Calls Try.prog 8 #[.slice va l.length vc, .agg #[.int .i64 PA[z].src, .int .i64 PA[z].dst, .int .i64 PA[z].ident, .int .i64 PA[z].place, .bool PA[z].more, .string PA[z].body], .int .i64 yy] W fun e W' => ∃ va' vc' rs' l' g' ok', e = .returned (.tuple #[.slice va' (List.length l') vc', .agg #[.int .i64 (g' : DgramD).src, .int .i64 (g' : DgramD).dst, .int .i64 (g' : DgramD).ident, .int .i64 (g' : DgramD).place, .bool (g' : DgramD).more, .string (g' : DgramD).body], .bool ok']) ∧ Hid (BitsOk l' (k + 1)) ∧ Hid (BitsTy W' va' l' rs' w.heap.size) ∧ Hid (CurAt W' C) ∧ Hid (w.grownBy W' (some C))) := fun W z hz yy hW => by
          refine (specJoinBits_any va l vc PA[z] yy HOK.out.1 (fun e he => ⟨(HOK.out.2 e he).1, by have := (HOK.out.2 e he).2.1; omega⟩) (HSM.out _ (List.getElem_mem hz)) W hW.2.2.1.holds).mono ?_
          rintro e W' ⟨va', vc', rs', rfl, hcap, hty, hb⟩
          exact ⟨va', vc', rs', _, (joinB l PA[z] yy).2.1, (joinB l PA[z] yy).2.2, rfl, join_ok HOK.out (by omega), hty.low hW.2.1.size, hW.1.below hb, grown_below hW.2.1 hb⟩
        clear h5 T5 K5 G5 P5 HSM
        go_wp2_with fail
        go_region_with (first | (go_at_call_of 22 (Value.int .i64 20); refine Calls.mono (BT.out _ HA.out) ?_; rintro e wHBA ⟨yy, rfl, HBA⟩; have cHBA0 : World.cell? wHBA ⟨pg, z * 6, none⟩ = some (.int .i64 PA[z].src) := HBA.out.2.2.2.cell (row_at dgramEnc 6 (fun _ => rfl) PA r9 z 0 hz (by omega)); have cHBA1 : World.cell? wHBA ⟨pg, z * 6 + 1, none⟩ = some (.int .i64 PA[z].dst) := HBA.out.2.2.2.cell (row_at dgramEnc 6 (fun _ => rfl) PA r9 z 1 hz (by omega)); have cHBA2 : World.cell? wHBA ⟨pg, z * 6 + 2, none⟩ = some (.int .i64 PA[z].ident) := HBA.out.2.2.2.cell (row_at dgramEnc 6 (fun _ => rfl) PA r9 z 2 hz (by omega)); have cHBA3 : World.cell? wHBA ⟨pg, z * 6 + 3, none⟩ = some (.int .i64 PA[z].place) := HBA.out.2.2.2.cell (row_at dgramEnc 6 (fun _ => rfl) PA r9 z 3 hz (by omega)); have cHBA4 : World.cell? wHBA ⟨pg, z * 6 + 4, none⟩ = some (.bool PA[z].more) := HBA.out.2.2.2.cell (row_at dgramEnc 6 (fun _ => rfl) PA r9 z 4 hz (by omega)); have cHBA5 : World.cell? wHBA ⟨pg, z * 6 + 5, none⟩ = some (.string PA[z].body) := HBA.out.2.2.2.cell (row_at dgramEnc 6 (fun _ => rfl) PA r9 z 5 hz (by omega)); clear HA) | (go_at_call_of 22 (Value.int .i64 20); refine Calls.mono (BT.out _ H5.out) ?_; rintro e wHB ⟨yy, rfl, HB⟩; clear H5) | (go_at_call 8; refine Calls.mono (BJ.out _ z hz yy HBA.out) ?_; rintro e w6 ⟨va', vc', rs', l', g', ok', rfl, O6, T6, K6, G6⟩) | (go_at_call 8; refine Calls.mono (BJ.out _ z hz yy HAB.out) ?_; rintro e w6 ⟨va', vc', rs', l', g', ok', rfl, O6, T6, K6, G6⟩) | (go_at_call 22; refine Calls.mono (BA.out _ H5.out) ?_; rintro e wHA ⟨z, rfl, hz, HA⟩; have cHA0 : World.cell? wHA ⟨pg, z * 6, none⟩ = some (.int .i64 PA[z].src) := HA.out.2.2.2.cell (row_at dgramEnc 6 (fun _ => rfl) PA r9 z 0 hz (by omega)); have cHA1 : World.cell? wHA ⟨pg, z * 6 + 1, none⟩ = some (.int .i64 PA[z].dst) := HA.out.2.2.2.cell (row_at dgramEnc 6 (fun _ => rfl) PA r9 z 1 hz (by omega)); have cHA2 : World.cell? wHA ⟨pg, z * 6 + 2, none⟩ = some (.int .i64 PA[z].ident) := HA.out.2.2.2.cell (row_at dgramEnc 6 (fun _ => rfl) PA r9 z 2 hz (by omega)); have cHA3 : World.cell? wHA ⟨pg, z * 6 + 3, none⟩ = some (.int .i64 PA[z].place) := HA.out.2.2.2.cell (row_at dgramEnc 6 (fun _ => rfl) PA r9 z 3 hz (by omega)); have cHA4 : World.cell? wHA ⟨pg, z * 6 + 4, none⟩ = some (.bool PA[z].more) := HA.out.2.2.2.cell (row_at dgramEnc 6 (fun _ => rfl) PA r9 z 4 hz (by omega)); have cHA5 : World.cell? wHA ⟨pg, z * 6 + 5, none⟩ = some (.string PA[z].body) := HA.out.2.2.2.cell (row_at dgramEnc 6 (fun _ => rfl) PA r9 z 5 hz (by omega)); clear H5) | (go_at_call 22; refine Calls.mono (BA.out _ HB.out) ?_; rintro e wHAB ⟨z, rfl, hz, HAB⟩; have cHAB0 : World.cell? wHAB ⟨pg, z * 6, none⟩ = some (.int .i64 PA[z].src) := HAB.out.2.2.2.cell (row_at dgramEnc 6 (fun _ => rfl) PA r9 z 0 hz (by omega)); have cHAB1 : World.cell? wHAB ⟨pg, z * 6 + 1, none⟩ = some (.int .i64 PA[z].dst) := HAB.out.2.2.2.cell (row_at dgramEnc 6 (fun _ => rfl) PA r9 z 1 hz (by omega)); have cHAB2 : World.cell? wHAB ⟨pg, z * 6 + 2, none⟩ = some (.int .i64 PA[z].ident) := HAB.out.2.2.2.cell (row_at dgramEnc 6 (fun _ => rfl) PA r9 z 2 hz (by omega)); have cHAB3 : World.cell? wHAB ⟨pg, z * 6 + 3, none⟩ = some (.int .i64 PA[z].place) := HAB.out.2.2.2.cell (row_at dgramEnc 6 (fun _ => rfl) PA r9 z 3 hz (by omega)); have cHAB4 : World.cell? wHAB ⟨pg, z * 6 + 4, none⟩ = some (.bool PA[z].more) := HAB.out.2.2.2.cell (row_at dgramEnc 6 (fun _ => rfl) PA r9 z 4 hz (by omega)); have cHAB5 : World.cell? wHAB ⟨pg, z * 6 + 5, none⟩ = some (.string PA[z].body) := HAB.out.2.2.2.cell (row_at dgramEnc 6 (fun _ => rfl) PA r9 z 5 hz (by omega)); clear HB))
        all_goals
          go_wp2_with fail
          go_roundg q
          case measure => omega
          case rel => exact ⟨k + 1, l', va', vc', rs', by omega, by go_num, rfl, O6, T6, K6, G6⟩
    · have HK : Hid (k ≤ 7) := (show _ ≤ _ by omega)
      by_cases hl0 : l = []
      · subst hl0
        go_wp2_with fail
        go_ret
        exact ⟨[], va, vc, rs, rfl, HOK.out.up (by have := HK.out; omega), T2.out, K2.out, G2.out⟩
      · obtain ⟨e0, r0, rfl⟩ : ∃ e0 r0, l = e0 :: r0 := by
          cases l with
          | nil => exact absurd rfl hl0
          | cons e0 r0 => exact ⟨e0, r0, rfl⟩
        have hlp : (0 : Int) < ((e0 :: r0 : List BitD).length : Int) := by have : 0 < (e0 :: r0 : List BitD).length := Nat.succ_pos _; omega
        obtain ⟨N, hN⟩ : ∃ N, (e0 :: r0 : List BitD).length = N := ⟨_, rfl⟩
        have HNN := hid hN
        rw [hN] at hlp ⊢
        clear hN hl0
        go_wp2_with fail
        refine Calls.mono (l01Once_any C 10 (by omega) (by omega) _ K2.out) ?_
        rintro e w3 ⟨bb, rfl, k3, q3⟩
        have K3 := hid k3
        have G3 := hid (G2.out.trans q3)
        have T3 := hid (T2.out.cur q3 hCl)
        clear k3 q3 K2 G2 T2
        cases bb with
        | false =>
          go_wp2_with fail
          go_ret
          exact ⟨e0 :: r0, va, vc, rs, by rw [HNN.out]; rfl, HOK.out.up (by have := HK.out; omega), T3.out, K3.out, G3.out⟩
        | true =>
          go_wp2_with fail
          refine Calls.mono (pickI_any C [-1, 8, 500] (by decide) (by decide) 3 _ _ rfl K3.out) ?_
          rintro e w4 ⟨x, rfl, hx, k4, q4⟩
          have hx2 : x ≤ 1000 := by simp at hx; omega
          have K4 := hid k4
          have G4 := hid (G3.out.trans q4)
          have t4 := T3.out.cur q4 hCl
          have hva : ∃ rb, va = some ⟨rb, 0, none⟩ := by
            rcases t4.1 with h0 | ⟨rb, r5, h1, _⟩
            · have := t4.2.length; rw [h0] at this; simp at this
            · exact ⟨rb, h1⟩
          obtain ⟨rb, rfl⟩ := hva
          obtain ⟨c4, f4, hlo, rs', ht'⟩ := t4.tot x
          have T5 := hid ht'
          have K5 := hid (K4.out.set (b := rb) (j := 4) (v := .int .i64 x) (by omega))
          have G5 := hid (grown_far (b := rb) (j := 4) (v := .int .i64 x) G4.out hlo)
          have O5 := hid (totB_ok HOK.out hx2)
          clear k4 q4 hx t4 ht' K3 G3 T3
          go_wp2_with fail
          go_ret
          exact ⟨totB e0 x :: r0, _, vc, rs', by rw [← HNN.out]; rfl, O5.out.up (by have := HK.out; omega), T5.out, K5.out, G5.out⟩
end Go.Proofs.Ythdklbmachplmaa
