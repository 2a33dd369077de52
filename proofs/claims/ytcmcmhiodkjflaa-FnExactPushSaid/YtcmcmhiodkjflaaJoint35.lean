/-
  The walk of impl.(*endpoint).sendWait: what waits goes out, piece by piece.
-/
import Derived.Test.YtcmcmhiodkjflaaJoint34
import Derived.Deep.RegionWith
import Derived.Deep.DeepCutAuto
import Derived.Deep.LoopGhost
namespace Go.Proofs.Ytcmcmhiodkjflaa
open Go.RowKit

set_option maxRecDepth 1000000 in
set_option maxHeartbeats 4000000 in
theorem sendWait_any (lo g : Nat) (d : StrD) (now : Int) (out : List SegD) (hn : out.length ≤ 10) (hw : d.wait.size ≤ 200) (hs : 0 ≤ d.sent ∧ d.sent ≤ (roomD d : Int)) (w : World) (h : EpIs w lo g d now out) :
    Calls Try.prog 67 #[.pointer (some ⟨g, 0, none⟩)] w fun e w' => e = .returned (.tuple #[]) ∧ EpTo lo g w w' (waitD d) now (out ++ waitSegs d) := by
  have H := hid h
  obtain ⟨s1, s2⟩ := hs
  have hr : roomD d = min d.wait.size 24 := rfl
  obtain ⟨R, hR⟩ : ∃ R, roomD d = R := ⟨_, rfl⟩
  rw [hR] at hr s2
  obtain ⟨S, hS⟩ : ∃ S : Nat, d.sent = (S : Int) := ⟨d.sent.toNat, by omega⟩
  have hSR : S ≤ R := by omega
  have HW : Hid (waitD d = { d with sent := (R : Int) } ∧ waitSegs d = segsW d.una d.rcv d.wait R 25 S) := by show _ ∧ _; rw [waitD, waitSegs, hR, hS]; exact ⟨rfl, rfl⟩
  have HD : Hid (d = { d with sent := (S : Int) }) := by show _ = _; rw [← hS]
  rw [HW.out.1, HW.out.2]
  have HR24 := hid hr
  have hR24 : R ≤ 24 ∧ R ≤ d.wait.size := by omega
  obtain ⟨r24, rw9⟩ := hR24
  have HS0 : Hid (EpTo lo g w w { d with sent := (S : Int) } now out) := by rw [← HD.out]; exact H.out.to
  clear s1 s2 hS hr HD
  obtain ⟨_, ao, cap, ov, oc, hb, _, _⟩ := h
  have c4 := hb.cell (j := 4) rfl
  clear hb
  clear hR
  go_enter Try.func67, Try.ntmps67
  go_upto_region 0 with fail
  go_cut [2] (fun c wx => c = .int .i64 (R : Int) ∧ wx = w)
  case first =>
    go_wp2_with fail
    all_goals (go_meet; exact ⟨by have := HR24.out; refine congrArg (Value.int .i64) (?_ : _ = _); omega, rfl⟩)
  case rest =>
    obtain ⟨rfl, hwx⟩ := hcut
    rw [hwx]
    clear hwx wc c4
    go_wp2_with fail
    go_loopg [3] R (fun q _ wr => ∃ (s : Nat) (o2 : List SegD), s ≤ R ∧ R ≤ s + q ∧ Hid (o2.length + q ≤ out.length + R + 1) ∧ Hid (∃ f, R ≤ s + f ∧ o2 ++ segsW d.una d.rcv d.wait R f s = out ++ segsW d.una d.rcv d.wait R 25 S) ∧ Hid (EpTo lo g w wr { d with sent := (s : Int) } now o2))
    case atStart => exact ⟨S, out, hSR, by omega, (show _ ≤ _ by omega), ⟨25, by omega, rfl⟩, HS0⟩
    case round =>
      obtain ⟨s, o2, hsR, hsq, HN, HF, HE⟩ := hrel
      clear HS0
      obtain ⟨_, ao1, cap1, ov1, oc1, hb1, _, _⟩ := HE.out.1
      have c4 := hb1.cell (j := 4) rfl
      have c5 := hb1.cell (j := 5) rfl
      clear hb1
      dsimp only at c4 c5
      by_cases hlt : s < R
      rotate_left
      · have hlt' : ¬ (s : Int) < (R : Int) := by omega
        have HL : Hid (EpTo lo g w wr { d with sent := (R : Int) } now (out ++ segsW d.una d.rcv d.wait R 25 S)) := by
          obtain ⟨f, _, hf⟩ := HF.out
          rw [segsW_done _ _ _ _ _ _ (by omega), List.append_nil] at hf
          rw [← hf, show R = s by omega]
          exact HE.out
        clear HE HF HN
        go_wp2
        go_end0
        exact ⟨rfl, HL.out⟩
      have hlt' : (s : Int) < (R : Int) := by omega
      obtain ⟨nx, hnx⟩ : ∃ nx : Nat, min (s + 8) R = nx := ⟨_, rfl⟩
      have HNX := hid hnx
      have hnx2 : s < nx ∧ nx ≤ R ∧ nx ≤ s + 8 := by omega
      obtain ⟨n1, n2, n3⟩ := hnx2
      clear hnx
      go_upto_region 2 with fail
      go_cut [3] (fun c wx => c = .int .i64 (nx : Int) ∧ wx = wr)
      case first =>
        go_wp2_with fail
        all_goals (go_meet; exact ⟨by have := HNX.out; refine congrArg (Value.int .i64) (?_ : _ = _); omega, rfl⟩)
      case rest =>
        obtain ⟨rfl, hwx⟩ := hcut
        rw [hwx]
        clear hwx wc
        have i1 : s ≤ nx := by omega
        have i2 : nx ≤ d.wait.size := by omega
        have i3 : (s : Int) ≤ (nx : Int) := by omega
        have i4 : (nx : Int) ≤ (d.wait.size : Int) := by omega
        obtain ⟨tx, htx⟩ : ∃ tx, d.wait.extract s nx = tx := ⟨_, rfl⟩
        have hts : tx.size ≤ 1048576 := by rw [← htx, ByteArray.size_extract]; omega
        have hon : o2.length ≤ 100 := by have := HN.out; omega
        have CS : Hid (Calls Try.prog 70 #[.pointer (some ⟨g, 0, none⟩), .int .i64 2, .int .i64 (s : Int), .string tx] wr.drew fun e w' => e = .returned (.tuple #[]) ∧ EpTo lo g w w' { d with sent := (s : Int) } now (o2 ++ [⟨addNum d.una s, d.rcv, 2, tx⟩])) := by
          refine Calls.mono (send_any lo g { d with sent := (s : Int) } now o2 2 s tx hon hts wr.drew HE.out.drew.1) ?_
          rintro e w1 ⟨rfl, h1⟩
          exact ⟨rfl, HE.out.drew.trans h1⟩
        go_wp2
        go_region_with (go_at_call 70; refine Calls.mono CS.out ?_; rintro e w1 ⟨rfl, h1⟩)
        all_goals
          have H1 := hid h1
          obtain ⟨_, ao2, cap2, ov2, oc2, hb2, _, _⟩ := h1.1
          have k5 := hb2.cell (j := 5) rfl
          have j5 := hb2.thaw 5
          clear hb2 h1 CS
          have HF2 : Hid (∃ f, R ≤ nx + f ∧ (o2 ++ [⟨addNum d.una s, d.rcv, 2, tx⟩]) ++ segsW d.una d.rcv d.wait R f nx = out ++ segsW d.una d.rcv d.wait R 25 S) := by
            obtain ⟨f, hf1, hf2⟩ := HF.out
            cases f with
            | zero => omega
            | succ f =>
              refine ⟨f, by omega, ?_⟩
              rw [← hf2, segsW_step _ _ _ _ _ _ hlt, HNX.out, htx, List.append_assoc]
              rfl
          have HN2 : Hid ((o2 ++ [(⟨addNum d.una s, d.rcv, 2, tx⟩ : SegD)]).length + (gk - 1) ≤ out.length + R + 1) := by show _ ≤ _; rw [List.length_append, List.length_singleton]; have := HN.out; omega
          clear HF HN HE htx
          obtain ⟨O3, hO3⟩ : ∃ O3, o2 ++ [(⟨addNum d.una s, d.rcv, 2, tx⟩ : SegD)] = O3 := ⟨_, rfl⟩
          rw [hO3] at HF2 HN2 H1
          clear hO3
          go_wp2
          go_roundg (gk - 1)
          case measure => omega
          case rel => exact ⟨nx, O3, n2, by omega, HN2, HF2, H1.out.sent nx⟩
end Go.Proofs.Ytcmcmhiodkjflaa
