/-
  For every slice of bytes, laws.FnKeeps returns true: of a drawn right disk what is kept is never lost, of what is not kept a beginning is left, and lost again nothing more is lost; nothing that was in memory is written.
-/
import Derived.Test.YtfkknmhokiacaaaRows
import Derived.Test.YtfkknmhokiacaaaDrawRightDisk
import Derived.Test.YtfkknmhokiacaaaLefts
import Derived.Test.YtfkknmhokiacaaaBig
import Derived.Test.YtfkknmhokiacaaaSameDisk
import Derived.Test.YtfkknmhokiacaaaBegins
import Derived.Test.YtfkknmhokiacaaaAllKeptI
import Derived.Test.YtfkknmhokiacaaaLoseI
import Derived.Test.YtfkknmhokiacaaaPlainKeeps
import Derived.WalkSmall
import Derived.WalkKit
import Derived.ProofKit
import Derived.OpenShut
import Derived.OpenVars
import Derived.Deep.DeepHandedRow
import Derived.Lib.LaidTab
import Derived.Stop.LaidErr
namespace Go.Proofs.Ytfkknmhokiacaaa.fnKeeps
open Go.ChangeShapes Go.WideShapes Go.ChangeAt Go.ChangeMaps Go.RowKit

set_option maxRecDepth 1000000 in
set_option maxHeartbeats 4000000 in
theorem walk (ao : Option Addr) (len cap : Nat) (hcap : len ≤ cap) (w : World) (hr : Bytes w ao len) :
    Calls Try.prog 3 #[.slice ao len cap] w fun e w' => e = .returned (.bool true) ∧ Below w.heap.size w w' := by
  have HR := hid hr
  clear hr
  by_cases hbig : 1048576 < len
  · go_enter Try.func3, Try.ntmps3
    go_wp2
    go_ret
    exact ⟨rfl, Below.refl _ _⟩
  have hlen : len ≤ 1048576 := by omega
  clear hbig
  go_enter Try.func3, Try.ntmps3
  go_wp2_with fail
  refine (big_no ao len cap hlen _).mono ?_
  rintro e w0 ⟨rfl, hw0⟩
  rw [hw0]
  clear hw0 w0
  go_wp2_with fail
  refine (drawRightDisk_any ao len cap hlen hcap _ HR.out).mono ?_
  rintro e w1 ⟨l, va, vc, rfl, hd, fa, b1⟩
  have HD := hid hd
  have hl30 : l.length ≤ 30 := by
    rw [diskOk, Bool.and_eq_true] at hd
    simpa using hd.1
  have B1 := hid b1
  -- the disk's box
  have X1 : Hid (BlockIs (w1.alloc (.cells #[.slice va l.length vc] 26)) w1.heap.size 26 [.slice va l.length vc]) := heap_alloc_new w1 _
  have b1a := below_more (Below.refl w1.heap.size w1) (.cells #[.slice va l.length vc] 26)
  have F1 := hid (fa.on b1a)
  have B1a := hid (below_via B1.out b1a)
  obtain ⟨P, hP⟩ : ∃ P, w1.heap.size = P := ⟨_, rfl⟩
  obtain ⟨W1, hW1⟩ : ∃ W1, w1.alloc (.cells #[.slice va l.length vc] 26) = W1 := ⟨_, rfl⟩
  rw [hW1] at X1 F1 B1a
  rw [hP] at X1
  have hwP : w.heap.size ≤ P := by rw [← hP]; exact B1.out.size
  clear hd fa b1 b1a B1
  go_wp2_with fail
  refine (drawPlaces_any ao len cap hlen hcap _ (bytes_on HR.out B1a.out)).mono ?_
  rintro e w2 ⟨p, rfl, hp, b2⟩
  have HP2 := hid hp
  have X2 := hid (X1.out.on b2 X1.out.lt)
  have F2 := hid (F1.out.on b2)
  have B2 := hid (below_via B1a.out b2)
  clear hp b2 X1 F1 B1a hW1
  go_wp2_with fail
  refine (lefts_any _ _ HP2.out).mono ?_
  rintro e w3 ⟨zs, zo, zc, rfl, hz6, hz, b3⟩
  have HZ := hid hz
  have HZ6 := hid hz6
  have X3 := hid (X2.out.on b3 X2.out.lt)
  have F3 := hid (F2.out.on b3)
  have B3 := hid (below_via B2.out b3)
  have c3 := X3.out.cell (j := 0) rfl
  clear hz hz6 b3 X2 F2 B2 HP2
  go_wp2_with fail
  refine (implLoseDisk_yes va l vc zo zs zc (by rw [HZ6.out]; omega) HD.out _ F3.out HZ.out).mono ?_
  rintro e w4 ⟨g4, hg4, rfl, k4, b4⟩
  obtain ⟨n, hn⟩ : ∃ n, l.length = n := ⟨_, rfl⟩
  obtain ⟨m, hm⟩ : ∃ m, loseTo l zs l.length = m := ⟨_, rfl⟩
  have hmn : m.length = n := by rw [← hm, ← hn]; exact loseTo_length (Nat.le_refl _)
  have HMD : Hid (diskOk m = true) := by rw [← hm]; exact lose_right HD.out
  have HMT : Hid (loseTo m [] m.length = m) := by rw [← hm]; exact lose_twice HD.out
  have HMK : Hid (allKept m = true) := by rw [← hm]; exact lose_kept HD.out
  have HMG : Hid (∀ k (hk : k < l.length) (hk2 : k < m.length), m[k] = lostOf l[k] (zs.getD k 0)) := by
    subst hm
    intro k hk hk2
    exact lose_get hk hk2
  rw [hm] at k4
  rw [hn] at hl30 c3 ⊢
  have X4 := hid (X3.out.on b4 X3.out.lt)
  have F4 := hid (F3.out.on b4)
  have B4 := hid (below_via B3.out b4)
  rw [hn] at X4
  have K4 := hid k4
  have hEx : BlockIs (w4.alloc (.cells #[.slice (some ⟨g4, 0, none⟩) n n] 26)) w4.heap.size 26 [.slice (some ⟨g4, 0, none⟩) n n] := heap_alloc_new w4 _
  have b4a := below_more (Below.refl w4.heap.size w4) (.cells #[.slice (some ⟨g4, 0, none⟩) n n] 26)
  obtain ⟨E, hE⟩ : ∃ E, w4.heap.size = E := ⟨_, rfl⟩
  obtain ⟨W4, hW4⟩ : ∃ W4, w4.alloc (.cells #[.slice (some ⟨g4, 0, none⟩) n n] 26) = W4 := ⟨_, rfl⟩
  have hs4 : W4.heap.size = E + 1 := by rw [← hW4, ← hE]; exact World.size_alloc _ _
  rw [hW4] at hEx b4a
  rw [hE] at hEx
  have b5a := below_more (Below.refl W4.heap.size W4) (.cells #[] 3)
  obtain ⟨W5, hW5⟩ : ∃ W5, W4.alloc (.cells #[] 3) = W5 := ⟨_, rfl⟩
  rw [hW5] at b5a
  have b45 := below_via b4a b5a
  have E5 := hid (hEx.on b5a hEx.lt)
  have X5 := hid (X4.out.on b45 X4.out.lt)
  have F5 := hid (F4.out.on b45)
  have K5 := hid (K4.out.on b45 K4.out.lt)
  have B5 := hid (below_via B4.out b45)
  have c4e := hEx.cell (j := 0) rfl
  have CL2 : Hid (Calls Try.prog 11 #[.agg #[.slice (some ⟨g4, 0, none⟩) n n], .slice (some ⟨E + 1, 0, none⟩) 0 0] W5 fun e w' => ∃ g, W5.heap.size ≤ g ∧ e = .returned (.tuple #[.agg #[.slice (some ⟨g, 0, none⟩) n n], .bool true]) ∧ BlockIs w' g 36 (fileCells m) ∧ Below W5.heap.size W5 w') := by
    have := implLoseDisk_yes (some ⟨g4, 0, none⟩) m n (some ⟨E + 1, 0, none⟩) [] 0 (by simp) HMD.out W5 (filesAt_of (r := []) (by rw [List.append_nil]; exact K5.out)) (fun h => absurd rfl h)
    rw [HMT.out, hmn] at this
    exact this
  clear k4 b4 X3 F3 B3 HZ HZ6 c3 hEx b4a b5a b45 X4 F4 K4 B4
  go_wp2_with fail
  refine Calls.mono CL2.out ?_
  rintro e w6 ⟨g6, hg6, rfl, k6, b6⟩
  have E6 := hid (E5.out.on b6 E5.out.lt)
  have X6 := hid (X5.out.on b6 X5.out.lt)
  have F6 := hid (F5.out.on b6)
  have K6 := hid (K5.out.on b6 K5.out.lt)
  have G6 := hid k6
  have B6 := hid (below_via B5.out b6)
  have hFx : BlockIs (w6.alloc (.cells #[.slice (some ⟨g6, 0, none⟩) n n] 26)) w6.heap.size 26 [.slice (some ⟨g6, 0, none⟩) n n] := heap_alloc_new w6 _
  have b6a := below_more (Below.refl w6.heap.size w6) (.cells #[.slice (some ⟨g6, 0, none⟩) n n] 26)
  obtain ⟨Fb, hFb⟩ : ∃ Fb, w6.heap.size = Fb := ⟨_, rfl⟩
  obtain ⟨W6, hW6⟩ : ∃ W6, w6.alloc (.cells #[.slice (some ⟨g6, 0, none⟩) n n] 26) = W6 := ⟨_, rfl⟩
  rw [hW6] at hFx b6a
  rw [hFb] at hFx
  have E7 := hid (E6.out.on b6a E6.out.lt)
  have X7 := hid (X6.out.on b6a X6.out.lt)
  have F7 := hid (F6.out.on b6a)
  have K7 := hid (K6.out.on b6a K6.out.lt)
  have G7 := hid (G6.out.on b6a G6.out.lt)
  have B7 := hid (below_via B6.out b6a)
  have cx := X7.out.cell (j := 0) rfl
  have ce := E7.out.cell (j := 0) rfl
  have cf := hFx.cell (j := 0) rfl
  have CS : Hid (Calls Try.prog 12 #[.agg #[.slice (some ⟨g4, 0, none⟩) n n], .agg #[.slice (some ⟨g6, 0, none⟩) n n]] W6 fun e w' => e = .returned (.bool true) ∧ w'.cell? ⟨E, 0, none⟩ = some (.slice (some ⟨g4, 0, none⟩) n n) ∧ w'.cell? ⟨P, 0, none⟩ = some (.slice va n vc) ∧ Hid (Below W6.heap.size W6 w')) := by
    have := sameDisk_same (some ⟨g4, 0, none⟩) (some ⟨g6, 0, none⟩) m n n (by omega) W6 (filesAt_of (r := []) (by rw [List.append_nil]; exact K7.out)) (filesAt_of (r := []) (by rw [List.append_nil]; exact G7.out))
    rw [hmn] at this
    refine this.mono ?_
    rintro e w' ⟨rfl, hb⟩
    exact ⟨rfl, (E7.out.on hb E7.out.lt).cell (j := 0) rfl, (X7.out.on hb X7.out.lt).cell (j := 0) rfl, hb⟩
  have CK : Hid (∀ w', Hid (Below W6.heap.size W6 w') → Calls Try.prog 13 #[.agg #[.slice (some ⟨g4, 0, none⟩) n n]] w' fun e w2 => e = .returned (.bool true) ∧ w2.cell? ⟨P, 0, none⟩ = some (.slice va n vc) ∧ Hid (Below W6.heap.size W6 w2)) := by
    intro w' hw
    have := implAllKept_any (some ⟨g4, 0, none⟩) m n (by omega) w' (filesAt_of (r := []) (by rw [List.append_nil]; exact K7.out.on hw.out K7.out.lt))
    rw [hmn, HMK.out] at this
    refine this.mono ?_
    rintro e w2 ⟨rfl, hb⟩
    have hb2 := below_via hw.out hb
    exact ⟨rfl, (X7.out.on hb2 X7.out.lt).cell (j := 0) rfl, hb2⟩
  have CD : Hid (∀ w', Hid (Below W6.heap.size W6 w') → Calls Try.prog 14 #[.agg #[.slice va n vc]] w' fun e w2 => e = .returned (.bool true) ∧ Hid (Below W6.heap.size W6 w2)) := by
    intro w' hw
    have := implDiskOk_any va l vc (by omega) w' (F7.out.on hw.out)
    rw [hn, HD.out] at this
    refine this.mono ?_
    rintro e w2 ⟨rfl, hb⟩
    exact ⟨rfl, below_via hw.out hb⟩
  clear k6 b6 CL2 E5 X5 F5 K5 B5 c4e E6 X6 F6 K6 G6 B6 hFx b6a
  go_wp2_with (first | (go_at_call 12; refine Calls.mono CS.out ?_; rintro e w7 ⟨rfl, ce7, cx7, hb7⟩) | (go_at_call 13; refine Calls.mono (CK.out _ hb7) ?_; rintro e w8 ⟨rfl, cx8, hb8⟩) | (go_at_call 14; refine Calls.mono (CD.out _ hb8) ?_; rintro e w9 ⟨rfl, hb9⟩))
  have X9 := hid (X7.out.on hb9.out X7.out.lt)
  have E9 := hid (E7.out.on hb9.out E7.out.lt)
  have F9 := hid (F7.out.on hb9.out)
  have K9 := hid (K7.out.on hb9.out K7.out.lt)
  have B9 := hid (below_via B7.out hb9.out)
  clear hb7 hb8 hb9 ce7 cx7 cx8 CS CK CD X7 E7 F7 K7 G7 B7 cx ce cf hW4 hW5 hW6
  go_loopw [9] (fun i wr => ∃ (k : Nat), k ≤ n ∧ i = .int .i64 k ∧ Hid (Below w9.heap.size w9 wr)) (fun i _ => n - (intOf i).toNat)
  case atStart => exact ⟨0, Nat.zero_le _, rfl, Below.refl _ _⟩
  case round =>
    obtain ⟨k, hk, rfl, HBr⟩ := hrel
    have X := X9.out.on HBr.out X9.out.lt
    have Ex := E9.out.on HBr.out E9.out.lt
    have cx := X.cell (j := 0) rfl
    have ce := Ex.cell (j := 0) rfl
    by_cases hlt : k < n
    · have hkl : k < l.length := by omega
      have hkm : k < m.length := by omega
      have hne : l ≠ [] := by intro e; rw [e] at hkl; simp at hkl
      have hnem : m ≠ [] := by intro e; rw [e] at hkm; simp at hkm
      obtain ⟨b1, o1, rfl, h1⟩ := (F9.out.on HBr.out) hne
      obtain ⟨b2, o2, e2, h2⟩ := (filesAt_of (r := []) (by rw [List.append_nil]; exact K9.out.on HBr.out K9.out.lt) : FilesAt wr (some ⟨g4, 0, none⟩) m) hnem
      obtain ⟨x0, x1, x2⟩ := h1 k hkl
      obtain ⟨y0, y1, y2⟩ := h2 k hkm
      simp only [Option.some.injEq, Addr.mk.injEq, and_true] at e2
      obtain ⟨rfl, rfl⟩ := e2
      rw [HMG.out k hkl hkm] at y0 y1 y2
      obtain ⟨q0, q1, q2⟩ := diskOk_kept HD.out hkl
      have hlb := left_bd (n := zs.getD k 0) q0 q1
      obtain ⟨N, hN⟩ : ∃ N, l[k].name = N := ⟨_, rfl⟩
      obtain ⟨T, hT⟩ : ∃ T, l[k].text = T := ⟨_, rfl⟩
      obtain ⟨V, hV⟩ : ∃ V, leftOf l[k] (zs.getD k 0) = V := ⟨_, rfl⟩
      obtain ⟨kp, hkp⟩ : ∃ kp : Nat, l[k].kept = kp := ⟨l[k].kept.toNat, by omega⟩
      obtain ⟨vn, hvn⟩ : ∃ vn : Nat, V = vn := ⟨V.toNat, by omega⟩
      subst hvn
      simp only [lostOf] at y0 y1 y2
      rw [hN] at x0 y0
      rw [hT, hV] at y1
      rw [hT] at x1 q1 q2 hlb
      rw [hkp] at x2 q1 hlb
      rw [hV] at y2 hlb
      simp only [Int.toNat_natCast] at y1
      obtain ⟨Y, hY⟩ : ∃ Y, T.extract 0 vn = Y := ⟨_, rfl⟩
      have hYs : Y.size = vn := by rw [← hY, ByteArray.size_extract]; omega
      obtain ⟨Z, hZ⟩ : ∃ Z, T.extract 0 kp = Z := ⟨_, rfl⟩
      have hYZ : Y.extract 0 kp = Z := by rw [← hY, ← hZ]; exact extract_extract T kp vn (by omega)
      have cB1' := begins_yes T vn (by omega) (by omega)
      have cB2' := begins_yes Y kp (by omega) (by omega)
      have hsl := slice_upto (P := Try.prog) Try.underlying9 T kp (kp : Int) rfl (by omega)
      rw [hY] at cB1' y1
      rw [hYZ] at cB2'
      rw [hZ] at hsl
      have cB1 := hid cB1'
      have cB2 := hid cB2'
      clear cB1' cB2' h1 h2 hY hZ hYZ hN hT hV hkp q0
      simp only [Nat.zero_add] at y0 y1 y2
      have ba := below_more (Below.refl wr.heap.size wr) (.cells #[.string N, .string T, .int .i64 (kp : Int)] 36)
      have xa : BlockIs (wr.alloc (.cells #[.string N, .string T, .int .i64 (kp : Int)] 36)) wr.heap.size 36 [.string N, .string T, .int .i64 (kp : Int)] := heap_alloc_new wr _
      obtain ⟨Wa, hWa⟩ : ∃ Wa, wr.alloc (.cells #[.string N, .string T, .int .i64 (kp : Int)] 36) = Wa := ⟨_, rfl⟩
      have hsa : Wa.heap.size = wr.heap.size + 1 := by rw [← hWa]; exact World.size_alloc _ _
      rw [hWa] at ba xa
      have cea := (ba.cell (p := ⟨E, 0, none⟩) Ex.lt).trans ce
      have y0a := (ba.cell (p := ⟨g4, k * 3, none⟩) (World.block_lt_of_cell? wr _ y0)).trans y0
      have y1a := (ba.cell (p := ⟨g4, k * 3 + 1, none⟩) (World.block_lt_of_cell? wr _ y1)).trans y1
      have y2a := (ba.cell (p := ⟨g4, k * 3 + 2, none⟩) (World.block_lt_of_cell? wr _ y2)).trans y2
      have bb := below_more (Below.refl Wa.heap.size Wa) (.cells #[.string N, .string Y, .int .i64 (vn : Int)] 36)
      have xb : BlockIs (Wa.alloc (.cells #[.string N, .string Y, .int .i64 (vn : Int)] 36)) Wa.heap.size 36 [.string N, .string Y, .int .i64 (vn : Int)] := heap_alloc_new Wa _
      obtain ⟨Wb, hWb⟩ : ∃ Wb, Wa.alloc (.cells #[.string N, .string Y, .int .i64 (vn : Int)] 36) = Wb := ⟨_, rfl⟩
      rw [hWb] at bb xb
      rw [hsa] at xb
      have xab := xa.on bb xa.lt
      have r0 := xab.cell (j := 0) rfl
      have r1 := xab.cell (j := 1) rfl
      have r2 := xab.cell (j := 2) rfl
      have s0 := xb.cell (j := 0) rfl
      have s1 := xb.cell (j := 1) rfl
      have s2 := xb.cell (j := 2) rfl
      have BB := hid (below_via (below_via HBr.out ba) bb)
      have HYS := hid hYs
      clear ba bb xa xb xab hYs
      go_wp2
      go_quiet (first | (go_at_call_of 15 (Value.string T); refine Calls.quiet_of_same (cB1.out _)) | (go_at_call_of 15 (Value.string Z); refine Calls.quiet_of_same (cB2.out _)) | fail)
      go_wp2
      go_roundw
      case rel => exact ⟨k + 1, by omega, by go_num, below_drewN BB.out nq⟩
      case measure => simp [intOf]; omega
    · have HBX := hid (below_via B9.out HBr.out)
      go_wp2
      go_ret
      exact ⟨rfl, HBX.out⟩

theorem own : ownKnob Try.prog.godebug = none := by kernel_rfl
theorem laidOut : laidOutB Try.prog = true := by kernel_rfl
theorem rowed : varsRowed Try.prog Rows.fnKeepsSpec.vars = true := by kernel_rfl
set_option maxRecDepth 1000000 in
theorem contract (H : Type) (enc : TypeId × Value → H) (W : World) (base : Nat) (args : Array Value) (ds gs : List (DataW H)) (before : List MemPlace)
    (hval : ∀ (j : Nat) t v, Try.f3.params[j]? = some t → args[j]? = some v → Value.okWide Try.prog W .any base t v)
    (hW : DataW.Whole enc Try.prog Try.f3.params.toList Rows.fnKeepsSpec.vars false W args.toList ds gs before) (_hL : laidMetH Try.prog Rows.fnKeepsRow.laid W) :
    Calls Try.prog 3 args W fun e W' => ∃ v, e = .returned v ∧ Rows.fnKeepsSpec.post enc Try.prog Try.f3 false true false false W args v W' := by
  have hW' := hW
  obtain ⟨p, q, hA0, hV0, rfl, hfz, hnd⟩ := hW
  have hV : DataW.TrodVars enc Try.prog W (fun _ => true) Rows.fnKeepsSpec.vars gs q := hV0
  have hA : DataW.TrodAll enc Try.prog W 0 (fun _ => true) true Try.f3.params.toList args.toList ds p := hA0
  rw [Try.params3] at hA hval
  obtain ⟨v0, vs0, d0, ds0, p0, q0, hargs0, rfl, rfl, h0, r0⟩ := trodAll_cons hA
  obtain ⟨rfl, rfl, rfl⟩ := trodAll_nil r0
  obtain rfl : args = #[v0] := by cases args; simp_all
  obtain ⟨a0, len0, cap0, rfl⟩ := okWide_slice Try.underlying22 (hval 0 22 v0 rfl rfl)
  have k0 := h0
  have lt0 : ∀ x ∈ p0, x.block < W.heap.size := by obtain ⟨m, hm⟩ := k0; exact DataW.trod_lt m _ _ _ hm
  have hb0 : len0 ≤ cap0 ∧ Bytes W a0 len0 := by
    obtain ⟨fuel, hf⟩ := h0
    rcases open_ints Try.underlying22 Try.underlying5 (by kernel_rfl) hf with ⟨hcs, _⟩ | ⟨x, l, c, zs, hcs, _, hl, hm, hz, _, hcell, hwz⟩
    · simp [Value.cells] at hcs
      obtain ⟨rfl, rfl, rfl⟩ := hcs
      exact ⟨Nat.le_refl _, fun h => by omega⟩
    · simp [Value.cells] at hcs
      obtain ⟨rfl, rfl, rfl⟩ := hcs
      refine ⟨hl, fun hp => ?_⟩
      have hzl : zs.length = cap0 := by simpa using hz
      obtain ⟨b, off, rfl, hc⟩ := ints_at hcell (by omega)
      refine ⟨b, off, rfl, fun j hj => ?_⟩
      have hjz : j < zs.length := by omega
      have hb8 := bounds_u8 (hwz (zs.getD j 0) (by simp [List.getD, hjz]))
      exact ⟨zs.getD j 0, hb8.1, hb8.2, hc j hjz⟩
  clear hA0 hV0
  obtain ⟨rfl, rfl⟩ := trodVars_none hV
  refine (walk a0 len0 cap0 hb0.1 W hb0.2).mono fun e W' ⟨he, bel⟩ => ?_
  subst he
  exact ⟨_, rfl, _, _, _, [], _, [], hW', trodAll_mk1 (shut_bool Try.underlying4 _), trodAll_cons_mk (Below.trod laidOut (by kernel_rfl) (of_decide_eq_true (by kernel_rfl)) k0 bel lt0) (trodAll_mk0), rfl, bel.frame _, fun h => by cases h⟩

def put (cs : Array Value) : Obj → Obj
  | .cells _ t frozen => .cells cs t frozen
  | o => o

/-- a world for the witness: the tables hold what their initialisers lay -/
def laidWorld (w : World) : World := { w with heap := w.heap }
theorem laid_met (os : Os) : laidMet Try.prog Rows.fnKeepsRow.laid ((laidWorld (World.holding Try.prog os ⟨#[], #[], []⟩)).forCall (fun _ _ => 0) ⟨#[], #[.slice none 0 0], []⟩).memory :=
  laidMet_of_run' 8 (by kernel_rfl) (by kernel_rfl)
theorem reads (os : Os) {H : Type} (enc : TypeId × Value → H) : ∃ places, DataW.whole enc Try.prog ((laidWorld (World.holding Try.prog os ⟨#[], #[], []⟩)).forCall (fun _ _ => 0) ⟨#[], #[.slice none 0 0], []⟩).memory Try.f3.params.toList Rows.fnKeepsSpec.vars false #[Value.slice none 0 0].toList 8 = some ([.nil], [], places) :=
  ⟨[], by kernel_rfl⟩

set_option maxRecDepth 1000000 in
theorem lifted (os : Os) (started : os.Started) (H : Type) (enc : TypeId × Value → H) (F : Stop.Interp) :
    ReturnsInHanded {} Try.checked os 3 .any ((OpenSpec.ofChange Rows.fnKeepsSpec).preRow enc Try.prog Try.f3 Rows.fnKeepsRow.domain false Rows.fnKeepsRow.laid) (((OpenSpec.ofChange Rows.fnKeepsSpec).at F).post enc Try.prog Try.f3 false true false false) := by
  obtain ⟨places, hx⟩ := reads os enc
  refine returnsInHanded_of_row (C := Try.checked) (s := OpenSpec.ofChange Rows.fnKeepsSpec) own started (by kernel_rfl) Try.func3
    (witness_row_at (enc := enc) (C := Try.checked) false (laidWorld (World.holding Try.prog os ⟨#[], #[], []⟩)) #[.slice none 0 0] rfl (by kernel_rfl) (by kernel_rfl) (by kernel_rfl)
      (OpenSpec.preRow_of_cond 8 hx (by kernel_rfl) (fun k hk => by cases hk) (by kernel_rfl) (laid_met os))) ?_
  intro W base args ds gs before hval hW _ _ _ hL _ _
  exact contract H enc W base args ds gs before hval hW hL

theorem said : Rows.FnKeepsSaid :=
  OpenClaim.holds_of_cond 3 Try.f3 rfl rfl rfl rfl rfl rfl rfl ⟨rfl, rfl, rfl, rfl, rfl⟩ rfl rfl rfl rfl rfl (by kernel_rfl) Try.func3 (by kernel_rfl)
    (of_decide_eq_true (by kernel_rfl)) (by unfold Func.isWrapper; first | (rw [if_pos (by decide +kernel)]; kernel_rfl) | (rw [if_neg (by decide +kernel)]; exact ⟨rfl, rfl⟩))
    (fun os started H enc _ F => by rw [OpenClaim.pre_eq_preRow]; exact lifted os started H enc F)

end Go.Proofs.Ytfkknmhokiacaaa.fnKeeps
