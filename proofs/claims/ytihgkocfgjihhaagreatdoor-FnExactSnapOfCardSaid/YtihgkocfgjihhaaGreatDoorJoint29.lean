/-
  Snapshots in the form of the exact laws: rows between two sizes of memory.
  The walks of spec.SumMore: what they answer.
  The walks of spec.SumOf: what they answer.
  The walk of spec.l02Four: a sum in four bytes.
  The walk of spec.Unsealed: what it answers.
  The walk of spec.Sealed: what it answers.
  The walk of spec.l01Figure: the figure of a number from 0 to 15.
  The walk of spec.Decimal: what it answers at a number that is not below 0.
  The walk of spec.ReadDecimal: what it answers.
  The walk of spec.l01In: whether a number is within bounds.
-/
import Derived.Test.YtihgkocfgjihhaaGreatDoorJoint18
import Derived.Test.YtihgkocfgjihhaaGreatDoorJoint28
import Derived.Test.YtihgkocfgjihhaaGreatDoorRows
import Derived.Test.YtihgkocfgjihhaaGreatDoorJoint1
import Derived.Deep.LoopGhost
import Derived.WalkKit
import Derived.BigQuiet
import Derived.Lib.QuietBelow
import Derived.WalkSmall
namespace Go.Proofs.YtihgkocfgjihhaaGreatDoor
open Go.RowKit

theorem OwnAt.ints {w : World} {zs : List Int} {va : Option Addr} {lo hi : Nat} (h : OwnAt w 3 (intCells zs) zs.length va lo hi) : IntsAt w va zs := by
  rcases h with h | ⟨g, r, rfl, _, _, h⟩
  · intro h0
    exact absurd (List.length_eq_zero_iff.1 h) h0
  · exact intsAt_of h
theorem own_ints {w : World} {base cap : Nat} {va : Option Addr} {zs : List Int} (h : w.ownsRow base 3 1 (.slice va zs.length cap) zs.length (intCells zs)) : OwnAt w 3 (intCells zs) zs.length va base w.heap.size := by
  rcases h.2 with ⟨hv, hn⟩ | ⟨g, cp, cur, hv, hgb, hh, hle, hmx, hsz, ht⟩
  · exact Or.inl hn
  · simp only [Value.slice.injEq] at hv
    obtain ⟨rfl, _, rfl⟩ := hv
    have hc : BlockIs w g 3 (intCells zs ++ cur.toList.drop (zs.length * 1)) := by
      unfold BlockIs
      rw [hh]
      have : intCells zs ++ cur.toList.drop (zs.length * 1) = cur.toList := by rw [← ht, List.take_append_drop]
      rw [this]
    exact Or.inr ⟨g, _, rfl, hgb, hc.lt, hc⟩
/-- the row that an answer owns, written over -/
theorem markInts_own (va : Option Addr) (vc : Nat) (zs : List Int) (lo hi m : Nat) (hm : m ≤ 10000000) (hl : zs.length ≤ 1048576) (w : World) (hw : lo ≤ w.heap.size) (h : OwnAt w 3 (intCells zs) zs.length va lo hi) :
    Calls Tryz.prog 10 #[.slice va zs.length vc, .int .i64 m] w fun e w' => e = .returned (.int .i64 ((m + zs.length : Nat) : Int)) ∧ IntsAt w' va (countFrom m zs.length) ∧ KeptBut lo hi w w' ∧ Below lo w w' := by
  rcases h with h | ⟨g, r, rfl, h1, h2, h3⟩
  · have e : zs = [] := List.eq_nil_of_length_eq_zero h
    subst e
    refine (markIntS_nil va vc m w).mono ?_
    rintro e w' ⟨rfl, rfl⟩
    exact ⟨rfl, fun h => absurd rfl h, fun _ _ _ _ h => h, Below.refl _ _⟩
  · refine (markIntS_more g zs r vc m hm hl w h3).mono ?_
    rintro e w' ⟨rfl, ⟨r', hr⟩, hg⟩
    exact ⟨rfl, intsAt_of hr, fun j t cs hj hb => blk_grown hb hg (by omega), below_grown (Below.refl _ _) hg h1 hw⟩
set_option maxRecDepth 1000000 in
set_option maxHeartbeats 1000000 in
theorem markSnap_o (ix tm : Int) (va : Option Addr) (vc : Nat) (bd : ByteArray) (zs : List Int) (lo hi m : Nat) (hm : m ≤ 10000000) (hl : zs.length ≤ 1048576) (w : World) (hw : hi ≤ w.heap.size ∧ lo ≤ w.heap.size) (h : OwnAt w 3 (intCells zs) zs.length va lo hi) :
    Calls Tryz.prog 20 #[snapV ix tm (.slice va zs.length vc) bd, .int .i64 m] w fun e w' => e = .returned (.int .i64 ((m + zs.length : Nat) : Int)) ∧ IntsAt w' va (countFrom m zs.length) ∧ KeptBut lo hi w w' ∧ Below lo w w' := by
  have hbx := below_more (Below.refl w.heap.size w) (.cells #[.int .i64 ix, .int .i64 tm, .slice va zs.length vc, .string bd] 53)
  have C := hid (fun w hw h => markInts_own va vc zs lo hi m hm hl w hw h)
  have HX := hid hbx
  have HO := hid (h.on hbx)
  have HS := hid (Nat.le_trans hw.2 hbx.size)
  have HW := hid hw.2
  obtain ⟨N, hN⟩ : ∃ N, m + zs.length = N := ⟨_, rfl⟩
  rw [hN] at C ⊢
  clear hbx h hN hw
  go_enter Tryz.func20, Tryz.ntmps20
  go_wp2_with fail
  refine (C.out _ HS.out HO.out).mono ?_
  rintro e w1 ⟨rfl, hi1, hk, hb⟩
  have HI := hid hi1
  have HK : Hid (KeptBut lo hi w w1) := fun j t cs hj hbl => hk j t cs hj (hbl.on HX.out hbl.lt)
  have HB := hid ((HX.out.mono HW.out).trans hb)
  clear hi1 hk hb C HO HX
  go_wp2
  go_ret
  exact ⟨rfl, HI.out, HK.out, HB.out⟩
end Go.Proofs.YtihgkocfgjihhaaGreatDoor

namespace Go.Proofs.YtihgkocfgjihhaaGreatDoor
open Go.RowKit

set_option maxRecDepth 1000000 in
set_option maxHeartbeats 1000000 in
theorem specSumMore_any (x : Nat) (hx : x < 4294967296) (s : ByteArray) (hs : s.size ≤ 140737488355328) (w : World) :
    Calls Tryz.prog 157 #[.int .u32 x, .string s] w fun e w' => e = .returned (.int .u32 (crc x s.data.toList)) ∧ w' = w := by
  go_enter Tryz.func157, Tryz.ntmps157
  go_wp2
  go_loopg [0, 5, 6, 7] s.size (fun g y i _ _ wr => ∃ (k : Nat), k + g = s.size ∧ i = .int .i64 k ∧ y = .int .u32 (crc x (s.data.toList.take k)) ∧ wr = w)
  case atStart => exact ⟨0, by omega, rfl, rfl, rfl⟩
  case round =>
    obtain ⟨k, hkg, rfl, rfl, rfl⟩ := hrel
    obtain ⟨c, hc⟩ : ∃ c, c = crc x (s.data.toList.take k) := ⟨_, rfl⟩
    have hcl : c < 4294967296 := by rw [hc]; exact crc_lt hx _
    cases gk with
    | zero =>
      have hlt : ¬ (k : Int) < (s.size : Int) := by omega
      have HE : Hid (c = crc x s.data.toList) := by
        show _ = _
        rw [hc, List.take_of_length_le (by simp; omega)]
      rw [← hc]
      clear hc
      go_wp2
      go_ret
      exact ⟨ret_u32 HE.out, rfl⟩
    | succ g =>
      have hlt : k < s.size := by omega
      have hlt' : (k : Int) < (s.size : Int) := by omega
      have c0 : (s[k].toNat : Int) ≤ 255 := by have := s[k].toNat_lt; omega
      have HC : Hid (crc x (s.data.toList.take (k + 1)) = crc1 c s[k]) := by show _ = _; rw [take_one s k hlt, crc_snoc, hc]
      have hxr : bits .xor .u32 (c : Int) (s[k].toNat : Int) = ((c ^^^ s[k].toNat : Nat) : Int) := u32_xor_nat c s[k].toNat hcl (by have := s[k].toNat_lt; omega)
      rw [← hc]
      clear hc
      go_wp2
      clear hxr
      obtain ⟨d, hd⟩ : ∃ d, d = c ^^^ s[k].toNat := ⟨_, rfl⟩
      have hdl : d < 4294967296 := by rw [hd]; exact xb_lt hcl _
      have HD : Hid (crc1 c s[k] = hsN 8 d) := by rw [hd]; rfl
      go_loopg [0, 6, 7] 8 (fun g2 y j _ wy => ∃ (i : Nat), i + g2 = 8 ∧ j = .int .i64 i ∧ y = .int .u32 (hsN i d) ∧ wy = wr)
      case atStart => exact ⟨0, by omega, rfl, by rw [hd]; rfl, rfl⟩
      case round =>
        obtain ⟨i, hig, rfl, rfl, rfl⟩ := hrel
        obtain ⟨e, he⟩ : ∃ e, e = hsN i d := ⟨_, rfl⟩
        have hel : e < 4294967296 := by rw [he]; exact hsN_lt i hdl
        cases gk with
        | zero =>
          have hi : ¬ (i : Int) < 8 := by omega
          have HX : Hid (e = crc x (s.data.toList.take (k + 1))) := by
            show _ = _
            have e8 : i = 8 := by omega
            rw [HC.out, HD.out, he, e8]
          rw [← he]
          clear he hd
          go_wp2
          go_roundg g
          case measure => omega
          case rel => exact ⟨k + 1, by omega, by go_num, by rw [HX.out], rfl⟩
        | succ g2 =>
          have hi : (i : Int) < 8 := by omega
          have HX : Hid (hsN (i + 1) d = half e) := by show _ = _; rw [he]; rfl
          rw [← he]
          clear he hd
          by_cases ho : e % 2 = 1
          · have ho' : ((e : Int) % 2 == 1) = true := by simp; omega
            have hxr : bits .xor .u32 ((e : Int) / 2) 3558460437 = ((e / 2 ^^^ 3558460437 : Nat) : Int) := by
              have := u32_xor_nat (e / 2) 3558460437 (by omega) (by omega)
              simpa using this
            have HH : Hid (half e = e / 2 ^^^ 3558460437) := by show _ = _; unfold half; rw [if_pos ho]
            clear ho
            go_wp2
            go_roundg g2
            case measure => omega
            case rel => exact ⟨i + 1, by omega, by go_num, by rw [HX.out, HH.out], rfl⟩
          · have ho' : ((e : Int) % 2 == 1) = false := by simp; omega
            have HH : Hid (half e = e / 2) := by show _ = _; unfold half; rw [if_neg ho]
            clear ho
            go_wp2
            go_roundg g2
            case measure => omega
            case rel => exact ⟨i + 1, by omega, by go_num, by rw [HX.out, HH.out]; go_num, rfl⟩

end Go.Proofs.YtihgkocfgjihhaaGreatDoor

namespace Go.Proofs.YtihgkocfgjihhaaGreatDoor
open Go.RowKit

theorem specSumOf_any (s : ByteArray) (hs : s.size ≤ 140737488355328) (w : World) :
    Calls Tryz.prog 111 #[.string s] w fun e w' => e = .returned (.int .u32 (sumOf s.data.toList)) ∧ w' = w := by
  have C := (show Hid _ from specSumMore_any 4294967295 (by omega) s hs w)
  go_enter Tryz.func111, Tryz.ntmps111
  go_wp2_with fail
  refine Calls.mono C.out ?_
  rintro e w1 ⟨rfl, hw⟩
  rw [hw]
  go_wp2
  go_ret
  exact ⟨rfl, rfl⟩
end Go.Proofs.YtihgkocfgjihhaaGreatDoor

namespace Go.Proofs.YtihgkocfgjihhaaGreatDoor
open Go.RowKit

theorem four_text (x : Nat) (hx : x < 4294967296) (w : World) :
    (convert 112 9 (.slice (some ⟨w.heap.size, 0, none⟩) 4 4)).run Tryz.prog (w.alloc (.cells #[.int .u8 ((x : Int) / 16777216), .int .u8 ((x : Int) / 65536 % 256), .int .u8 ((x : Int) / 256 % 256), .int .u8 ((x : Int) % 256)] 5)) =
      .ok (.string ⟨(four x).toArray⟩) (w.alloc (.cells #[.int .u8 ((x : Int) / 16777216), .int .u8 ((x : Int) / 65536 % 256), .int .u8 ((x : Int) / 256 % 256), .int .u8 ((x : Int) % 256)] 5)) := by
  have := run_convert_bytes_back (P := Tryz.prog) (w.alloc (.cells #[.int .u8 ((x : Int) / 16777216), .int .u8 ((x : Int) / 65536 % 256), .int .u8 ((x : Int) / 256 % 256), .int .u8 ((x : Int) % 256)] 5)) 112 9 5 ⟨w.heap.size, 0, none⟩ 4 (four x) Tryz.underlying112 Tryz.underlying5 Tryz.underlying9
    (by
      intro j hj
      rw [show (⟨w.heap.size, 0, none⟩ : Addr).add j = ⟨w.heap.size, j, none⟩ from by simp only [Addr.add]; split <;> simp_all, World.cell?_alloc_mark]
      have e1 : (((UInt8.ofNat (x / 16777216)).toNat : Nat) : Int) = (x : Int) / 16777216 := by rw [UInt8.toNat_ofNat']; omega
      have e2 : (((UInt8.ofNat (x / 65536)).toNat : Nat) : Int) = (x : Int) / 65536 % 256 := by rw [UInt8.toNat_ofNat']; omega
      have e3 : (((UInt8.ofNat (x / 256)).toNat : Nat) : Int) = (x : Int) / 256 % 256 := by rw [UInt8.toNat_ofNat']; omega
      have e4 : (((UInt8.ofNat x).toNat : Nat) : Int) = (x : Int) % 256 := by rw [UInt8.toNat_ofNat']; omega
      rw [four_length] at hj
      match j, hj with
      | 0, _ => show some (Value.int .u8 ((x : Int) / 16777216)) = some (.int .u8 (((UInt8.ofNat (x / 16777216)).toNat : Nat) : Int)); rw [e1]
      | 1, _ => show some (Value.int .u8 ((x : Int) / 65536 % 256)) = some (.int .u8 (((UInt8.ofNat (x / 65536)).toNat : Nat) : Int)); rw [e2]
      | 2, _ => show some (Value.int .u8 ((x : Int) / 256 % 256)) = some (.int .u8 (((UInt8.ofNat (x / 256)).toNat : Nat) : Int)); rw [e3]
      | 3, _ => show some (Value.int .u8 ((x : Int) % 256)) = some (.int .u8 (((UInt8.ofNat x).toNat : Nat) : Int)); rw [e4])
  exact this

set_option maxRecDepth 1000000 in
theorem l02Four_any (x : Nat) (hx : x < 4294967296) (w : World) :
    Calls Tryz.prog 110 #[.int .u32 x] w fun e w' => e = .returned (.string ⟨(four x).toArray⟩) ∧ Below w.heap.size w w' := by
  have ht := four_text x hx w
  go_enter Tryz.func110, Tryz.ntmps110
  go_wp2
  go_ret
  exact ⟨rfl, (Below.refl _ _).alloc (Nat.le_refl _) _⟩
end Go.Proofs.YtihgkocfgjihhaaGreatDoor

namespace Go.Proofs.YtihgkocfgjihhaaGreatDoor
open Go.RowKit Go.Sort

theorem regrown_same {P : Program} {f : FuncId} {args : Array Value} {w : World} {d : Nat} {os : Array Obj} {v : Value}
    (h : Calls P f args (grow (redrawn w d) os) fun e w' => e = .returned v ∧ w' = grow (redrawn w d) os) : Calls P f args (grow (redrawn w d) os) fun e w'' => e = .returned v ∧ ∃ p : Regrown, w'' = grow (redrawn w p.d) p.os :=
  h.mono fun _ _ ⟨he, hw⟩ => ⟨he, ⟨d, os⟩, hw⟩

set_option maxRecDepth 1000000 in
set_option maxHeartbeats 1000000 in
theorem specUnsealed_any (s : ByteArray) (hs : s.size ≤ 140737488355328) (w : World) :
    Calls Tryz.prog 139 #[.string s] w fun e w' =>
      ((Uns s ∧ e = .returned (.tuple #[.string (s.extract 0 (s.size - 4)), .bool true])) ∨ (¬ Uns s ∧ e = .returned (.tuple #[.string ByteArray.empty, .bool false]))) ∧ Below w.heap.size w w' := by
  by_cases h4 : (s.size : Int) - 4 < 0
  · go_enter Tryz.func139, Tryz.ntmps139
    go_wp2
    go_quiet (fail)
    go_wp2
    go_ret2
    exact ⟨Or.inr ⟨fun h => by have := h.1; omega, rfl⟩, below_drewN (Below.refl _ _) _⟩
  · have h4' : decide ((s.size : Int) - 4 < 0) = false := by simpa using h4
    by_cases h2 : (20000 : Int) < (s.size : Int) - 4
    · go_enter Tryz.func139, Tryz.ntmps139
      go_wp2
      go_quiet (fail)
      go_wp2
      go_ret2
      exact ⟨Or.inr ⟨fun h => by have := h.2.1; omega, rfl⟩, below_drewN (Below.refl _ _) _⟩
    · have h2' : decide ((20000 : Int) < (s.size : Int) - 4) = false := by simpa using h2
      have q1 := slice_from (P := Tryz.prog) Tryz.underlying9 s (s.size - 4) ((s.size : Int) - 4) (by omega) (by omega)
      have q2 := slice_upto (P := Tryz.prog) Tryz.underlying9 s (s.size - 4) ((s.size : Int) - 4) (by omega) (by omega)
      have hle : (s.extract 0 (s.size - 4)).size ≤ 140737488355328 := by rw [ByteArray.size_extract]; omega
      have HU := (show Hid _ from uns_same (s := s) (by omega) (by omega))
      obtain ⟨T, hT⟩ : ∃ T, s.extract 0 (s.size - 4) = T := ⟨_, rfl⟩
      obtain ⟨R, hR⟩ : ∃ R, s.extract (s.size - 4) s.size = R := ⟨_, rfl⟩
      rw [hT] at q2 hle HU ⊢
      rw [hR] at q1 HU
      have cS' := fun d os => regrown_same (d := d) (os := os) (w := w) (specSumOf_any T hle _)
      have cF' := fun d os => Calls.regrown_of (w := w) (d := d) (os := os) (l02Four_any (sumOf T.data.toList) (sumOf_lt _) _)
      obtain ⟨N, hN⟩ : ∃ N, sumOf T.data.toList = N := ⟨_, rfl⟩
      rw [hN] at cS' cF' HU
      have cS := (show Hid _ from cS')
      have cF := (show Hid _ from cF')
      clear hle hT hR hN cS' cF'
      go_enter Tryz.func139, Tryz.ntmps139
      go_wp2
      refine wp_region_quiet_below (by kernel_rfl) (by kernel_rfl) ?_
      repeat (first | go_big_quiet_step (first | (go_at_call 111; exact cS.out _ _) | (go_at_call 110; exact cF.out _ _)) | quiet_step (first | (go_at_call 111; exact cS.out _ _) | (go_at_call 110; exact cF.out _ _)))
      refine wpQuiet_nil ?_
      intro _ hw'
      obtain ⟨⟨dq, osq⟩, hw''⟩ := hw'
      subst hw''
      have hbq := below_regrown w dq osq
      go_wp2
      · have hne : (!R.toList == four N) = true := by assumption
        have hno : ¬ Uns s := fun h => by
          have e := HU.out.2 h
          rw [e] at hne
          simp at hne
        go_ret2
        exact ⟨Or.inr ⟨hno, rfl⟩, hbq⟩
      · have hne : (!R.toList == four N) = false := by assumption
        have hyes : Uns s := HU.out.1 (by simpa using hne)
        go_ret2
        exact ⟨Or.inl ⟨hyes, rfl⟩, hbq⟩
end Go.Proofs.YtihgkocfgjihhaaGreatDoor

namespace Go.Proofs.YtihgkocfgjihhaaGreatDoor
open Go.RowKit

set_option maxRecDepth 1000000 in
theorem specSealed_yes (s : ByteArray) (hs : s.size ≤ 20000) (w : World) :
    Calls Tryz.prog 62 #[.string s] w fun e w' => e = .returned (.tuple #[.string (s ++ ⟨(four (sumOf s.data.toList)).toArray⟩), .bool true]) ∧ Below w.heap.size w w' := by
  have cS' := specSumOf_any s (by omega)
  have cF' := l02Four_any (sumOf s.data.toList) (sumOf_lt _)
  obtain ⟨N, hN⟩ : ∃ N, sumOf s.data.toList = N := ⟨_, rfl⟩
  rw [hN] at cS' cF' ⊢
  have hf := four_length N
  have cS := (show Hid _ from cS')
  have cF := (show Hid _ from cF')
  clear hN cS' cF'
  go_enter Tryz.func62, Tryz.ntmps62
  go_wp2_with fail
  refine (cS.out _).mono ?_
  rintro e w1 ⟨rfl, hw⟩
  rw [hw]
  clear hw w1
  go_wp2_with fail
  refine (cF.out _).mono ?_
  rintro e w2 ⟨rfl, hb⟩
  go_wp2
  go_ret2
  exact ⟨rfl, hb⟩

theorem specSealed_no (s : ByteArray) (hs : 20000 < s.size) (w : World) :
    Calls Tryz.prog 62 #[.string s] w fun e w' => e = .returned (.tuple #[.string ByteArray.empty, .bool false]) ∧ Below w.heap.size w w' := by
  go_enter Tryz.func62, Tryz.ntmps62
  go_wp2
  go_ret2
  exact ⟨rfl, Below.refl _ _⟩
end Go.Proofs.YtihgkocfgjihhaaGreatDoor

namespace Go.Proofs.YtihgkocfgjihhaaGreatDoor
open Go.RowKit

theorem l01Figure_any (x : Int) (h0 : 0 ≤ x) (h1 : x ≤ 15) (w : World) :
    Calls Tryz.prog 116 #[.int .i64 x] w fun e w' => e = .returned (.int .u8 (fig x)) ∧ w' = w := by
  by_cases h : x < 10
  · have hf : fig x = 48 + x := if_pos h
    rw [hf]
    go_enter Tryz.func116, Tryz.ntmps116
    go_wp2
    go_ret
    exact ⟨rfl, rfl⟩
  · have hf : fig x = 87 + x := if_neg h
    rw [hf]
    have e : (97 : Int) + x - 10 = 87 + x := by omega
    have HE : Hid ((97 : Int) + x - 10 = 87 + x) := e
    clear e hf
    go_enter Tryz.func116, Tryz.ntmps116
    go_wp2
    go_ret
    exact ⟨by simp [HE.out], rfl⟩
end Go.Proofs.YtihgkocfgjihhaaGreatDoor

namespace Go.Proofs.YtihgkocfgjihhaaGreatDoor
open Go.RowKit

theorem one_text (x : Int) (h0 : 0 ≤ x) (h1 : x ≤ 255) (w : World) :
    (convert 112 9 (.slice (some ⟨w.heap.size, 0, none⟩) 1 1)).run Tryz.prog (w.alloc (.cells #[.int .u8 x] 5)) = .ok (.string ⟨#[UInt8.ofNat x.toNat]⟩) (w.alloc (.cells #[.int .u8 x] 5)) := by
  have := run_convert_bytes_back (P := Tryz.prog) (w.alloc (.cells #[.int .u8 x] 5)) 112 9 5 ⟨w.heap.size, 0, none⟩ 1 [UInt8.ofNat x.toNat] Tryz.underlying112 Tryz.underlying5 Tryz.underlying9
    (by
      intro j hj
      have hj0 : j = 0 := by simpa using hj
      subst hj0
      have e : ((UInt8.ofNat x.toNat).toNat : Int) = x := by rw [UInt8.toNat_ofNat']; omega
      show (w.alloc (.cells #[.int .u8 x] 5)).cell? ⟨w.heap.size, 0, none⟩ = some (.int .u8 ((UInt8.ofNat x.toNat).toNat : Int))
      rw [e]
      simp)
  exact this

theorem ret_text {a b : List UInt8} (h : a = b) : Ending.returned (.string ⟨a.toArray⟩) = .returned (.string ⟨b.toArray⟩) := by rw [h]

theorem dec_step {n m : Nat} {acc : List UInt8} (hm : 0 < m) (h : dd m ++ acc = dd n) : dd (m / 10) ++ (UInt8.ofNat (fig ((m : Int) % 10)).toNat :: acc) = dd n := by
  rw [← h, dd_pos hm]
  have e : (fig ((m : Int) % 10)).toNat = 48 + m % 10 := by unfold fig; rw [if_pos (by omega)]; omega
  rw [e]
  simp

set_option maxRecDepth 1000000 in
set_option maxHeartbeats 1000000 in
theorem specDecimal_nat (n : Nat) (hn : n < 9223372036854775808) (w : World) :
    Calls Tryz.prog 65 #[.int .i64 n] w fun e w' => e = .returned (.string ⟨(dec n).toArray⟩) ∧ Below w.heap.size w w' := by
  by_cases h0 : n = 0
  · subst h0
    go_enter Tryz.func65, Tryz.ntmps65
    go_wp2
    go_ret
    exact ⟨rfl, Below.refl _ _⟩
  · have g0 : ((n : Int) == 0) = false := by rw [beq_eq_false_iff_ne]; omega
    have g1 : ¬ (n : Int) < 0 := by omega
    have hdl := dd_len 19 n (by omega)
    have hde : dec n = dd n := by unfold dec; rw [if_neg (by omega), if_neg (by omega), Int.natAbs_natCast]
    rw [hde]
    have HD := (show Hid _ from hde)
    clear hde
    go_enter Tryz.func65, Tryz.ntmps65
    go_wp2
    go_loopw [0, 4, 5] (fun x t _ wr => ∃ (m : Nat) (acc : List UInt8), m ≤ n ∧ x = .int .i64 m ∧ t = .string ⟨acc.toArray⟩ ∧ Hid (dd m ++ acc = dd n) ∧ acc.length ≤ 19 ∧ Below w.heap.size w wr) (fun x _ _ _ => (intOf x).toNat)
    case atStart => exact ⟨n, [], Nat.le_refl _, rfl, rfl, by simp [Hid], by simp, Below.refl _ _⟩
    case round =>
      obtain ⟨m, acc, hm, rfl, rfl, HA, hal, hb⟩ := hrel
      have hsz := hb.size
      by_cases hm0 : 0 < m
      · have g2 : ((m : Int) != 0) = true := by simp; omega
        have hf := fig_bd (x := (m : Int) % 10) (by omega) (by omega)
        obtain ⟨f1, f2⟩ := hf
        have ht := fun wx => one_text (fig ((m : Int) % 10)) (by omega) (by omega) wx
        have HS := (show Hid _ from dec_step hm0 HA.out)
        have HL : Hid ((UInt8.ofNat (fig ((m : Int) % 10)).toNat :: acc).length ≤ 19) := by
          have := congrArg List.length HS.out
          simp only [List.length_append] at this
          show _ ≤ _
          omega
        go_wp2_with (go_at_call 116; refine (l01Figure_any _ ?_ ?_ _).mono ?_; (focus omega); (focus omega); rintro e w' ⟨rfl, hw⟩; rw [hw]; clear hw w')
        go_roundw
        case rel => exact ⟨m / 10, UInt8.ofNat (fig ((m : Int) % 10)).toNat :: acc, by omega, by go_num, by simp [ByteArray.mk_append_mk], HS, HL.out, hb.alloc hb.size _⟩
        case measure => simp [intOf]; omega
      · have g2 : ((m : Int) != 0) = false := by simp; omega
        have HE : Hid (acc = dd n) := by
          have h := HA.out
          have e : m = 0 := by omega
          rw [e, dd_zero] at h
          exact h
        go_wp2
        go_ret
        exact ⟨ret_text HE.out, hb⟩
end Go.Proofs.YtihgkocfgjihhaaGreatDoor

namespace Go.Proofs.YtihgkocfgjihhaaGreatDoor
open Go.RowKit

set_option maxRecDepth 1000000 in
set_option maxHeartbeats 1000000 in
theorem specReadDecimal_any (s : ByteArray) (hs : s.size ≤ 10) (w : World) :
    Calls Tryz.prog 138 #[.string s] w fun e w' =>
      ((DecOk s.data.toList ∧ e = .returned (.tuple #[.int .i64 (num s.data.toList), .bool true])) ∨ (¬ DecOk s.data.toList ∧ e = .returned (.tuple #[.int .i64 0, .bool false]))) ∧ Below w.heap.size w w' := by
  have hs' : ¬ (10 : Int) < (s.size : Int) := by omega
  go_enter Tryz.func138, Tryz.ntmps138
  go_wp2
  go_loop [4, 5] (fun x i => ∃ (k : Nat), k ≤ s.size ∧ i = .int .i64 k ∧ x = .int .i64 (num (s.data.toList.take k)) ∧ Digits (s.data.toList.take k)) (fun _ i => s.size - (intOf i).toNat)
  case atStart => exact ⟨0, Nat.zero_le _, rfl, rfl, by simp [Digits]⟩
  case round =>
    obtain ⟨k, hk, rfl, rfl, hD⟩ := hrel
    have hnl := num_lt k (s.data.toList.take k) (take_len s k hk) hD
    have hn10 : num (s.data.toList.take k) < 10000000000 := Nat.lt_of_lt_of_le hnl (Nat.pow_le_pow_right (by omega) (Nat.le_trans hk hs))
    clear hnl
    have HD := (show Hid _ from hD)
    clear hD
    by_cases hlt : k < s.size
    · have c0 : (s[k].toNat : Int) ≤ 255 := by have := s[k].toNat_lt; omega
      by_cases h1 : (s[k].toNat : Int) < 48
      · go_wp2
        go_ret2
        exact ⟨Or.inr ⟨digits_at hlt (by omega), rfl⟩, Below.refl _ _⟩
      · by_cases h2 : 57 < (s[k].toNat : Int)
        · go_wp2
          go_ret2
          exact ⟨Or.inr ⟨digits_at hlt (by omega), rfl⟩, Below.refl _ _⟩
        · have HN := (show Hid _ from num_step hlt (by omega))
          have HD2 : Hid (Digits (s.data.toList.take (k + 1))) := by
            rw [take_snoc s k hlt]
            exact Digits.snoc HD.out (by omega)
          go_wp2
          go_round
          case rel => exact ⟨k + 1, by omega, by go_num, by rw [HN.out], HD2.out⟩
          case measure => simp [intOf]; omega
    · have e : Hid (s.data.toList.take k = s.data.toList) := List.take_of_length_le (by simp; omega)
      have HD3 : Hid (Digits s.data.toList) := by have := HD.out; rw [e.out] at this; exact this
      rw [e.out] at hn10
      obtain ⟨N, hN⟩ : ∃ N, N = num s.data.toList := ⟨_, rfl⟩
      have hNe : num (s.data.toList.take k) = N := by rw [e.out, hN]
      rw [hNe]
      rw [← hN] at hn10
      have HN := (show Hid _ from hN)
      clear hN hNe e
      by_cases hbig : 1000000000 < (N : Int)
      · go_wp2
        go_ret2
        exact ⟨Or.inr ⟨fun h => by have := h.2.1; have := HN.out; omega, rfl⟩, Below.refl _ _⟩
      · have HC := (show Hid _ from specDecimal_nat N (by omega))
        go_wp2_with (go_at_call 65; refine (HC.out _).mono ?_; rintro e w' ⟨rfl, hb⟩)
        · have hne : (!dec ↑N == s.toList) = true := by assumption
          have hno : ¬ DecOk s.data.toList := by
            intro h
            have h1 := (dec_num _ h.1).2 h.2.2
            rw [← HN.out] at h1
            have h2 := same_dec.2 h1
            rw [hne] at h2
            cases h2
          go_ret2
          exact ⟨Or.inr ⟨hno, rfl⟩, hb⟩
        · have hne : (!dec ↑N == s.toList) = false := by assumption
          have hyes : DecOk s.data.toList := by
            have h1 := same_dec.1 hne
            have h2 := HN.out
            rw [h2] at h1
            exact ⟨HD3.out, by omega, (dec_num _ HD3.out).1 h1⟩
          go_ret2
          exact ⟨Or.inl ⟨hyes, ret_num HN.out⟩, hb⟩

theorem specReadDecimal_long (s : ByteArray) (hs : 10 < s.size) (w : World) :
    Calls Tryz.prog 138 #[.string s] w fun e w' => e = .returned (.tuple #[.int .i64 0, .bool false]) ∧ Below w.heap.size w w' := by
  go_enter Tryz.func138, Tryz.ntmps138
  go_wp2
  go_ret2
  exact ⟨rfl, Below.refl _ _⟩
end Go.Proofs.YtihgkocfgjihhaaGreatDoor

namespace Go.Proofs.YtihgkocfgjihhaaGreatDoor
open Go.RowKit

set_option maxRecDepth 1000000 in
theorem l01In_any (x a b : Int) (w : World) :
    Calls Tryz.prog 60 #[.int .i64 x, .int .i64 a, .int .i64 b] w fun e w' => e = .returned (.bool (within x a b)) ∧ w' = w := by
  unfold within
  by_cases h1 : a ≤ x
  · by_cases h2 : x ≤ b
    · go_enter Tryz.func60, Tryz.ntmps60
      go_wp2
      go_ret
      exact ⟨by simp [h1, h2], rfl⟩
    · go_enter Tryz.func60, Tryz.ntmps60
      go_wp2
      go_ret
      exact ⟨by simp; omega, rfl⟩
  · go_enter Tryz.func60, Tryz.ntmps60
    go_wp2
    go_ret
    exact ⟨by simp; omega, rfl⟩
end Go.Proofs.YtihgkocfgjihhaaGreatDoor
