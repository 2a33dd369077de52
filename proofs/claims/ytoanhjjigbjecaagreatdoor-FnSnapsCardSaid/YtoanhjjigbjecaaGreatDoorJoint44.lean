/-
  The walk of impl.SnapActs: what it answers, in memory of its own.
  The walk of impl.Unsealed: what it answers.
  The walk of impl.ReadConf: what it answers.
  The walk of impl.ReadVar: what it answers.
  The walk of impl.ReadShort: what it answers.
-/
import Derived.Test.YtoanhjjigbjecaaGreatDoorJoint1
import Derived.Test.YtoanhjjigbjecaaGreatDoorJoint35
import Derived.Test.YtoanhjjigbjecaaGreatDoorJoint38
import Derived.Test.YtoanhjjigbjecaaGreatDoorJoint26
import Derived.Test.YtoanhjjigbjecaaGreatDoorJoint41
import Derived.Test.YtoanhjjigbjecaaGreatDoorJoint43
import Derived.Test.YtoanhjjigbjecaaGreatDoorJoint34
import Derived.Test.YtoanhjjigbjecaaGreatDoorJoint42
import Derived.Test.YtoanhjjigbjecaaGreatDoorJoint30
import Derived.OwnWalk
import Derived.Test.YtoanhjjigbjecaaGreatDoorRows
import Derived.WalkKit
namespace Go.Proofs.YtoanhjjigbjecaaGreatDoor
open Go.RowKit

/-- what both answer -/
def sactsDid (A : List ActD) (ok : Bool) (w : World) (e : Ending) (w' : World) : Prop := ∃ va vc, e = .returned (.tuple #[.slice va A.length vc, .bool ok]) ∧ w'.ownsRow w.heap.size 74 4 (.slice va A.length vc) A.length (actCells A) ∧ Below w.heap.size w w'

set_option maxRecDepth 1000000 in
/-- the function that tells whether a snapshot was begun -/
theorem newGoes_any (nm : ByteArray) (w : World) : Calls Tryz.prog 36 (#[.string nm] ++ #[]) w fun e w' => e = .returned (.bool (isNew nm)) ∧ Below w.heap.size w w' := by
  show Calls Tryz.prog 36 #[.string nm] w _
  obtain ⟨q, hq⟩ : ∃ q, isNew nm = q := ⟨_, rfl⟩
  have hnd : (nm.toList == [115, 43]) = q := hq
  rw [hq]
  clear hq
  go_enter Tryz.func36, Tryz.ntmps36
  go_wp2
  go_ret
  exact ⟨rfl, Below.refl _ _⟩
set_option maxRecDepth 1000000 in
/-- the function that tells which snapshots are others -/
theorem othersGo_any (nm : ByteArray) (b : Nat) (ix : Int) (w : World) (hc : w.cell? ⟨b, 0, none⟩ = some (.int .i64 ix)) :
    Calls Tryz.prog 37 (#[.string nm] ++ #[.pointer (some ⟨b, 0, none⟩)]) w fun e w' => e = .returned (.bool (isOther ix nm)) ∧ Below w.heap.size w w' := by
  show Calls Tryz.prog 37 #[.string nm, .pointer (some ⟨b, 0, none⟩)] w _
  go_enter Tryz.func37, Tryz.ntmps37
  go_wp2_with fail
  refine (otherSnap_any nm ix _).mono ?_
  rintro e w1 ⟨rfl, b1⟩
  have B1 := hid b1
  obtain ⟨q, hq⟩ : ∃ q, isOther ix nm = q := ⟨_, rfl⟩
  rw [hq]
  have HQ := hid hq
  clear b1 hq
  go_wp2
  go_ret
  exact ⟨by rw [HQ.out]; rfl, B1.out⟩

theorem slice_mid {P : Program} {t : TypeId} (h : P.underlying t = some .string) (s : ByteArray) (k : Nat) (hk : 60 * k ≤ s.size) (w : World) :
    (Instr.slice t (.string s) (some (.int .i64 (60 * (k : Int)))) (some (.int .i64 (min (60 * (k : Int) + 60) (s.size : Int)))) none).run P w = .ok (.string (chunkAt s k)) w := by
  rw [chunkAt]
  exact slice_nat h s (60 * k) (min (60 * k + 60) s.size) _ _ (by omega) (by omega) (by omega) (by omega) w

set_option maxRecDepth 1000000 in
set_option maxHeartbeats 8000000 in
theorem implSActs_any (ao : Option Addr) (l : List FileD) (cap : Nat) (ix tm : Int) (so : Option Addr) (zs : List Int) (scap : Nat) (bd : ByteArray) (hl : l.length ≤ 1048576) (hsn : ∀ f ∈ l, f.name.size ≤ 1048576) (hzl : zs.length ≤ 1048576) (hbd : bd.size ≤ 1048576) (w : World) (ha : FilesAt w ao l) (hz : IntsAt w so zs) (ht : Steps w) (htab : Lib.TabIs Tryz.prog w "internal/strconv.uint64pow10" .u64 Lib.pow10Tab) :
    Calls Tryz.prog 10 #[.agg #[.slice ao l.length cap], snapV ix tm (.slice so zs.length scap) bd] w fun e w' => sactsDid (snapActs l ix tm zs bd).1 (snapActs l ix tm zs bd).2 w e w' := by
  have hmf : ∀ (fn : Fn) (first cap : Array Value) (w : World), (Instr.makeFunc fn first cap).run Tryz.prog w = .ok (.func fn first cap) w := fun _ _ _ _ => rfl
  have HA := hid ha
  have HZ := hid hz
  have HT := hid ht
  have HTB := hid htab
  have HSN := hid hsn
  have h2 := two_blocks w (.cells #[.slice ao l.length cap] 26) (.cells #[.int .i64 ix, .int .i64 tm, .slice so zs.length scap, .string bd] 29)
  have D0 : Hid (BlockIs _ w.heap.size 26 [.slice ao l.length cap]) := h2.2.2.1
  have S0 : Hid (BlockIs _ (w.heap.size + 1) 29 [.int .i64 ix, .int .i64 tm, .slice so zs.length scap, .string bd]) := h2.2.2.2
  have B0 := hid h2.1
  clear h2 ha hz ht htab hsn
  obtain ⟨W, hW⟩ : ∃ W, (w.alloc (.cells #[.slice ao l.length cap] 26)).alloc (.cells #[.int .i64 ix, .int .i64 tm, .slice so zs.length scap, .string bd] 29) = W := ⟨_, rfl⟩
  rw [hW] at D0 S0 B0
  have s0 := S0.out.cell (j := 0) rfl
  have s1 := S0.out.cell (j := 1) rfl
  have s2 := S0.out.cell (j := 2) rfl
  have s3 := S0.out.cell (j := 3) rfl
  go_enter Tryz.func10, Tryz.ntmps10
  go_wp2_with fail
  refine (implSnapText_any ix tm so zs scap bd hzl hbd _ (HZ.out.on B0.out) (steps_on HT.out B0.out)).mono ?_
  rintro e w1 ⟨rfl, b1⟩
  have D1 := hid (D0.out.on b1 D0.out.lt)
  have S1 := hid (S0.out.on b1 S0.out.lt)
  have B1 := hid (below_via B0.out b1)
  clear b1 D0 S0 B0 s0 s1 s2 s3 hW
  have d0 := D1.out.cell (j := 0) rfl
  cases hok : (snapText ix tm zs bd).2 with
  | false =>
    have HR := hid (snapActs_no (l := l) (fun q => by have := snapText_ok.2 q.1; rw [hok] at this; cases this))
    generalize (snapText ix tm zs bd).1 = T
    have BL := hid (below_more B1.out (.cells #[] 74))
    have RL := hid (actR_nil w1 w.heap.size B1.out.size)
    clear hok
    go_wp2
    go_ret2
    rw [HR.out]
    exact ⟨_, _, rfl, RL.out, BL.out⟩
  | true =>
    have hsok := snapText_ok.1 hok
    have htz := snapText_size (ix := ix) (tm := tm) (zs := zs) (bd := bd)
    obtain ⟨t, hte⟩ : ∃ t, (snapText ix tm zs bd).1 = t := ⟨_, rfl⟩
    rw [hte] at htz ⊢
    go_wp2_with fail
    refine (implDiskOk_any ao l cap (by omega) _ (HA.out.on B1.out)).mono ?_
    rintro e w2 ⟨rfl, b2⟩
    have D2 := hid (D1.out.on b2 D1.out.lt)
    have S2 := hid (S1.out.on b2 S1.out.lt)
    have B2 := hid (below_via B1.out b2)
    clear b2 D1 S1 B1 d0
    have d0 := D2.out.cell (j := 0) rfl
    cases hd : diskOk l with
    | false =>
      have HR := hid (snapActs_no (l := l) (ix := ix) (tm := tm) (zs := zs) (bd := bd) (fun q => by have := q.2; rw [hd] at this; cases this))
      have BL := hid (below_more B2.out (.cells #[] 74))
      have RL := hid (actR_nil w2 w.heap.size B2.out.size)
      clear hok hd hsok hte
      go_wp2
      go_ret2
      rw [HR.out]
      exact ⟨_, _, rfl, RL.out, BL.out⟩
    | true =>
      have HR := hid (snapActs_yes hsok hd hte)
      have HNW := hid (dropsOf_new (disk_pairs hd))
      have hll : l.length ≤ 30 := by
        have := hd
        rw [diskOk, Bool.and_eq_true, decide_eq_true_eq] at this
        exact this.1
      have hNl := newA_length l
      have hDl := dropsOf_length (isOther ix) l
      have hCl := chunks_le t.size
      clear hok hd hsok hte
      go_wp2_with fail
      refine (dropActs_any 36 (fun args w => by kernel_rfl) #[] isNew ao l cap hl HSN.out _ (HA.out.on B2.out) (fun nm W _ _ => newGoes_any nm W)).mono ?_
      rintro e w3 ⟨va, vc, rfl, ho, b3⟩
      rw [HNW.out] at ho ⊢
      have D3 := hid (D2.out.on b3 D2.out.lt)
      have S3 := hid (S2.out.on b3 S2.out.lt)
      have R3 := hid (row_down ho B2.out.size)
      have B3 := hid (below_via B2.out b3)
      clear b3 ho D2 S2 B2 d0 HNW
      obtain ⟨NA, hNA⟩ : ∃ x, newA l = x := ⟨_, rfl⟩
      rw [hNA] at R3 HR hNl ⊢
      clear hNA
      go_wp2
      go_loopg [8, 9, 10] (chunks t.size) (fun q v i _ wr => ∃ (k : Nat), k + q = chunks t.size ∧ i = .int .i64 ((60 * k : Nat) : Int) ∧ ∃ va vc, v = .slice va (NA ++ chunksTo t k).length vc ∧ Hid (Below w.heap.size w wr) ∧ Hid (BlockIs wr w.heap.size 26 [.slice ao l.length cap]) ∧ Hid (BlockIs wr (w.heap.size + 1) 29 [.int .i64 ix, .int .i64 tm, .slice so zs.length scap, .string bd]) ∧ Hid (wr.ownsRow w.heap.size 74 4 (.slice va (NA ++ chunksTo t k).length vc) (NA ++ chunksTo t k).length (actCells (NA ++ chunksTo t k))))
      case atStart =>
        refine ⟨0, by omega, rfl, va, vc, by simp [chunksTo], B3, D3, S3, ?_⟩
        rw [show chunksTo t 0 = [] from rfl, List.append_nil]
        exact R3
      case round =>
        obtain ⟨k, hkg, rfl, va', vc', rfl, BR, DR, SR, RR⟩ := hrel
        clear B3 D3 S3 R3
        have hlen : (NA ++ chunksTo t k).length ≤ NA.length + k := by rw [List.length_append, chunksTo_length]; exact Nat.le_refl _
        cases gk with
        | succ q =>
          have hk := chunks_lt (show k < chunks t.size by omega)
          have hlt' : ((60 * k : Nat) : Int) < (t.size : Int) := by omega
          have HSU := hid (chunksTo_succ t k)
          have hsl := slice_mid (P := Tryz.prog) Tryz.underlying9 t k (by omega)
          obtain ⟨ck, hck⟩ : ∃ x, chunkAt t k = x := ⟨_, rfl⟩
          rw [hck] at HSU hsl
          clear hck
          obtain ⟨C, hC⟩ : ∃ x, NA ++ chunksTo t k = x := ⟨_, rfl⟩
          have HC : Hid (NA ++ chunksTo t (k + 1) = C ++ [addA ck]) := (show _ = _ by rw [HSU.out, ← hC, List.append_assoc])
          rw [hC] at RR hlen ⊢
          have bb := below_more (Below.refl wr.heap.size wr) (.cells #[.int .i64 1, .string ⟨#[115, 43]⟩, .string ck, .string ⟨#[]⟩] 74)
          have BA := hid (below_via BR.out bb)
          have DA := hid (DR.out.on bb DR.out.lt)
          have SA := hid (SR.out.on bb SR.out.lt)
          have hrow := actR_below RR.out bb
          have hnew : World.ownsRow (wr.alloc (.cells #[.int .i64 1, .string ⟨#[115, 43]⟩, .string ck, .string ⟨#[]⟩] 74)) wr.heap.size 74 4 (.slice (some ⟨wr.heap.size, 0, none⟩) 1 1) 1 (actCells [addA ck]) := actR_made (A := [addA ck]) (heap_alloc_new wr _) (Nat.le_refl _) (by simp)
          have hbase : w.heap.size ≤ (wr.alloc (.cells #[.int .i64 1, .string ⟨#[115, 43]⟩, .string ck, .string ⟨#[]⟩] 74)).heap.size := BA.out.size
          obtain ⟨N, hN⟩ : ∃ N, (C ++ [addA ck]).length = N := ⟨_, rfl⟩
          have hnum : N ≤ 2097152 := by rw [← hN]; simp; omega
          have HN := hid hN
          clear bb BR DR SR RR hC HSU hN
          go_wp2_with (at_builtin; refine wpList_append_acts rfl (.tmp 41) (.tmp 44) rfl rfl rfl rfl rfl HN.out hnum hbase hrow hnew ?_)
          intro va2 vc2 w4 hown hgrow
          have B4 := hid (below_row BA.out hrow hgrow (Nat.le_refl _) hbase)
          have D4 := hid (blk_row DA.out hrow hgrow (by decide))
          have S4 := hid (blk_row SA.out hrow hgrow (by decide))
          have R4 := hid hown
          clear hrow hnew hbase hnum hown hgrow BA DA SA
          go_wp2
          go_roundg q
          case measure => omega
          case rel =>
            refine ⟨k + 1, by omega, by go_num, va2, vc2, by rw [HC.out, HN.out], B4, D4, S4, ?_⟩
            rw [HC.out, HN.out]
            exact R4
        | zero =>
          have hkk : k = chunks t.size := by omega
          have hge := chunks_ge (show chunks t.size ≤ k by omega)
          have hlt : ¬ ((60 * k : Nat) : Int) < (t.size : Int) := by omega
          obtain ⟨C, hC⟩ : ∃ x, NA ++ chunksTo t k = x := ⟨_, rfl⟩
          rw [hkk] at hC
          rw [hC] at HR
          rw [← hkk] at hC
          rw [hC] at RR hlen ⊢
          have s0 := SR.out.cell (j := 0) rfl
          have hk2 : k ≤ t.size := by omega
          clear hC hkk
          go_wp2_with fail
          refine (implSName_any ix _ (table_on HTB.out BR.out)).mono ?_
          rintro e w4 ⟨rfl, b4⟩
          have D4 := hid (DR.out.on b4 DR.out.lt)
          have S4 := hid (SR.out.on b4 SR.out.lt)
          have R4 := hid (actR_below RR.out b4)
          have B4 := hid (below_via BR.out b4)
          clear b4 DR SR RR BR s0
          obtain ⟨nm, hnm⟩ : ∃ x, sname ix = x := ⟨_, rfl⟩
          rw [hnm] at HR ⊢
          clear hnm
          have bb := below_more (Below.refl w4.heap.size w4) (.cells #[.int .i64 2, .string ⟨#[115, 43]⟩, .string ⟨#[]⟩, .string ⟨#[]⟩, .int .i64 3, .string ⟨#[115, 43]⟩, .string ⟨#[]⟩, .string nm] 74)
          have BA := hid (below_via B4.out bb)
          have DA := hid (D4.out.on bb D4.out.lt)
          have SA := hid (S4.out.on bb S4.out.lt)
          have hrow := actR_below R4.out bb
          have hnew : World.ownsRow (w4.alloc (.cells #[.int .i64 2, .string ⟨#[115, 43]⟩, .string ⟨#[]⟩, .string ⟨#[]⟩, .int .i64 3, .string ⟨#[115, 43]⟩, .string ⟨#[]⟩, .string nm] 74)) w4.heap.size 74 4 (.slice (some ⟨w4.heap.size, 0, none⟩) 2 2) 2 (actCells [keepA, moveA nm]) := actR_made (A := [keepA, moveA nm]) (heap_alloc_new w4 _) (Nat.le_refl _) (by simp)
          have hbase : w.heap.size ≤ (w4.alloc (.cells #[.int .i64 2, .string ⟨#[115, 43]⟩, .string ⟨#[]⟩, .string ⟨#[]⟩, .int .i64 3, .string ⟨#[115, 43]⟩, .string ⟨#[]⟩, .string nm] 74)).heap.size := BA.out.size
          obtain ⟨N, hN⟩ : ∃ N, (C ++ [keepA, moveA nm]).length = N := ⟨_, rfl⟩
          have hNl2 : N ≤ C.length + 2 := by rw [← hN]; simp
          have hnum : N ≤ 2097152 := by omega
          have HN := hid hN
          clear bb B4 D4 S4 R4 hN
          go_wp2_with (at_builtin; refine wpList_append_acts rfl (.tmp 46) (.tmp 52) rfl rfl rfl rfl rfl HN.out hnum hbase hrow hnew ?_)
          intro va2 vc2 w5 hown hgrow
          have B5 := hid (below_row BA.out hrow hgrow (Nat.le_refl _) hbase)
          have D5 := hid (blk_row DA.out hrow hgrow (by decide))
          have S5 := hid (blk_row SA.out hrow hgrow (by decide))
          have R5 := hid hown
          obtain ⟨C2, hC2⟩ : ∃ x, C ++ [keepA, moveA nm] = x := ⟨_, rfl⟩
          rw [hC2] at R5 HR HN
          rw [← HN.out] at R5
          clear hrow hnew hbase hnum hown hgrow BA DA SA hC2
          have d0 := D5.out.cell (j := 0) rfl
          go_wp2_with fail
          refine (dropActs_any 37 (fun args w => by kernel_rfl) #[.pointer (some ⟨w.heap.size + 1, 0, none⟩)] (isOther ix) ao l cap hl HSN.out _ (HA.out.on B5.out) (fun nm W _ hB => othersGo_any nm (w.heap.size + 1) ix W ((S5.out.on hB S5.out.lt).cell (j := 0) rfl))).mono ?_
          rintro e w6 ⟨va3, vc3, rfl, ho, b6⟩
          have B6 := hid (below_via B5.out b6)
          have hrow := actR_below R5.out b6
          have hbase : w.heap.size ≤ w6.heap.size := B6.out.size
          obtain ⟨DA, hDA⟩ : ∃ x, dropsOf (isOther ix) l = x := ⟨_, rfl⟩
          rw [hDA] at HR hDl ho ⊢
          obtain ⟨N2, hN2⟩ : ∃ N, (C2 ++ DA).length = N := ⟨_, rfl⟩
          have hnum : N2 ≤ 2097152 := by rw [← hN2, List.length_append]; have := HN.out; omega
          have HN2 := hid hN2
          rw [HN.out] at hrow
          have hrow2 : w6.ownsRow w.heap.size 74 4 (.slice va2 N vc2) C2.length (actCells C2) := by rw [HN.out]; exact hrow
          clear b6 B5 D5 S5 R5 d0 hDA hN2
          go_wp2_with (at_builtin; refine wpList_append_acts rfl (.tmp 57) (.tmp 58) rfl rfl rfl rfl rfl HN2.out hnum hbase hrow2 ho ?_)
          intro va4 vc4 w7 hown hgrow
          have B7 := hid (below_row B6.out hrow2 hgrow (Nat.le_refl _) hbase)
          obtain ⟨C3, hC3⟩ : ∃ x, C2 ++ DA = x := ⟨_, rfl⟩
          rw [hC3] at hown HR HN2
          have R7 := hid hown
          clear hrow hrow2 ho hbase hnum hown hgrow hC3 B6
          go_wp2
          go_ret2
          rw [HR.out]
          refine ⟨va4, vc4, by rw [HN2.out]; rfl, ?_, B7.out⟩
          rw [HN2.out]
          exact R7.out
end Go.Proofs.YtoanhjjigbjecaaGreatDoor

namespace Go.Proofs.YtoanhjjigbjecaaGreatDoor
open Go.RowKit

theorem uns_whole {s : ByteArray} (h4 : 4 ≤ s.size) (h2 : s.size ≤ 20004) : s.extract 0 (s.size - 4) ++ ⟨(four (sumOf (s.extract 0 (s.size - 4)).data.toList)).toArray⟩ = s ↔ Uns s := by
  obtain ⟨l, hl⟩ : ∃ l, l = s.data.toList := ⟨_, rfl⟩
  have key : (s.extract 0 (s.size - 4) ++ ⟨(four (sumOf (s.extract 0 (s.size - 4)).data.toList)).toArray⟩ : ByteArray).data.toList = l.take (s.size - 4) ++ four (sumOf (l.take (s.size - 4))) := by
    rw [ByteArray.data_append, Array.toList_append, head_list, hl]
  constructor
  · intro h
    refine ⟨h4, h2, ?_⟩
    rw [h, ← hl] at key
    rw [← hl]
    exact List.append_cancel_left ((List.take_append_drop (s.size - 4) l).trans key)
  · intro h
    apply ByteArray.ext
    apply Array.toList_inj.1
    have h3 := h.2.2
    rw [← hl] at h3
    rw [key, ← h3, ← hl, List.take_append_drop]

set_option maxRecDepth 1000000 in
set_option maxHeartbeats 1000000 in
theorem implUnsealed_any (s : ByteArray) (hs : s.size ≤ 140737488355328) (w : World) (ht : Steps w) :
    Calls Tryz.prog 93 #[.string s] w fun e w' =>
      ((Uns s ∧ e = .returned (.tuple #[.string (s.extract 0 (s.size - 4)), .bool true])) ∨ (¬ Uns s ∧ e = .returned (.tuple #[.string ByteArray.empty, .bool false]))) ∧ Below w.heap.size w w' := by
  have HT := (show Hid _ from ht)
  clear ht
  by_cases h4 : (s.size : Int) - 4 < 0
  · go_enter Tryz.func93, Tryz.ntmps93
    go_wp2
    go_ret2
    exact ⟨Or.inr ⟨fun h => by have := h.1; omega, rfl⟩, Below.refl _ _⟩
  · have h4' : decide ((s.size : Int) - 4 < 0) = false := by simpa using h4
    have q2 := slice_upto (P := Tryz.prog) Tryz.underlying9 s (s.size - 4) ((s.size : Int) - 4) (by omega) (by omega)
    have hle : (s.extract 0 (s.size - 4)).size = s.size - 4 := by rw [ByteArray.size_extract]; omega
    by_cases h2 : s.size ≤ 20004
    · have HU := (show Hid _ from uns_whole (s := s) (by omega) h2)
      obtain ⟨T, hT⟩ : ∃ T, s.extract 0 (s.size - 4) = T := ⟨_, rfl⟩
      rw [hT] at q2 hle HU ⊢
      have cS' := implSealed_yes T (by omega) w HT.out
      obtain ⟨Q, hQ⟩ : ∃ Q, T ++ (⟨(four (sumOf T.data.toList)).toArray⟩ : ByteArray) = Q := ⟨_, rfl⟩
      rw [hQ] at cS' HU
      have cS := (show Hid _ from cS')
      have cC := (show Hid _ from fun w => clone_any T (by omega) w)
      clear cS' hT hQ
      by_cases hu : Uns s
      · have hq : Q = s := HU.out.2 hu
        clear HU h4'
        subst hq
        go_enter Tryz.func93, Tryz.ntmps93
        go_wp2_with fail
        refine Calls.mono cS.out ?_
        rintro e w1 ⟨rfl, hb1⟩
        go_wp2_with fail
        refine (cC.out _).mono ?_
        rintro e w2 ⟨rfl, hb2⟩
        go_wp2
        go_ret2
        exact ⟨Or.inl ⟨hu, rfl⟩, hb1.trans (hb2.mono hb1.size)⟩
      · have hq : (Q.toList == s.toList) = false := by
          rw [beq_eq_false_iff_ne, ByteArray.toList_eq, ByteArray.toList_eq]
          exact fun h => hu (HU.out.1 (ByteArray.ext (Array.toList_inj.1 h)))
        clear HU
        go_enter Tryz.func93, Tryz.ntmps93
        go_wp2_with fail
        refine Calls.mono cS.out ?_
        rintro e w1 ⟨rfl, hb1⟩
        go_wp2
        go_ret2
        exact ⟨Or.inr ⟨hu, rfl⟩, hb1⟩
    · obtain ⟨T, hT⟩ : ∃ T, s.extract 0 (s.size - 4) = T := ⟨_, rfl⟩
      rw [hT] at q2 hle ⊢
      have cS := (show Hid _ from implSealed_no T (by omega) w)
      have hu : ¬ Uns s := fun h => h2 h.2.1
      clear hT hle h2
      go_enter Tryz.func93, Tryz.ntmps93
      go_wp2_with fail
      refine Calls.mono cS.out ?_
      rintro e w1 ⟨rfl, hb1⟩
      go_wp2
      go_ret2
      exact ⟨Or.inr ⟨hu, rfl⟩, hb1⟩
end Go.Proofs.YtoanhjjigbjecaaGreatDoor

namespace Go.Proofs.YtoanhjjigbjecaaGreatDoor
open Go.RowKit

theorem readConfI_info3 : (Tryz.prog.info? 3).map (fun i => (i.zero, i.size, i.bytes)) = some (some (.int .i64 0), 1, 8) := by kernel_rfl

set_option maxRecDepth 1000000 in
set_option maxHeartbeats 1000000 in
theorem implReadConf_any (s : ByteArray) (w : World) : Calls Tryz.prog 95 #[.string s] w fun e w' => readConfAns s w e w' := by
  obtain ⟨i0, hi, hz0, hz1, hz2⟩ := info_parts readConfI_info3
  by_cases hbig : 4 < s.size
  · have hbig' : 4 < (s.size : Int) := by omega
    have hno := hid (confOk_big (zs := intsOf s.data.toList) (by rw [intsOf_length]; simp; omega))
    go_enter Tryz.func95, Tryz.ntmps95
    go_wp2
    go_ret2
    exact readConf_none hno.out (World.ownsRow_made w #[] 0 (Nat.le_refl _) (Nat.zero_le _) rfl) (below_more (Below.refl _ _) _)
  have hbig' : ¬ 4 < (s.size : Int) := by omega
  go_enter Tryz.func95, Tryz.ntmps95
  go_wp2_with (at_make; refine wpList_make_own _ rfl _ _ 27 rfl w.heap.size 3 i0 (.int .i64 0) 1 Tryz.underlying27 hi hz0 hz1 _ _ _ s.size rfl rfl ?b1 ?b2 ?b3 ?b4 ?_)
  case b1 => omega
  case b2 => omega
  case b3 => unfold maxLen; omega
  intro w0 hown0 hgrow0
  have hb0 : Below w.heap.size w w0 := (Below.refl _ _).grown hgrow0 (Nat.le_refl _) (fun k h => by cases h)
  clear hgrow0
  go_wp2
  go_loopw [4, 5] (fun v i wr => ∃ (k : Nat), k ≤ s.size ∧ i = .int .i64 k ∧ wr.ownsRow w.heap.size 3 1 v k (intCells (intsOf (s.data.toList.take k))) ∧ Below w.heap.size w wr) (fun _ i _ => s.size - (intOf i).toNat)
  case atStart => exact ⟨0, Nat.zero_le _, rfl, hown0, hb0⟩
  case round =>
    obtain ⟨k, hk, rfl, hown, hb⟩ := hrel
    have hsz := hb.size
    clear hown0 hb0
    by_cases hlt : k < s.size
    · have c0 : (s[k].toNat : Int) ≤ 255 := by have := s[k].toNat_lt; omega
      have HTK : Hid (intsOf (s.data.toList.take (k + 1)) = intsOf (s.data.toList.take k) ++ [(s[k].toNat : Int)]) := intsOf_take s.data.toList k (by simpa using hlt)
      obtain ⟨x, hx⟩ : ∃ x : Nat, s[k].toNat = x := ⟨_, rfl⟩
      have HXk := hid hx
      rw [hx] at HTK
      clear hx
      go_wp2_with (at_builtin; refine wpList_append_own _ rfl (.tmp 19) (.tmp 24) 27 rfl w.heap.size 3 i0 (.int .i64 0) 1 8 Tryz.underlying27 hi hz0 hz1 hz2 rfl (by decide) _ _ _ rfl (hown.alloc _) ⟨wr.heap.size, 0, none⟩ 1 1 [.int .i64 (s[k].toNat : Int)] rfl rfl (one_new _ _ _) (by intro u hu; simp at hu; subst hu; rfl) (by unfold maxLen; omega) (by omega) (by simp; omega) ?_)
      intro v' w3 hown' hgrow _
      have R1 : Hid (w3.ownsRow w.heap.size 3 1 v' (k + 1) (intCells (intsOf (s.data.toList.take (k + 1))))) := by
        rw [HXk.out] at hown'
        rw [HTK.out]
        show w3.ownsRow w.heap.size 3 1 v' (k + 1) _
        simpa [intCells] using hown'
      have R2 : Hid (Below w.heap.size w w3) := (hb.alloc hb.size _).grown hgrow (by have := hb.size; simp; omega) (fun k hk => (hown.lt k hk).1)
      clear hown' hgrow hown hb
      go_wp2
      go_roundw
      case rel => exact ⟨k + 1, by omega, by go_num, R1.out, R2.out⟩
      case measure => simp [intOf]; omega
    · obtain rfl : k = s.size := by omega
      rw [List.take_of_length_le (by simp)] at hown
      have hil : (intsOf s.data.toList).length = s.size := by rw [intsOf_length]; simp
      obtain ⟨_, va, vc, hv, _⟩ := row_lie hown
      subst hv
      have HO := hid hown
      have cO' := implConfOk_any va (intsOf s.data.toList) vc (by omega) wr (ints_row hil hown)
      rw [hil] at cO'
      have HBB := hid hb
      clear hown hb
      cases hA : confOk (intsOf s.data.toList) with
      | false =>
        rw [hA] at cO'
        have cO := hid cO'
        have HA := hid hA
        clear cO' hA
        go_wp2_with (go_at_call 60; refine Calls.mono cO.out ?_; rintro e w1 ⟨rfl, b1⟩)
        have hsz1 := Nat.le_trans hsz b1.size
        go_ret2
        exact readConf_none HA.out (World.ownsRow_made w1 #[] 0 hsz1 (Nat.zero_le _) rfl) ((HBB.out.trans (b1.mono hsz)).alloc hsz1 _)
      | true =>
        rw [hA] at cO'
        have cO := hid cO'
        have HA := hid hA
        clear cO' hA
        go_wp2_with (go_at_call 60; refine Calls.mono cO.out ?_; rintro e w1 ⟨rfl, b1⟩)
        go_ret2
        exact readConf_some HA.out (kept_conf HO.out b1) (HBB.out.trans (b1.mono hsz))
end Go.Proofs.YtoanhjjigbjecaaGreatDoor

namespace Go.Proofs.YtoanhjjigbjecaaGreatDoor
open Go.RowKit

set_option maxHeartbeats 1000000 in
set_option maxRecDepth 1000000 in
theorem implReadVar_in (s : ByteArray) (a : Nat) (ha : a ≤ s.size) (hs : s.size ≤ 140737488355328) (w : World) :
    Calls Tryz.prog 94 #[.string s, .int .i64 a] w fun e w' => e = .returned (rvAns a (rv (s.data.toList.drop a))) ∧ w' = w := by
  go_enter Tryz.func94, Tryz.ntmps94
  go_wp2
  go_loop [7, 8, 9] (fun n g i => ∃ (k W : Nat) (p : List UInt8), RvAt s a k p ∧ i = .int .i64 k ∧ n = .int .i64 (val p) ∧ g = .int .i64 W ∧ Hid (W = 128 ^ (k - a))) (fun _ _ i => a + 5 - (intOf i).toNat)
  case atStart => exact ⟨a, 1, [], RvAt.start s a ha, rfl, rfl, rfl, by simp [Hid]⟩
  case round =>
    obtain ⟨k, W, p, hR, rfl, rfl, rfl, HW⟩ := hrel
    have k1 := hR.lo
    have k2 := hR.hi
    have k3 := hR.five
    by_cases hk : k < s.size
    · by_cases h5 : k < a + 5
      · have hbd := hR.bounds h5 s[k].toNat
        rw [← HW.out] at hbd
        obtain ⟨b1, b2, b3, b4⟩ := hbd
        have m0 : (0 : Int) ≤ (s[k].toNat : Int) % 128 * (W : Int) := by
          have : ((s[k].toNat % 128 * W : Nat) : Int) = (s[k].toNat : Int) % 128 * (W : Int) := by simp
          omega
        have m1 : (s[k].toNat : Int) % 128 * (W : Int) ≤ 34091302912 := by
          have : ((s[k].toNat % 128 * W : Nat) : Int) = (s[k].toNat : Int) % 128 * (W : Int) := by simp
          omega
        have c0 : (s[k].toNat : Int) ≤ 255 := by have := s[k].toNat_lt; omega
        have HV : Hid (((val (p ++ [s[k]]) : Nat) : Int) = (val p : Int) + (s[k].toNat : Int) % 128 * (W : Int)) := hR.val_step HW.out s[k]
        by_cases hb : 127 < (s[k].toNat : Int)
        · go_wp2
          go_round
          case rel => exact ⟨k + 1, W * 128, p ++ [s[k]], hR.step hk h5 (by omega), by go_num, by rw [HV.out], by go_num, hR.W_step HW.out⟩
          case measure => simp [intOf]; omega
        · by_cases hz : (s[k].toNat : Int) ≤ 0
          · by_cases hak : a < k
            · go_wp2
              go_ret3
              exact ⟨rvAns_none (hR.no hk h5 (by omega) (Or.inr ⟨zero_of_toNat hz, hak⟩)), rfl⟩
            · have hv : (val p : Int) + (s[k].toNat : Int) % 128 * (W : Int) ≤ 1000000000 := by
                have : val p = 0 := by have := hR.len; have e : p = [] := List.eq_nil_of_length_eq_zero (by omega); rw [e]; rfl
                have e : s[k].toNat = 0 := by omega
                rw [this, e]; simp
              have HZ : Hid (((val (p ++ [s[k]]) : Nat) : Int) = (val p : Int)) := by
                have e : (s[k].toNat : Int) = 0 := by omega
                show _ = _
                rw [HV.out, e]; simp
              go_wp2
              go_ret3
              exact ⟨rvAns_some (hR.yes hk h5 (by omega) (by have := HV.out; omega) (by omega)) k1 HZ.out rfl, rfl⟩
          · by_cases hv : 1000000000 < (val p : Int) + (s[k].toNat : Int) % 128 * (W : Int)
            · go_wp2
              go_ret3
              exact ⟨rvAns_none (hR.no hk h5 (by omega) (Or.inl (by have := HV.out; omega))), rfl⟩
            · go_wp2
              go_ret3
              exact ⟨rvAns_some (hR.yes hk h5 (by omega) (by have := HV.out; omega) (fun h => not_zero (by omega) h.1)) k1 HV.out rfl, rfl⟩
      · go_wp2
        go_ret3
        exact ⟨rvAns_none (hR.none_end (Or.inr (by omega))), rfl⟩
    · go_wp2
      go_ret3
      exact ⟨rvAns_none (hR.none_end (Or.inl (by omega))), rfl⟩

theorem implReadVar_out (s : ByteArray) (a : Int) (ha : a < 0 ∨ (s.size : Int) < a) (w : World) :
    Calls Tryz.prog 94 #[.string s, .int .i64 a] w fun e w' => e = .returned (.tuple #[.int .i64 0, .int .i64 0, .bool false]) ∧ w' = w := by
  by_cases h0 : a < 0
  · go_enter Tryz.func94, Tryz.ntmps94
    go_wp2
    go_ret3
    exact ⟨rfl, rfl⟩
  · have h1 : (s.size : Int) < a := by omega
    go_enter Tryz.func94, Tryz.ntmps94
    go_wp2
    go_ret3
    exact ⟨rfl, rfl⟩
end Go.Proofs.YtoanhjjigbjecaaGreatDoor

namespace Go.Proofs.YtoanhjjigbjecaaGreatDoor
open Go.RowKit

set_option maxRecDepth 1000000 in
theorem implReadShort_any (s : ByteArray) (a : Int) (hs : s.size ≤ 140737488355328) (w : World) :
    Calls Tryz.prog 96 #[.string s, .int .i64 a] w fun e w' => e = .returned (rsAns s (rs s a)) ∧ Below w.heap.size w w' := by
  by_cases h : 0 ≤ a ∧ a ≤ s.size
  · obtain ⟨n, rfl⟩ : ∃ n : Nat, a = n := ⟨a.toNat, by omega⟩
    have hn : n ≤ s.size := by omega
    clear h
    have c1 := implReadVar_in s n hn hs
    rcases hr : rv (s.data.toList.drop n) with _ | ⟨x, c⟩
    · rw [hr] at c1
      rw [rs_none hn hr]
      have C1 := (show Hid _ from c1)
      clear hr c1
      go_enter Tryz.func96, Tryz.ntmps96
      go_wp2_with fail
      refine (C1.out _).mono ?_
      rintro e w1 ⟨rfl, rfl⟩
      simp only [rvAns]
      go_wp2
      go_ret3
      exact ⟨rfl, Below.refl _ _⟩
    · have hf := rv_fits hn hr
      obtain ⟨f1, f2, f3⟩ := hf
      rw [hr] at c1
      by_cases hb : x ≤ 20000 ∧ n + c + x ≤ s.size
      · rw [rs_yes hn hr hb]
        obtain ⟨g1, g2⟩ := hb
        have C1 := (show Hid _ from c1)
        clear hr c1
        have hsl := slice_nat (P := Tryz.prog) Tryz.underlying9 s (n + c) (n + c + x) ((n : Int) + c) ((n : Int) + c + x) (by omega) (by omega) (by omega) (by omega)
        have hle : (s.extract (n + c) (n + c + x)).size ≤ 140737488355328 := by rw [ByteArray.size_extract]; omega
        go_enter Tryz.func96, Tryz.ntmps96
        go_wp2_with fail
        refine (C1.out _).mono ?_
        rintro e w1 ⟨rfl, rfl⟩
        simp only [rvAns]
        go_wp2_with fail
        refine (clone_any _ hle _).mono ?_
        rintro e w2 ⟨rfl, hb2⟩
        go_wp2
        go_ret3
        exact ⟨by simp [rsAns], hb2⟩
      · rw [rs_big hn hr hb]
        have C1 := (show Hid _ from c1)
        clear hr c1
        by_cases g1 : 20000 < x
        · clear hb
          go_enter Tryz.func96, Tryz.ntmps96
          go_wp2_with fail
          refine (C1.out _).mono ?_
          rintro e w1 ⟨rfl, rfl⟩
          simp only [rvAns]
          go_wp2
          go_ret3
          exact ⟨rfl, Below.refl _ _⟩
        · have g2 : (s.size : Int) - ((n : Int) + c) < x := by omega
          clear hb
          go_enter Tryz.func96, Tryz.ntmps96
          go_wp2_with fail
          refine (C1.out _).mono ?_
          rintro e w1 ⟨rfl, rfl⟩
          simp only [rvAns]
          go_wp2
          go_ret3
          exact ⟨rfl, Below.refl _ _⟩
  · have h' : a < 0 ∨ (s.size : Int) < a := by omega
    rw [rs_out h']
    have C1 := (show Hid _ from implReadVar_out s a h')
    clear h h'
    go_enter Tryz.func96, Tryz.ntmps96
    go_wp2_with fail
    refine (C1.out _).mono ?_
    rintro e w1 ⟨rfl, rfl⟩
    go_wp2
    go_ret3
    exact ⟨rfl, Below.refl _ _⟩
end Go.Proofs.YtoanhjjigbjecaaGreatDoor
