/-
  The walk of impl.SnapActs: what it answers, in memory of its own.
-/
import Derived.Test.YtggogiepebnckaaDoorJoint1
import Derived.Test.YtggogiepebnckaaDoorJoint39
import Derived.Test.YtggogiepebnckaaDoorJoint42
import Derived.Test.YtggogiepebnckaaDoorJoint28
import Derived.Test.YtggogiepebnckaaDoorJoint45
import Derived.Test.YtggogiepebnckaaDoorJoint18
namespace Go.Proofs.YtggogiepebnckaaDoor
open Go.RowKit

/-- what both answer -/
def sactsDid (A : List ActD) (ok : Bool) (w : World) (e : Ending) (w' : World) : Prop := ∃ va vc, e = .returned (.tuple #[.slice va A.length vc, .bool ok]) ∧ w'.ownsRow w.heap.size 82 4 (.slice va A.length vc) A.length (actCells A) ∧ Below w.heap.size w w'

set_option maxRecDepth 1000000 in
/-- the function that tells whether a snapshot was begun -/
theorem newGoes_any (nm : ByteArray) (w : World) : Calls Tryd.prog 56 (#[.string nm] ++ #[]) w fun e w' => e = .returned (.bool (isNew nm)) ∧ Below w.heap.size w w' := by
  show Calls Tryd.prog 56 #[.string nm] w _
  obtain ⟨q, hq⟩ : ∃ q, isNew nm = q := ⟨_, rfl⟩
  have hnd : (nm.toList == [115, 43]) = q := hq
  rw [hq]
  clear hq
  go_enter Tryd.func56, Tryd.ntmps56
  go_wp2
  go_ret
  exact ⟨rfl, Below.refl _ _⟩
set_option maxRecDepth 1000000 in
/-- the function that tells which snapshots are others -/
theorem othersGo_any (nm : ByteArray) (b : Nat) (ix : Int) (w : World) (hc : w.cell? ⟨b, 0, none⟩ = some (.int .i64 ix)) :
    Calls Tryd.prog 58 (#[.string nm] ++ #[.pointer (some ⟨b, 0, none⟩)]) w fun e w' => e = .returned (.bool (isOther ix nm)) ∧ Below w.heap.size w w' := by
  show Calls Tryd.prog 58 #[.string nm, .pointer (some ⟨b, 0, none⟩)] w _
  go_enter Tryd.func58, Tryd.ntmps58
  go_wp2_with fail
  refine (otherSnap_any nm ix _).mono ?_
  rintro e w1 ⟨rfl, b1⟩
  have B1 := hid b1
  obtain ⟨q, hq⟩ : ∃ q, isOther ix nm = q := ⟨_, rfl⟩
  rw [hq]
  have HQ := hid hq
  clear b1 hq
  go_wp2
  go_ret
  exact ⟨by rw [HQ.out]; rfl, B1.out⟩

theorem slice_mid {P : Program} {t : TypeId} (h : P.underlying t = some .string) (s : ByteArray) (k : Nat) (hk : 60 * k ≤ s.size) (w : World) :
    (Instr.slice t (.string s) (some (.int .i64 (60 * (k : Int)))) (some (.int .i64 (min (60 * (k : Int) + 60) (s.size : Int)))) none).run P w = .ok (.string (chunkAt s k)) w := by
  rw [chunkAt]
  exact slice_nat h s (60 * k) (min (60 * k + 60) s.size) _ _ (by omega) (by omega) (by omega) (by omega) w

set_option maxRecDepth 1000000 in
set_option maxHeartbeats 8000000 in
theorem implSActs_any (ao : Option Addr) (l : List FileD) (cap : Nat) (ix tm : Int) (so : Option Addr) (zs : List Int) (scap : Nat) (bd : ByteArray) (hl : l.length ≤ 1048576) (hsn : ∀ f ∈ l, f.name.size ≤ 1048576) (hzl : zs.length ≤ 1048576) (hbd : bd.size ≤ 1048576) (w : World) (ha : FilesAt w ao l) (hz : IntsAt w so zs) (ht : Steps w) (htab : Lib.TabIs Tryd.prog w "internal/strconv.uint64pow10" .u64 Lib.pow10Tab) :
    Calls Tryd.prog 26 #[.agg #[.slice ao l.length cap], snapV ix tm (.slice so zs.length scap) bd] w fun e w' => sactsDid (snapActs l ix tm zs bd).1 (snapActs l ix tm zs bd).2 w e w' := by
  have hmf : ∀ (fn : Fn) (first cap : Array Value) (w : World), (Instr.makeFunc fn first cap).run Tryd.prog w = .ok (.func fn first cap) w := fun _ _ _ _ => rfl
  have HA := hid ha
  have HZ := hid hz
  have HT := hid ht
  have HTB := hid htab
  have HSN := hid hsn
  have h2 := two_blocks w (.cells #[.slice ao l.length cap] 37) (.cells #[.int .i64 ix, .int .i64 tm, .slice so zs.length scap, .string bd] 24)
  have D0 : Hid (BlockIs _ w.heap.size 37 [.slice ao l.length cap]) := h2.2.2.1
  have S0 : Hid (BlockIs _ (w.heap.size + 1) 24 [.int .i64 ix, .int .i64 tm, .slice so zs.length scap, .string bd]) := h2.2.2.2
  have B0 := hid h2.1
  clear h2 ha hz ht htab hsn
  obtain ⟨W, hW⟩ : ∃ W, (w.alloc (.cells #[.slice ao l.length cap] 37)).alloc (.cells #[.int .i64 ix, .int .i64 tm, .slice so zs.length scap, .string bd] 24) = W := ⟨_, rfl⟩
  rw [hW] at D0 S0 B0
  have s0 := S0.out.cell (j := 0) rfl
  have s1 := S0.out.cell (j := 1) rfl
  have s2 := S0.out.cell (j := 2) rfl
  have s3 := S0.out.cell (j := 3) rfl
  go_enter Tryd.func26, Tryd.ntmps26
  go_wp2_with fail
  refine (implSnapText_any ix tm so zs scap bd hzl hbd _ (HZ.out.on B0.out) (steps_on HT.out B0.out)).mono ?_
  rintro e w1 ⟨rfl, b1⟩
  have D1 := hid (D0.out.on b1 D0.out.lt)
  have S1 := hid (S0.out.on b1 S0.out.lt)
  have B1 := hid (below_via B0.out b1)
  clear b1 D0 S0 B0 s0 s1 s2 s3 hW
  have d0 := D1.out.cell (j := 0) rfl
  cases hok : (snapText ix tm zs bd).2 with
  | false =>
    have HR := hid (snapActs_no (l := l) (fun q => by have := snapText_ok.2 q.1; rw [hok] at this; cases this))
    generalize (snapText ix tm zs bd).1 = T
    have BL := hid (below_more B1.out (.cells #[] 82))
    have RL := hid (actR_nil w1 w.heap.size B1.out.size)
    clear hok
    go_wp2
    go_ret2
    rw [HR.out]
    exact ⟨_, _, rfl, RL.out, BL.out⟩
  | true =>
    have hsok := snapText_ok.1 hok
    have htz := snapText_size (ix := ix) (tm := tm) (zs := zs) (bd := bd)
    obtain ⟨t, hte⟩ : ∃ t, (snapText ix tm zs bd).1 = t := ⟨_, rfl⟩
    rw [hte] at htz ⊢
    go_wp2_with fail
    refine (implDiskOk_any ao l cap (by omega) _ (HA.out.on B1.out)).mono ?_
    rintro e w2 ⟨rfl, b2⟩
    have D2 := hid (D1.out.on b2 D1.out.lt)
    have S2 := hid (S1.out.on b2 S1.out.lt)
    have B2 := hid (below_via B1.out b2)
    clear b2 D1 S1 B1 d0
    have d0 := D2.out.cell (j := 0) rfl
    cases hd : diskOk l with
    | false =>
      have HR := hid (snapActs_no (l := l) (ix := ix) (tm := tm) (zs := zs) (bd := bd) (fun q => by have := q.2; rw [hd] at this; cases this))
      have BL := hid (below_more B2.out (.cells #[] 82))
      have RL := hid (actR_nil w2 w.heap.size B2.out.size)
      clear hok hd hsok hte
      go_wp2
      go_ret2
      rw [HR.out]
      exact ⟨_, _, rfl, RL.out, BL.out⟩
    | true =>
      have HR := hid (snapActs_yes hsok hd hte)
      have HNW := hid (dropsOf_new (disk_pairs hd))
      have hll : l.length ≤ 30 := by
        have := hd
        rw [diskOk, Bool.and_eq_true, decide_eq_true_eq] at this
        exact this.1
      have hNl := newA_length l
      have hDl := dropsOf_length (isOther ix) l
      have hCl := chunks_le t.size
      clear hok hd hsok hte
      go_wp2_with fail
      refine (dropActs_any 56 (fun args w => by kernel_rfl) #[] isNew ao l cap hl HSN.out _ (HA.out.on B2.out) (fun nm W _ _ => newGoes_any nm W)).mono ?_
      rintro e w3 ⟨va, vc, rfl, ho, b3⟩
      rw [HNW.out] at ho ⊢
      have D3 := hid (D2.out.on b3 D2.out.lt)
      have S3 := hid (S2.out.on b3 S2.out.lt)
      have R3 := hid (row_down ho B2.out.size)
      have B3 := hid (below_via B2.out b3)
      clear b3 ho D2 S2 B2 d0 HNW
      obtain ⟨NA, hNA⟩ : ∃ x, newA l = x := ⟨_, rfl⟩
      rw [hNA] at R3 HR hNl ⊢
      clear hNA
      go_wp2
      go_loopg [8, 9, 10] (chunks t.size) (fun q v i _ wr => ∃ (k : Nat), k + q = chunks t.size ∧ i = .int .i64 ((60 * k : Nat) : Int) ∧ ∃ va vc, v = .slice va (NA ++ chunksTo t k).length vc ∧ Hid (Below w.heap.size w wr) ∧ Hid (BlockIs wr w.heap.size 37 [.slice ao l.length cap]) ∧ Hid (BlockIs wr (w.heap.size + 1) 24 [.int .i64 ix, .int .i64 tm, .slice so zs.length scap, .string bd]) ∧ Hid (wr.ownsRow w.heap.size 82 4 (.slice va (NA ++ chunksTo t k).length vc) (NA ++ chunksTo t k).length (actCells (NA ++ chunksTo t k))))
      case atStart =>
        refine ⟨0, by omega, rfl, va, vc, by simp [chunksTo], B3, D3, S3, ?_⟩
        rw [show chunksTo t 0 = [] from rfl, List.append_nil]
        exact R3
      case round =>
        obtain ⟨k, hkg, rfl, va', vc', rfl, BR, DR, SR, RR⟩ := hrel
        clear B3 D3 S3 R3
        have hlen : (NA ++ chunksTo t k).length ≤ NA.length + k := by rw [List.length_append, chunksTo_length]; exact Nat.le_refl _
        cases gk with
        | succ q =>
          have hk := chunks_lt (show k < chunks t.size by omega)
          have hlt' : ((60 * k : Nat) : Int) < (t.size : Int) := by omega
          have HSU := hid (chunksTo_succ t k)
          have hsl := slice_mid (P := Tryd.prog) Tryd.underlying9 t k (by omega)
          obtain ⟨ck, hck⟩ : ∃ x, chunkAt t k = x := ⟨_, rfl⟩
          rw [hck] at HSU hsl
          clear hck
          obtain ⟨C, hC⟩ : ∃ x, NA ++ chunksTo t k = x := ⟨_, rfl⟩
          have HC : Hid (NA ++ chunksTo t (k + 1) = C ++ [addA ck]) := (show _ = _ by rw [HSU.out, ← hC, List.append_assoc])
          rw [hC] at RR hlen ⊢
          have bb := below_more (Below.refl wr.heap.size wr) (.cells #[.int .i64 1, .string ⟨#[115, 43]⟩, .string ck, .string ⟨#[]⟩] 82)
          have BA := hid (below_via BR.out bb)
          have DA := hid (DR.out.on bb DR.out.lt)
          have SA := hid (SR.out.on bb SR.out.lt)
          have hrow := actR_below RR.out bb
          have hnew : World.ownsRow (wr.alloc (.cells #[.int .i64 1, .string ⟨#[115, 43]⟩, .string ck, .string ⟨#[]⟩] 82)) wr.heap.size 82 4 (.slice (some ⟨wr.heap.size, 0, none⟩) 1 1) 1 (actCells [addA ck]) := actR_made (A := [addA ck]) (heap_alloc_new wr _) (Nat.le_refl _) (by simp)
          have hbase : w.heap.size ≤ (wr.alloc (.cells #[.int .i64 1, .string ⟨#[115, 43]⟩, .string ck, .string ⟨#[]⟩] 82)).heap.size := BA.out.size
          obtain ⟨N, hN⟩ : ∃ N, (C ++ [addA ck]).length = N := ⟨_, rfl⟩
          have hnum : N ≤ 2097152 := by rw [← hN]; simp; omega
          have HN := hid hN
          clear bb BR DR SR RR hC HSU hN
          go_wp2_with (at_builtin; refine wpList_append_acts rfl (.tmp 41) (.tmp 44) rfl rfl rfl rfl rfl HN.out hnum hbase hrow hnew ?_)
          intro va2 vc2 w4 hown hgrow
          have B4 := hid (below_row BA.out hrow hgrow (Nat.le_refl _) hbase)
          have D4 := hid (blk_row DA.out hrow hgrow (by decide))
          have S4 := hid (blk_row SA.out hrow hgrow (by decide))
          have R4 := hid hown
          clear hrow hnew hbase hnum hown hgrow BA DA SA
          go_wp2
          go_roundg q
          case measure => omega
          case rel =>
            refine ⟨k + 1, by omega, by go_num, va2, vc2, by rw [HC.out, HN.out], B4, D4, S4, ?_⟩
            rw [HC.out, HN.out]
            exact R4
        | zero =>
          have hkk : k = chunks t.size := by omega
          have hge := chunks_ge (show chunks t.size ≤ k by omega)
          have hlt : ¬ ((60 * k : Nat) : Int) < (t.size : Int) := by omega
          obtain ⟨C, hC⟩ : ∃ x, NA ++ chunksTo t k = x := ⟨_, rfl⟩
          rw [hkk] at hC
          rw [hC] at HR
          rw [← hkk] at hC
          rw [hC] at RR hlen ⊢
          have s0 := SR.out.cell (j := 0) rfl
          have hk2 : k ≤ t.size := by omega
          clear hC hkk
          go_wp2_with fail
          refine (implSName_any ix _ (table_on HTB.out BR.out)).mono ?_
          rintro e w4 ⟨rfl, b4⟩
          have D4 := hid (DR.out.on b4 DR.out.lt)
          have S4 := hid (SR.out.on b4 SR.out.lt)
          have R4 := hid (actR_below RR.out b4)
          have B4 := hid (below_via BR.out b4)
          clear b4 DR SR RR BR s0
          obtain ⟨nm, hnm⟩ : ∃ x, sname ix = x := ⟨_, rfl⟩
          rw [hnm] at HR ⊢
          clear hnm
          have bb := below_more (Below.refl w4.heap.size w4) (.cells #[.int .i64 2, .string ⟨#[115, 43]⟩, .string ⟨#[]⟩, .string ⟨#[]⟩, .int .i64 3, .string ⟨#[115, 43]⟩, .string ⟨#[]⟩, .string nm] 82)
          have BA := hid (below_via B4.out bb)
          have DA := hid (D4.out.on bb D4.out.lt)
          have SA := hid (S4.out.on bb S4.out.lt)
          have hrow := actR_below R4.out bb
          have hnew : World.ownsRow (w4.alloc (.cells #[.int .i64 2, .string ⟨#[115, 43]⟩, .string ⟨#[]⟩, .string ⟨#[]⟩, .int .i64 3, .string ⟨#[115, 43]⟩, .string ⟨#[]⟩, .string nm] 82)) w4.heap.size 82 4 (.slice (some ⟨w4.heap.size, 0, none⟩) 2 2) 2 (actCells [keepA, moveA nm]) := actR_made (A := [keepA, moveA nm]) (heap_alloc_new w4 _) (Nat.le_refl _) (by simp)
          have hbase : w.heap.size ≤ (w4.alloc (.cells #[.int .i64 2, .string ⟨#[115, 43]⟩, .string ⟨#[]⟩, .string ⟨#[]⟩, .int .i64 3, .string ⟨#[115, 43]⟩, .string ⟨#[]⟩, .string nm] 82)).heap.size := BA.out.size
          obtain ⟨N, hN⟩ : ∃ N, (C ++ [keepA, moveA nm]).length = N := ⟨_, rfl⟩
          have hNl2 : N ≤ C.length + 2 := by rw [← hN]; simp
          have hnum : N ≤ 2097152 := by omega
          have HN := hid hN
          clear bb B4 D4 S4 R4 hN
          go_wp2_with (at_builtin; refine wpList_append_acts rfl (.tmp 46) (.tmp 52) rfl rfl rfl rfl rfl HN.out hnum hbase hrow hnew ?_)
          intro va2 vc2 w5 hown hgrow
          have B5 := hid (below_row BA.out hrow hgrow (Nat.le_refl _) hbase)
          have D5 := hid (blk_row DA.out hrow hgrow (by decide))
          have S5 := hid (blk_row SA.out hrow hgrow (by decide))
          have R5 := hid hown
          obtain ⟨C2, hC2⟩ : ∃ x, C ++ [keepA, moveA nm] = x := ⟨_, rfl⟩
          rw [hC2] at R5 HR HN
          rw [← HN.out] at R5
          clear hrow hnew hbase hnum hown hgrow BA DA SA hC2
          have d0 := D5.out.cell (j := 0) rfl
          go_wp2_with fail
          refine (dropActs_any 58 (fun args w => by kernel_rfl) #[.pointer (some ⟨w.heap.size + 1, 0, none⟩)] (isOther ix) ao l cap hl HSN.out _ (HA.out.on B5.out) (fun nm W _ hB => othersGo_any nm (w.heap.size + 1) ix W ((S5.out.on hB S5.out.lt).cell (j := 0) rfl))).mono ?_
          rintro e w6 ⟨va3, vc3, rfl, ho, b6⟩
          have B6 := hid (below_via B5.out b6)
          have hrow := actR_below R5.out b6
          have hbase : w.heap.size ≤ w6.heap.size := B6.out.size
          obtain ⟨DA, hDA⟩ : ∃ x, dropsOf (isOther ix) l = x := ⟨_, rfl⟩
          rw [hDA] at HR hDl ho ⊢
          obtain ⟨N2, hN2⟩ : ∃ N, (C2 ++ DA).length = N := ⟨_, rfl⟩
          have hnum : N2 ≤ 2097152 := by rw [← hN2, List.length_append]; have := HN.out; omega
          have HN2 := hid hN2
          rw [HN.out] at hrow
          have hrow2 : w6.ownsRow w.heap.size 82 4 (.slice va2 N vc2) C2.length (actCells C2) := by rw [HN.out]; exact hrow
          clear b6 B5 D5 S5 R5 d0 hDA hN2
          go_wp2_with (at_builtin; refine wpList_append_acts rfl (.tmp 57) (.tmp 58) rfl rfl rfl rfl rfl HN2.out hnum hbase hrow2 ho ?_)
          intro va4 vc4 w7 hown hgrow
          have B7 := hid (below_row B6.out hrow2 hgrow (Nat.le_refl _) hbase)
          obtain ⟨C3, hC3⟩ : ∃ x, C2 ++ DA = x := ⟨_, rfl⟩
          rw [hC3] at hown HR HN2
          have R7 := hid hown
          clear hrow hrow2 ho hbase hnum hown hgrow hC3 B6
          go_wp2
          go_ret2
          rw [HR.out]
          refine ⟨va4, vc4, by rw [HN2.out]; rfl, ?_, B7.out⟩
          rw [HN2.out]
          exact R7.out
end Go.Proofs.YtggogiepebnckaaDoor
