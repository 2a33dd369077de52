/-
  The walk of impl.dropActs: for a function that tells of each name whether it goes.
-/
import Derived.Test.YtoanhjjigbjecaaGreatDoorJoint1
import Derived.Test.YtoanhjjigbjecaaGreatDoorJoint42
namespace Go.Proofs.YtoanhjjigbjecaaGreatDoor
open Go.RowKit

/-- what a list of acts is answered by -/
def actsDid (A : List ActD) (w : World) (e : Ending) (w' : World) : Prop := ∃ va vc, e = .returned (.slice va A.length vc) ∧ w'.ownsRow w.heap.size 74 4 (.slice va A.length vc) A.length (actCells A) ∧ Below w.heap.size w w'

set_option maxRecDepth 1000000 in
set_option maxHeartbeats 2000000 in
theorem dropActs_any (F : FuncId) (hcf : ∀ (args : Array Value) (w : World), (callFunc F args).run Tryz.prog w = .ok (.enter F args) w) (caps : Array Value) (p : ByteArray → Bool) (ao : Option Addr) (l : List FileD) (cap : Nat) (hl : l.length ≤ 1048576) (hsn : ∀ f ∈ l, f.name.size ≤ 1048576) (w : World) (ha : FilesAt w ao l)
    (hG : ∀ (nm : ByteArray) (W : World), nm.size ≤ 1048576 → Below w.heap.size w W → Calls Tryz.prog F (#[.string nm] ++ caps) W fun e W' => e = .returned (.bool (p nm)) ∧ Below W.heap.size W W') :
    Calls Tryz.prog 35 #[.agg #[.slice ao l.length cap], .func (.func F) #[] caps] w fun e w' => actsDid (dropsOf p l) w e w' := by
  obtain ⟨i0, hi, hz0, hz1, hz2⟩ := info_parts actR_info
  have HA := hid ha
  have HG := hid hG
  have HSN := hid hsn
  have B0 := hid (below_more (below_more (Below.refl w.heap.size w) (.cells #[.slice ao l.length cap] 26)) (.cells #[] 74))
  have hx0 : BlockIs (w.alloc (.cells #[.slice ao l.length cap] 26)) w.heap.size 26 [.slice ao l.length cap] := heap_alloc_new w _
  have D0 := hid (hx0.on (below_more (Below.refl _ _) (.cells #[] 74)) hx0.lt)
  have hsz : (w.alloc (.cells #[.slice ao l.length cap] 26)).heap.size = w.heap.size + 1 := by simp [World.alloc, -World.alloc_eq]
  have R0 := hid (actR_nil (w.alloc (.cells #[.slice ao l.length cap] 26)) w.heap.size (by omega))
  rw [hsz] at R0
  clear ha hG hsn hx0 hsz
  go_enter Tryz.func35, Tryz.ntmps35
  go_wp2
  go_loopg [5, 7, 12] l.length (fun q v _ i wr => ∃ (k : Nat), k + q = l.length ∧ i = .int .i64 k ∧ ∃ va vc, v = .slice va (dropsOf p (l.take k)).length vc ∧ Hid (Below w.heap.size w wr) ∧ Hid (BlockIs wr w.heap.size 26 [.slice ao l.length cap]) ∧ Hid (wr.ownsRow w.heap.size 74 4 (.slice va (dropsOf p (l.take k)).length vc) (dropsOf p (l.take k)).length (actCells (dropsOf p (l.take k)))))
  case atStart => exact ⟨0, by omega, rfl, _, _, rfl, B0, D0, R0⟩
  case round =>
    obtain ⟨k, hkg, rfl, va, vc, rfl, BR, DR, RR⟩ := hrel
    clear B0 D0 R0
    have hdl := dropsOf_length p (l.take k)
    rw [List.length_take] at hdl
    cases gk with
    | zero =>
      have hlt : ¬ (k : Int) < (l.length : Int) := by omega
      rw [List.take_of_length_le (show l.length ≤ k by omega)] at RR ⊢
      go_wp2
      go_ret
      exact ⟨va, vc, rfl, RR.out, BR.out⟩
    | succ q =>
      have hlt : k < l.length := by omega
      have hlt' : (k : Int) < (l.length : Int) := by omega
      have hne : l ≠ [] := by intro e; rw [e] at hlt; simp at hlt
      obtain ⟨b, off, rfl, hc⟩ := HA.out.on BR.out hne
      obtain ⟨x0, x1, x2⟩ := hc k hlt
      clear hc
      have HST := hid (dropsOf_step (p := p) hlt)
      have hns := HSN.out l[k] (List.getElem_mem hlt)
      have hxf : BlockIs (wr.alloc (.cells #[.string l[k].name, .string l[k].text, .int .i64 l[k].kept] 61)) wr.heap.size 61 [.string l[k].name, .string l[k].text, .int .i64 l[k].kept] := heap_alloc_new wr _
      have bx := below_more (Below.refl wr.heap.size wr) (.cells #[.string l[k].name, .string l[k].text, .int .i64 l[k].kept] 61)
      have BA := hid (below_via BR.out bx)
      have DA := hid (DR.out.on bx DR.out.lt)
      have RA := hid (actR_below RR.out bx)
      have XA := hid hxf
      clear hxf bx BR DR RR
      obtain ⟨L, hL⟩ : ∃ L, dropsOf p (l.take k) = L := ⟨_, rfl⟩
      rw [hL] at RA HST hdl ⊢
      clear hL
      obtain ⟨nm, hnm⟩ : ∃ nm, l[k].name = nm := ⟨_, rfl⟩
      rw [hnm] at HST hns x0 BA DA RA XA
      clear hnm
      go_wp2_with fail
      refine (HG.out nm _ hns BA.out).mono ?_
      rintro e w1 ⟨rfl, b1⟩
      have B1 := hid (below_via BA.out b1)
      have D1 := hid (DA.out.on b1 DA.out.lt)
      have R1 := hid (actR_below RA.out b1)
      have X1 := hid (XA.out.on b1 XA.out.lt)
      clear b1 BA DA RA XA x0 x1 x2
      cases hp : p nm with
      | false =>
        rw [hp] at HST
        have HST2 : Hid (dropsOf p (l.take (k + 1)) = L) := HST.out
        clear HST hp X1
        go_wp2
        go_roundg q
        case measure => omega
        case rel =>
          refine ⟨k + 1, by omega, by go_num, va, vc, by rw [HST2.out], B1, D1, ?_⟩
          rw [HST2.out]
          exact R1
      | true =>
        rw [hp] at HST
        have HST2 : Hid (dropsOf p (l.take (k + 1)) = L ++ [dropA nm]) := HST.out
        have z0 := X1.out.cell (j := 0) rfl
        clear HST hp X1
        go_wp2_with fail
        refine (clone_any nm (by omega) _).mono ?_
        rintro e w2 ⟨rfl, b2⟩
        have hnew := actR_new w2 (dropA nm)
        have hone := actR_one (dropA nm)
        have bb := below_more (Below.refl w2.heap.size w2) (.cells #[.int .i64 (dropA nm).kind, .string (dropA nm).name, .string (dropA nm).text, .string (dropA nm).to] 74)
        have b3 := below_via b2 bb
        have B3 := hid (below_via B1.out b3)
        have D3 := hid (D1.out.on b3 D1.out.lt)
        have hrow := actR_below R1.out b3
        have hbase : w.heap.size ≤ (w2.alloc (.cells #[.int .i64 (dropA nm).kind, .string (dropA nm).name, .string (dropA nm).text, .string (dropA nm).to] 74)).heap.size := B3.out.size
        clear b2 bb b3 B1 D1 R1 z0
        go_wp2_with (at_builtin; refine wpList_append_own _ rfl (.tmp 20) (.tmp 25) 37 rfl w.heap.size 74 i0 _ 4 56 Tryz.underlying37 hi hz0 hz1 hz2 rfl (by decide) _ _ _ rfl hrow ⟨w2.heap.size, 0, none⟩ 1 1 (actEnc (dropA nm)) rfl rfl hnew hone (by unfold maxLen; omega) (by omega) hbase ?_)
        intro v' w4 hown hgrow _
        obtain ⟨va', vc', rfl⟩ := row_shape hown
        rw [← actR_snoc] at hown
        have B4 := hid (below_row B3.out hrow hgrow (Nat.le_refl _) hbase)
        have D4 := hid (blk_row D3.out hrow hgrow (by decide))
        have R4 := hid hown
        have HL : Hid ((L ++ [dropA nm]).length = L.length + 1) := by show _ = _; simp
        clear hnew hone hrow hbase hown hgrow B3 D3
        go_wp2
        go_roundg q
        case measure => omega
        case rel =>
          refine ⟨k + 1, by omega, by go_num, va', vc', by rw [HST2.out, HL.out], B4, D4, ?_⟩
          rw [HST2.out, HL.out]
          exact R4
end Go.Proofs.YtoanhjjigbjecaaGreatDoor
