/-
  The walk of impl.KeepText.
-/
import Derived.Test.YtihgkocfgjihhaaGreatDoorJoint13
import Derived.Test.YtihgkocfgjihhaaGreatDoorJoint16
import Derived.Deep.LoopGhost
namespace Go.Proofs.YtihgkocfgjihhaaGreatDoor
open Go.RowKit

/-- where the walk stands: a writer, the keep's box -/
def KTIn (w wr : World) (q : Nat) (bx : List Value) (l : List UInt8) : Prop := WrIs wr (w.heap.size + 1) q l ∧ w.heap.size + 1 ≤ wr.heap.size ∧ Below w.heap.size w wr ∧ BlockIs wr w.heap.size 67 bx
set_option maxRecDepth 1000000 in
set_option maxHeartbeats 4000000 in
theorem implKeepText_any (ao bo : Option Addr) (ls : List SessionD) (li : List ItemD) (ac bc : Nat) (hl : ls.length ≤ 1048576) (hl' : li.length ≤ 1048576) (w : World) (ha : SessionsAt w ao ls) (hi : ItemsAt w bo li) :
    Calls Tryz.prog 27 #[.agg #[.slice ao ls.length ac, .slice bo li.length bc]] w fun e w' => e = .returned (keepAns ls li) ∧ Below w.heap.size w w' := by
  have hX := below_more (Below.refl w.heap.size w) (.cells #[.slice ao ls.length ac, .slice bo li.length bc] 67)
  have X0 : Hid (BlockIs (w.alloc (.cells #[.slice ao ls.length ac, .slice bo li.length bc] 67)) w.heap.size 67 [.slice ao ls.length ac, .slice bo li.length bc]) := heap_alloc_new w _
  have B0 := hid hX
  have A0 := hid (ha.on hX)
  have I0 := hid (hi.on hX)
  have HA := hid ha
  have HI := hid hi
  clear hX ha hi
  obtain ⟨w0, hw0⟩ : ∃ W, w.alloc (.cells #[.slice ao ls.length ac, .slice bo li.length bc] 67) = W := ⟨_, rfl⟩
  rw [hw0] at X0 B0 A0 I0
  have c0 := X0.out.cell (j := 0) rfl
  have c1 := X0.out.cell (j := 1) rfl
  go_enter Tryz.func27, Tryz.ntmps27
  go_wp2_with fail
  refine (implKeepOk_any ao bo ls li ac bc hl hl' _ A0.out I0.out).mono ?_
  rintro e w1 ⟨rfl, b1⟩
  cases hok : keepOk ls li with
  | false =>
    have HN : Hid (keepAns ls li = .tuple #[.string ByteArray.empty, .bool false]) := (show _ = _ by rw [keepAns, hok]; exact if_neg (by simp))
    have B1 := hid (below_via B0.out b1)
    clear b1 hok
    go_wp2
    go_ret2
    exact ⟨by rw [HN.out]; rfl, B1.out⟩
  | true =>
    have HN : Hid (keepAns ls li = .tuple #[.string (keepText ls li), .bool true]) := (show _ = _ by rw [keepAns, hok]; exact if_pos rfl)
    obtain ⟨⟨_, hfs, h3⟩, _, hfi, h8⟩ := keep_facts hok
    have X1 := X0.out.on b1 X0.out.lt
    have B1 := below_via B0.out b1
    have A1 := A0.out.on b1
    have I1 := I0.out.on b1
    have l1 := X1.lt
    have hba := below_more (Below.refl w1.heap.size w1) (.cells #[.slice none 0 0, .int .i64 0, .int .i8 0] 118)
    have W2 := hid (wr_new w1 (w.heap.size + 1) l1)
    have X2 := hid (X1.on hba l1)
    have B2 := hid (B1.trans (hba.mono B1.size))
    have A2 := hid (A1.on hba)
    have I2 := hid (I1.on hba)
    have S2 : Hid (w.heap.size + 1 ≤ (w1.alloc (.cells #[.slice none 0 0, .int .i64 0, .int .i8 0] 118)).heap.size) := Nat.le_trans l1 hba.size
    obtain ⟨q, hq2⟩ : ∃ q, w1.heap.size = q := ⟨_, rfl⟩
    rw [hq2] at W2
    obtain ⟨u, hu⟩ : ∃ W, w1.alloc (.cells #[.slice none 0 0, .int .i64 0, .int .i8 0] 118) = W := ⟨_, rfl⟩
    rw [hu] at W2 X2 B2 A2 I2 S2
    have HFS := hid hfs
    have HFI := hid hfi
    clear b1 hok c0 c1 X0 B0 A0 I0 hw0 X1 B1 A1 I1 hba l1 hl hl' hfs hfi
    have c0 := X2.out.cell (j := 0) rfl
    have c1 := X2.out.cell (j := 1) rfl
    obtain ⟨n, hn⟩ : ∃ n, ls.length = n := ⟨_, rfl⟩
    obtain ⟨m, hm⟩ : ∃ n, li.length = n := ⟨_, rfl⟩
    have HLN := hid hn
    have HLM := hid hm
    rw [hn] at h3 c0
    rw [hm] at h8 c1
    have v3 := vb_len (n := n) (by omega)
    have v8 := vb_len (n := m) (by omega)
    rw [hn, hm] at X2 ⊢
    clear hn hm
    go_wp2_with fail
    refine (wrNumber_on (w.heap.size + 1) q [] n (by omega) _ W2.out S2.out (by simp)).mono ?_
    rintro e w3 ⟨rfl, hw, b3, _⟩
    have SI : Hid (KTIn w w3 q [.slice ao n ac, .slice bo m bc] ([] ++ vb n)) := ⟨hw, Nat.le_trans S2.out b3.size, B2.out.trans (b3.mono (Nat.le_succ _)), X2.out.on b3 (Nat.lt_succ_self _)⟩
    have hz : Hid (([] ++ vb n).length ≤ 5 + 60 * 0) := (show _ ≤ _ by simpa using v3)
    clear hw b3 c0 c1 hu hq2 W2 X2 B2 A2 I2 S2
    have c0 := SI.out.2.2.2.cell (j := 0) rfl
    have c1 := SI.out.2.2.2.cell (j := 1) rfl
    go_wp2
    go_loopg [22] n (fun g i wr => ∃ (k : Nat), k + g = n ∧ i = .int .i64 k ∧ Hid (KTIn w wr q [.slice ao n ac, .slice bo m bc] (([] ++ vb n) ++ (ls.take k).flatMap sessB)) ∧ Hid ((([] ++ vb n) ++ (ls.take k).flatMap sessB).length ≤ 5 + 60 * k))
    case atStart => exact ⟨0, by omega, rfl, (show KTIn _ _ _ _ _ by rw [List.take_zero, List.flatMap_nil, List.append_nil]; exact SI.out), (show _ ≤ _ by rw [List.take_zero, List.flatMap_nil, List.append_nil]; exact hz.out)⟩
    case round =>
      obtain ⟨k, hkg, rfl, SR, hz'⟩ := hrel
      clear SI hz c0 c1
      have c0 := SR.out.2.2.2.cell (j := 0) rfl
      have c1 := SR.out.2.2.2.cell (j := 1) rfl
      cases gk with
      | succ g =>
        have hlt : (k : Int) < (n : Int) := by omega
        have hltd : decide ((k : Int) < (n : Int)) = true := by simp; omega
        have h1 : k < ls.length := by rw [HLN.out]; omega
        have hne : ls ≠ [] := by intro e; rw [e] at h1; simp at h1
        obtain ⟨b, off, rfl, hc⟩ := HA.out.on SR.out.2.2.1 hne
        obtain ⟨x0, x1, x2⟩ := hc k h1
        have hfk := HFS.out ls[k] (List.getElem_mem h1)
        have ST := hid (flat_take sessB ls k h1)
        have hln := sessB_len hfk
        obtain ⟨p, hp⟩ : ∃ p, ls[k] = p := ⟨_, rfl⟩
        rw [hp] at x0 x1 x2 hfk ST hln
        obtain ⟨p0, p1, p2⟩ := p
        dsimp only at x0 x1 x2
        clear hc hp hne h1
        have hX := below_more (Below.refl wr.heap.size wr) (.cells #[.int .i64 p0, .int .i64 p1, .string p2] 121)
        have WA := hid (SR.out.1.on hX)
        have SA : Hid (w.heap.size + 1 ≤ (wr.alloc (.cells #[.int .i64 p0, .int .i64 p1, .string p2] 121)).heap.size) := Nat.le_trans SR.out.2.1 hX.size
        have BA := hid (SR.out.2.2.1.trans (hX.mono SR.out.2.2.1.size))
        have XA := hid (SR.out.2.2.2.on hX SR.out.2.2.2.lt)
        clear hX SR
        obtain ⟨U, hU⟩ : ∃ U, wr.alloc (.cells #[.int .i64 p0, .int .i64 p1, .string p2] 121) = U := ⟨_, rfl⟩
        rw [hU] at WA SA BA XA
        have HU := hid hU
        clear hU
        have hzk := hz'.out
        go_wp2_with fail
        rw [HU.out]
        refine (wrSession_on (w.heap.size + 1) q _ ⟨p0, p1, p2⟩ hfk U WA.out SA.out (by omega)).mono ?_
        rintro e w4 ⟨rfl, hw, b4⟩
        have SN : Hid (KTIn w w4 q _ (([] ++ vb n) ++ (ls.take (k + 1)).flatMap sessB)) := ⟨by rw [ST.out, ← List.append_assoc]; exact hw, Nat.le_trans SA.out b4.size, BA.out.trans (b4.mono (Nat.le_succ _)), XA.out.on b4 (Nat.lt_succ_self _)⟩
        have hzn : Hid ((([] ++ vb n) ++ (ls.take (k + 1)).flatMap sessB).length ≤ 5 + 60 * (k + 1)) := (show _ ≤ _ by rw [ST.out, ← List.append_assoc, List.length_append]; omega)
        clear hw b4 WA SA BA XA HU ST x0 x1 x2 hfk c0 c1 hzk hz' hln
        go_wp2
        go_roundg g
        case measure => omega
        case rel => exact ⟨k + 1, by omega, by go_num, SN.out, hzn.out⟩
      | zero =>
        have hlt : ¬ (k : Int) < (n : Int) := by omega
        have hlt0 : ¬ k < n := by omega
        have hltd : decide (k < n) = false := by simp; omega
        have SE : Hid (KTIn w wr q [.slice ao n ac, .slice bo m bc] (([] ++ vb n) ++ ls.flatMap sessB)) := (show KTIn _ _ _ _ _ by have := SR.out; rwa [List.take_of_length_le (by rw [HLN.out]; omega)] at this)
        have hze : (([] ++ vb n) ++ ls.flatMap sessB).length ≤ 5 + 60 * k := by have := hz'.out; rwa [List.take_of_length_le (by rw [HLN.out]; omega)] at this
        clear SR hz'
        go_wp2_with fail
        refine (wrNumber_on (w.heap.size + 1) q _ m (by omega) _ SE.out.1 SE.out.2.1 (by omega)).mono ?_
        rintro e w5 ⟨rfl, hw, b5, _⟩
        have SI : Hid (KTIn w w5 q [.slice ao n ac, .slice bo m bc] (([] ++ vb n) ++ ls.flatMap sessB ++ vb m)) := ⟨hw, Nat.le_trans SE.out.2.1 b5.size, SE.out.2.2.1.trans (b5.mono (Nat.le_succ _)), SE.out.2.2.2.on b5 (Nat.lt_succ_self _)⟩
        have hz : Hid ((([] ++ vb n) ++ ls.flatMap sessB ++ vb m).length ≤ 190 + 60 * 0) := (show _ ≤ _ by rw [List.length_append]; omega)
        clear hw b5 SE hze c0 c1 hkg
        have c0 := SI.out.2.2.2.cell (j := 0) rfl
        have c1 := SI.out.2.2.2.cell (j := 1) rfl
        go_wp2
        go_loopg [38] m (fun g i wr => ∃ (k : Nat), k + g = m ∧ i = .int .i64 k ∧ Hid (KTIn w wr q [.slice ao n ac, .slice bo m bc] ((([] ++ vb n) ++ ls.flatMap sessB ++ vb m) ++ (li.take k).flatMap itemB)) ∧ Hid (((([] ++ vb n) ++ ls.flatMap sessB ++ vb m) ++ (li.take k).flatMap itemB).length ≤ 190 + 60 * k))
        case atStart => exact ⟨0, by omega, rfl, (show KTIn _ _ _ _ _ by rw [List.take_zero, List.flatMap_nil, List.append_nil]; exact SI.out), (show _ ≤ _ by rw [List.take_zero, List.flatMap_nil, List.append_nil]; exact hz.out)⟩
        case round =>
          obtain ⟨k, hkg, rfl, SR, hz'⟩ := hrel
          clear SI hz c0 c1
          have c0 := SR.out.2.2.2.cell (j := 0) rfl
          have c1 := SR.out.2.2.2.cell (j := 1) rfl
          cases gk with
          | succ g =>
            have hlt : (k : Int) < (m : Int) := by omega
            have hltd : decide ((k : Int) < (m : Int)) = true := by simp; omega
            have h1 : k < li.length := by rw [HLM.out]; omega
            have hne : li ≠ [] := by intro e; rw [e] at h1; simp at h1
            obtain ⟨b, off, rfl, hc⟩ := HI.out.on SR.out.2.2.1 hne
            obtain ⟨x0, x1, x2⟩ := hc k h1
            have hfk := HFI.out li[k] (List.getElem_mem h1)
            have ST := hid (flat_take itemB li k h1)
            have hln := itemB_len hfk
            obtain ⟨p, hp⟩ : ∃ p, li[k] = p := ⟨_, rfl⟩
            rw [hp] at x0 x1 x2 hfk ST hln
            obtain ⟨p0, p1, p2⟩ := p
            dsimp only at x0 x1 x2
            clear hc hp hne h1
            have hX := below_more (Below.refl wr.heap.size wr) (.cells #[.string p0, .string p1, .int .i64 p2] 124)
            have WA := hid (SR.out.1.on hX)
            have SA : Hid (w.heap.size + 1 ≤ (wr.alloc (.cells #[.string p0, .string p1, .int .i64 p2] 124)).heap.size) := Nat.le_trans SR.out.2.1 hX.size
            have BA := hid (SR.out.2.2.1.trans (hX.mono SR.out.2.2.1.size))
            have XA := hid (SR.out.2.2.2.on hX SR.out.2.2.2.lt)
            clear hX SR
            obtain ⟨U, hU⟩ : ∃ U, wr.alloc (.cells #[.string p0, .string p1, .int .i64 p2] 124) = U := ⟨_, rfl⟩
            rw [hU] at WA SA BA XA
            have HU := hid hU
            clear hU
            have hzk := hz'.out
            go_wp2_with fail
            rw [HU.out]
            refine (wrItem_on (w.heap.size + 1) q _ ⟨p0, p1, p2⟩ hfk U WA.out SA.out (by omega)).mono ?_
            rintro e w4 ⟨rfl, hw, b4⟩
            have SN : Hid (KTIn w w4 q _ ((([] ++ vb n) ++ ls.flatMap sessB ++ vb m) ++ (li.take (k + 1)).flatMap itemB)) := ⟨by rw [ST.out, ← List.append_assoc]; exact hw, Nat.le_trans SA.out b4.size, BA.out.trans (b4.mono (Nat.le_succ _)), XA.out.on b4 (Nat.lt_succ_self _)⟩
            have hzn : Hid (((([] ++ vb n) ++ ls.flatMap sessB ++ vb m) ++ (li.take (k + 1)).flatMap itemB).length ≤ 190 + 60 * (k + 1)) := (show _ ≤ _ by rw [ST.out, ← List.append_assoc, List.length_append]; omega)
            clear hw b4 WA SA BA XA HU ST x0 x1 x2 hfk c0 c1 hzk hz' hln
            go_wp2
            go_roundg g
            case measure => omega
            case rel => exact ⟨k + 1, by omega, by go_num, SN.out, hzn.out⟩
          | zero =>
            have hlt : ¬ (k : Int) < (m : Int) := by omega
            have hlt0 : ¬ k < m := by omega
            have hltd : decide (k < m) = false := by simp; omega
            have SE : Hid (KTIn w wr q [.slice ao n ac, .slice bo m bc] ((([] ++ vb n) ++ ls.flatMap sessB ++ vb m) ++ li.flatMap itemB)) := (show KTIn _ _ _ _ _ by have := SR.out; rwa [List.take_of_length_le (by rw [HLM.out]; omega)] at this)
            have hze : ((([] ++ vb n) ++ ls.flatMap sessB ++ vb m) ++ li.flatMap itemB).length ≤ 190 + 60 * k := by have := hz'.out; rwa [List.take_of_length_le (by rw [HLM.out]; omega)] at this
            clear SR hz'
            have HT : Hid ((⟨((([] ++ vb n) ++ ls.flatMap sessB ++ vb m) ++ li.flatMap itemB).toArray⟩ : ByteArray) = keepText ls li) := (show _ = _ by rw [keepText, keepB, HLN.out, HLM.out]; simp)
            have cS := hid (string_on (w.heap.size + 1) q _ wr SE.out.1)
            rw [HT.out] at cS
            have BE := hid SE.out.2.2.1
            obtain ⟨T, hT⟩ : ∃ T, keepText ls li = T := ⟨_, rfl⟩
            rw [hT] at cS HN
            clear hT HT SE hze hkg c0 c1
            go_wp2_with fail
            refine cS.out.mono ?_
            rintro e w10 ⟨rfl, b10⟩
            have B10 := hid (below_via BE.out b10)
            clear b10 cS
            go_wp2
            go_ret2
            exact ⟨by rw [HN.out]; rfl, B10.out⟩
end Go.Proofs.YtihgkocfgjihhaaGreatDoor
