/-
  The walk of laws.szNode: a node's letters are counted.
  The walk of laws.toEntryS: entries are laid anew, in memory of its own.
-/
import Derived.Test.YtglibbpigmpanaaJoint9
import Derived.Test.YtglibbpigmpanaaJoint4
import Derived.Test.YtglibbpigmpanaaJoint3
import Derived.OwnWalk
import Derived.Test.YtglibbpigmpanaaJoint1
namespace Go.Proofs.Ytglibbpigmpanaa
open Go.RowKit Go.Sort

/-- what is counted -/
def nodeBulk (d : NodeD) : Int := (d.conf.length : Int) + d.ents.length + entBulk d.ents + d.votes.length + d.peers.length
theorem nodeSmall {d : NodeD} (h : 0 ≤ (1048576 : Int) - nodeBulk d) : d.Small := by
  have h1 := entBulk_nonneg d.ents
  unfold nodeBulk at h
  exact ⟨by omega, by omega, (entsSmall (l := d.ents) (by omega)).2, by omega, by omega⟩
set_option maxRecDepth 1000000 in
set_option maxHeartbeats 1000000 in
theorem szNode_any (d : NodeD) (p : NodeL) (hd : d.Fits) (w : World) (ha : NodeAt w d p) :
    Calls Try.prog 4 #[.agg #[.int .i64 d.id, .int .i64 d.term, .int .i64 d.vote, .int .i64 d.role, .int .i64 d.lead, .slice p.co d.conf.length p.cc, .int .i64 d.start, .int .i64 d.sterm, .slice p.eo d.ents.length p.ec, .int .i64 d.commit, .int .i64 d.clock, .int .i64 d.limit, .slice p.vo d.votes.length p.vc, .slice p.po d.peers.length p.pc], .int .i64 1048576] w fun e w' => ((1048576 - nodeBulk d < 0 ∧ e = .returned (.int .i64 (-1))) ∨ (0 ≤ 1048576 - nodeBulk d ∧ ∃ x : Int, 0 ≤ x ∧ e = .returned (.int .i64 x))) ∧ Below w.heap.size w w' := by
  have hN := entBulk_nonneg d.ents
  have HS : Hid (nodeBulk d = (d.conf.length : Int) + d.ents.length + entBulk d.ents + d.votes.length + d.peers.length) := rfl
  have hl1 := hd.conf
  have hl2 := hd.ents
  have hl3 := hd.votes
  have hl4 := hd.peers
  unfold maxLen at hl1 hl2 hl3 hl4
  have C := hid (fun w => szIntS_any p.co d.conf.length p.cc 1048576 (by omega) (by omega) hl1 w)
  have D := hid (fun k h0 h1 w ha => szLog_any d.start d.sterm p.eo d.ents p.ec k h0 h1 hl2 hd.each w ha)
  have E := hid (fun k h0 h1 w => szIntS_any p.vo d.votes.length p.vc k h0 h1 hl3 w)
  have F := hid (fun k h0 h1 w => szPeerS_any p.po d.peers p.pc k h0 h1 hl4 w)
  have HX := hid (show BlockIs (w.alloc (.cells #[.int .i64 d.id, .int .i64 d.term, .int .i64 d.vote, .int .i64 d.role, .int .i64 d.lead, .slice p.co d.conf.length p.cc, .int .i64 d.start, .int .i64 d.sterm, .slice p.eo d.ents.length p.ec, .int .i64 d.commit, .int .i64 d.clock, .int .i64 d.limit, .slice p.vo d.votes.length p.vc, .slice p.po d.peers.length p.pc] 28)) w.heap.size 28 [.int .i64 d.id, .int .i64 d.term, .int .i64 d.vote, .int .i64 d.role, .int .i64 d.lead, .slice p.co d.conf.length p.cc, .int .i64 d.start, .int .i64 d.sterm, .slice p.eo d.ents.length p.ec, .int .i64 d.commit, .int .i64 d.clock, .int .i64 d.limit, .slice p.vo d.votes.length p.vc, .slice p.po d.peers.length p.pc] from heap_alloc_new w _)
  have HB := hid (below_more (Below.refl w.heap.size w) (.cells #[.int .i64 d.id, .int .i64 d.term, .int .i64 d.vote, .int .i64 d.role, .int .i64 d.lead, .slice p.co d.conf.length p.cc, .int .i64 d.start, .int .i64 d.sterm, .slice p.eo d.ents.length p.ec, .int .i64 d.commit, .int .i64 d.clock, .int .i64 d.limit, .slice p.vo d.votes.length p.vc, .slice p.po d.peers.length p.pc] 28))
  have HA := hid (ha.on HB.out)
  obtain ⟨W, hW⟩ : ∃ W, w.alloc (.cells #[.int .i64 d.id, .int .i64 d.term, .int .i64 d.vote, .int .i64 d.role, .int .i64 d.lead, .slice p.co d.conf.length p.cc, .int .i64 d.start, .int .i64 d.sterm, .slice p.eo d.ents.length p.ec, .int .i64 d.commit, .int .i64 d.clock, .int .i64 d.limit, .slice p.vo d.votes.length p.vc, .slice p.po d.peers.length p.pc] 28) = W := ⟨_, rfl⟩
  rw [hW] at HX HB HA
  have x5 := HX.out.cell (j := 5) rfl
  have x6 := HX.out.cell (j := 6) rfl
  have x7 := HX.out.cell (j := 7) rfl
  have x8 := HX.out.cell (j := 8) rfl
  clear ha hd
  go_enter Try.func4, Try.ntmps4
  go_wp2_with fail
  refine (C.out _).mono ?_
  rintro e w1 ⟨(⟨hneg, rfl⟩ | ⟨hnn, rfl⟩), hw⟩
  · rw [hw]
    clear hw C D E F
    go_wp2
    go_ret
    exact ⟨Or.inl ⟨by rw [HS.out]; omega, rfl⟩, HB.out⟩
  · rw [hw]
    clear hw w1
    obtain ⟨q1, hq1⟩ : ∃ q : Int, 1048576 - (d.conf.length : Int) = q := ⟨_, rfl⟩
    have HQ1 := hid hq1
    rw [hq1] at hnn ⊢
    have hq1' : q1 ≤ 1048576 := by omega
    clear hq1 C
    go_wp2_with fail
    refine (D.out q1 hnn hq1' _ HA.out.ents).mono ?_
    rintro e w2 ⟨(⟨hneg, rfl⟩ | ⟨hn2, rfl⟩), b2⟩
    · have B2 := hid (below_via HB.out b2)
      clear b2 D E F
      go_wp2
      go_ret
      exact ⟨Or.inl ⟨by have := HQ1.out; rw [HS.out]; omega, rfl⟩, B2.out⟩
    · have B2 := hid (below_via HB.out b2)
      have X2 := hid (HX.out.on b2 HX.out.lt)
      have y12 := X2.out.cell (j := 12) rfl
      have y13 := X2.out.cell (j := 13) rfl
      obtain ⟨q2, hq2⟩ : ∃ q : Int, q1 - (d.ents.length : Int) - entBulk d.ents = q := ⟨_, rfl⟩
      have HQ2 := hid hq2
      rw [hq2] at hn2 ⊢
      have hq2' : q2 ≤ 1048576 := by omega
      clear hq2 D b2 x5 x6 x7 x8 HX hW
      go_wp2_with fail
      refine (E.out q2 hn2 hq2' _).mono ?_
      rintro e w3 ⟨(⟨hneg, rfl⟩ | ⟨hn3, rfl⟩), hw⟩
      · rw [hw]
        clear hw E F
        go_wp2
        go_ret
        exact ⟨Or.inl ⟨by have := HQ1.out; have := HQ2.out; rw [HS.out]; omega, rfl⟩, B2.out⟩
      · rw [hw]
        clear hw w3
        obtain ⟨q3, hq3⟩ : ∃ q : Int, q2 - (d.votes.length : Int) = q := ⟨_, rfl⟩
        have HQ3 := hid hq3
        rw [hq3] at hn3 ⊢
        have hq3' : q3 ≤ 1048576 := by omega
        clear hq3 E
        have hpb := peerBulk_zero d.peers
        go_wp2_with fail
        refine (F.out q3 hn3 hq3' _).mono ?_
        rintro e w4 ⟨(⟨hneg, rfl⟩ | ⟨hn4, rfl⟩), hw⟩
        · rw [hw]
          clear hw F
          go_wp2
          go_ret
          exact ⟨Or.inl ⟨by have := HQ1.out; have := HQ2.out; have := HQ3.out; rw [HS.out]; omega, rfl⟩, B2.out⟩
        · rw [hw]
          clear hw w4
          obtain ⟨q4, hq4⟩ : ∃ q : Int, q3 - (d.peers.length : Int) = q := ⟨_, rfl⟩
          have HQ4 := hid hq4
          rw [hq4] at ⊢
          have hq4' : 0 ≤ q4 := by omega
          clear hq4 F
          go_wp2
          go_ret
          exact ⟨Or.inr ⟨by have := HQ1.out; have := HQ2.out; have := HQ3.out; have := HQ4.out; rw [HS.out]; omega, q4, hq4', rfl⟩, B2.out⟩
end Go.Proofs.Ytglibbpigmpanaa

namespace Go.Proofs.Ytglibbpigmpanaa
open Go.RowKit


/-- a file's three cells are written -/
theorem put_ent {w w2 : World} {g k : Nat} {t : TypeId} {l : List EntD} {r : List Value} (hk : k < l.length) (h : BlockIs w g t (entCells (l.take k) ++ r)) (hr : r.length = (l.length - k) * 3) {B : Nat} (hb : Below B w w2) (hg : g < B) :
    (∃ x y z, w2.cell? ⟨g, k * 3, none⟩ = some x ∧ w2.cell? ⟨g, k * 3 + 1, none⟩ = some y ∧ w2.cell? ⟨g, k * 3 + 2, none⟩ = some z) ∧ (∀ j, w2.frozen? ⟨g, j, none⟩ = false) ∧
    ∃ r', r'.length = (l.length - (k + 1)) * 3 ∧ BlockIs (((w2.setCell ⟨g, k * 3, none⟩ (.int .i64 l[k].term)).setCell ⟨g, k * 3 + 1, none⟩ (.int .i64 l[k].kind)).setCell ⟨g, k * 3 + 2, none⟩ (.string l[k].data)) g t (entCells (l.take (k + 1)) ++ r') := by
  have h2 := h.on hb hg
  have hlen : (entCells (l.take k)).length = k * 3 := by rw [entCells_length, List.length_take]; omega
  match r, hr with
  | x :: y :: z :: r', hr =>
    have hs := ((h2.set (k * 3) (.int .i64 l[k].term)).set (k * 3 + 1) (.int .i64 l[k].kind)).set (k * 3 + 2) (.string l[k].data)
    have e3 := set_three (entCells (l.take k)) (.int .i64 l[k].term) (.int .i64 l[k].kind) (.string l[k].data) x y z r'
    rw [hlen] at e3
    rw [e3] at hs
    refine ⟨⟨x, y, z, h2.cell ?_, h2.cell ?_, h2.cell ?_⟩, fun j => h2.thaw j, r', ?_, ?_⟩
    · rw [List.getElem?_append_right (by omega), hlen, Nat.sub_self]; rfl
    · rw [List.getElem?_append_right (by omega), hlen, show k * 3 + 1 - k * 3 = 1 by omega]; rfl
    · rw [List.getElem?_append_right (by omega), hlen, show k * 3 + 2 - k * 3 = 2 by omega]; rfl
    · simp at hr; omega
    · rw [entCells_take l k hk, List.append_assoc]
      exact hs
  | [], hr => simp at hr; omega
  | [_], hr => simp at hr; omega
  | [_, _], hr => simp at hr; omega

set_option maxRecDepth 1000000 in
set_option maxHeartbeats 1000000 in
theorem toEntryS_any (ao : Option Addr) (l : List EntD) (cap : Nat) (hl : l.length ≤ 1048576) (w : World) (ha : EntsAt w ao l) :
    Calls Try.prog 46 #[.slice ao l.length cap] w fun e w' => e = .returned (.slice (some ⟨w.heap.size, 0, none⟩) l.length l.length) ∧ BlockIs w' w.heap.size 69 (entCells l) ∧ Below w.heap.size w w' := by
  obtain ⟨i0, hi, hz0, hz1, hz2⟩ := info_parts toEnt_info
  have HA := (show Hid (EntsAt w ao l) from ha)
  clear ha
  go_enter Try.func46, Try.ntmps46
  go_wp2_with (at_make; refine wpList_make_full _ rfl (.tmp 6) (.tmp 6) 30 rfl w.heap.size 69 i0 (.agg #[.int .i64 0, .int .i64 0, .string ByteArray.empty]) 3 Try.underlying30 hi hz0 hz1 _ _ _ _ l.length rfl rfl rfl rfl ?b2 ?b3 ?b4 ?_)
  case b2 => rw [hz2]; omega
  case b3 => unfold maxLen; omega
  case b4 => exact Nat.le_refl _
  intro w1 hown hgrow
  have HM := (show Hid _ from BlockIs.made hown)
  have hB1 := (Below.refl w.heap.size w).grown hgrow (Nat.le_refl _) (fun k h => by cases h)
  have B1 := (show Hid (Below w.heap.size w w1) from hB1)
  clear hown hgrow hB1
  go_wp2
  go_loopg [4] l.length (fun g i wr => ∃ (k : Nat), k + g = l.length ∧ i = .int .i64 k ∧ Hid (Below w.heap.size w wr) ∧ ∃ rest, Hid (rest.length = (l.length - k) * 3) ∧ Hid (BlockIs wr w.heap.size 69 (entCells (l.take k) ++ rest)))
  case atStart => exact ⟨0, by omega, rfl, B1, _, made_ents l.length, HM⟩
  case round =>
    obtain ⟨k, hkg, rfl, BR, rest, hrl, FP⟩ := hrel
    clear HM B1
    cases gk with
    | zero =>
      have hlt : ¬ (k : Int) < (l.length : Int) := by omega
      have HP : Hid (BlockIs wr w.heap.size 69 (entCells l)) := by
        have h0 : rest = [] := List.length_eq_zero_iff.1 (by rw [hrl.out, show l.length - k = 0 by omega])
        have := FP.out
        rw [h0, List.append_nil, List.take_of_length_le (by omega)] at this
        exact this
      clear FP hrl
      go_wp2
      go_ret
      exact ⟨rfl, HP.out, BR.out⟩
    | succ g =>
      have hlt : k < l.length := by omega
      have hlt' : (k : Int) < (l.length : Int) := by omega
      have hne : l ≠ [] := by intro e; rw [e] at hlt; simp at hlt
      obtain ⟨b, off, rfl, hc⟩ := HA.out.on BR.out hne
      obtain ⟨x0, x1, x2⟩ := hc k hlt
      clear hc
      have C := (show Hid _ from toEntry_any l[k])
      go_wp2_with fail
      refine (C.out _).mono ?_
      rintro e w2 ⟨rfl, b2⟩
      obtain ⟨⟨z0, z1, z2, y0, y1, y2⟩, hf, r', hr', hnew⟩ := put_ent hlt FP.out hrl.out b2 FP.out.lt
      have B2 := (show Hid (Below w.heap.size w w2) from below_via BR.out b2)
      have f0 := hf (k * 3)
      have f1 := hf (k * 3 + 1)
      have f2 := hf (k * 3 + 2)
      have HN := (show Hid _ from hnew)
      have HR := (show Hid _ from hr')
      clear x0 x1 x2 C hf hnew hr' b2 FP hrl BR
      go_wp2
      go_roundg g
      case measure => omega
      case rel => exact ⟨k + 1, by omega, by go_num, ((B2.out.setCell (Nat.le_refl _) _).setCell (Nat.le_refl _) _).setCell (Nat.le_refl _) _, r', HR, HN⟩
end Go.Proofs.Ytglibbpigmpanaa
