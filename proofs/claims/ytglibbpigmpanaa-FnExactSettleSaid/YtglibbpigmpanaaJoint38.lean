/-
  The walk of impl.othersOf: the conf that holds without the node itself, in memory of its own.
-/
import Derived.Test.YtglibbpigmpanaaJoint31
import Derived.Test.YtglibbpigmpanaaJoint1
import Derived.Shelf.SlicesE.DeleteFunc
import Derived.Ground.SlgfProg
import Derived.Lib.SliceRun
import Derived.Lib.OwnBridge
namespace Go.Proofs
open Go.RowKit Go.Shelf
shelf_lay_g SlLaysH.n10 Slgf 10 at Try 82 as Try.delN
end Go.Proofs
namespace Go.Proofs.Ytglibbpigmpanaa
open Go.RowKit Go.Sort Go.Lib

set_option maxRecDepth 1000000 in
theorem isSelf_gives (x y : Int) (B : Nat) (W : World) (hc : W.cell? ⟨B, 0, none⟩ = some (.int .i64 x)) : FnGives Try.prog 81 #[.pointer (some ⟨B, 0, none⟩)] #[.int .i64 y] (.bool (y == x)) W := by
  show Calls Try.prog 81 #[.int .i64 y, .pointer (some ⟨B, 0, none⟩)] W _
  obtain ⟨q, hq⟩ : ∃ q, (y == x) = q := ⟨_, rfl⟩
  rw [hq]
  go_enter Try.func81, Try.ntmps81
  go_wp2
  all_goals (go_ret; exact ⟨by simp_all, 0, rfl⟩)
theorem isSelf_at (x : Int) (B : Nat) (w : World) (hB : B < w.heap.size) (hc : w.cell? ⟨B, 0, none⟩ = some (.int .i64 x)) : PredAt Try.prog 81 #[.pointer (some ⟨B, 0, none⟩)] (Value.int .i64) (fun y => y == x) w :=
  fun W y hb => isSelf_gives x y B W ((hb.cell (p := ⟨B, 0, none⟩) hB).trans hc)
theorem isSelf_over (x : Int) (B blk off size : Nat) (w : World) (hB : B < w.heap.size) (hne : B ≠ blk) (hc : w.cell? ⟨B, 0, none⟩ = some (.int .i64 x)) : PredOver Try.prog 81 #[.pointer (some ⟨B, 0, none⟩)] (Value.int .i64) (fun y => y == x) blk off size w :=
  fun n os dk y _ => isSelf_gives x y B _ (by
    unfold sortWorld
    rw [cell?_grow _ _ _ (by show B < (putRow _ _ _ _ _).heap.size; rw [size_putRow]; exact hB), cell?_putRow_other _ _ blk off _ _ (Or.inl hne)]
    exact hc)
/-- those that are another one stay -/
theorem deleteSelf_any (x : Int) (B lo : Nat) (zs : List Int) (hz : zs ≠ []) (va : Option Addr) (vc : Nat) (w : World) (hB : B < lo) (hc : w.cell? ⟨B, 0, none⟩ = some (.int .i64 x)) (h : w.ownsRow lo 3 1 (.slice va zs.length vc) zs.length (intCells zs)) (hl : zs.length ≤ 1048576) (hlo : lo ≤ w.heap.size) :
    Calls Try.prog 82 #[.slice va zs.length vc, .func (.func 81) #[] #[.pointer (some ⟨B, 0, none⟩)]] w fun e w' => ∃ ua uc, e = .returned (.slice ua (othersD zs x).length uc) ∧ w'.ownsRow lo 3 1 (.slice ua (othersD zs x).length uc) (othersD zs x).length (intCells (othersD zs x)) ∧ ∀ w0, w0.heap.size ≤ lo → Below w0.heap.size w0 w → Below w0.heap.size w0 w' := by
  have eg : ∀ args w, (callFunc 81 args).run Try.prog w = .ok (.enter 81 args) w := enters_of Try.func81 (by kernel_rfl) rfl
  obtain ⟨g, cap, hv, hg, hgs, hn, hm, _, hH⟩ := holds_of_ownsRow (enc := Value.int .i64) (zs := zs) h (by intro e; injection e with _ e2 _; exact hz (List.eq_nil_of_length_eq_zero e2))
  simp only [Value.slice.injEq] at hv
  obtain ⟨rfl, _, rfl⟩ := hv
  have hcon := AnyE.slices_DeleteFunc Try.delN (Value.int .i64) (fun _ => rfl) (fun y => y == x) 81 #[.pointer (some ⟨B, 0, none⟩)] eg 0 Try.zeroValue3 g 0 vc zs.toArray w (isSelf_at x B w (by omega) hc) (isSelf_over x B g 0 _ w (by omega) (by omega) hc) hH (by simp; omega) (by simpa using hn)
  have e1 : zs.toArray.size = zs.length := by simp
  rw [e1] at hcon
  refine Calls.mono hcon ?_
  rintro e w' ⟨he, q, rfl⟩
  have e2 : (zs.toArray.toList.filter fun y => !(y == x)) = othersD zs x := rfl
  rw [e2] at he ⊢
  have hle : (othersD zs x).length ≤ zs.length := List.length_filter_le _ _
  refine ⟨_, _, he, ?_, fun w0 h0 hb => below_putRow hb (by omega)⟩
  have := ownsRow_putRow (q := q) (k := (othersD zs x).length) (ys := othersD zs x ++ List.replicate (zs.length - (othersD zs x).length) 0) h (by simp; omega) hle
  rw [List.take_left'] at this
  · exact this
  · rfl
theorem conf_some {zs : List Int} (h : confOk zs = true) : zs ≠ [] := by
  intro e
  subst e
  exact absurd h (by decide)

set_option maxRecDepth 1000000 in
set_option maxHeartbeats 1000000 in
theorem othersOf_any (d : NodeD) (p : NodeL) (hne : d.conf ≠ []) (hcl : d.conf.length ≤ 1048576) (hl : d.ents.length ≤ 1048576) (hok : confOk (confIn d.conf d.ents) = true) (w : World) (ha : IntsAt w p.co d.conf) (he : EntsAt w p.eo d.ents) :
    Calls Try.prog 77 #[.agg #[.int .i64 d.id, .int .i64 d.term, .int .i64 d.vote, .int .i64 d.role, .int .i64 d.lead, .slice p.co d.conf.length p.cc, .int .i64 d.start, .int .i64 d.sterm, .slice p.eo d.ents.length p.ec, .int .i64 d.commit, .int .i64 d.clock, .int .i64 d.limit, .slice p.vo d.votes.length p.vc, .slice p.po d.peers.length p.pc]] w fun e w' => confDid (othersD (confIn d.conf d.ents) d.id) w e w' := by
  have hb := below_more (Below.refl w.heap.size w) (.cells #[.int .i64 d.id, .int .i64 d.term, .int .i64 d.vote, .int .i64 d.role, .int .i64 d.lead, .slice p.co d.conf.length p.cc, .int .i64 d.start, .int .i64 d.sterm, .slice p.eo d.ents.length p.ec, .int .i64 d.commit, .int .i64 d.clock, .int .i64 d.limit, .slice p.vo d.votes.length p.vc, .slice p.po d.peers.length p.pc] 35)
  have X0 : Hid (BlockIs (w.alloc (.cells #[.int .i64 d.id, .int .i64 d.term, .int .i64 d.vote, .int .i64 d.role, .int .i64 d.lead, .slice p.co d.conf.length p.cc, .int .i64 d.start, .int .i64 d.sterm, .slice p.eo d.ents.length p.ec, .int .i64 d.commit, .int .i64 d.clock, .int .i64 d.limit, .slice p.vo d.votes.length p.vc, .slice p.po d.peers.length p.pc] 35)) w.heap.size 35 [.int .i64 d.id, .int .i64 d.term, .int .i64 d.vote, .int .i64 d.role, .int .i64 d.lead, .slice p.co d.conf.length p.cc, .int .i64 d.start, .int .i64 d.sterm, .slice p.eo d.ents.length p.ec, .int .i64 d.commit, .int .i64 d.clock, .int .i64 d.limit, .slice p.vo d.votes.length p.vc, .slice p.po d.peers.length p.pc]) := heap_alloc_new w _
  obtain ⟨W, hW⟩ : ∃ W, w.alloc (.cells #[.int .i64 d.id, .int .i64 d.term, .int .i64 d.vote, .int .i64 d.role, .int .i64 d.lead, .slice p.co d.conf.length p.cc, .int .i64 d.start, .int .i64 d.sterm, .slice p.eo d.ents.length p.ec, .int .i64 d.commit, .int .i64 d.clock, .int .i64 d.limit, .slice p.vo d.votes.length p.vc, .slice p.po d.peers.length p.pc] 35) = W := ⟨_, rfl⟩
  rw [hW] at hb X0
  have hs : w.heap.size < W.heap.size := X0.out.lt
  have C' := implConfOf_any d p hne hcl hl W (ha.on hb) (he.on hb)
  have hzl := (confOk_len hok).2
  have hzn := conf_some hok
  obtain ⟨zs, hzs⟩ : ∃ zs, confIn d.conf d.ents = zs := ⟨_, rfl⟩
  rw [hzs] at C' hzl hzn ⊢
  have C := hid C'
  have D := hid (fun va vc w1 h1 h2 h3 h4 h5 => deleteSelf_any d.id w.heap.size W.heap.size zs hzn va vc w1 h1 h2 h3 h4 h5)
  have B := hid hb
  clear hb ha he C' hzs hok
  go_enter Try.func77, Try.ntmps77
  go_wp2_with (first | (refine wpList_load_whole Try.underlying35 node_size X0.out rfl rfl _ rfl rfl ?_) | fail)
  refine C.out.mono ?_
  rintro e w1 ⟨va, vc, rfl, ho, hb⟩
  have O := hid ho
  have X1 := hid (X0.out.on hb X0.out.lt)
  have hs1 : W.heap.size ≤ w1.heap.size := hb.size
  have B1 := hid (below_via B.out hb)
  clear ho hb C X0
  go_wp2_with fail
  refine (D.out va vc w1 hs (X1.out.cell (j := 0) rfl) O.out (by omega) hs1).mono ?_
  rintro e w2 ⟨ua, uc, rfl, ho, hbb⟩
  have O2 := hid (row_down ho (Nat.le_of_lt hs))
  have B2 := hid (hbb w (Nat.le_of_lt hs) B1.out)
  clear ho hbb D O X1
  go_wp2
  go_ret
  exact ⟨ua, uc, rfl, O2.out, B2.out⟩
end Go.Proofs.Ytglibbpigmpanaa
