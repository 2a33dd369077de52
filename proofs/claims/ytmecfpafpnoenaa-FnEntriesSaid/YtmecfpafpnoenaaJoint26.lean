/-
  The walks of spec.DrawEntryText, spec.DrawConfText: some index and entry, some conf, out of bytes.
-/
import Derived.Test.YtmecfpafpnoenaaJoint22
import Derived.Test.YtmecfpafpnoenaaJoint23
import Derived.Test.YtmecfpafpnoenaaJoint24
import Derived.Test.YtmecfpafpnoenaaJoint25
namespace Go.Proofs.Ytmecfpafpnoenaa
open Go.RowKit

theorem below_apart {B C : Nat} {w w1 w2 : World} (b : Below B w w1) (q : w1.grownBy w2 (some C)) (hB : B ≤ w1.heap.size) (hC : B ≤ C) : Below B w w2 := b.grown q hB (fun k h => by simp at h; omega)
theorem BlockIs.not {w w' : World} {b C : Nat} {t : TypeId} {cs : List Value} (h : BlockIs w b t cs) (hg : w.grownBy w' (some C)) (hb : b ≠ C) : BlockIs w' b t cs := by
  unfold BlockIs
  rw [hg.block b h.lt (by simpa using hb)]
  exact h
/-- an index and an entry, neither great -/
def EntryDid (w : World) (e : Ending) (w' : World) : Prop := ∃ (i : Int) (d : EntD), e = .returned (.tuple #[.int .i64 i, .agg #[.int .i64 d.term, .int .i64 d.kind, .string d.data]]) ∧ (-1 ≤ i ∧ i ≤ 1000001) ∧ d.Tame ∧ Below w.heap.size w w'

set_option maxRecDepth 1000000 in
set_option maxHeartbeats 1000000 in
theorem drawEntryText_any (ao : Option Addr) (len cap : Nat) (hlen : len ≤ 1048576) (hcap : len ≤ cap) (w : World) (hr : Bytes w ao len) :
    Calls Try.prog 14 #[.slice ao len cap] w (EntryDid w) := by
  have b0 := below_more (Below.refl w.heap.size w) (.cells #[.int .i64 0, .int .i64 0, .string ⟨#[]⟩] 42)
  have hx : BlockIs (w.alloc (.cells #[.int .i64 0, .int .i64 0, .string ⟨#[]⟩] 42)) w.heap.size 42 [.int .i64 0, .int .i64 0, .string ⟨#[]⟩] := heap_alloc_new w _
  have HR := hid (bytes_on hr b0)
  obtain ⟨W0, hW0⟩ : ∃ W, w.alloc (.cells #[.int .i64 0, .int .i64 0, .string ⟨#[]⟩] 42) = W := ⟨_, rfl⟩
  rw [hW0] at b0 hx HR
  have hsz : w.heap.size < W0.heap.size := hx.lt
  have B0 := hid b0
  have X0 := hid hx
  clear b0 hx hr
  go_enter Try.func14, Try.ntmps14
  go_wp2_with fail
  refine (l01New_any ao len cap hlen hcap _ HR.out).mono ?_
  rintro e w1 ⟨rfl, k1, b1⟩
  obtain ⟨C, hC⟩ : ∃ C, W0.heap.size = C := ⟨_, rfl⟩
  have hCw : w.heap.size < C := by omega
  have K1 := hid (show CurAt w1 C by rw [← hC]; exact k1)
  have B1 := hid (below_via B0.out b1)
  have X1 := hid (X0.out.on b1 X0.out.lt)
  rw [hC]
  clear k1 b1 B0 X0 HR hC
  go_wp2_with fail
  refine (l05Index_any C _ K1.out).mono ?_
  rintro e w2 ⟨i, rfl, hi, k2, q2⟩
  have K2 := hid k2
  have B2 := hid (below_apart B1.out q2 B1.out.size (by omega))
  have X2 := hid (X1.out.not q2 (by omega))
  clear k2 q2 K1 B1 X1
  go_wp2_with fail
  refine (l05Any_any C _ K2.out).mono ?_
  rintro e w3 ⟨d, rfl, hd, k3, q3⟩
  have B3 := below_apart B2.out q3 B2.out.size (by omega)
  have X3 := X2.out.not q3 (by omega)
  have c0 := X3.cell (j := 0) rfl
  have c1 := X3.cell (j := 1) rfl
  have c2 := X3.cell (j := 2) rfl
  have f0 := X3.thaw 0
  have f1 := X3.thaw 1
  have f2 := X3.thaw 2
  have BL := hid (((B3.setCell (p := ⟨w.heap.size, 0, none⟩) (Nat.le_refl _) (.int .i64 d.term)).setCell (p := ⟨w.heap.size, 1, none⟩) (Nat.le_refl _) (.int .i64 d.kind)).setCell (p := ⟨w.heap.size, 2, none⟩) (Nat.le_refl _) (.string d.data))
  have HD := hid hd
  clear k3 q3 K2 B2 X2 B3 X3 hd
  go_wp2
  refine bodyPost_ret (v := .tuple #[.int .i64 i, .agg #[.int .i64 d.term, .int .i64 d.kind, .string d.data]]) (by simp [results, Try.results14, go_sem, c0, c1, c2]) rfl ⟨i, d, rfl, hi, HD.out, BL.out⟩

theorem row_cap {w : World} {base size n c : Nat} {t : TypeId} {va : Option Addr} {xs : List Value} (h : w.ownsRow base t size (.slice va n c) n xs) : n ≤ c := by
  obtain ⟨_, (⟨he, h1⟩ | ⟨g, cap, cur, he, _, _, hc, _⟩)⟩ := h
  · omega
  · cases he
    exact hc
/-- few numbers -/
def ConfGot (w : World) (e : Ending) (w' : World) : Prop := ∃ va zs vc, e = .returned (.slice va zs.length vc) ∧ FewInts zs ∧ zs.length ≤ vc ∧ IntsAt w' va zs ∧ Below w.heap.size w w'

set_option maxRecDepth 1000000 in
set_option maxHeartbeats 1000000 in
theorem drawConfText_any (ao : Option Addr) (len cap : Nat) (hlen : len ≤ 1048576) (hcap : len ≤ cap) (w : World) (hr : Bytes w ao len) :
    Calls Try.prog 18 #[.slice ao len cap] w (ConfGot w) := by
  have HR := hid hr
  clear hr
  go_enter Try.func18, Try.ntmps18
  go_wp2_with fail
  refine (l01New_any ao len cap hlen hcap _ HR.out).mono ?_
  rintro e w1 ⟨rfl, k1, b1⟩
  have K1 := hid k1
  have B1 := hid b1
  clear k1 b1
  go_wp2_with fail
  refine (l05AnyConf_any w.heap.size _ K1.out).mono ?_
  rintro e w2 ⟨v, zs, rfl, hz, ho, k2, q2⟩
  obtain ⟨va, vc, rfl⟩ := row_shape ho
  have HI := hid (rowInts ho)
  have HC := hid (row_cap ho)
  have HZ := hid hz
  have B2 := hid (below_apart B1.out q2 B1.out.size (Nat.le_refl _))
  clear ho k2 q2 hz
  go_wp2
  go_ret
  exact ⟨va, zs, vc, rfl, HZ.out, HC.out, HI.out, B2.out⟩
end Go.Proofs.Ytmecfpafpnoenaa
