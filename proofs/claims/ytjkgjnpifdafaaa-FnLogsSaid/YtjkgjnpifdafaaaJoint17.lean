/-
  The walks of spec.KeepNew, spec.ItemOf: a new keep; an item of a keep that has one.
-/
import Derived.Test.YtjkgjnpifdafaaaJoint8
import Derived.Deep.LoopGhost
import Derived.WalkSmall
import Derived.WalkKit
namespace Go.Proofs.Ytjkgjnpifdafaaa
open Go.RowKit

set_option maxRecDepth 1000000 in
set_option maxHeartbeats 1000000 in
theorem keepNew_any (w : World) :
    Calls Try.prog 81 #[] w fun e w' => ∃ g, e = .returned (.agg #[.slice none 0 0, .slice (some ⟨g, 0, none⟩) 1 1]) ∧ w.heap.size ≤ g ∧ BlockIs w' g 122 [.string ⟨#[114, 111, 111, 116]⟩, .string ⟨#[]⟩, .int .i64 1] ∧ Below w.heap.size w w' := by
  have hs : (w.alloc (.cells #[.slice none 0 0, .slice (some ⟨w.heap.size + 1, 0, none⟩) 1 1] 110)).heap.size = w.heap.size + 1 := by simp [World.alloc, -World.alloc_eq]
  have h2 := heap_alloc_new (w.alloc (.cells #[.slice none 0 0, .slice (some ⟨w.heap.size + 1, 0, none⟩) 1 1] 110)) (.cells #[.string ⟨#[114, 111, 111, 116]⟩, .string ⟨#[]⟩, .int .i64 1] 122)
  rw [hs] at h2
  have H := hid (And.intro (below_more (below_more (Below.refl _ w) (.cells #[.slice none 0 0, .slice (some ⟨w.heap.size + 1, 0, none⟩) 1 1] 110)) (.cells #[.string ⟨#[114, 111, 111, 116]⟩, .string ⟨#[]⟩, .int .i64 1] 122)) (show BlockIs _ (w.heap.size + 1) 122 [.string ⟨#[114, 111, 111, 116]⟩, .string ⟨#[]⟩, .int .i64 1] from h2))
  clear hs h2
  go_enter Try.func81, Try.ntmps81
  go_wp2
  refine bodyPost_ret (v := .agg #[.slice none 0 0, .slice (some ⟨w.heap.size + 1, 0, none⟩) 1 1]) (by simp [results, Try.results81, go_sem]) rfl ⟨_, rfl, Nat.le_succ _, H.out.2, H.out.1⟩

/-- an item, or none -/
def ItemDid (w : World) (n0 : Int) (e : Ending) (w' : World) : Prop := ∃ (a b : ByteArray) (x : Int) (ok : Bool), e = .returned (.tuple #[.agg #[.string a, .string b, .int .i64 x], .bool ok]) ∧ (x = n0 ∨ x = 0) ∧ Below w.heap.size w w'

set_option maxRecDepth 1000000 in
set_option maxHeartbeats 1000000 in
theorem itemOf_any (so : Option Addr) (sl sc g c : Nat) (k0 v0 key : ByteArray) (n0 : Int) (w : World) (hg : BlockIs w g 122 [.string k0, .string v0, .int .i64 n0]) :
    Calls Try.prog 88 #[.agg #[.slice so sl sc, .slice (some ⟨g, 0, none⟩) 1 c], .string key] w (ItemDid w n0) := by
  have hx0 : BlockIs (w.alloc (.cells #[.slice so sl sc, .slice (some ⟨g, 0, none⟩) 1 c] 110)) w.heap.size 110 [.slice so sl sc, .slice (some ⟨g, 0, none⟩) 1 c] := heap_alloc_new w _
  have hs : (w.alloc (.cells #[.slice so sl sc, .slice (some ⟨g, 0, none⟩) 1 c] 110)).heap.size = w.heap.size + 1 := by simp [World.alloc, -World.alloc_eq]
  obtain ⟨W1, hW1⟩ : ∃ W, (w.alloc (.cells #[.slice so sl sc, .slice (some ⟨g, 0, none⟩) 1 c] 110)).alloc (.cells #[.string ⟨#[]⟩, .string ⟨#[]⟩, .int .i64 0] 122) = W := ⟨_, rfl⟩
  have h1 : BlockIs W1 w.heap.size 110 [.slice so sl sc, .slice (some ⟨g, 0, none⟩) 1 c] := by rw [← hW1]; exact hx0.on (below_more (Below.refl _ _) _) hx0.lt
  have h2 : BlockIs W1 (w.heap.size + 1) 122 [.string ⟨#[]⟩, .string ⟨#[]⟩, .int .i64 0] := by
    rw [← hW1]
    have := heap_alloc_new (w.alloc (.cells #[.slice so sl sc, .slice (some ⟨g, 0, none⟩) 1 c] 110)) (.cells #[.string ⟨#[]⟩, .string ⟨#[]⟩, .int .i64 0] 122)
    rw [hs] at this
    exact this
  have hb : Below w.heap.size w W1 := by rw [← hW1]; exact below_more (below_more (Below.refl _ w) _) _
  have h3 := hg.on hb hg.lt
  have c1 := h1.cell (j := 1) rfl
  have d0 := h2.cell (j := 0) rfl
  have d1 := h2.cell (j := 1) rfl
  have d2 := h2.cell (j := 2) rfl
  have f0 := h2.thaw 0
  have f1 := h2.thaw 1
  have f2 := h2.thaw 2
  have e0 := h3.cell (j := 0) rfl
  have e1 := h3.cell (j := 1) rfl
  have e2 := h3.cell (j := 2) rfl
  have HB := hid hb
  clear hx0 hs h1 h2 hb h3 hg
  go_enter Try.func88, Try.ntmps88
  go_wp2
  go_loopg [6] 1 (fun q i wr => ∃ (k : Nat), k + q = 1 ∧ i = .int .i64 k ∧ wr = W1)
  case atStart => exact ⟨0, by omega, rfl, rfl⟩
  case round =>
    obtain ⟨k, hkq, rfl, rfl⟩ := hrel
    cases gk with
    | zero =>
      obtain rfl : k = 1 := by omega
      have BL := hid (((HB.out.setCell (p := ⟨w.heap.size + 1, 0, none⟩) (Nat.le_succ _) (.string ⟨#[]⟩)).setCell (p := ⟨w.heap.size + 1, 1, none⟩) (Nat.le_succ _) (.string ⟨#[]⟩)).setCell (p := ⟨w.heap.size + 1, 2, none⟩) (Nat.le_succ _) (.int .i64 0))
      go_wp2
      refine bodyPost_ret (v := .tuple #[.agg #[.string ⟨#[]⟩, .string ⟨#[]⟩, .int .i64 0], .bool false]) (by simp [results, Try.results88, go_sem, d0, d1, d2]) rfl ⟨_, _, _, _, rfl, Or.inr rfl, BL.out⟩
    | succ q =>
      obtain rfl : k = 0 := by omega
      cases hq : (k0.toList == key.toList) with
      | true =>
        have BL := hid (((HB.out.setCell (p := ⟨w.heap.size + 1, 0, none⟩) (Nat.le_succ _) (.string k0)).setCell (p := ⟨w.heap.size + 1, 1, none⟩) (Nat.le_succ _) (.string v0)).setCell (p := ⟨w.heap.size + 1, 2, none⟩) (Nat.le_succ _) (.int .i64 n0))
        go_wp2
        refine bodyPost_ret (v := .tuple #[.agg #[.string k0, .string v0, .int .i64 n0], .bool true]) (by simp [results, Try.results88, go_sem, d0, d1, d2]) rfl ⟨_, _, _, _, rfl, Or.inl rfl, BL.out⟩
      | false =>
        go_wp2
        go_roundg q
        case measure => omega
        case rel => exact ⟨1, by omega, by go_num, rfl⟩
end Go.Proofs.Ytjkgjnpifdafaaa
