/-
  Plain facts on the bytes of a number in sevens and on rows of bytes in memory; nothing of the program stands here.
  A block of memory of the call's own: its cells as a list; rows of elements of so many cells each.
  Files as data, in memory; the walks of laws.szFile, szFileS, szDisk: a disk's letters are counted.
  A disk that came in, read as data: its files lie one behind the other.
  Acts as data; the walks of laws.szAct, toAct.
  An act that came in, read as data.
  The walks of laws.toFile, toFileS, toDisk: a disk is laid anew, in memory of its own.
  Disks as plain data: when one is right.
  Rows of the call's own that grow: what stands behind an append.
-/
import Derived.WalkKit
import Derived.RowKit
import Derived.WalkSmall
import Derived.Test.YtfkknmhokiacaaaRows
import Derived.BigQuiet
import Derived.Deep.LoopGhost
import Derived.Deep.Strs
import Derived.ChangeSame
import Derived.OpenShut
import Derived.OwnWalk
import Derived.Laws.AppendOwn
namespace Go.Proofs.Ytfkknmhokiacaaa
open Go.RowKit

/-- the bytes of n, seven bits a byte, the least first -/
def vb (n : Nat) : List UInt8 := if n ≤ 127 then [UInt8.ofNat n] else UInt8.ofNat (n % 128 + 128) :: vb (n / 128)
termination_by n
decreasing_by omega

theorem vb_small {n : Nat} (h : n ≤ 127) : vb n = [UInt8.ofNat n] := by rw [vb, if_pos h]
theorem vb_big {n : Nat} (h : 127 < n) : vb n = UInt8.ofNat (n % 128 + 128) :: vb (n / 128) := by rw [vb, if_neg (by omega)]

theorem vb_pos (n : Nat) : 0 < (vb n).length := by rw [vb]; split <;> simp

theorem vb_le (n : Nat) : (vb n).length ≤ n + 1 := by
  induction n using Nat.strongRecOn with
  | _ n ih =>
    by_cases h : n ≤ 127
    · rw [vb_small h]; simp
    · rw [vb_big (by omega)]
      have := ih (n / 128) (by omega)
      simp only [List.length_cons]
      omega

/-- bytes as the cells of a row -/
def cs (l : List UInt8) : List Value := l.map fun b => Value.int .u8 (b.toNat : Int)

theorem cs_append (l r : List UInt8) : cs (l ++ r) = cs l ++ cs r := by simp [cs]
theorem cs_length (l : List UInt8) : (cs l).length = l.length := by simp [cs]
theorem cs_one {x : Int} (h0 : 0 ≤ x) (h1 : x ≤ 255) : [Value.int .u8 x] = cs [UInt8.ofNat x.toNat] := by
  simp [cs]
  omega

/-- a row that the call owns, turned into a text -/
theorem text_of_row {P : Program} {w : World} {base : Nat} {v : Value} {l : List UInt8} {src dst e : TypeId} (hs : P.underlying src = some (.slice e)) (he : P.underlying e = some (.int .u8)) (hd : P.underlying dst = some .string)
    (h : w.ownsRow base e 1 v l.length (cs l)) : (convert src dst v).run P w = .ok (.string ⟨l.toArray⟩) w := by
  obtain ⟨h1, h2⟩ := h
  rcases h2 with ⟨hv, hn⟩ | ⟨g, cap, cur, hv, hg, hh, hle, hm, hsz, hx⟩
  · have hl : l = [] := by cases l with | nil => rfl | cons a r => simp at hn
    subst hl hv
    exact run_convert_bytes_nil w src e hs he 0 0 dst hd
  · subst hv
    refine run_convert_bytes_back w src dst e ⟨g, 0, none⟩ cap l hs he hd fun j hj => ?_
    have hu : (cs l)[j]? = some (.int .u8 (l[j].toNat : Int)) := by simp [cs, hj]
    exact World.ownsRow.cells (w := w) (base := base) (e := e) (size := 1) ⟨h1, Or.inr ⟨g, cap, cur, rfl, hg, hh, hle, hm, hsz, hx⟩⟩ rfl j _ hu

/-- a piece of a text, its bounds as whole numbers -/
theorem slice_nat {P : Program} {t : TypeId} (h : P.underlying t = some .string) (s : ByteArray) (a b : Nat) (x y : Int) (hx : x = a) (hy : y = b) (hab : a ≤ b) (hb : b ≤ s.size) (w : World) :
    (Instr.slice t (.string s) (some (.int .i64 x)) (some (.int .i64 y)) none).run P w = .ok (.string (s.extract a b)) w := by
  subst hx hy
  rw [run_slice_string w t s .i64 .i64 a b h (by omega) (by omega) (by omega)]
  simp

theorem extract_eq (s : ByteArray) (a b : Nat) : (s.extract a b).data.toList = (s.data.toList.drop a).take (b - a) := by
  simp [ByteArray.extract, ByteArray.copySlice]

theorem var_step {n m : Nat} {acc : List UInt8} {w wr w1 : World} {v v' : Value} (hm : 127 < m) (hacc : acc ++ vb m = vb n) (hown : wr.ownsRow w.heap.size 5 1 v acc.length (cs acc))
    (hown' : w1.ownsRow w.heap.size 5 1 v' (acc.length + 1) (cs acc ++ [.int .u8 ((m : Int) % 128 + 128)])) (hgrow : (wr.alloc (.cells #[.int .u8 ((m : Int) % 128 + 128)] 5)).grownBy w1 v.ownBlock) (hb : Below w.heap.size w wr) :
    (acc ++ [UInt8.ofNat (m % 128 + 128)]) ++ vb (m / 128) = vb n ∧ w1.ownsRow w.heap.size 5 1 v' (acc ++ [UInt8.ofNat (m % 128 + 128)]).length (cs (acc ++ [UInt8.ofNat (m % 128 + 128)])) ∧ Below w.heap.size w w1 := by
  refine ⟨by rw [← hacc, vb_big hm]; simp, ?_, (hb.alloc hb.size _).grown hgrow (by have := hb.size; simp; omega) (fun k hk => (hown.lt k hk).1)⟩
  have e : [Value.int .u8 ((m : Int) % 128 + 128)] = cs [UInt8.ofNat (m % 128 + 128)] := by
    rw [cs_one (by omega) (by omega)]
    have : ((m : Int) % 128 + 128).toNat = m % 128 + 128 := by omega
    rw [this]
  rw [e, ← cs_append] at hown'
  simpa using hown'

theorem var_end {n m : Nat} {acc : List UInt8} {w wr w1 : World} {v v' : Value} (hm : m ≤ 127) (hacc : acc ++ vb m = vb n) (hown : wr.ownsRow w.heap.size 5 1 v acc.length (cs acc))
    (hown' : w1.ownsRow w.heap.size 5 1 v' (acc.length + 1) (cs acc ++ [.int .u8 (m : Int)])) (hgrow : (wr.alloc (.cells #[.int .u8 (m : Int)] 5)).grownBy w1 v.ownBlock) (hb : Below w.heap.size w wr) :
    w1.ownsRow w.heap.size 5 1 v' (vb n).length (cs (vb n)) ∧ Below w.heap.size w w1 := by
  refine ⟨?_, (hb.alloc hb.size _).grown hgrow (by have := hb.size; simp; omega) (fun k hk => (hown.lt k hk).1)⟩
  have e : [Value.int .u8 (m : Int)] = cs [UInt8.ofNat m] := by
    rw [cs_one (by omega) (by omega)]
    simp
  rw [e, ← cs_append, ← vb_small hm, hacc] at hown'
  have hl : acc.length + 1 = (vb n).length := by rw [← hacc, vb_small hm]; simp
  rw [hl] at hown'
  exact hown'

end Go.Proofs.Ytfkknmhokiacaaa

namespace Go.Proofs.Ytfkknmhokiacaaa
open Go.RowKit

/-- hidden from the walk -/
theorem hid {p : Prop} (h : p) : Hid p := h
theorem below_more {w w' : World} (h : Below w.heap.size w w') (o : Obj) : Below w.heap.size w (w'.alloc o) := h.alloc h.size o
theorem below_via {w w1 w2 : World} (h : Below w.heap.size w w1) (h2 : Below w1.heap.size w1 w2) : Below w.heap.size w w2 := h.trans (h2.mono h.size)

/-- block g holds just these cells, of elements of type t -/
def BlockIs (w : World) (g : Nat) (t : TypeId) (cs : List Value) : Prop := w.heap[g]? = some (.cells cs.toArray t (0, 0))

theorem BlockIs.lt {w : World} {g : Nat} {t : TypeId} {cs : List Value} (h : BlockIs w g t cs) : g < w.heap.size := by
  rcases Nat.lt_or_ge g w.heap.size with q | q
  · exact q
  · rw [BlockIs, Array.getElem?_eq_none q] at h; cases h
theorem BlockIs.cell {w : World} {g : Nat} {t : TypeId} {cs : List Value} (h : BlockIs w g t cs) {j : Nat} {v : Value} (hj : cs[j]? = some v) : w.cell? ⟨g, j, none⟩ = some v := by
  unfold BlockIs at h
  simp [World.cell?, h, hj]
theorem BlockIs.thaw {w : World} {g : Nat} {t : TypeId} {cs : List Value} (h : BlockIs w g t cs) (j : Nat) : w.frozen? ⟨g, j, none⟩ = false := by
  unfold BlockIs at h
  simp [World.frozen?, h]
theorem BlockIs.set {w : World} {g : Nat} {t : TypeId} {cs : List Value} (h : BlockIs w g t cs) (j : Nat) (v : Value) : BlockIs (w.setCell ⟨g, j, none⟩ v) g t (cs.set j v) := by
  unfold BlockIs at h ⊢
  simp only [World.setCell]
  rw [Array.getElem?_modify, if_pos rfl, h]
  simp [Array.setIfInBounds]
  exact fun hj => (List.set_eq_of_length_le hj).symm
theorem BlockIs.far {w : World} {g : Nat} {t : TypeId} {cs : List Value} (h : BlockIs w g t cs) {b j : Nat} (hb : b ≠ g) (v : Value) : BlockIs (w.setCell ⟨b, j, none⟩ v) g t cs := by
  unfold BlockIs at h ⊢
  simp only [World.setCell]
  rw [Array.getElem?_modify, if_neg hb]
  exact h
theorem BlockIs.on {w w' : World} {g : Nat} {t : TypeId} {cs : List Value} (h : BlockIs w g t cs) {B : Nat} (hb : Below B w w') (hg : g < B) : BlockIs w' g t cs := by
  unfold BlockIs
  rw [hb.block g hg]
  exact h
theorem BlockIs.made {w' : World} {g base : Nat} {t : TypeId} {n size : Nat} {xs : List Value} (h : w'.ownsRow base t size (.slice (some ⟨g, 0, none⟩) n n) n xs) : BlockIs w' g t xs := by
  obtain ⟨hx, (⟨h1, _⟩ | ⟨g', cap, cur, h1, _, hg, _, _, hs, ht⟩)⟩ := h
  · cases h1
  · cases h1
    unfold BlockIs
    rw [hg]
    have : cur.toList = xs := by rw [← ht, List.take_of_length_le (by simp [hs])]
    rw [← this]

/-- a cell of a row of elements of m cells each -/
theorem row_at {α : Type} (enc : α → List Value) (m : Nat) (hm : ∀ a, (enc a).length = m) (l : List α) (r : List Value) (j c : Nat) (hj : j < l.length) (hc : c < m) : (l.flatMap enc ++ r)[j * m + c]? = (enc l[j])[c]? := by
  induction l generalizing j with
  | nil => simp at hj
  | cons a l ih =>
    cases j with
    | zero =>
      simp only [List.flatMap_cons, Nat.zero_mul, Nat.zero_add, List.getElem_cons_zero, List.append_assoc]
      rw [List.getElem?_append_left (by rw [hm]; exact hc)]
    | succ j =>
      simp only [List.flatMap_cons, List.getElem_cons_succ, List.append_assoc]
      rw [List.getElem?_append_right (by rw [hm, Nat.succ_mul]; omega), hm, show (j + 1) * m + c - m = j * m + c by rw [Nat.succ_mul]; omega]
      exact ih j (by simpa using hj)
theorem row_length {α : Type} (enc : α → List Value) (m : Nat) (hm : ∀ a, (enc a).length = m) (l : List α) : (l.flatMap enc).length = l.length * m := by
  induction l with
  | nil => simp
  | cons a l ih => simp only [List.flatMap_cons, List.length_append, hm, ih, List.length_cons, Nat.succ_mul]; omega
/-- three cells of a list, written -/
theorem set_three (p : List Value) (a b c x y z : Value) (r : List Value) : (((p ++ x :: y :: z :: r).set p.length a).set (p.length + 1) b).set (p.length + 2) c = p ++ a :: b :: c :: r := by
  rw [List.set_append_right _ _ (Nat.le_refl _), List.set_append_right _ _ (by omega), List.set_append_right _ _ (by omega)]
  simp
end Go.Proofs.Ytfkknmhokiacaaa

namespace Go.Proofs.Ytfkknmhokiacaaa
open Go.RowKit

/-- a file as data -/
structure FileD where
  name : ByteArray
  text : ByteArray
  kept : Int

def FileD.value (f : FileD) : Value := .agg #[.string f.name, .string f.text, .int .i64 f.kept]

/-- the cells of files -/
def fileEnc (f : FileD) : List Value := [.string f.name, .string f.text, .int .i64 f.kept]
def fileCells (l : List FileD) : List Value := l.flatMap fileEnc
theorem fileCells_length (l : List FileD) : (fileCells l).length = l.length * 3 := row_length fileEnc 3 (fun _ => rfl) l
theorem fileCells_take (l : List FileD) (k : Nat) (h : k < l.length) : fileCells (l.take (k + 1)) = fileCells (l.take k) ++ fileEnc l[k] := by
  rw [List.take_succ_eq_append_getElem h, fileCells, fileCells, List.flatMap_append]
  simp
/-- how many letters and files -/
def fileBulk : List FileD → Int
  | [] => 0
  | f :: l => f.name.size + f.text.size + fileBulk l
theorem fileBulk_nonneg (l : List FileD) : 0 ≤ fileBulk l := by
  induction l with
  | nil => exact Int.le_refl 0
  | cons f l ih => simp only [fileBulk]; omega
theorem fileBulk_take (l : List FileD) (k : Nat) (h : k < l.length) : fileBulk (l.take (k + 1)) = fileBulk (l.take k) + l[k].name.size + l[k].text.size := by
  induction l generalizing k with
  | nil => simp at h
  | cons f l ih =>
    cases k with
    | zero => simp [fileBulk]
    | succ k =>
      have := ih k (by simpa using h)
      simp only [List.take_succ_cons, fileBulk, List.getElem_cons_succ] at this ⊢
      omega

theorem fileBulk_le (l : List FileD) (k : Nat) : fileBulk (l.take k) ≤ fileBulk l := by
  induction l generalizing k with
  | nil => simp [fileBulk]
  | cons f l ih =>
    cases k with
    | zero => have := fileBulk_nonneg (f :: l); simpa [fileBulk] using this
    | succ k => have := ih k; simp only [List.take_succ_cons, fileBulk]; omega

theorem file_le_bulk {l : List FileD} {f : FileD} (h : f ∈ l) : (f.name.size : Int) + f.text.size ≤ fileBulk l := by
  induction l with
  | nil => cases h
  | cons g l ih =>
    simp only [fileBulk]
    have := fileBulk_nonneg l
    rcases List.mem_cons.1 h with e | e
    · subst e; omega
    · have := ih e; omega
theorem filesSmall {l : List FileD} (h : 0 ≤ (1048576 : Int) - l.length - fileBulk l) : l.length ≤ 1048576 ∧ ∀ f ∈ l, f.name.size ≤ 1048576 ∧ f.text.size ≤ 1048576 := by
  have := fileBulk_nonneg l
  exact ⟨by omega, fun f hf => by have := file_le_bulk hf; omega⟩

/-- files lie at an address, one behind the other -/
def FilesAt (w : World) (ao : Option Addr) (l : List FileD) : Prop :=
  l ≠ [] → ∃ b off, ao = some ⟨b, off, none⟩ ∧ ∀ j (hj : j < l.length), w.cell? ⟨b, off + j * 3, none⟩ = some (.string l[j].name) ∧ w.cell? ⟨b, off + j * 3 + 1, none⟩ = some (.string l[j].text) ∧ w.cell? ⟨b, off + j * 3 + 2, none⟩ = some (.int .i64 l[j].kept)
theorem filesAt_of {w : World} {g : Nat} {t : TypeId} {l : List FileD} {r : List Value} (h : BlockIs w g t (fileCells l ++ r)) : FilesAt w (some ⟨g, 0, none⟩) l := by
  intro _
  refine ⟨g, 0, rfl, fun j hj => ?_⟩
  rw [Nat.zero_add]
  exact ⟨h.cell (row_at fileEnc 3 (fun _ => rfl) l r j 0 hj (by omega)), h.cell (row_at fileEnc 3 (fun _ => rfl) l r j 1 hj (by omega)), h.cell (row_at fileEnc 3 (fun _ => rfl) l r j 2 hj (by omega))⟩
/-- texts that fit -/
def FilesFit (l : List FileD) : Prop := ∀ j (hj : j < l.length), l[j].name.size ≤ 9223372036854775807 ∧ l[j].text.size ≤ 9223372036854775807

set_option maxRecDepth 1000000 in
theorem szFile_any (f : FileD) (n : Int) (h0 : 0 ≤ n) (h1 : n ≤ 1048576) (hs : f.name.size ≤ 9223372036854775807) (ht : f.text.size ≤ 9223372036854775807) (w : World) :
    Calls Try.prog 82 #[f.value, .int .i64 n] w fun e w' => ((n - f.name.size - f.text.size < 0 ∧ e = .returned (.int .i64 (-1))) ∨ (0 ≤ n - f.name.size - f.text.size ∧ e = .returned (.int .i64 (n - f.name.size - f.text.size)))) ∧ Below w.heap.size w w' := by
  unfold FileD.value
  go_enter Try.func82, Try.ntmps82
  go_wp2
  · go_ret
    exact ⟨Or.inl ⟨by omega, rfl⟩, (Below.refl _ _).alloc (Nat.le_refl _) _⟩
  · go_ret
    exact ⟨Or.inl ⟨by omega, rfl⟩, (Below.refl _ _).alloc (Nat.le_refl _) _⟩
  · go_ret
    exact ⟨Or.inr ⟨by omega, rfl⟩, (Below.refl _ _).alloc (Nat.le_refl _) _⟩

theorem FilesAt.on {w w' : World} {ao : Option Addr} {l : List FileD} (h : FilesAt w ao l) (hb : Below w.heap.size w w') : FilesAt w' ao l := by
  intro h0
  obtain ⟨b, off, e1, e2⟩ := h h0
  refine ⟨b, off, e1, fun j hj => ?_⟩
  obtain ⟨x, y, z⟩ := e2 j hj
  exact ⟨(hb.cell (p := ⟨b, off + j * 3, none⟩) (World.block_lt_of_cell? w _ x)).trans x, (hb.cell (p := ⟨b, off + j * 3 + 1, none⟩) (World.block_lt_of_cell? w _ y)).trans y, (hb.cell (p := ⟨b, off + j * 3 + 2, none⟩) (World.block_lt_of_cell? w _ z)).trans z⟩

set_option maxRecDepth 1000000 in
set_option maxHeartbeats 1000000 in
theorem szFileS_any (ao : Option Addr) (l : List FileD) (cap : Nat) (n : Int) (h0 : 0 ≤ n) (h1 : n ≤ 1048576) (hl : l.length ≤ 9223372036854775807) (hf : FilesFit l) (w : World) (ha : FilesAt w ao l) :
    Calls Try.prog 56 #[.slice ao l.length cap, .int .i64 n] w fun e w' => ((n - l.length - fileBulk l < 0 ∧ e = .returned (.int .i64 (-1))) ∨ (0 ≤ n - l.length - fileBulk l ∧ e = .returned (.int .i64 (n - l.length - fileBulk l)))) ∧ Below w.heap.size w w' := by
  have HA := (show Hid (FilesAt w ao l) from ha)
  have HF := (show Hid (FilesFit l) from hf)
  have HN := fileBulk_nonneg l
  clear ha hf
  by_cases hn : n - (l.length : Int) < 0
  · go_enter Try.func56, Try.ntmps56
    go_wp2
    go_ret
    exact ⟨Or.inl ⟨by omega, rfl⟩, Below.refl _ _⟩
  · go_enter Try.func56, Try.ntmps56
    go_wp2
    go_loopg [1, 5] l.length (fun g y i wr => ∃ (k : Nat), k + g = l.length ∧ i = .int .i64 k ∧ y = .int .i64 (n - l.length - fileBulk (l.take k)) ∧ 0 ≤ n - l.length - fileBulk (l.take k) ∧ Hid (Below w.heap.size w wr))
    case atStart => exact ⟨0, by omega, rfl, by simp [fileBulk], by simp [fileBulk]; omega, (show Below _ _ _ from Below.refl _ _)⟩
    case round =>
      obtain ⟨k, hkg, rfl, rfl, hpos, BR⟩ := hrel
      cases gk with
      | zero =>
        have hlt : ¬ (k : Int) < (l.length : Int) := by omega
        rw [List.take_of_length_le (by omega)] at hpos ⊢
        go_wp2
        go_ret
        exact ⟨Or.inr ⟨by omega, rfl⟩, BR.out⟩
      | succ g =>
        have hlt : k < l.length := by omega
        have hlt' : (k : Int) < (l.length : Int) := by omega
        obtain ⟨b, off, rfl, hc⟩ := HA.out.on BR.out (by intro e; rw [e] at hlt; simp at hlt)
        obtain ⟨x0, x1, x2⟩ := hc k hlt
        clear hc
        have hfit := HF.out k hlt
        have C := (show Hid _ from szFile_any l[k] (n - l.length - fileBulk (l.take k)) hpos (by have := fileBulk_nonneg (l.take k); omega) hfit.1 hfit.2)
        have hstep := fileBulk_take l k hlt
        have hmore := fileBulk_le l (k + 1)
        unfold FileD.value at C
        rw [show n - (l.length : Int) - fileBulk (l.take k) - l[k].name.size - l[k].text.size = n - l.length - fileBulk (l.take (k + 1)) by omega] at C
        have HS : Hid (fileBulk (l.take (k + 1)) ≤ fileBulk l) := hmore
        clear hfit hstep hmore
        go_wp2_with fail
        refine (C.out _).mono ?_
        rintro e w1 ⟨(⟨hneg, rfl⟩ | ⟨hnn, rfl⟩), b1⟩
        · have B1 := (show Hid (Below w.heap.size w w1) from BR.out.trans (b1.mono BR.out.size))
          have hL : n - (l.length : Int) - fileBulk l < 0 := by have := HS.out; omega
          clear b1 C
          go_wp2
          go_ret
          exact ⟨Or.inl ⟨hL, rfl⟩, B1.out⟩
        · have B1 := (show Hid (Below w.heap.size w w1) from BR.out.trans (b1.mono BR.out.size))
          clear b1 C
          go_wp2
          go_roundg g
          case measure => omega
          case rel => exact ⟨k + 1, by omega, by go_num, rfl, hnn, B1⟩

theorem szDisk_any (ao : Option Addr) (l : List FileD) (cap : Nat) (n : Int) (h0 : 0 ≤ n) (h1 : n ≤ 1048576) (hl : l.length ≤ 9223372036854775807) (hf : FilesFit l) (w : World) (ha : FilesAt w ao l) :
    Calls Try.prog 23 #[.agg #[.slice ao l.length cap], .int .i64 n] w fun e w' => ((n - l.length - fileBulk l < 0 ∧ e = .returned (.int .i64 (-1))) ∨ (0 ≤ n - l.length - fileBulk l ∧ e = .returned (.int .i64 (n - l.length - fileBulk l)))) ∧ Below w.heap.size w w' := by
  have C := (show Hid _ from fun w ha => szFileS_any ao l cap n h0 h1 hl hf w ha)
  have HA := (show Hid (FilesAt w ao l) from ha)
  clear ha hf
  go_enter Try.func23, Try.ntmps23
  go_wp2_with fail
  refine (C.out _ (HA.out.on ((Below.refl _ _).alloc (Nat.le_refl _) _))).mono ?_
  rintro e w1 ⟨(⟨hneg, rfl⟩ | ⟨hnn, rfl⟩), b1⟩
  · have B1 := (show Hid (Below w.heap.size w w1) from ((Below.refl _ w).alloc (Nat.le_refl _) _).trans (b1.mono (by simp [World.alloc, -World.alloc_eq])))
    clear b1 C
    go_wp2
    go_ret
    exact ⟨Or.inl ⟨hneg, rfl⟩, B1.out⟩
  · have B1 := (show Hid (Below w.heap.size w w1) from ((Below.refl _ w).alloc (Nat.le_refl _) _).trans (b1.mono (by simp [World.alloc, -World.alloc_eq])))
    clear b1 C
    go_wp2
    go_ret
    exact ⟨Or.inr ⟨hnn, rfl⟩, B1.out⟩
end Go.Proofs.Ytfkknmhokiacaaa

namespace Go.Proofs.Ytfkknmhokiacaaa
open Go.ChangeShapes Go.WideShapes Go.RowKit Go.Deep

set_option maxRecDepth 1000000 in
theorem disk_cells1 : Try.prog.cellsOf 51 = 1 := by kernel_rfl
set_option maxRecDepth 1000000 in
theorem disk_cellsS : Try.prog.cellsOf 49 = 1 := by kernel_rfl
set_option maxRecDepth 1000000 in
theorem disk_cellsF : Try.prog.cellsOf 114 = 3 := by kernel_rfl
set_option maxRecDepth 1000000 in
theorem disk_cells9 : Try.prog.cellsOf 9 = 1 := by kernel_rfl
set_option maxRecDepth 1000000 in
theorem disk_cells3 : Try.prog.cellsOf 3 = 1 := by kernel_rfl

set_option maxRecDepth 1000000 in
/-- three cells that read as a file -/
theorem open_file {H : Type} {enc : TypeId × Value → H} {W : World} {base : Nat} {sp : Nat → Bool} {held : Bool} {fuel : Nat} {cs : List Value} {x : DataW H × List MemPlace} (h : DataW.trod enc Try.prog W base sp held fuel 114 cs = some x) :
    ∃ f : FileD, cs = fileEnc f ∧ f.name.size ≤ maxLen ∧ f.text.size ≤ maxLen ∧ -9223372036854775808 ≤ f.kept ∧ f.kept ≤ 9223372036854775807 := by
  obtain ⟨y0, y1, y2, n, _, hl, h0, h1, h2⟩ := trod_struct3 Try.underlying114 h
  rw [disk_cellsF] at hl
  match cs, hl with
  | [a, b, c], _ =>
    simp only [disk_cells9, disk_cells3] at h0 h1 h2
    obtain ⟨s, e0, _, s0⟩ := DataW.trod_string Try.underlying9 h0
    obtain ⟨t, e1, _, s1⟩ := DataW.trod_string Try.underlying9 h1
    obtain ⟨k, e2, _, s2⟩ := DataW.trod_int Try.underlying3 h2
    simp at e0 e1 e2
    subst e0 e1 e2
    have hb := bounds_i64 s2
    exact ⟨⟨s, t, k⟩, rfl, s0, s1, hb.1, hb.2⟩

instance : Inhabited FileD := ⟨⟨ByteArray.empty, ByteArray.empty, 0⟩⟩

/-- files whose numbers are numbers -/
def KeptFit (l : List FileD) : Prop := ∀ j (hj : j < l.length), -9223372036854775808 ≤ l[j].kept ∧ l[j].kept ≤ 9223372036854775807

set_option maxRecDepth 1000000 in
theorem open_files {H : Type} {enc : TypeId × Value → H} {W : World} {base : Nat} {sp : Nat → Bool} {held : Bool} {fuel : Nat} {cs : List Value} {x : DataW H × List MemPlace} (h : DataW.trod enc Try.prog W base sp held fuel 49 cs = some x) :
    ∃ ao l cap, cs = [.slice ao l.length cap] ∧ l.length ≤ cap ∧ cap ≤ maxLen ∧ FilesAt W ao l ∧ FilesFit l ∧ KeptFit l := by
  rcases open_slice Try.underlying49 h with ⟨rfl, _⟩ | ⟨a, len, cap, m, n, D, Pl, rfl, hb, hl, hm, hmm, _, hx⟩
  · exact ⟨none, [], 0, rfl, Nat.le_refl _, by unfold maxLen; omega, fun h => absurd rfl h, fun j hj => by simp at hj, fun j hj => by simp at hj⟩
  · have hlm : len ≤ m := by rw [hmm]; split <;> omega
    have each : ∀ i, i < len → ∃ f : FileD, (W.cells? base (a.add (i * 3)) 3 = some (fileEnc f)) ∧ f.name.size ≤ maxLen ∧ f.text.size ≤ maxLen ∧ -9223372036854775808 ≤ f.kept ∧ f.kept ≤ 9223372036854775807 := fun i hi => by
      obtain ⟨cs', e1, e2⟩ := hx i (by omega)
      rw [disk_cellsF] at e1
      obtain ⟨f, rfl, r⟩ := open_file e2
      exact ⟨f, e1, r⟩
    obtain ⟨F, hF⟩ := choose_lt each
    have hll : ((List.range len).map F).length = len := by simp
    refine ⟨some a, (List.range len).map F, cap, by rw [hll], by rw [hll]; exact hl, hm, ?_, ?_, ?_⟩
    · intro hne
      have hp : 0 < len := by
        rcases Nat.eq_zero_or_pos len with e | e
        · subst e; exact absurd rfl hne
        · exact e
      obtain ⟨b, off, spot⟩ := a
      have hc : ∀ i c, i < len → c < 3 → W.cell? ((Addr.add ⟨b, off, spot⟩ (i * 3)).add c) = (fileEnc (F i))[c]? := fun i c hi hc => (World.cells?_some (hF i hi).1).2.2 c hc
      have hspot : spot = none := by
        have := hc 0 0 hp (by omega)
        simpa [Addr.add] using World.cell?_spot this
      subst hspot
      refine ⟨b, off, rfl, fun j hj => ?_⟩
      simp only [List.getElem_map, List.getElem_range]
      have hj' : j < len := by omega
      have h0 := hc j 0 hj' (by omega)
      have h1 := hc j 1 hj' (by omega)
      have h2 := hc j 2 hj' (by omega)
      rw [add_plain, add_plain] at h0 h1 h2
      exact ⟨h0, h1, h2⟩
    · intro j hj
      simp only [List.getElem_map, List.getElem_range]
      have := (hF j (by omega)).2
      exact ⟨Nat.le_trans this.1 (show maxLen ≤ 9223372036854775807 by decide), Nat.le_trans this.2.1 (show maxLen ≤ 9223372036854775807 by decide)⟩
    · intro j hj
      simp only [List.getElem_map, List.getElem_range]
      exact (hF j (by omega)).2.2.2

set_option maxRecDepth 1000000 in
/-- a disk as a parameter -/
theorem open_disk {H : Type} {enc : TypeId × Value → H} {W : World} {r : Reach} {b0 base : Nat} {sp : Nat → Bool} {held : Bool} {v : Value} {d : DataW H} {ps : List MemPlace} (hval : Value.okWide Try.prog W r b0 51 v) (hd : DataW.Trod enc Try.prog W base sp held 51 v d ps) :
    ∃ ao l cap, v = .agg #[.slice ao l.length cap] ∧ l.length ≤ cap ∧ cap ≤ maxLen ∧ FilesAt W ao l ∧ FilesFit l ∧ KeptFit l := by
  obtain ⟨cs, rfl, _⟩ := okWide_struct Try.underlying51 hval
  obtain ⟨fuel, hf⟩ := hd
  obtain ⟨y0, n, _, hl, h0⟩ := trod_struct1 Try.underlying51 hf
  rw [disk_cells1] at hl
  simp only [disk_cellsS] at h0
  obtain ⟨ao, l, cap, e, r⟩ := open_files h0
  refine ⟨ao, l, cap, ?_, r⟩
  obtain ⟨c⟩ := cs
  have hl' : c.length = 1 := by simpa [Value.cells] using hl
  match c, hl' with
  | [x], _ =>
    simp [Value.cells] at e
    rw [e]
end Go.Proofs.Ytfkknmhokiacaaa

namespace Go.Proofs.Ytfkknmhokiacaaa
open Go.RowKit

/-- an act as data -/
structure ActD where
  kind : Int
  name : ByteArray
  text : ByteArray
  to : ByteArray
def ActD.value (a : ActD) : Value := .agg #[.int .i64 a.kind, .string a.name, .string a.text, .string a.to]
def actEnc (a : ActD) : List Value := [.int .i64 a.kind, .string a.name, .string a.text, .string a.to]
def ActD.bulk (a : ActD) : Int := a.name.size + a.text.size + a.to.size
def ActD.Fits (a : ActD) : Prop := a.name.size ≤ 9223372036854775807 ∧ a.text.size ≤ 9223372036854775807 ∧ a.to.size ≤ 9223372036854775807

set_option maxRecDepth 1000000 in
theorem szAct_any (a : ActD) (n : Int) (h0 : 0 ≤ n) (h1 : n ≤ 1048576) (hf : a.Fits) (w : World) :
    Calls Try.prog 24 #[a.value, .int .i64 n] w fun e w' => ((n - a.bulk < 0 ∧ e = .returned (.int .i64 (-1))) ∨ (0 ≤ n - a.bulk ∧ e = .returned (.int .i64 (n - a.bulk)))) ∧ Below w.heap.size w w' := by
  obtain ⟨f1, f2, f3⟩ := hf
  unfold ActD.value ActD.bulk
  go_enter Try.func24, Try.ntmps24
  go_wp2
  · go_ret
    exact ⟨Or.inl ⟨by omega, rfl⟩, below_more (Below.refl _ _) _⟩
  · go_ret
    exact ⟨Or.inl ⟨by omega, rfl⟩, below_more (Below.refl _ _) _⟩
  · go_ret
    exact ⟨Or.inl ⟨by omega, rfl⟩, below_more (Below.refl _ _) _⟩
  · go_ret
    refine ⟨Or.inr ⟨by omega, ?_⟩, below_more (Below.refl _ _) _⟩
    have e : n - a.name.size - a.text.size - a.to.size = n - (a.name.size + a.text.size + a.to.size) := by omega
    rw [← e]
    rfl

set_option maxRecDepth 1000000 in
theorem toAct_any (a : ActD) (w : World) :
    Calls Try.prog 27 #[a.value] w fun e w' => e = .returned a.value ∧ Below w.heap.size w w' := by
  unfold ActD.value
  go_enter Try.func27, Try.ntmps27
  go_wp2
  refine bodyPost_ret (v := .agg #[.int .i64 a.kind, .string a.name, .string a.text, .string a.to]) (by simp [results, Try.results27, go_sem]) rfl ⟨rfl, below_more (below_more (below_more (Below.refl _ w) _) _) _⟩
end Go.Proofs.Ytfkknmhokiacaaa

namespace Go.Proofs.Ytfkknmhokiacaaa
open Go.ChangeShapes Go.WideShapes Go.RowKit Go.Deep

set_option maxRecDepth 1000000 in
theorem act_cellsA : Try.prog.cellsOf 52 = 4 := by kernel_rfl
set_option maxRecDepth 1000000 in
theorem act_cells9 : Try.prog.cellsOf 9 = 1 := by kernel_rfl
set_option maxRecDepth 1000000 in
theorem act_cells3 : Try.prog.cellsOf 3 = 1 := by kernel_rfl
/-- a kind that is a number -/
def ActD.KindFits (a : ActD) : Prop := -9223372036854775808 ≤ a.kind ∧ a.kind ≤ 9223372036854775807

set_option maxRecDepth 1000000 in
theorem four_fields {H : Type} {enc : TypeId × Value → H} {P : Program} {W : World} {base : Nat} {sp : Nat → Bool} {held : Bool} {fuel : Nat} {t : TypeId} {f0 f1 f2 f3 : Field} {cs : List Value} {x : DataW H × List MemPlace} (ht : P.underlying t = some (.struct #[f0, f1, f2, f3])) (h : DataW.trod enc P W base sp held fuel t cs = some x) :
    ∃ y0 y1 y2 y3 n, cs.length = P.cellsOf t ∧ DataW.trod enc P W base sp held n f0.type ((cs.drop f0.offset).take (P.cellsOf f0.type)) = some y0 ∧ DataW.trod enc P W base sp held n f1.type ((cs.drop f1.offset).take (P.cellsOf f1.type)) = some y1 ∧
      DataW.trod enc P W base sp held n f2.type ((cs.drop f2.offset).take (P.cellsOf f2.type)) = some y2 ∧ DataW.trod enc P W base sp held n f3.type ((cs.drop f3.offset).take (P.cellsOf f3.type)) = some y3 := by
  obtain ⟨xs, n, _, _, hl, hlen, hf⟩ := DataW.trod_struct ht h
  match xs, hlen with
  | [y0, y1, y2, y3], _ => exact ⟨y0, y1, y2, y3, n, hl, by simpa using hf 0 f0 rfl, by simpa using hf 1 f1 rfl, by simpa using hf 2 f2 rfl, by simpa using hf 3 f3 rfl⟩

set_option maxRecDepth 1000000 in
/-- four cells that read as an act -/
theorem open_actCells {H : Type} {enc : TypeId × Value → H} {W : World} {base : Nat} {sp : Nat → Bool} {held : Bool} {fuel : Nat} {cs : List Value} {x : DataW H × List MemPlace} (h : DataW.trod enc Try.prog W base sp held fuel 52 cs = some x) :
    ∃ a : ActD, cs = actEnc a ∧ a.Fits ∧ a.KindFits := by
  obtain ⟨y0, y1, y2, y3, n, hl, h0, h1, h2, h3⟩ := four_fields Try.underlying52 h
  rw [act_cellsA] at hl
  match cs, hl with
  | [c0, c1, c2, c3], _ =>
    simp only [act_cells9, act_cells3] at h0 h1 h2 h3
    obtain ⟨k, e0, _, s0⟩ := DataW.trod_int Try.underlying3 h0
    obtain ⟨s, e1, _, s1⟩ := DataW.trod_string Try.underlying9 h1
    obtain ⟨t, e2, _, s2⟩ := DataW.trod_string Try.underlying9 h2
    obtain ⟨u, e3, _, s3⟩ := DataW.trod_string Try.underlying9 h3
    simp at e0 e1 e2 e3
    subst e0 e1 e2 e3
    have hb := bounds_i64 s0
    exact ⟨⟨k, s, t, u⟩, rfl, ⟨s1, s2, s3⟩, hb⟩

set_option maxRecDepth 1000000 in
/-- an act as a parameter -/
theorem open_act {H : Type} {enc : TypeId × Value → H} {W : World} {r : Reach} {b0 base : Nat} {sp : Nat → Bool} {held : Bool} {v : Value} {d : DataW H} {ps : List MemPlace} (hval : Value.okWide Try.prog W r b0 52 v) (hd : DataW.Trod enc Try.prog W base sp held 52 v d ps) :
    ∃ a : ActD, v = a.value ∧ a.Fits ∧ a.KindFits := by
  obtain ⟨cs, rfl, _⟩ := okWide_struct Try.underlying52 hval
  obtain ⟨fuel, hf⟩ := hd
  obtain ⟨a, e, r⟩ := open_actCells hf
  refine ⟨a, ?_, r⟩
  obtain ⟨c⟩ := cs
  have e' : c = actEnc a := by simpa [Value.cells] using e
  rw [e']
  rfl
end Go.Proofs.Ytfkknmhokiacaaa

namespace Go.Proofs.Ytfkknmhokiacaaa
open Go.RowKit

set_option maxRecDepth 1000000 in
theorem toFile_any (f : FileD) (w : World) :
    Calls Try.prog 83 #[f.value] w fun e w' => e = .returned f.value ∧ Below w.heap.size w w' := by
  unfold FileD.value
  go_enter Try.func83, Try.ntmps83
  go_wp2
  refine bodyPost_ret (v := .agg #[.string f.name, .string f.text, .int .i64 f.kept]) (by simp [results, Try.results83, go_sem]) rfl ⟨rfl, below_more (below_more (below_more (Below.refl _ w) _) _) _⟩

theorem toFile_info : (Try.prog.info? 36).map (fun i => (i.zero, i.size, i.bytes)) = some (some (.agg #[.string ByteArray.empty, .string ByteArray.empty, .int .i64 0]), 3, 40) := by kernel_rfl

/-- a file's three cells are written -/
theorem put_file {w w2 : World} {g k : Nat} {t : TypeId} {l : List FileD} {r : List Value} (hk : k < l.length) (h : BlockIs w g t (fileCells (l.take k) ++ r)) (hr : r.length = (l.length - k) * 3) {B : Nat} (hb : Below B w w2) (hg : g < B) :
    (∃ x y z, w2.cell? ⟨g, k * 3, none⟩ = some x ∧ w2.cell? ⟨g, k * 3 + 1, none⟩ = some y ∧ w2.cell? ⟨g, k * 3 + 2, none⟩ = some z) ∧ (∀ j, w2.frozen? ⟨g, j, none⟩ = false) ∧
    ∃ r', r'.length = (l.length - (k + 1)) * 3 ∧ BlockIs (((w2.setCell ⟨g, k * 3, none⟩ (.string l[k].name)).setCell ⟨g, k * 3 + 1, none⟩ (.string l[k].text)).setCell ⟨g, k * 3 + 2, none⟩ (.int .i64 l[k].kept)) g t (fileCells (l.take (k + 1)) ++ r') := by
  have h2 := h.on hb hg
  have hlen : (fileCells (l.take k)).length = k * 3 := by rw [fileCells_length, List.length_take]; omega
  match r, hr with
  | x :: y :: z :: r', hr =>
    have hs := ((h2.set (k * 3) (.string l[k].name)).set (k * 3 + 1) (.string l[k].text)).set (k * 3 + 2) (.int .i64 l[k].kept)
    have e3 := set_three (fileCells (l.take k)) (.string l[k].name) (.string l[k].text) (.int .i64 l[k].kept) x y z r'
    rw [hlen] at e3
    rw [e3] at hs
    refine ⟨⟨x, y, z, h2.cell ?_, h2.cell ?_, h2.cell ?_⟩, fun j => h2.thaw j, r', ?_, ?_⟩
    · rw [List.getElem?_append_right (by omega), hlen, Nat.sub_self]; rfl
    · rw [List.getElem?_append_right (by omega), hlen, show k * 3 + 1 - k * 3 = 1 by omega]; rfl
    · rw [List.getElem?_append_right (by omega), hlen, show k * 3 + 2 - k * 3 = 2 by omega]; rfl
    · simp at hr; omega
    · rw [fileCells_take l k hk, List.append_assoc]
      exact hs
  | [], hr => simp at hr; omega
  | [_], hr => simp at hr; omega
  | [_, _], hr => simp at hr; omega

theorem made_length (n : Nat) : (madeCells (Value.agg #[.string ByteArray.empty, .string ByteArray.empty, .int .i64 0]).cells (n * 3)).toList.length = n * 3 := by
  simp [madeCells]

set_option maxRecDepth 1000000 in
set_option maxHeartbeats 1000000 in
theorem toFileS_any (ao : Option Addr) (l : List FileD) (cap : Nat) (hl : l.length ≤ 1048576) (w : World) (ha : FilesAt w ao l) :
    Calls Try.prog 61 #[.slice ao l.length cap] w fun e w' => e = .returned (.slice (some ⟨w.heap.size, 0, none⟩) l.length l.length) ∧ BlockIs w' w.heap.size 36 (fileCells l) ∧ Below w.heap.size w w' := by
  obtain ⟨i0, hi, hz0, hz1, hz2⟩ := info_parts toFile_info
  have HA := (show Hid (FilesAt w ao l) from ha)
  clear ha
  go_enter Try.func61, Try.ntmps61
  go_wp2_with (at_make; refine wpList_make_full _ rfl (.tmp 6) (.tmp 6) 24 rfl w.heap.size 36 i0 (.agg #[.string ByteArray.empty, .string ByteArray.empty, .int .i64 0]) 3 Try.underlying24 hi hz0 hz1 _ _ _ _ l.length rfl rfl rfl rfl ?b2 ?b3 ?b4 ?_)
  case b2 => rw [hz2]; omega
  case b3 => unfold maxLen; omega
  case b4 => exact Nat.le_refl _
  intro w1 hown hgrow
  have HM := (show Hid _ from BlockIs.made hown)
  have hB1 := (Below.refl w.heap.size w).grown hgrow (Nat.le_refl _) (fun k h => by cases h)
  have B1 := (show Hid (Below w.heap.size w w1) from hB1)
  clear hown hgrow hB1
  go_wp2
  go_loopg [4] l.length (fun g i wr => ∃ (k : Nat), k + g = l.length ∧ i = .int .i64 k ∧ Hid (Below w.heap.size w wr) ∧ ∃ rest, Hid (rest.length = (l.length - k) * 3) ∧ Hid (BlockIs wr w.heap.size 36 (fileCells (l.take k) ++ rest)))
  case atStart => exact ⟨0, by omega, rfl, B1, _, made_length l.length, HM⟩
  case round =>
    obtain ⟨k, hkg, rfl, BR, rest, hrl, FP⟩ := hrel
    clear HM B1
    cases gk with
    | zero =>
      have hlt : ¬ (k : Int) < (l.length : Int) := by omega
      have HP : Hid (BlockIs wr w.heap.size 36 (fileCells l)) := by
        have h0 : rest = [] := List.length_eq_zero_iff.1 (by rw [hrl.out, show l.length - k = 0 by omega])
        have := FP.out
        rw [h0, List.append_nil, List.take_of_length_le (by omega)] at this
        exact this
      clear FP hrl
      go_wp2
      go_ret
      exact ⟨rfl, HP.out, BR.out⟩
    | succ g =>
      have hlt : k < l.length := by omega
      have hlt' : (k : Int) < (l.length : Int) := by omega
      have hne : l ≠ [] := by intro e; rw [e] at hlt; simp at hlt
      obtain ⟨b, off, rfl, hc⟩ := HA.out.on BR.out hne
      obtain ⟨x0, x1, x2⟩ := hc k hlt
      clear hc
      have C := (show Hid _ from toFile_any l[k])
      unfold FileD.value at C
      go_wp2_with fail
      refine (C.out _).mono ?_
      rintro e w2 ⟨rfl, b2⟩
      obtain ⟨⟨z0, z1, z2, y0, y1, y2⟩, hf, r', hr', hnew⟩ := put_file hlt FP.out hrl.out b2 FP.out.lt
      have B2 := (show Hid (Below w.heap.size w w2) from below_via BR.out b2)
      have f0 := hf (k * 3)
      have f1 := hf (k * 3 + 1)
      have f2 := hf (k * 3 + 2)
      have HN := (show Hid _ from hnew)
      have HR := (show Hid _ from hr')
      clear x0 x1 x2 C hf hnew hr' b2 FP hrl BR
      go_wp2
      go_roundg g
      case measure => omega
      case rel => exact ⟨k + 1, by omega, by go_num, ((B2.out.setCell (Nat.le_refl _) _).setCell (Nat.le_refl _) _).setCell (Nat.le_refl _) _, r', HR, HN⟩

/-- three blocks laid one behind the other -/
theorem three_new (w : World) (o p q : Obj) : Below w.heap.size w (((w.alloc o).alloc p).alloc q) ∧ (((w.alloc o).alloc p).alloc q).heap.size = w.heap.size + 3 ∧ (((w.alloc o).alloc p).alloc q).heap[w.heap.size + 1]? = some p ∧ (((w.alloc o).alloc p).alloc q).heap[w.heap.size + 1 + 1]? = some q := by
  refine ⟨below_more (below_more (below_more (Below.refl _ w) _) _) _, ?_, ?_, ?_⟩
  · simp [World.alloc, -World.alloc_eq]
  · show (((w.heap.push o).push p).push q)[w.heap.size + 1]? = some p
    rw [Array.getElem?_push, if_neg (by simp), Array.getElem?_push, if_pos (by simp)]
  · show (((w.heap.push o).push p).push q)[w.heap.size + 1 + 1]? = some q
    rw [Array.getElem?_push, if_pos (by simp)]

set_option maxRecDepth 1000000 in
theorem toDisk_any (ao : Option Addr) (l : List FileD) (cap : Nat) (hl : l.length ≤ 1048576) (w : World) (ha : FilesAt w ao l) :
    Calls Try.prog 26 #[.agg #[.slice ao l.length cap]] w fun e w' => ∃ g, w.heap.size ≤ g ∧ e = .returned (.agg #[.slice (some ⟨g, 0, none⟩) l.length l.length]) ∧ BlockIs w' g 36 (fileCells l) ∧ Below w.heap.size w w' := by
  have C := (show Hid _ from fun w ha => toFileS_any ao l cap hl w ha)
  have HA := (show Hid (FilesAt w ao l) from ha)
  clear ha
  have h3 := three_new w (.cells #[.slice ao l.length cap] 51) (.cells #[.slice none 0 0] 26) (.cells #[.slice none 0 0] 26)
  have H3 := (show Hid _ from h3)
  clear h3
  go_enter Try.func26, Try.ntmps26
  go_wp2_with fail
  refine (C.out _ (HA.out.on H3.out.1)).mono ?_
  rintro e w1 ⟨rfl, hbl, b1⟩
  obtain ⟨hb0, hs0, hx1, hx2⟩ := H3.out
  rw [hs0] at hbl b1 ⊢
  have k1 : BlockIs w1 (w.heap.size + 1) 26 [.slice none 0 0] := BlockIs.on (show BlockIs _ _ _ _ from hx1) b1 (by omega)
  have k2 : BlockIs w1 (w.heap.size + 1 + 1) 26 [.slice none 0 0] := BlockIs.on (show BlockIs _ _ _ _ from hx2) b1 (by omega)
  have c1 := k1.cell (j := 0) rfl
  have c2 := k2.cell (j := 0) rfl
  have f1 := k1.thaw 0
  have f2 := k2.thaw 0
  have B1 := (show Hid (Below w.heap.size w w1) from hb0.trans (b1.mono (by omega)))
  have HB := (show Hid (BlockIs w1 (w.heap.size + 3) 36 (fileCells l)) from hbl)
  clear hbl b1 C H3 hb0 hs0 hx1 hx2 k1 k2
  go_wp2
  refine bodyPost_ret (v := .agg #[.slice (some ⟨w.heap.size + 3, 0, none⟩) l.length l.length]) (by simp [results, Try.results26, go_sem, c1]) rfl ⟨_, Nat.le_add_right _ _, rfl, ?_, ?_⟩
  · exact (HB.out.far (by omega) _).far (by omega) _
  · exact (B1.out.setCell (by show _ ≤ _ + 1 + 1; omega) _).setCell (by show _ ≤ _ + 1; omega) _
end Go.Proofs.Ytfkknmhokiacaaa

namespace Go.Proofs.Ytfkknmhokiacaaa
open Go.RowKit

/-- a number within bounds -/
def within (x a b : Int) : Bool := decide (a ≤ x) && decide (x ≤ b)
def nameOk (s : ByteArray) : Bool := within s.size 1 8
def fileOk (f : FileD) : Bool := nameOk f.name && decide (f.text.size ≤ 20000) && within f.kept 0 f.text.size
/-- is a text less than another one -/
def textLt (s t : ByteArray) : Bool := Op.bytesLess s.toList t.toList
/-- a file stands behind the one ahead of it -/
def behind (l : List FileD) (k : Nat) (f : FileD) : Bool := match k with
  | 0 => true
  | j + 1 => match l[j]? with
    | none => true
    | some g => textLt g.name f.name
/-- the first k files are right, and ascend -/
def rightTo (l : List FileD) : Nat → Bool
  | 0 => true
  | k + 1 => rightTo l k && match l[k]? with
    | none => true
    | some f => fileOk f && behind l k f
def diskOk (l : List FileD) : Bool := decide (l.length ≤ 30) && rightTo l l.length

theorem rightTo_step {l : List FileD} {k : Nat} (hk : k < l.length) : rightTo l (k + 1) = (rightTo l k && (fileOk l[k] && behind l k l[k])) := by
  rw [rightTo, List.getElem?_eq_getElem hk]
theorem behind_step {l : List FileD} {j : Nat} (hj : j + 1 < l.length) : behind l (j + 1) l[j + 1] = textLt l[j].name l[j + 1].name := by
  rw [behind, List.getElem?_eq_getElem (show j < l.length by omega)]
theorem rightTo_down {l : List FileD} {n k : Nat} (h : rightTo l n = true) (hk : k ≤ n) : rightTo l k = true := by
  induction n with
  | zero => obtain rfl : k = 0 := by omega
            rfl
  | succ n ih =>
    rcases Nat.lt_or_ge k (n + 1) with q | q
    · rw [rightTo, Bool.and_eq_true] at h
      exact ih h.1 (by omega)
    · obtain rfl : k = n + 1 := by omega
      exact h
theorem diskOk_of {l : List FileD} (h : l.length ≤ 30) (hr : rightTo l l.length = true) : diskOk l = true := by
  rw [diskOk, hr]
  simpa using h
theorem not_diskOk {l : List FileD} {k : Nat} (hk : k < l.length) (h : (fileOk l[k] && behind l k l[k]) = false) : diskOk l = false := by
  cases hd : diskOk l with
  | false => rfl
  | true =>
    rw [diskOk, Bool.and_eq_true] at hd
    have := rightTo_down hd.2 (show k + 1 ≤ l.length by omega)
    rw [rightTo_step hk, h] at this
    simp at this
end Go.Proofs.Ytfkknmhokiacaaa

namespace Go.Proofs.Ytfkknmhokiacaaa
open Go.RowKit

theorem row_shape {w : World} {base size n : Nat} {t : TypeId} {v : Value} {xs : List Value} (h : w.ownsRow base t size v n xs) : ∃ a c, v = .slice a n c := by
  obtain ⟨_, (⟨rfl, rfl⟩ | ⟨g, cap, _, rfl, _⟩)⟩ := h
  · exact ⟨_, _, rfl⟩
  · exact ⟨_, _, rfl⟩
theorem row_down {w : World} {base base' size n : Nat} {t : TypeId} {v : Value} {xs : List Value} (h : w.ownsRow base t size v n xs) (hb : base' ≤ base) : w.ownsRow base' t size v n xs :=
  ⟨h.1, h.2.imp id fun ⟨g, cap, cur, a, b, r⟩ => ⟨g, cap, cur, a, Nat.le_trans hb b, r⟩⟩
/-- behind an append to a row of the call's own: all that was there ahead of the row stands -/
theorem behind_append {w wr w1 : World} {v : Value} {base n : Nat} {t : TypeId} {size : Nat} {xs : List Value} {o : Obj} (hB : w.heap.size ≤ base) (BR : Below w.heap.size w wr) (OR : wr.ownsRow base t size v n xs) (hz : base ≤ wr.heap.size) (hg : (wr.alloc o).drew.grownBy w1 v.ownBlock) :
    Below w.heap.size w w1 ∧ base ≤ w1.heap.size ∧ ∀ j tj cs, j < base → BlockIs wr j tj cs → BlockIs w1 j tj cs := by
  have hown : ∀ j, v.ownBlock = some j → base ≤ j := fun j hj => (OR.lt j hj).1
  have hd : Below wr.heap.size wr (wr.alloc o).drew := below_drewN (below_more (Below.refl _ wr) o) 1
  have h1 : Below base wr w1 := ((hd.mono hz).grown hg (Nat.le_trans hz hd.size) hown)
  refine ⟨BR.trans (h1.mono hB), Nat.le_trans hz h1.size, fun j tj cs hj hb => hb.on h1 hj⟩
end Go.Proofs.Ytfkknmhokiacaaa
