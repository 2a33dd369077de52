/-
  A stream that came in, read as data.
-/
import Derived.Test.YthbdkfdcbglpoaaPlainStr
import Derived.Test.YthbdkfdcbglpoaaOpenLateS
namespace Go.Proofs.Ythbdkfdcbglpoaa
open Go.ChangeShapes Go.WideShapes Go.RowKit Go.Deep

set_option maxRecDepth 1000000 in
theorem str_cells1 : Try.prog.cellsOf 32 = 13 := by kernel_rfl
set_option maxRecDepth 1000000 in
theorem str_cells4 : Try.prog.cellsOf 4 = 1 := by kernel_rfl
set_option maxRecDepth 1000000 in
theorem str_fields {H : Type} {enc : TypeId × Value → H} {P : Program} {W : World} {base : Nat} {sp : Nat → Bool} {held : Bool} {fuel : Nat} {t : TypeId} {f0 f1 f2 f3 f4 f5 f6 f7 f8 f9 f10 f11 f12 : Field} {cs : List Value} {x : DataW H × List MemPlace} (ht : P.underlying t = some (.struct #[f0, f1, f2, f3, f4, f5, f6, f7, f8, f9, f10, f11, f12])) (h : DataW.trod enc P W base sp held fuel t cs = some x) :
    ∃ y0 y1 y2 y3 y4 y5 y6 y7 y8 y9 y10 y11 y12 n, cs.length = P.cellsOf t ∧ DataW.trod enc P W base sp held n f0.type ((cs.drop f0.offset).take (P.cellsOf f0.type)) = some y0 ∧ DataW.trod enc P W base sp held n f1.type ((cs.drop f1.offset).take (P.cellsOf f1.type)) = some y1 ∧ DataW.trod enc P W base sp held n f2.type ((cs.drop f2.offset).take (P.cellsOf f2.type)) = some y2 ∧ DataW.trod enc P W base sp held n f3.type ((cs.drop f3.offset).take (P.cellsOf f3.type)) = some y3 ∧ DataW.trod enc P W base sp held n f4.type ((cs.drop f4.offset).take (P.cellsOf f4.type)) = some y4 ∧ DataW.trod enc P W base sp held n f5.type ((cs.drop f5.offset).take (P.cellsOf f5.type)) = some y5 ∧ DataW.trod enc P W base sp held n f6.type ((cs.drop f6.offset).take (P.cellsOf f6.type)) = some y6 ∧ DataW.trod enc P W base sp held n f7.type ((cs.drop f7.offset).take (P.cellsOf f7.type)) = some y7 ∧ DataW.trod enc P W base sp held n f8.type ((cs.drop f8.offset).take (P.cellsOf f8.type)) = some y8 ∧ DataW.trod enc P W base sp held n f9.type ((cs.drop f9.offset).take (P.cellsOf f9.type)) = some y9 ∧ DataW.trod enc P W base sp held n f10.type ((cs.drop f10.offset).take (P.cellsOf f10.type)) = some y10 ∧ DataW.trod enc P W base sp held n f11.type ((cs.drop f11.offset).take (P.cellsOf f11.type)) = some y11 ∧ DataW.trod enc P W base sp held n f12.type ((cs.drop f12.offset).take (P.cellsOf f12.type)) = some y12 := by
  obtain ⟨xs, n, _, _, hl, hlen, hf⟩ := DataW.trod_struct ht h
  match xs, hlen with
  | [y0, y1, y2, y3, y4, y5, y6, y7, y8, y9, y10, y11, y12], _ => exact ⟨y0, y1, y2, y3, y4, y5, y6, y7, y8, y9, y10, y11, y12, n, hl, by simpa using hf 0 f0 rfl, by simpa using hf 1 f1 rfl, by simpa using hf 2 f2 rfl, by simpa using hf 3 f3 rfl, by simpa using hf 4 f4 rfl, by simpa using hf 5 f5 rfl, by simpa using hf 6 f6 rfl, by simpa using hf 7 f7 rfl, by simpa using hf 8 f8 rfl, by simpa using hf 9 f9 rfl, by simpa using hf 10 f10 rfl, by simpa using hf 11 f11 rfl, by simpa using hf 12 f12 rfl⟩

set_option maxRecDepth 1000000 in
/-- a stream as a parameter -/
theorem open_str {H : Type} {enc : TypeId × Value → H} {W : World} {r : Reach} {b0 base : Nat} {sp : Nat → Bool} {held : Bool} {v : Value} {dw : DataW H} {ps : List MemPlace} (hval : Value.okWide Try.prog W r b0 32 v) (hd : DataW.Trod enc Try.prog W base sp held 32 v dw ps) :
    ∃ (d : StrD) (ao : Option Addr) (cap : Nat), v = .agg #[.int .i64 d.st, .int .i64 d.iss, .int .i64 d.una, .int .i64 d.rcv, .string d.wait, .int .i64 d.sent, .int .i64 d.fin, .bool d.pf, .string d.inn, .slice ao d.late.length cap, .bool d.owe, .int .i64 d.due, .int .i64 d.times] ∧ d.Fits ∧ d.late.length ≤ cap ∧ cap ≤ maxLen ∧ LatesAt W ao d.late ∧ LatesFit d.late := by
  obtain ⟨cs, rfl, _⟩ := okWide_struct Try.underlying32 hval
  obtain ⟨fuel, hf⟩ := hd
  obtain ⟨y0, y1, y2, y3, y4, y5, y6, y7, y8, y9, y10, y11, y12, n, hl, h0, h1, h2, h3, h4, h5, h6, h7, h8, h9, h10, h11, h12⟩ := str_fields Try.underlying32 hf
  rw [str_cells1] at hl
  obtain ⟨c⟩ := cs
  have hl' : c.length = 13 := by simpa [Value.cells] using hl
  match c, hl' with
  | [x0, x1, x2, x3, x4, x5, x6, x7, x8, x9, x10, x11, x12], _ =>
    simp only [Value.cells, late_cells3, late_cells9, str_cells4, late_cellsS] at h0 h1 h2 h3 h4 h5 h6 h7 h8 h9 h10 h11 h12
    obtain ⟨k0, e0, _, s0⟩ := DataW.trod_int Try.underlying3 h0
    obtain ⟨k1, e1, _, s1⟩ := DataW.trod_int Try.underlying3 h1
    obtain ⟨k2, e2, _, s2⟩ := DataW.trod_int Try.underlying3 h2
    obtain ⟨k3, e3, _, s3⟩ := DataW.trod_int Try.underlying3 h3
    obtain ⟨k4, e4, _, s4⟩ := DataW.trod_string Try.underlying9 h4
    obtain ⟨k5, e5, _, s5⟩ := DataW.trod_int Try.underlying3 h5
    obtain ⟨k6, e6, _, s6⟩ := DataW.trod_int Try.underlying3 h6
    obtain ⟨k7, e7, _⟩ := DataW.trod_bool Try.underlying4 h7
    obtain ⟨k8, e8, _, s8⟩ := DataW.trod_string Try.underlying9 h8
    obtain ⟨ao, l, cap, e9, r⟩ := open_lateRow h9
    obtain ⟨k10, e10, _⟩ := DataW.trod_bool Try.underlying4 h10
    obtain ⟨k11, e11, _, s11⟩ := DataW.trod_int Try.underlying3 h11
    obtain ⟨k12, e12, _, s12⟩ := DataW.trod_int Try.underlying3 h12
    simp at e0 e1 e2 e3 e4 e5 e6 e7 e8 e9 e10 e11 e12
    subst e0 e1 e2 e3 e4 e5 e6 e7 e8 e9 e10 e11 e12
    exact ⟨⟨k0, k1, k2, k3, k4, k5, k6, k7, k8, l, k10, k11, k12⟩, ao, cap, rfl, ⟨bounds_i64 s0, bounds_i64 s1, bounds_i64 s2, bounds_i64 s3, s4, bounds_i64 s5, bounds_i64 s6, s8, bounds_i64 s11, bounds_i64 s12⟩, r⟩
end Go.Proofs.Ythbdkfdcbglpoaa
