/- Readings and truths, opened as a row's arguments. -/
import Derived.Test.YtffgcphmakfikaaDoorRow
set_option linter.unusedVariables false
set_option linter.unusedSimpArgs false
namespace Go.Proofs.YtffgcphmakfikaaDoor
open Go.ChangeShapes Go.WideShapes Go.ChangeAt Go.RowKit
section
variable {H : Type} {enc : TypeId × Value → H} {w : World} {base : Nat} {spare : Nat → Bool} {held : Bool}
set_option maxRecDepth 100000 in
theorem open_reading {v : Value} {d : DataW H} {ps : List MemPlace} {b0 : Nat} (hv : Value.okWide Tryd.prog w .any b0 29 v) (h : DataW.Trod enc Tryd.prog w base (fun _ => true) held 29 v d ps) :
    ∃ s, v = rdV s := by
  obtain ⟨fuel, h⟩ := h
  obtain ⟨cs, rfl, hsz⟩ := okWide_struct Tryd.underlying29 hv
  obtain ⟨xs, n, _, _, hl, hlen, hf⟩ := DataW.trod_struct Tryd.underlying29 h
  have cN : Tryd.prog.cellsOf 29 = 10 := by kernel_rfl
  have c2 : Tryd.prog.cellsOf 23 = 2 := by kernel_rfl
  have c1 : Tryd.prog.cellsOf 3 = 1 := by kernel_rfl
  have ck : Tryd.prog.cellsOf 27 = 1 := by kernel_rfl
  obtain ⟨l⟩ := cs
  rw [cN] at hsz
  match l, hsz with
  | [u0, u1, u2, u3, u4, u5, u6, u7, u8, u9], _ =>
    match xs, hlen with
    | [x0, x1, x2, x3, x4, x5, x6], _ =>
      have h0 := hf 0 _ rfl
      obtain ⟨a0, e0, _⟩ := DataW.trod_int Tryd.underlying3 h0
      replace e0 : List.take (Tryd.prog.cellsOf 3) (List.drop 0 [u0, u1, u2, u3, u4, u5, u6, u7, u8, u9]) = [.int .i64 a0] := e0
      rw [c1] at e0
      simp at e0
      have h1 := hf 1 _ rfl
      obtain ⟨a1, e1, _⟩ := DataW.trod_int Tryd.underlying3 h1
      replace e1 : List.take (Tryd.prog.cellsOf 3) (List.drop 1 [u0, u1, u2, u3, u4, u5, u6, u7, u8, u9]) = [.int .i64 a1] := e1
      rw [c1] at e1
      simp at e1
      have h2 := hf 2 _ rfl
      obtain ⟨a2, e2, _⟩ := DataW.trod_int Tryd.underlying27 h2
      replace e2 : List.take (Tryd.prog.cellsOf 27) (List.drop 2 [u0, u1, u2, u3, u4, u5, u6, u7, u8, u9]) = [.int .i64 a2] := e2
      rw [ck] at e2
      simp at e2
      have h3 := hf 3 _ rfl
      obtain ⟨a3, e3, _⟩ := DataW.trod_int Tryd.underlying3 h3
      replace e3 : List.take (Tryd.prog.cellsOf 3) (List.drop 3 [u0, u1, u2, u3, u4, u5, u6, u7, u8, u9]) = [.int .i64 a3] := e3
      rw [c1] at e3
      simp at e3
      have h4 := hf 4 _ rfl
      obtain ⟨a4, b4, e4⟩ := span_cells h4
      replace e4 : List.take (Tryd.prog.cellsOf 23) (List.drop 4 [u0, u1, u2, u3, u4, u5, u6, u7, u8, u9]) = [.int .i64 a4, .int .i64 b4] := e4
      rw [c2] at e4
      simp at e4
      have h5 := hf 5 _ rfl
      obtain ⟨a5, b5, e5⟩ := span_cells h5
      replace e5 : List.take (Tryd.prog.cellsOf 23) (List.drop 6 [u0, u1, u2, u3, u4, u5, u6, u7, u8, u9]) = [.int .i64 a5, .int .i64 b5] := e5
      rw [c2] at e5
      simp at e5
      have h6 := hf 6 _ rfl
      obtain ⟨a6, b6, e6⟩ := span_cells h6
      replace e6 : List.take (Tryd.prog.cellsOf 23) (List.drop 8 [u0, u1, u2, u3, u4, u5, u6, u7, u8, u9]) = [.int .i64 a6, .int .i64 b6] := e6
      rw [c2] at e6
      simp at e6
      refine ⟨⟨a0, a1, a2, a3, a4, b4, a5, b5, a6, b6⟩, ?_⟩
      rw [e0, e1, e2, e3, e4.1, e4.2, e5.1, e5.2, e6.1, e6.2]
set_option maxRecDepth 100000 in
theorem open_truth {v : Value} {d : DataW H} {ps : List MemPlace} {b0 : Nat} (hv : Value.okWide Tryd.prog w .any b0 58 v) (h : DataW.Trod enc Tryd.prog w base (fun _ => true) held 58 v d ps) :
    ∃ s, v = trV s := by
  obtain ⟨fuel, h⟩ := h
  obtain ⟨cs, rfl, hsz⟩ := okWide_struct Tryd.underlying58 hv
  obtain ⟨xs, n, _, _, hl, hlen, hf⟩ := DataW.trod_struct Tryd.underlying58 h
  have cN : Tryd.prog.cellsOf 58 = 7 := by kernel_rfl
  have c2 : Tryd.prog.cellsOf 23 = 2 := by kernel_rfl
  have c1 : Tryd.prog.cellsOf 3 = 1 := by kernel_rfl
  have ck : Tryd.prog.cellsOf 27 = 1 := by kernel_rfl
  obtain ⟨l⟩ := cs
  rw [cN] at hsz
  match l, hsz with
  | [u0, u1, u2, u3, u4, u5, u6], _ =>
    match xs, hlen with
    | [x0, x1, x2, x3, x4, x5, x6], _ =>
      have h0 := hf 0 _ rfl
      obtain ⟨a0, e0, _⟩ := DataW.trod_int Tryd.underlying3 h0
      replace e0 : List.take (Tryd.prog.cellsOf 3) (List.drop 0 [u0, u1, u2, u3, u4, u5, u6]) = [.int .i64 a0] := e0
      rw [c1] at e0
      simp at e0
      have h1 := hf 1 _ rfl
      obtain ⟨a1, e1, _⟩ := DataW.trod_int Tryd.underlying3 h1
      replace e1 : List.take (Tryd.prog.cellsOf 3) (List.drop 1 [u0, u1, u2, u3, u4, u5, u6]) = [.int .i64 a1] := e1
      rw [c1] at e1
      simp at e1
      have h2 := hf 2 _ rfl
      obtain ⟨a2, e2, _⟩ := DataW.trod_int Tryd.underlying3 h2
      replace e2 : List.take (Tryd.prog.cellsOf 3) (List.drop 2 [u0, u1, u2, u3, u4, u5, u6]) = [.int .i64 a2] := e2
      rw [c1] at e2
      simp at e2
      have h3 := hf 3 _ rfl
      obtain ⟨a3, e3, _⟩ := DataW.trod_int Tryd.underlying3 h3
      replace e3 : List.take (Tryd.prog.cellsOf 3) (List.drop 3 [u0, u1, u2, u3, u4, u5, u6]) = [.int .i64 a3] := e3
      rw [c1] at e3
      simp at e3
      have h4 := hf 4 _ rfl
      obtain ⟨a4, e4, _⟩ := DataW.trod_int Tryd.underlying3 h4
      replace e4 : List.take (Tryd.prog.cellsOf 3) (List.drop 4 [u0, u1, u2, u3, u4, u5, u6]) = [.int .i64 a4] := e4
      rw [c1] at e4
      simp at e4
      have h5 := hf 5 _ rfl
      obtain ⟨a5, e5, _⟩ := DataW.trod_int Tryd.underlying3 h5
      replace e5 : List.take (Tryd.prog.cellsOf 3) (List.drop 5 [u0, u1, u2, u3, u4, u5, u6]) = [.int .i64 a5] := e5
      rw [c1] at e5
      simp at e5
      have h6 := hf 6 _ rfl
      obtain ⟨a6, e6, _⟩ := DataW.trod_int Tryd.underlying3 h6
      replace e6 : List.take (Tryd.prog.cellsOf 3) (List.drop 6 [u0, u1, u2, u3, u4, u5, u6]) = [.int .i64 a6] := e6
      rw [c1] at e6
      simp at e6
      refine ⟨⟨a0, a1, a2, a3, a4, a5, a6⟩, ?_⟩
      rw [e0, e1, e2, e3, e4, e5, e6]
end
end Go.Proofs.YtffgcphmakfikaaDoor
