/- From the rows' data to the laws' words: traces and lists of numbers. -/
import Derived.Test.YtknplcpjmpmblaaDoorKro
import Derived.Test.YtknplcpjmpmblaaDoorKa
set_option linter.unusedVariables false
set_option linter.unusedSimpArgs false
namespace Go.Proofs.YtknplcpjmpmblaaDoor
open Go.ChangeShapes Go.WideShapes Go.ChangeAt Go.RowKit
section
variable {H : Type} {enc : TypeId × Value → H} {w : World} {base : Nat} {spare : Nat → Bool} {held : Bool}
/-- A slice whose cells are numbers, row by row. -/
theorem reads_of {a : Addr} {len cap k : Nat} (hl : len ≤ cap) (hm : cap ≤ maxLen) (hk : 0 < k) (hq : ∀ i, i < len → ∃ g : Nat → Int, ∀ j, j < k → w.cell? (a.add (i * k + j)) = some (.int .i64 (g j))) :
    ∃ f : Nat → Nat → Int, GY.Reads1 w 0 (.slice (some a) len cap) (.rows 0 k len f) := by
  refine ⟨fun i => if h : i < len then Classical.choose (hq i h) else fun _ => 0, some a, cap, rfl, hl, hm, fun h0 => ?_⟩
  obtain ⟨b, off, spot⟩ := a
  have hc0 := (Classical.choose_spec (hq 0 h0)) 0 hk
  have hspot : spot = none := by simpa [Addr.add] using World.cell?_spot hc0
  subst hspot
  refine ⟨b, off, rfl, Nat.zero_le _, ?_, fun i j hi hj => ?_⟩
  · have := World.block_lt_of_cell? _ _ hc0
    simpa [Go.WideShapes.add_plain] using this
  · have q := (Classical.choose_spec (hq i hi)) j hj
    rw [Go.WideShapes.add_plain] at q
    simp only [dif_pos hi]
    exact q
theorem reads_nil {k : Nat} : GY.Reads1 w 0 (.slice none 0 0) (.rows 0 k 0 fun _ _ => 0) := ⟨none, 0, rfl, Nat.le_refl _, by unfold maxLen; omega, fun h => absurd h (by omega)⟩
set_option maxRecDepth 100000 in
theorem mark_fields {fuel : Nat} {cs : List Value} {x : DataW H × List MemPlace} (h : DataW.trod enc Tryd.prog w base spare held fuel 105 cs = some x) : ∃ a b c : Int, cs = [.int .i64 a, .int .i64 b, .int .i64 c] := by
  obtain ⟨xs, n, _, _, hl, hlen, hf⟩ := DataW.trod_struct Tryd.underlying105 h
  have cc : Tryd.prog.cellsOf 105 = 3 := by kernel_rfl
  have c2 : Tryd.prog.cellsOf 23 = 2 := by kernel_rfl
  have c1 : Tryd.prog.cellsOf 3 = 1 := by kernel_rfl
  rw [cc] at hl
  match cs, hl with
  | [u0, u1, u2], _ =>
    match xs, hlen with
    | [x0, x1], _ =>
      have h0 := hf 0 _ rfl
      obtain ⟨a0, e0, _⟩ := DataW.trod_int Tryd.underlying3 h0
      replace e0 : List.take (Tryd.prog.cellsOf 3) (List.drop 0 [u0, u1, u2]) = [.int .i64 a0] := e0
      rw [c1] at e0
      simp at e0
      have h1 := hf 1 _ rfl
      obtain ⟨a1, b1, e1⟩ := span_cells h1
      replace e1 : List.take (Tryd.prog.cellsOf 23) (List.drop 1 [u0, u1, u2]) = [.int .i64 a1, .int .i64 b1] := e1
      rw [c2] at e1
      simp at e1
      exact ⟨a0, a1, b1, by rw [e0, e1.1, e1.2]⟩
set_option maxRecDepth 100000 in
theorem mark_slice {fuel : Nat} {cs : List Value} {x : DataW H × List MemPlace} (h : DataW.trod enc Tryd.prog w base (fun _ => true) held fuel 38 cs = some x) : ∃ A n c f, cs = [.slice A n c] ∧ GY.Reads1 w 0 (.slice A n c) (.rows 0 3 n f) := by
  have cc : Tryd.prog.cellsOf 105 = 3 := by kernel_rfl
  rcases Go.Deep.open_slice Tryd.underlying38 h with ⟨rfl, _⟩ | ⟨a, len, cap, m, n, D, Pl, rfl, hb, hl, hm, hmm, hx, hi⟩
  · exact ⟨none, 0, 0, _, rfl, reads_nil⟩
  · have hmc : m = cap := by simpa using hmm
    subst hmc
    rw [cc] at hi
    have hq : ∀ i, i < len → ∃ g : Nat → Int, ∀ j, j < 3 → w.cell? (a.add (i * 3 + j)) = some (.int .i64 (g j)) := fun i hil => by
      obtain ⟨cs', hc, ht⟩ := hi i (by omega)
      obtain ⟨_, hcl, hat⟩ := World.cells?_some hc
      obtain ⟨p, q, r, rfl⟩ := mark_fields ht
      refine ⟨fun j => ([p, q, r] : List Int).getD j 0, fun j hj => ?_⟩
      have z := hat j hj
      rw [Go.Deep.add_add] at z
      rw [z]
      match j, hj with
      | 0, _ => rfl
      | 1, _ => rfl
      | 2, _ => rfl
    obtain ⟨f, hf⟩ := reads_of hl hm (by omega) hq
    exact ⟨some a, len, m, f, rfl, hf⟩
set_option maxRecDepth 100000 in
theorem int_slice {fuel : Nat} {cs : List Value} {x : DataW H × List MemPlace} (h : DataW.trod enc Tryd.prog w base (fun _ => true) held fuel 53 cs = some x) : ∃ A n c f, cs = [.slice A n c] ∧ GY.Reads1 w 0 (.slice A n c) (.rows 0 1 n f) := by
  rcases open_ints Tryd.underlying53 Tryd.underlying3 (by kernel_rfl) h with ⟨hcs, _⟩ | ⟨a', len', cap', zs, hcs, _, hl, hm, hzl, _, hcell, _⟩
  · exact ⟨none, 0, 0, _, hcs, reads_nil⟩
  · obtain ⟨f, hf⟩ := reads_of (w := w) (a := a') (k := 1) hl hm (by omega) (fun i hi => ⟨fun _ => zs.getD i 0, fun j hj => by
      obtain rfl : j = 0 := by omega
      have hzc : zs.length = cap' := by simpa using hzl
      have := hcell i (by omega)
      rw [Nat.mul_one, Nat.add_zero]
      exact this⟩)
    exact ⟨some a', len', cap', f, hcs, hf⟩
set_option maxRecDepth 100000 in
theorem open_trace {v : Value} {d : DataW H} {ps : List MemPlace} {b0 : Nat} (hv : Value.okWide Tryd.prog w .any b0 40 v) (h : DataW.Trod enc Tryd.prog w base (fun _ => true) held 40 v d ps) :
    ∃ (lo hi : Int) (A : Option Addr) (n c : Nat) (f : Nat → Nat → Int), v = .agg #[.int .i64 lo, .int .i64 hi, .slice A n c] ∧ GY.Reads1 w 0 (.slice A n c) (.rows 0 3 n f) := by
  obtain ⟨fuel, h⟩ := h
  obtain ⟨cs, rfl, hsz⟩ := okWide_struct Tryd.underlying40 hv
  obtain ⟨xs, n, _, _, hl, hlen, hf⟩ := DataW.trod_struct Tryd.underlying40 h
  have cc : Tryd.prog.cellsOf 40 = 3 := by kernel_rfl
  have c2 : Tryd.prog.cellsOf 23 = 2 := by kernel_rfl
  have c1 : Tryd.prog.cellsOf 38 = 1 := by kernel_rfl
  obtain ⟨l⟩ := cs
  rw [cc] at hsz
  match l, hsz with
  | [u0, u1, u2], _ =>
    match xs, hlen with
    | [x0, x1], _ =>
      obtain ⟨lo, hi, h0⟩ := span_cells (hf 0 _ rfl)
      obtain ⟨A, k, c, f, h1, hr⟩ := mark_slice (hf 1 _ rfl)
      replace h0 : List.take (Tryd.prog.cellsOf 23) (List.drop 0 [u0, u1, u2]) = [.int .i64 lo, .int .i64 hi] := h0
      replace h1 : List.take (Tryd.prog.cellsOf 38) (List.drop 2 [u0, u1, u2]) = [.slice A k c] := h1
      rw [c2] at h0
      rw [c1] at h1
      simp at h0 h1
      exact ⟨lo, hi, A, k, c, f, by rw [h0.1, h0.2, h1], hr⟩
set_option maxRecDepth 100000 in
theorem open_nums {v : Value} {d : DataW H} {ps : List MemPlace} {b0 : Nat} (hv : Value.okWide Tryd.prog w .any b0 53 v) (h : DataW.Trod enc Tryd.prog w base (fun _ => true) held 53 v d ps) :
    ∃ (A : Option Addr) (n c : Nat) (f : Nat → Nat → Int), v = .slice A n c ∧ GY.Reads1 w 0 (.slice A n c) (.rows 0 1 n f) := by
  obtain ⟨fuel, h⟩ := h
  obtain ⟨A, n, c, f, e, hr⟩ := int_slice h
  obtain ⟨a, len, cap, rfl⟩ := okWide_slice Tryd.underlying53 hv
  have e' : Value.slice a len cap = .slice A n c := by simpa [Value.cells] using e
  exact ⟨A, n, c, f, e', hr⟩
end
end Go.Proofs.YtknplcpjmpmblaaDoor
