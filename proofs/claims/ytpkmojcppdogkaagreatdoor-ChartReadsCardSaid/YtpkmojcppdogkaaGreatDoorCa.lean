/- Numbers and spans appended to rows of one's own. -/
import Derived.Test.YtpkmojcppdogkaaGreatDoorKi
import Derived.Deep.AppendLies
set_option linter.unusedVariables false
set_option linter.unusedSimpArgs false
namespace Go.Proofs.YtpkmojcppdogkaaGreatDoor
open Go.RowKit
open Go.Maps
def vI (zs : List Int) : List Value := zs.map fun z => .int .i64 z
theorem vI_len (zs : List Int) : (vI zs).length = zs.length := by simp [vI]
theorem vI_at {zs : List Int} {i : Nat} {z : Int} (h : zs[i]? = some z) : (vI zs)[i]? = some (.int .i64 z) := by simp [vI, h]
theorem vI_add (zs : List Int) (y : Int) : vI (zs ++ [y]) = vI zs ++ [.int .i64 y] := by simp [vI]
/-- A row of one's own that holds numbers. -/
@[reducible] def OwnI (w : World) (base : Nat) (v : Value) (zs : List Int) : Prop := w.ownsRow base 3 1 v zs.length (vI zs)
theorem own_ints {w : World} {base : Nat} {v : Value} {zs : List Int} (h : OwnI w base v zs) : Ints w v zs := by
  have hlt := h.lt
  have hh := h
  rcases h.2 with ⟨h0, hz⟩ | ⟨g, cap, cur, hv, hb0, hg, h1, h2, h3, h4⟩
  · subst h0
    have : zs = [] := List.length_eq_zero_iff.1 hz
    subst this
    exact ⟨none, 0, rfl, Nat.le_refl _, by unfold maxLen; omega, .inl rfl⟩
  · subst hv
    have hat := fun j hj => World.ownsRow.cellAt hh j hj
    refine ⟨_, cap, rfl, h1, h2, .inr ⟨g, 0, rfl, (hlt g rfl).2, fun i z hi => ?_⟩⟩
    have hil := (List.getElem?_eq_some_iff.1 hi).1
    simp only [Nat.zero_add]
    exact (hat i (by omega)).trans (vI_at hi)
theorem OwnI.below {w w' : World} {base : Nat} {v : Value} {zs : List Int} (h : OwnI w base v zs) (hb : Below w.heap.size w w') : OwnI w' base v zs :=
  h.kept (row := none) ⟨hb.os, hb.tape, hb.output, hb.size, fun k hk _ => hb.block k hk⟩ (by cases v.ownBlock <;> simp)
theorem OwnI.drew {w : World} {base : Nat} {v : Value} {zs : List Int} (h : OwnI w base v zs) : OwnI w.drew base v zs := h.below ((Below.refl _ _).drew)
theorem OwnI.shape {w : World} {base : Nat} {v : Value} {zs : List Int} (h : OwnI w base v zs) : ∃ A c, v = .slice A zs.length c := by
  obtain ⟨A, c, hv, _⟩ := own_ints h
  exact ⟨A, c, hv⟩
theorem Ints.below {w w' : World} {v : Value} {zs : List Int} (h : Ints w v zs) (hb : Below w.heap.size w w') : Ints w' v zs := by
  obtain ⟨A, cap, hv, hl, hm, h⟩ := h
  refine ⟨A, cap, hv, hl, hm, ?_⟩
  rcases h with h | ⟨b, off, hA, hlt, hc⟩
  · exact .inl h
  · exact .inr ⟨b, off, hA, Nat.lt_of_lt_of_le hlt hb.size, fun i z hi => (hb.cell (p := ⟨b, _, none⟩) hlt).trans (hc i z hi)⟩
theorem Frm.grownR {w W W1 : World} {bs : List (Nat × Obj)} {row : Option Nat} (h : Frm w bs W) (hg : W.grownBy W1 row) (hM : ∀ k, row = some k → w.heap.size ≤ k) (hne : ∀ p ∈ bs, some p.1 ≠ row) : Frm w bs W1 :=
  ⟨h.b.grown hg h.b.size hM, fun p hp => (hg.block p.1 (Array.getElem?_eq_some_iff.1 (h.h p hp)).1 (hne p hp)).trans (h.h p hp)⟩
theorem info_parts {P : Program} {e : TypeId} {z : Value} {s b : Nat} (h : (P.info? e).map (fun i => (i.zero, i.size, i.bytes)) = some (some z, s, b)) : ∃ i, P.info? e = some i ∧ i.zero = some z ∧ i.size = s ∧ i.bytes = b := by
  cases hi : P.info? e with
  | none => rw [hi] at h; cases h
  | some i =>
    rw [hi] at h
    simp only [Option.map_some, Option.some.injEq, Prod.mk.injEq] at h
    exact ⟨i, rfl, h.1, h.2.1, h.2.2⟩
theorem Tryz.infoInt : (Tryz.prog.info? 3).map (fun i => (i.zero, i.size, i.bytes)) = some (some (.int .i64 0), 1, 8) := by kernel_rfl
theorem Tryz.infoSpan : (Tryz.prog.info? 41).map (fun i => (i.zero, i.size, i.bytes)) = some (some (.agg #[.int .i64 0, .int .i64 0]), 2, 16) := by kernel_rfl
/-- What an append leaves of a bundle whose blocks lie below the row's base. -/
theorem after_app {w Wb wa : World} {bs : List (Nat × Obj)} {v : Value} {base : Nat} (hF : Frm w bs Wb) (hbw : w.heap.size ≤ base) (hbl : ∀ p ∈ bs, p.1 < base) (hv : ∀ k, v.ownBlock = some k → base ≤ k) (hg : Wb.grownBy wa v.ownBlock) : Frm w bs wa :=
  Frm.grownR hF hg (fun k hk => Nat.le_trans hbw (hv k hk)) fun p hp e => by
    have q1 := hbl p hp
    have q2 := hv _ e.symm
    omega
/- Spans. -/
structure Sp where
  a : Int
  b : Int
def spL (p : Sp) : List Value := [.int .i64 p.a, .int .i64 p.b]
def spsL : List Sp → List Value
  | [] => []
  | c :: r => spL c ++ spsL r
theorem spsL_len : ∀ cs : List Sp, (spsL cs).length = cs.length * 2
  | [] => rfl
  | c :: r => by simp only [spsL, spL, List.length_append, List.length_cons, List.length_nil, spsL_len r]; omega
theorem spsL_at : ∀ (cs : List Sp) (i : Nat) (c : Sp), cs[i]? = some c → (spsL cs)[i * 2]? = some (.int .i64 c.a) ∧ (spsL cs)[i * 2 + 1]? = some (.int .i64 c.b)
  | [], i, c, h => by simp at h
  | x :: r, 0, c, h => by
    obtain rfl : x = c := by simpa using h
    exact ⟨rfl, rfl⟩
  | x :: r, i + 1, c, h => by
    obtain ⟨a, b⟩ := spsL_at r i c (by simpa using h)
    have e : ∀ k, (spsL (x :: r))[k + 2]? = (spsL r)[k]? := fun k => by
      rw [spsL, List.getElem?_append_right (by simp [spL])]
      simp [spL]
    rw [show (i + 1) * 2 = i * 2 + 2 by omega, show i * 2 + 2 + 1 = (i * 2 + 1) + 2 by omega, e, e]
    exact ⟨a, b⟩
theorem spsL_add (cs : List Sp) (c : Sp) : spsL (cs ++ [c]) = spsL cs ++ spL c := by
  induction cs with
  | nil => simp [spsL]
  | cons x r ih => simp only [List.cons_append, spsL, ih, List.append_assoc]
/-- A slice that reads as a list of spans. -/
def Sps (w : World) (v : Value) (zs : List Sp) : Prop :=
  ∃ A cap, v = .slice A zs.length cap ∧ zs.length ≤ cap ∧ cap ≤ maxLen ∧ (zs = [] ∨ ∃ b off, A = some ⟨b, off, none⟩ ∧ b < w.heap.size ∧ ∀ (i : Nat) (z : Sp), zs[i]? = some z → w.cell? ⟨b, off + i * 2, none⟩ = some (.int .i64 z.a) ∧ w.cell? ⟨b, off + i * 2 + 1, none⟩ = some (.int .i64 z.b))
theorem Sps.below {w w' : World} {v : Value} {zs : List Sp} (h : Sps w v zs) (hb : Below w.heap.size w w') : Sps w' v zs := by
  obtain ⟨A, cap, hv, hl, hm, h⟩ := h
  refine ⟨A, cap, hv, hl, hm, ?_⟩
  rcases h with h | ⟨b, off, hA, hlt, hc⟩
  · exact .inl h
  · exact .inr ⟨b, off, hA, Nat.lt_of_lt_of_le hlt hb.size, fun i z hi => ⟨(hb.cell (p := ⟨b, _, none⟩) hlt).trans (hc i z hi).1, (hb.cell (p := ⟨b, _, none⟩) hlt).trans (hc i z hi).2⟩⟩
theorem sps_cells {w : World} {A : Option Addr} {c : Nat} {cs : List Sp} {j : Nat} {x : Sp} (h : Sps w (.slice A cs.length c) cs) (hx : cs[j]? = some x) :
    ∃ b off, A = some ⟨b, off, none⟩ ∧ cs.length ≤ c ∧ c ≤ maxLen ∧ w.cell? ⟨b, off + j * 2, none⟩ = some (.int .i64 x.a) ∧ w.cell? ⟨b, off + j * 2 + 1, none⟩ = some (.int .i64 x.b) := by
  obtain ⟨A', cap, hv, hl, hm, h⟩ := h
  obtain ⟨rfl, -, rfl⟩ : A = A' ∧ cs.length = cs.length ∧ c = cap := by simpa using hv
  rcases h with rfl | ⟨b, off, hA, hlt, hc⟩
  · simp at hx
  · exact ⟨b, off, hA, hl, hm, hc j x hx⟩
theorem ints_cells {w : World} {A : Option Addr} {c : Nat} {zs : List Int} {j : Nat} {x : Int} (h : Ints w (.slice A zs.length c) zs) (hx : zs[j]? = some x) :
    ∃ b off, A = some ⟨b, off, none⟩ ∧ zs.length ≤ c ∧ c ≤ maxLen ∧ w.cell? ⟨b, off + j, none⟩ = some (.int .i64 x) := int_cell h (Below.refl _ _) hx
@[reducible] def OwnS (w : World) (base : Nat) (v : Value) (zs : List Sp) : Prop := w.ownsRow base 41 2 v zs.length (spsL zs)
theorem own_sps {w : World} {base : Nat} {v : Value} {zs : List Sp} (h : OwnS w base v zs) : Sps w v zs := by
  have hlt := h.lt
  have hh := h
  rcases h.2 with ⟨h0, hz⟩ | ⟨g, cap, cur, hv, hb0, hg, h1, h2, h3, h4⟩
  · subst h0
    have : zs = [] := List.length_eq_zero_iff.1 hz
    subst this
    exact ⟨none, 0, rfl, Nat.le_refl _, by unfold maxLen; omega, .inl rfl⟩
  · subst hv
    have hat := fun j hj => World.ownsRow.cellAt hh j hj
    refine ⟨_, cap, rfl, h1, h2, .inr ⟨g, 0, rfl, (hlt g rfl).2, fun i z hi => ?_⟩⟩
    have hil := (List.getElem?_eq_some_iff.1 hi).1
    obtain ⟨a, b⟩ := spsL_at zs i z hi
    simp only [Nat.zero_add]
    exact ⟨(hat _ (by omega)).trans a, (hat _ (by omega)).trans b⟩
theorem OwnS.below {w w' : World} {base : Nat} {v : Value} {zs : List Sp} (h : OwnS w base v zs) (hb : Below w.heap.size w w') : OwnS w' base v zs :=
  h.kept (row := none) ⟨hb.os, hb.tape, hb.output, hb.size, fun k hk _ => hb.block k hk⟩ (by cases v.ownBlock <;> simp)
theorem OwnS.shape {w : World} {base : Nat} {v : Value} {zs : List Sp} (h : OwnS w base v zs) : ∃ A c, v = .slice A zs.length c := by
  obtain ⟨A, c, hv, _⟩ := own_sps h
  exact ⟨A, c, hv⟩
theorem own_below {w w' : World} {base n sz : Nat} {t : TypeId} {v : Value} {zs : List Value} (h : w.ownsRow base t sz v n zs) (hb : Below w.heap.size w w') : w'.ownsRow base t sz v n zs :=
  h.kept (row := none) ⟨hb.os, hb.tape, hb.output, hb.size, fun k hk _ => hb.block k hk⟩ (by cases v.ownBlock <;> simp)
theorem own_drew {w : World} {base n sz : Nat} {t : TypeId} {v : Value} {zs : List Value} (h : w.ownsRow base t sz v n zs) : w.drew.ownsRow base t sz v n zs := own_below h ((Below.refl _ _).drew)
theorem own_intsN {w : World} {base n : Nat} {v : Value} {zs : List Int} (h : w.ownsRow base 3 1 v n (vI zs)) (hn : zs.length = n) : Ints w v zs := by subst hn; exact own_ints h
theorem own_spsN {w : World} {base n : Nat} {v : Value} {zs : List Sp} (h : w.ownsRow base 41 2 v n (spsL zs)) (hn : zs.length = n) : Sps w v zs := by subst hn; exact own_sps h
/-- Numbers in a block that is known whole. -/
def RowI (zs : List Int) (cur : Array Value) : Prop := ∀ (i : Nat) (z : Int), zs[i]? = some z → cur[i]? = some (Value.int .i64 z)
theorem int_row {w : World} {base n ec : Nat} {E : Option Addr} {zs : List Int} (h : w.ownsRow base 3 1 (.slice E n ec) n (vI zs)) (hn : zs.length = n) (h0 : 0 < n) : ∃ g cur, E = some ⟨g, 0, none⟩ ∧ w.heap[g]? = some (.cells cur 3) ∧ RowI zs cur ∧ base ≤ g ∧ n ≤ ec ∧ ec ≤ maxLen := by
  subst hn
  rcases h.2 with ⟨_, hz⟩ | ⟨g, cap, cur, hv, hb0, hg, h1, h2, h3, h4⟩
  · omega
  · cases hv
    refine ⟨g, cur, rfl, hg, fun i z hi => ?_, hb0, h1, h2⟩
    have hil := (List.getElem?_eq_some_iff.1 hi).1
    have := vI_at hi
    rw [← h4, List.getElem?_take] at this
    rw [if_pos (by omega)] at this
    simpa using this
def RowS (zs : List Sp) (cur : Array Value) : Prop := ∀ (i : Nat) (z : Sp), zs[i]? = some z → cur[i * 2]? = some (Value.int .i64 z.a) ∧ cur[i * 2 + 1]? = some (Value.int .i64 z.b)
theorem span_row {w : World} {base n ec : Nat} {E : Option Addr} {zs : List Sp} (h : w.ownsRow base 41 2 (.slice E n ec) n (spsL zs)) (hn : zs.length = n) (h0 : 0 < n) : ∃ g cur, E = some ⟨g, 0, none⟩ ∧ w.heap[g]? = some (.cells cur 41) ∧ RowS zs cur ∧ base ≤ g ∧ n ≤ ec ∧ ec ≤ maxLen := by
  subst hn
  rcases h.2 with ⟨_, hz⟩ | ⟨g, cap, cur, hv, hb0, hg, h1, h2, h3, h4⟩
  · omega
  · cases hv
    refine ⟨g, cur, rfl, hg, fun i z hi => ?_, hb0, h1, h2⟩
    have hil := (List.getElem?_eq_some_iff.1 hi).1
    obtain ⟨a, b⟩ := spsL_at zs i z hi
    have key : ∀ j, j < zs.length * 2 → cur[j]? = (spsL zs)[j]? := fun j hj => by
      rw [← h4, List.getElem?_take]
      simp [hj]
    exact ⟨(key _ (by omega)).trans a, (key _ (by omega)).trans b⟩
theorem row_sps {w : World} {g cap n : Nat} {zs : List Sp} {cur : Array Value} (h : w.heap[g]? = some (.cells cur 41)) (hr : RowS zs cur) (hn : zs.length = n) (h1 : n ≤ cap) (h2 : cap ≤ maxLen) : Sps w (.slice (some ⟨g, 0, none⟩) n cap) zs := by
  subst hn
  refine ⟨_, cap, rfl, h1, h2, .inr ⟨g, 0, rfl, (Array.getElem?_eq_some_iff.1 h).1, fun i z hi => ?_⟩⟩
  rw [(boxCells h).1, (boxCells h).1, Nat.zero_add]
  exact hr i z hi
/-- The list of the spans of a function at the first points. -/
def rowP (f : Nat → Sp) (n : Nat) : List Sp := (List.range n).map f
theorem rowP_len (f : Nat → Sp) (n : Nat) : (rowP f n).length = n := by simp [rowP]
theorem rowP_succ (f : Nat → Sp) (n : Nat) : rowP f (n + 1) = rowP f n ++ [f n] := by simp [rowP, List.range_succ]
theorem rowP_at {f : Nat → Sp} {n i : Nat} (h : i < n) : (rowP f n)[i]? = some (f i) := by simp [rowP, h]
theorem rowZ_at {f : Nat → Int} {n i : Nat} (h : i < n) : (rowZ f n)[i]? = some (f i) := by simp [rowZ, h]
theorem Frm.more {w W : World} {bs : List (Nat × Obj)} {k : Nat} {o : Obj} (h : Frm w bs W) (hz : W.heap[k]? = some o) : Frm w ((k, o) :: bs) W :=
  ⟨h.b, fun p hp => by
    rcases List.mem_cons.1 hp with rfl | hp
    · exact hz
    · exact h.h p hp⟩
theorem blk_set {W : World} {k : Nat} {o : Obj} (h : W.heap[k]? = some o) {a : Addr} (ha : k ≠ a.block) (u : Value) : (W.setCell a u).heap[k]? = some o := (Below.heap_setCell W a u k ha).trans h
theorem blk_set2 {W : World} {k : Nat} {t : TypeId} {x y : Value} (h : W.heap[k]? = some (.cells #[x, y] t)) (a b : Value) : ((W.setCell ⟨k, 0, none⟩ a).setCell ⟨k, 1, none⟩ b).heap[k]? = some (.cells #[a, b] t) := by
  simpa using heap_setCell_same (o := 1) (heap_setCell_same (o := 0) h a) b
theorem row_ints {w : World} {g cap n : Nat} {zs : List Int} {cur : Array Value} (h : w.heap[g]? = some (.cells cur 3)) (hr : RowI zs cur) (hn : zs.length = n) (h1 : n ≤ cap) (h2 : cap ≤ maxLen) : Ints w (.slice (some ⟨g, 0, none⟩) n cap) zs := by
  subst hn
  refine ⟨_, cap, rfl, h1, h2, .inr ⟨g, 0, rfl, (Array.getElem?_eq_some_iff.1 h).1, fun i z hi => ?_⟩⟩
  rw [(boxCells h).1, Nat.zero_add]
  exact hr i z hi
section
variable {w : World} {o : Oper} {a : Act} {K : Act → World → Prop} {Q : Exit → Act → World → Prop}
theorem wp_int (s x : Operand) (ho : o.op = .call { callee := .builtin .append, args := #[s, x], argTypes := #[25, 25] })
    {base N n : Nat} {v : Value} {zs : List Int} {y : Int} (hn : zs.length = n) (hs : a.eval s = v) (hown : w.ownsRow base 3 1 v n (vI zs)) (hx : a.eval x = .slice (some ⟨N, 0, none⟩) 1 1) (hN : w.heap[N]? = some (.cells #[.int .i64 y] 3)) (hl : n ≤ 1000) (hbase : base ≤ w.heap.size)
    (h : ∀ g cap w', w'.ownsRow base 3 1 (.slice (some ⟨g, 0, none⟩) (n + 1) cap) (n + 1) (vI (zs ++ [y])) → w.grownBy w' v.ownBlock → (v.ownBlock = some g ∨ g = w.heap.size) → g < w'.heap.size → K (a.put o.dst (.slice (some ⟨g, 0, none⟩) (n + 1) cap)) w') : o.wp Tryz.prog a w K Q := by
  subst hn
  obtain ⟨i0, hi0, hz0, hz1, hz2⟩ := info_parts Tryz.infoInt
  obtain ⟨hc, _⟩ := boxCells hN
  refine wp_append_lies w s x _ ho base 3 i0 _ 1 8 Tryz.underlying25 hi0 hz0 hz1 hz2 rfl (by omega) v zs.length (vI zs) hs hown ⟨N, 0, none⟩ 1 1 [.int .i64 y] hx rfl (fun j u hj => ?_) (fun u hu => by simp at hu; subst hu; rfl) (by omega) (by unfold maxLen; omega) (by omega) hbase _ rfl ?_
  · rw [Go.WideShapes.add_plain, Nat.zero_add, hc j]
    simpa using hj
  · intro g cap w1 hown1 hgrow hat hlt
    rw [← vI_add] at hown1
    exact h g cap w1 hown1 hgrow hat hlt
theorem wp_span (s x : Operand) (ho : o.op = .call { callee := .builtin .append, args := #[s, x], argTypes := #[131, 131] })
    {base N n : Nat} {v : Value} {zs : List Sp} {y : Sp} (hn : zs.length = n) (hs : a.eval s = v) (hown : w.ownsRow base 41 2 v n (spsL zs)) (hx : a.eval x = .slice (some ⟨N, 0, none⟩) 1 1) (hN : w.heap[N]? = some (.cells #[.int .i64 y.a, .int .i64 y.b] 41)) (hl : n ≤ 1000) (hbase : base ≤ w.heap.size)
    (h : ∀ g cap w', w'.ownsRow base 41 2 (.slice (some ⟨g, 0, none⟩) (n + 1) cap) (n + 1) (spsL (zs ++ [y])) → w.grownBy w' v.ownBlock → (v.ownBlock = some g ∨ g = w.heap.size) → g < w'.heap.size → K (a.put o.dst (.slice (some ⟨g, 0, none⟩) (n + 1) cap)) w') : o.wp Tryz.prog a w K Q := by
  subst hn
  obtain ⟨i0, hi0, hz0, hz1, hz2⟩ := info_parts Tryz.infoSpan
  obtain ⟨hc, _⟩ := boxCells hN
  refine wp_append_lies w s x _ ho base 41 i0 _ 2 16 Tryz.underlying131 hi0 hz0 hz1 hz2 rfl (by omega) v zs.length (spsL zs) hs hown ⟨N, 0, none⟩ 1 1 (spL y) hx rfl (fun j u hj => ?_) (fun u hu => by simp [spL] at hu; rcases hu with rfl | rfl <;> rfl) (by omega) (by unfold maxLen; omega) (by omega) hbase _ rfl ?_
  · rw [Go.WideShapes.add_plain, Nat.zero_add, hc j]
    simpa [spL] using hj
  · intro g cap w1 hown1 hgrow hat hlt
    rw [← spsL_add] at hown1
    exact h g cap w1 hown1 hgrow hat hlt
variable {ops : Array Oper} {E : Prop} {rest : List Oper}
theorem app_int (hgd : o.guard = none) (s x : Operand) (ho : o.op = .call { callee := .builtin .append, args := #[s, x], argTypes := #[25, 25] })
    {base N n : Nat} {v : Value} {zs : List Int} {y : Int} (hn : zs.length = n) (hs : a.eval s = v) (hown : w.ownsRow base 3 1 v n (vI zs)) (hx : a.eval x = .slice (some ⟨N, 0, none⟩) 1 1) (hN : w.heap[N]? = some (.cells #[.int .i64 y] 3)) (hl : n ≤ 1000) (hbase : base ≤ w.heap.size)
    (h : ∀ g cap w', w'.ownsRow base 3 1 (.slice (some ⟨g, 0, none⟩) (n + 1) cap) (n + 1) (vI (zs ++ [y])) → w.grownBy w' v.ownBlock → (v.ownBlock = some g ∨ g = w.heap.size) → g < w'.heap.size → wpList Tryz.prog ops Q rest (a.put o.dst (.slice (some ⟨g, 0, none⟩) (n + 1) cap)) w') : wpList Tryz.prog ops Q (o :: rest) a w :=
  wpList_plain hgd fun _ hK => wp_int s x ho hn hs hown hx hN hl hbase fun g cap w' h2 h3 h4 h5 => hK _ _ (h g cap w' h2 h3 h4 h5)
theorem app_span (hgd : o.guard = none) (s x : Operand) (ho : o.op = .call { callee := .builtin .append, args := #[s, x], argTypes := #[131, 131] })
    {base N n : Nat} {v : Value} {zs : List Sp} {y : Sp} (hn : zs.length = n) (hs : a.eval s = v) (hown : w.ownsRow base 41 2 v n (spsL zs)) (hx : a.eval x = .slice (some ⟨N, 0, none⟩) 1 1) (hN : w.heap[N]? = some (.cells #[.int .i64 y.a, .int .i64 y.b] 41)) (hl : n ≤ 1000) (hbase : base ≤ w.heap.size)
    (h : ∀ g cap w', w'.ownsRow base 41 2 (.slice (some ⟨g, 0, none⟩) (n + 1) cap) (n + 1) (spsL (zs ++ [y])) → w.grownBy w' v.ownBlock → (v.ownBlock = some g ∨ g = w.heap.size) → g < w'.heap.size → wpList Tryz.prog ops Q rest (a.put o.dst (.slice (some ⟨g, 0, none⟩) (n + 1) cap)) w') : wpList Tryz.prog ops Q (o :: rest) a w :=
  wpList_plain hgd fun _ hK => wp_span s x ho hn hs hown hx hN hl hbase fun g cap w' h2 h3 h4 h5 => hK _ _ (h g cap w' h2 h3 h4 h5)
theorem step_of (hgd : o.guard = none) (h : Oper.wp Tryz.prog o a w K Q) : if Region.wanted o (yielded ops a.tmps) = true then Oper.wp Tryz.prog o a w K Q else E := by
  have hw : Region.wanted o (yielded ops a.tmps) = true := by simp [Region.wanted, hgd]
  rw [if_pos hw]
  exact h
end
section
variable {w : World} {o : Oper} {a : Act} {K : Act → World → Prop} {Q : Exit → Act → World → Prop}
set_option maxRecDepth 100000 in
set_option maxHeartbeats 1000000 in
/-- A call of a method that was bound to its receiver, at a step. -/
theorem wp_bound {x y : Operand} {tys : Array TypeId} (ho : o.op = .call { callee := .value y, args := #[x], argTypes := tys }) {f : Nat} {b val : Value} (hy : a.eval y = .func (.func f) #[b] #[]) (hx : a.eval x = val) (hcf : (callFunc f #[b, val]).run Tryz.prog w = .ok (.enter f #[b, val]) w) {r : Value} {R : World → Prop} (hc : Calls Tryz.prog f #[b, val] w fun e w' => e = .returned r ∧ R w')
    (h : ∀ w', R w' → K (a.put o.dst r) w') : o.wp Tryz.prog a w K Q := by
  have e : o.wp Tryz.prog a w K Q = o.upon Tryz.prog a K Q (.ok (.enter f #[b, val]) w) := by
    unfold Oper.wp execOp
    simp only [ho, resolve, invoke, Act.eval, Sem.run_bind, Sem.run_pure, Result.andThen_ok, List.map_toArray, List.map_cons, List.map_nil]
    have hx' := hx
    have hy' := hy
    unfold Act.eval at hx' hy'
    rw [hx', hy']
    rw [← hcf]
    rfl
  rw [e, Oper.upon_enter]
  refine hc.mono ?_
  intro e w' hr
  obtain ⟨rfl, hr⟩ := hr
  exact h w' hr
end
theorem Frm.lts {w W : World} {bs : List (Nat × Obj)} (h : Frm w bs W) : ∀ p ∈ bs, p.1 < W.heap.size := fun p hp => (Array.getElem?_eq_some_iff.1 (h.h p hp)).1
end Go.Proofs.YtpkmojcppdogkaaGreatDoor
