/- Blocks that are known and rows of one's own, together. -/
import Derived.Test.YtbepafkenandfaaGreatGr
import Derived.Deep.AppendLies
set_option linter.unusedVariables false
set_option linter.unusedSimpArgs false
namespace Go.Proofs.YtbepafkenandfaaGreat
open Go.RowKit
open Go.Maps Go.Shelf
def vI (zs : List Int) : List Value := zs.map fun z => .int .i64 z
theorem vI_len (zs : List Int) : (vI zs).length = zs.length := by simp [vI]
theorem vI_at {zs : List Int} {i : Nat} {z : Int} (h : zs[i]? = some z) : (vI zs)[i]? = some (.int .i64 z) := by simp [vI, h]
theorem vI_add (zs : List Int) (y : Int) : vI (zs ++ [y]) = vI zs ++ [.int .i64 y] := by simp [vI]
theorem Frm.grownR {w W W1 : World} {bs : List (Nat × Obj)} {row : Option Nat} (h : Frm w bs W) (hg : W.grownBy W1 row) (hM : ∀ k, row = some k → w.heap.size ≤ k) (hne : ∀ p ∈ bs, some p.1 ≠ row) : Frm w bs W1 :=
  ⟨h.b.grown hg h.b.size hM, fun p hp => (hg.block p.1 (Array.getElem?_eq_some_iff.1 (h.h p hp)).1 (hne p hp)).trans (h.h p hp)⟩
theorem info_parts {P : Program} {e : TypeId} {z : Value} {s b : Nat} (h : (P.info? e).map (fun i => (i.zero, i.size, i.bytes)) = some (some z, s, b)) : ∃ i, P.info? e = some i ∧ i.zero = some z ∧ i.size = s ∧ i.bytes = b := by
  cases hi : P.info? e with
  | none => rw [hi] at h; cases h
  | some i =>
    rw [hi] at h
    simp only [Option.map_some, Option.some.injEq, Prod.mk.injEq] at h
    exact ⟨i, rfl, h.1, h.2.1, h.2.2⟩
theorem Tryz.infoInt : (Tryz.prog.info? 3).map (fun i => (i.zero, i.size, i.bytes)) = some (some (.int .i64 0), 1, 8) := by kernel_rfl
theorem own_below {w w' : World} {base n sz : Nat} {t : TypeId} {v : Value} {zs : List Value} (h : w.ownsRow base t sz v n zs) (hb : Below w.heap.size w w') : w'.ownsRow base t sz v n zs :=
  h.kept (row := none) ⟨hb.os, hb.tape, hb.output, hb.size, fun k hk _ => hb.block k hk⟩ (by cases v.ownBlock <;> simp)
theorem own_drew {w : World} {base n sz : Nat} {t : TypeId} {v : Value} {zs : List Value} (h : w.ownsRow base t sz v n zs) : w.drew.ownsRow base t sz v n zs := own_below h ((Below.refl _ _).drew)
/-- Numbers in a block that is known whole. -/
def RowI (zs : List Int) (cur : Array Value) : Prop := ∀ (i : Nat) (z : Int), zs[i]? = some z → cur[i]? = some (Value.int .i64 z)
theorem int_row {w : World} {base n ec : Nat} {E : Option Addr} {zs : List Int} (h : w.ownsRow base 3 1 (.slice E n ec) n (vI zs)) (hn : zs.length = n) (h0 : 0 < n) : ∃ g cur, E = some ⟨g, 0, none⟩ ∧ w.heap[g]? = some (.cells cur 3) ∧ RowI zs cur ∧ base ≤ g ∧ n ≤ ec ∧ ec ≤ maxLen := by
  subst hn
  rcases h.2 with ⟨_, hz⟩ | ⟨g, cap, cur, hv, hb0, hg, h1, h2, h3, h4⟩
  · omega
  · cases hv
    refine ⟨g, cur, rfl, hg, fun i z hi => ?_, hb0, h1, h2⟩
    have hil := (List.getElem?_eq_some_iff.1 hi).1
    have := vI_at hi
    rw [← h4, List.getElem?_take] at this
    rw [if_pos (by omega)] at this
    simpa using this
theorem Frm.more {w W : World} {bs : List (Nat × Obj)} {k : Nat} {o : Obj} (h : Frm w bs W) (hz : W.heap[k]? = some o) : Frm w ((k, o) :: bs) W :=
  ⟨h.b, fun p hp => by
    rcases List.mem_cons.1 hp with rfl | hp
    · exact hz
    · exact h.h p hp⟩
theorem blk_set {W : World} {k : Nat} {o : Obj} (h : W.heap[k]? = some o) {a : Addr} (ha : k ≠ a.block) (u : Value) : (W.setCell a u).heap[k]? = some o := (Below.heap_setCell W a u k ha).trans h
section
variable {w : World} {o : Oper} {a : Act} {K : Act → World → Prop} {Q : Exit → Act → World → Prop}
theorem wp_int (s x : Operand) (ho : o.op = .call { callee := .builtin .append, args := #[s, x], argTypes := #[36, 36] })
    {base N n : Nat} {v : Value} {zs : List Int} {y : Int} (hn : zs.length = n) (hs : a.eval s = v) (hown : w.ownsRow base 3 1 v n (vI zs)) (hx : a.eval x = .slice (some ⟨N, 0, none⟩) 1 1) (hN : w.heap[N]? = some (.cells #[.int .i64 y] 3)) (hl : n ≤ 1000) (hbase : base ≤ w.heap.size)
    (h : ∀ g cap w', w'.ownsRow base 3 1 (.slice (some ⟨g, 0, none⟩) (n + 1) cap) (n + 1) (vI (zs ++ [y])) → w.grownBy w' v.ownBlock → (v.ownBlock = some g ∨ g = w.heap.size) → g < w'.heap.size → K (a.put o.dst (.slice (some ⟨g, 0, none⟩) (n + 1) cap)) w') : o.wp Tryz.prog a w K Q := by
  subst hn
  obtain ⟨i0, hi0, hz0, hz1, hz2⟩ := info_parts Tryz.infoInt
  obtain ⟨hc, _⟩ := boxCells hN
  refine wp_append_lies w s x _ ho base 3 i0 _ 1 8 Tryz.underlying36 hi0 hz0 hz1 hz2 rfl (by omega) v zs.length (vI zs) hs hown ⟨N, 0, none⟩ 1 1 [.int .i64 y] hx rfl (fun j u hj => ?_) (fun u hu => by simp at hu; subst hu; rfl) (by omega) (by unfold maxLen; omega) (by omega) hbase _ rfl ?_
  · rw [Go.WideShapes.add_plain, Nat.zero_add, hc j]
    simpa using hj
  · intro g cap w1 hown1 hgrow hat hlt
    rw [← vI_add] at hown1
    exact h g cap w1 hown1 hgrow hat hlt
variable {ops : Array Oper} {E : Prop} {rest : List Oper}
theorem step_of (hgd : o.guard = none) (h : Oper.wp Tryz.prog o a w K Q) : if Region.wanted o (yielded ops a.tmps) = true then Oper.wp Tryz.prog o a w K Q else E := by
  have hw : Region.wanted o (yielded ops a.tmps) = true := by simp [Region.wanted, hgd]
  rw [if_pos hw]
  exact h
end
theorem Frm.lts {w W : World} {bs : List (Nat × Obj)} (h : Frm w bs W) : ∀ p ∈ bs, p.1 < W.heap.size := fun p hp => (Array.getElem?_eq_some_iff.1 (h.h p hp)).1
/-- A row of one's own: its type, how many cells an element has, the slice, its length, what it holds. -/
structure Rw where
  t : TypeId
  sz : Nat
  v : Value
  n : Nat
  vs : List Value
def Rw.off (r s : Rw) : Prop := ∀ k, r.v.ownBlock = some k → s.v.ownBlock ≠ some k
structure RW (w : World) (base : Nat) (bs : List (Nat × Obj)) (rs : List Rw) (W : World) : Prop where
  frm : Frm w bs W
  own : ∀ r ∈ rs, W.ownsRow base r.t r.sz r.v r.n r.vs
  sep : ∀ r ∈ rs, ∀ k, r.v.ownBlock = some k → ∀ p ∈ bs, p.1 ≠ k
  dis : rs.Pairwise Rw.off
  lo : w.heap.size ≤ base
  hi : base ≤ W.heap.size
theorem RW.le {w W : World} {base : Nat} {bs : List (Nat × Obj)} {rs : List Rw} (h : RW w base bs rs W) : w.heap.size ≤ W.heap.size := Nat.le_trans h.lo h.hi
theorem RW.start {w W : World} {bs : List (Nat × Obj)} (h : Frm w bs W) : RW w W.heap.size bs [] W := ⟨h, by simp, by simp, List.Pairwise.nil, h.size, Nat.le_refl _⟩
theorem RW.nil {w W : World} {base : Nat} {bs : List (Nat × Obj)} {rs : List Rw} (h : RW w base bs rs W) (t : TypeId) (sz : Nat) : RW w base bs (⟨t, sz, .slice none 0 0, 0, []⟩ :: rs) W :=
  ⟨h.frm, fun r hr => by
    rcases List.mem_cons.1 hr with rfl | hr
    · exact World.ownsRow_nil ..
    · exact h.own r hr, fun r hr k hk => by
    rcases List.mem_cons.1 hr with rfl | hr
    · cases hk
    · exact h.sep r hr k hk, List.pairwise_cons.2 ⟨fun _ _ k hk => (by cases hk), h.dis⟩, h.lo, h.hi⟩
theorem RW.below {w W W1 : World} {base : Nat} {bs : List (Nat × Obj)} {rs : List Rw} (h : RW w base bs rs W) (hb : Below W.heap.size W W1) : RW w base bs rs W1 :=
  ⟨h.frm.below hb, fun r hr => own_below (h.own r hr) hb, h.sep, h.dis, h.lo, Nat.le_trans h.hi hb.size⟩
theorem RW.drew {w W : World} {base : Nat} {bs : List (Nat × Obj)} {rs : List Rw} (h : RW w base bs rs W) : RW w base bs rs W.drew := ⟨h.frm.drew, fun r hr => own_drew (h.own r hr), h.sep, h.dis, h.lo, h.hi⟩
theorem RW.drewN {w W : World} {base : Nat} {bs : List (Nat × Obj)} {rs : List Rw} (h : RW w base bs rs W) (n : Nat) : RW w base bs rs (W.drewN n) :=
  ⟨h.frm.drewN n, fun r hr => own_below (h.own r hr) ((Below.refl _ W).grown (row := none) ⟨rfl, rfl, rfl, Nat.le_refl _, fun _ _ _ => rfl⟩ (Nat.le_refl _) (by simp)), h.sep, h.dis, h.lo, h.hi⟩
theorem RW.alloc {w W : World} {base : Nat} {bs : List (Nat × Obj)} {rs : List Rw} (h : RW w base bs rs W) (o : Obj) : RW w base bs rs (W.alloc o) :=
  ⟨h.frm.alloc o, fun r hr => (h.own r hr).alloc o, h.sep, h.dis, h.lo, by have := h.hi; simp; omega⟩
theorem RW.add {w W : World} {base : Nat} {bs : List (Nat × Obj)} {rs : List Rw} (h : RW w base bs rs W) {k : Nat} (o : Obj) (hk : k = W.heap.size) : RW w base ((k, o) :: bs) rs (W.alloc o) :=
  ⟨h.frm.add o hk, fun r hr => (h.own r hr).alloc o, fun r hr j hj p hp => by
    rcases List.mem_cons.1 hp with rfl | hp
    · have := ((h.own r hr).lt j hj).2; show k ≠ j; omega
    · exact h.sep r hr j hj p hp, h.dis, h.lo, by have := h.hi; simp; omega⟩
theorem RW.less {w W : World} {base : Nat} {bs bs' : List (Nat × Obj)} {rs : List Rw} (h : RW w base bs rs W) (hs : ∀ p ∈ bs', p ∈ bs) : RW w base bs' rs W :=
  ⟨h.frm.less hs, h.own, fun r hr k hk p hp => h.sep r hr k hk p (hs p hp), h.dis, h.lo, h.hi⟩
theorem RW.perm {w W : World} {base : Nat} {bs : List (Nat × Obj)} {rs rs' : List Rw} (h : RW w base bs rs W) (hp : rs.Perm rs') : RW w base bs rs' W :=
  ⟨h.frm, fun r hr => h.own r (hp.mem_iff.2 hr), fun r hr => h.sep r (hp.mem_iff.2 hr), h.dis.perm hp fun hxy k hk e => hxy k e hk, h.lo, h.hi⟩
theorem RW.tailR {w W : World} {base : Nat} {bs : List (Nat × Obj)} {r : Rw} {rs : List Rw} (h : RW w base bs (r :: rs) W) : RW w base bs rs W :=
  ⟨h.frm, fun s hs => h.own s (List.mem_cons_of_mem _ hs), fun s hs => h.sep s (List.mem_cons_of_mem _ hs), (List.pairwise_cons.1 h.dis).2, h.lo, h.hi⟩
theorem RW.noRows {w W : World} {base : Nat} {bs : List (Nat × Obj)} {rs : List Rw} (h : RW w base bs rs W) : RW w base bs [] W := ⟨h.frm, by simp, by simp, List.Pairwise.nil, h.lo, h.hi⟩
/-- A cell of a block that is known. -/
theorem RW.put {w W : World} {base : Nat} {bs : List (Nat × Obj)} {rs : List Rw} {k : Nat} {cs : Array Value} {t : TypeId} (h : RW w base ((k, .cells cs t) :: bs) rs W) (hk : w.heap.size ≤ k) (hne : ∀ p ∈ bs, p.1 ≠ k) (o : Nat) (u : Value) :
    RW w base ((k, .cells (cs.setIfInBounds o u) t) :: bs) rs (W.setCell ⟨k, o, none⟩ u) :=
  ⟨h.frm.put hk hne o u, fun r hr => ownsRow_setCell_other (h.own r hr) (fun e => h.sep r hr k e _ (List.mem_cons_self ..) rfl) u, fun r hr j hj p hp => by
    rcases List.mem_cons.1 hp with rfl | hp
    · exact h.sep r hr j hj (k, .cells cs t) (List.mem_cons_self ..)
    · exact h.sep r hr j hj p (List.mem_cons_of_mem _ hp), h.dis, h.lo, by have := h.hi; simpa using this⟩
theorem RW.app {w W W1 : World} {base : Nat} {bs : List (Nat × Obj)} {r r' : Rw} {rest : List Rw} (h : RW w base bs (r :: rest) W) (hg : W.grownBy W1 r.v.ownBlock) (ho : W1.ownsRow base r'.t r'.sz r'.v r'.n r'.vs)
    (hat : ∀ k, r'.v.ownBlock = some k → r.v.ownBlock = some k ∨ k = W.heap.size) : RW w base bs (r' :: rest) W1 := by
  have hd := List.pairwise_cons.1 h.dis
  have hlt := (h.own r (List.mem_cons_self ..)).lt
  refine ⟨h.frm.grownR hg (fun k hk => Nat.le_trans h.lo (hlt k hk).1) (fun p hp e => h.sep r (List.mem_cons_self ..) p.1 e.symm p hp rfl), fun s hs => ?_, fun s hs k hk p hp => ?_, List.pairwise_cons.2 ⟨fun s hs k hk e => ?_, hd.2⟩, h.lo, Nat.le_trans h.hi hg.size⟩
  · rcases List.mem_cons.1 hs with rfl | hs
    · exact ho
    · refine (h.own s (List.mem_cons_of_mem _ hs)).kept hg ?_
      cases hv : s.v.ownBlock with
      | none => exact .inl rfl
      | some k => exact .inr (fun e => hd.1 s hs k e.symm hv)
  · rcases List.mem_cons.1 hs with rfl | hs
    · rcases hat k hk with e | rfl
      · exact h.sep r (List.mem_cons_self ..) k e p hp
      · have := lt_of_blk (h.frm.h p hp); omega
    · exact h.sep s (List.mem_cons_of_mem _ hs) k hk p hp
  · rcases hat k hk with e' | rfl
    · exact hd.1 s hs k e' e
    · have := ((h.own s (List.mem_cons_of_mem _ hs)).lt _ e).2; omega
@[reducible] def rwI (v : Value) (n : Nat) (L : List Int) : Rw := ⟨3, 1, v, n, vI L⟩
theorem RW.app_int {w W : World} {base N n : Nat} {bs : List (Nat × Obj)} {rest : List Rw} {v : Value} {L : List Int} {y : Int} {o : Oper} {a : Act} {K : Act → World → Prop} {Q : Exit → Act → World → Prop} (s x : Operand) (ho : o.op = .call { callee := .builtin .append, args := #[s, x], argTypes := #[36, 36] })
    (h : RW w base bs (rwI v n L :: rest) W) (hn : L.length = n) (hs : a.eval s = v) (hx : a.eval x = .slice (some ⟨N, 0, none⟩) 1 1) (hN : (N, Obj.cells #[.int .i64 y] 3) ∈ bs) (hl : n ≤ 1000)
    (hk : ∀ g cap W1, RW w base bs (rwI (.slice (some ⟨g, 0, none⟩) (n + 1) cap) (n + 1) (L ++ [y]) :: rest) W1 → K (a.put o.dst (.slice (some ⟨g, 0, none⟩) (n + 1) cap)) W1) : o.wp Tryz.prog a W K Q :=
  wp_int s x ho hn hs (h.own _ (List.mem_cons_self ..)) hx (h.frm.h _ hN) hl h.hi fun g cap w' h2 h3 h4 h5 => hk g cap w' (h.app h3 h2 fun k hk => by
    obtain rfl : g = k := by simpa [Value.ownBlock] using hk
    exact h4)
/-- A row that is done: it joins the blocks that are known. -/
theorem RW.row_int {w W : World} {base n ec : Nat} {bs : List (Nat × Obj)} {rest : List Rw} {E : Option Addr} {L : List Int} (h : RW w base bs (rwI (.slice E n ec) n L :: rest) W) (hn : L.length = n) (h0 : 0 < n) :
    ∃ g cur, E = some ⟨g, 0, none⟩ ∧ RowI L cur ∧ base ≤ g ∧ n ≤ ec ∧ ec ≤ maxLen ∧ RW w base ((g, .cells cur 3) :: bs) rest W := by
  obtain ⟨g, cur, rfl, hg, hr, hb, h1, h2⟩ := int_row (h.own _ (List.mem_cons_self ..)) hn h0
  refine ⟨g, cur, rfl, hr, hb, h1, h2, ⟨h.frm.more hg, h.tailR.own, fun s hs k hk p hp => ?_, h.tailR.dis, h.lo, h.hi⟩⟩
  rcases List.mem_cons.1 hp with rfl | hp
  · intro e
    exact (List.pairwise_cons.1 h.dis).1 s hs g rfl (by rw [hk]; exact congrArg some e.symm)
  · exact h.tailR.sep s hs k hk p hp
end Go.Proofs.YtbepafkenandfaaGreat
