import Derived.Test.YtbjffjnmjkogkaaGreatGr
import Derived.Deep.AppendLies
set_option linter.unusedVariables false
set_option linter.unusedSimpArgs false
namespace Go.Proofs.YtbjffjnmjkogkaaGreat
open Go.RowKit
open Go.Maps Go.Shelf
theorem Frm.grownR {w W W1 : World} {bs : List (Nat × Obj)} {row : Option Nat} (h : Frm w bs W) (hg : W.grownBy W1 row) (hM : ∀ k, row = some k → w.heap.size ≤ k) (hne : ∀ p ∈ bs, some p.1 ≠ row) : Frm w bs W1 :=
  ⟨h.b.grown hg h.b.size hM, fun p hp => (hg.block p.1 (Array.getElem?_eq_some_iff.1 (h.h p hp)).1 (hne p hp)).trans (h.h p hp)⟩
theorem info_parts {P : Program} {e : TypeId} {z : Value} {s b : Nat} (h : (P.info? e).map (fun i => (i.zero, i.size, i.bytes)) = some (some z, s, b)) : ∃ i, P.info? e = some i ∧ i.zero = some z ∧ i.size = s ∧ i.bytes = b := by
  cases hi : P.info? e with
  | none => rw [hi] at h; cases h
  | some i =>
    rw [hi] at h
    simp only [Option.map_some, Option.some.injEq, Prod.mk.injEq] at h
    exact ⟨i, rfl, h.1, h.2.1, h.2.2⟩
theorem own_below {w w' : World} {base n sz : Nat} {t : TypeId} {v : Value} {zs : List Value} (h : w.ownsRow base t sz v n zs) (hb : Below w.heap.size w w') : w'.ownsRow base t sz v n zs :=
  h.kept (row := none) ⟨hb.os, hb.tape, hb.output, hb.size, fun k hk _ => hb.block k hk⟩ (by cases v.ownBlock <;> simp)
theorem own_drew {w : World} {base n sz : Nat} {t : TypeId} {v : Value} {zs : List Value} (h : w.ownsRow base t sz v n zs) : w.drew.ownsRow base t sz v n zs := own_below h ((Below.refl _ _).drew)
section
variable {w : World} {o : Oper} {a : Act} {K : Act → World → Prop} {Q : Exit → Act → World → Prop}
variable {ops : Array Oper} {E : Prop} {rest : List Oper}
end
structure Rw where
  t : TypeId
  sz : Nat
  v : Value
  n : Nat
  vs : List Value
def Rw.off (r s : Rw) : Prop := ∀ k, r.v.ownBlock = some k → s.v.ownBlock ≠ some k
structure RW (w : World) (base : Nat) (bs : List (Nat × Obj)) (rs : List Rw) (W : World) : Prop where
  frm : Frm w bs W
  own : ∀ r ∈ rs, W.ownsRow base r.t r.sz r.v r.n r.vs
  sep : ∀ r ∈ rs, ∀ k, r.v.ownBlock = some k → ∀ p ∈ bs, p.1 ≠ k
  dis : rs.Pairwise Rw.off
  lo : w.heap.size ≤ base
  hi : base ≤ W.heap.size
theorem RW.start {w W : World} {bs : List (Nat × Obj)} (h : Frm w bs W) : RW w W.heap.size bs [] W := ⟨h, by simp, by simp, List.Pairwise.nil, h.size, Nat.le_refl _⟩
theorem RW.below {w W W1 : World} {base : Nat} {bs : List (Nat × Obj)} {rs : List Rw} (h : RW w base bs rs W) (hb : Below W.heap.size W W1) : RW w base bs rs W1 :=
  ⟨h.frm.below hb, fun r hr => own_below (h.own r hr) hb, h.sep, h.dis, h.lo, Nat.le_trans h.hi hb.size⟩
theorem RW.drew {w W : World} {base : Nat} {bs : List (Nat × Obj)} {rs : List Rw} (h : RW w base bs rs W) : RW w base bs rs W.drew := ⟨h.frm.drew, fun r hr => own_drew (h.own r hr), h.sep, h.dis, h.lo, h.hi⟩
theorem RW.add {w W : World} {base : Nat} {bs : List (Nat × Obj)} {rs : List Rw} (h : RW w base bs rs W) {k : Nat} (o : Obj) (hk : k = W.heap.size) : RW w base ((k, o) :: bs) rs (W.alloc o) :=
  ⟨h.frm.add o hk, fun r hr => (h.own r hr).alloc o, fun r hr j hj p hp => by
    rcases List.mem_cons.1 hp with rfl | hp
    · have := ((h.own r hr).lt j hj).2; show k ≠ j; omega
    · exact h.sep r hr j hj p hp, h.dis, h.lo, by have := h.hi; simp; omega⟩
theorem RW.less {w W : World} {base : Nat} {bs bs' : List (Nat × Obj)} {rs : List Rw} (h : RW w base bs rs W) (hs : ∀ p ∈ bs', p ∈ bs) : RW w base bs' rs W :=
  ⟨h.frm.less hs, h.own, fun r hr k hk p hp => h.sep r hr k hk p (hs p hp), h.dis, h.lo, h.hi⟩
theorem RW.put {w W : World} {base : Nat} {bs : List (Nat × Obj)} {rs : List Rw} {k : Nat} {cs : Array Value} {t : TypeId} (h : RW w base ((k, .cells cs t) :: bs) rs W) (hk : w.heap.size ≤ k) (hne : ∀ p ∈ bs, p.1 ≠ k) (o : Nat) (u : Value) :
    RW w base ((k, .cells (cs.setIfInBounds o u) t) :: bs) rs (W.setCell ⟨k, o, none⟩ u) :=
  ⟨h.frm.put hk hne o u, fun r hr => ownsRow_setCell_other (h.own r hr) (fun e => h.sep r hr k e _ (List.mem_cons_self ..) rfl) u, fun r hr j hj p hp => by
    rcases List.mem_cons.1 hp with rfl | hp
    · exact h.sep r hr j hj (k, .cells cs t) (List.mem_cons_self ..)
    · exact h.sep r hr j hj p (List.mem_cons_of_mem _ hp), h.dis, h.lo, by have := h.hi; simpa using this⟩
end Go.Proofs.YtbjffjnmjkogkaaGreat
