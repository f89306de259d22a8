/- Part of a claim on cone. -/
import Derived.Test.YtldimlnllmojiaaGreatRows
import Derived.WalkKit
import Derived.WalkSpells
import Derived.WalkLawsBesides
import Derived.Lib.Hide
import Derived.BigQuiet
import Derived.Deep.QuietTactic
import Derived.Deep.RegionHeld3
import Derived.IntWalk
import Derived.RangeFuncRecord
set_option linter.unusedVariables false
set_option linter.unusedSimpArgs false
namespace Go.Proofs.YtldimlnllmojiaaGreat
open Go.RowKit
theorem ret_int {k : IntKind} {a b : Int} (h : a = b) : Ending.returned (.int k a) = .returned (.int k b) := by rw [h]
theorem ret_bool {a b : Bool} (h : a = b) : Ending.returned (.bool a) = .returned (.bool b) := by rw [h]
theorem heap_new (w : World) (o : Obj) {k : Nat} (h : k = w.heap.size) : (w.alloc o).heap[k]? = some o := by subst h; exact World.alloc_heap_new w o
theorem heap_setCell_same {W : World} {B o : Nat} {cs : Array Value} {t : TypeId} {fr : Nat × Nat} (h : W.heap[B]? = some (.cells cs t fr)) (v : Value) : (W.setCell ⟨B, o, none⟩ v).heap[B]? = some (.cells (cs.setIfInBounds o v) t fr) := by
  obtain ⟨hlt, hk⟩ := Array.getElem?_eq_some_iff.1 h
  show (W.heap.modify B _)[B]? = _
  rw [Array.getElem?_eq_getElem (by rw [Array.size_modify]; exact hlt), Array.getElem_modify_self, hk]
  simp
theorem boxCells {W : World} {B : Nat} {cs : Array Value} {t : TypeId} (h : W.heap[B]? = some (.cells cs t (0, 0))) : (∀ o, W.cell? ⟨B, o, none⟩ = cs[o]?) ∧ (∀ o, W.frozen? ⟨B, o, none⟩ = false) :=
  ⟨fun o => by simp [World.cell?, h], fun o => by simp [World.frozen?, h]⟩
theorem blk_below {W W1 : World} {k : Nat} {o : Obj} (h : W.heap[k]? = some o) (hb : Below W.heap.size W W1) : W1.heap[k]? = some o := (hb.block k (Array.getElem?_eq_some_iff.1 h).1).trans h
theorem blk_alloc {W : World} {k : Nat} {o : Obj} (h : W.heap[k]? = some o) (o' : Obj) : (W.alloc o').heap[k]? = some o := (Below.heap_alloc W o' k (Array.getElem?_eq_some_iff.1 h).1).trans h
theorem blk_new (W : World) {k : Nat} (o : Obj) (hk : k = W.heap.size) : (W.alloc o).heap[k]? = some o := heap_new W o hk
theorem below_step {w W W1 : World} (h : Below w.heap.size w W) (hb : Below W.heap.size W W1) : Below w.heap.size w W1 := h.trans (hb.mono h.size)
theorem below_al {w W : World} (h : Below w.heap.size w W) (o : Obj) : Below w.heap.size w (W.alloc o) := h.alloc h.size o
structure Frm (w : World) (bs : List (Nat × Obj)) (W : World) : Prop where
  b : Below w.heap.size w W
  h : ∀ p ∈ bs, W.heap[p.1]? = some p.2
theorem Frm.nil (w : World) : Frm w [] w := ⟨Below.refl _ _, by simp⟩
theorem Frm.alloc {w W : World} {bs : List (Nat × Obj)} (h : Frm w bs W) (o : Obj) : Frm w bs (W.alloc o) := ⟨below_al h.b o, fun p hp => blk_alloc (h.h p hp) o⟩
theorem Frm.drew {w W : World} {bs : List (Nat × Obj)} (h : Frm w bs W) : Frm w bs W.drew := ⟨h.b.drew, h.h⟩
theorem Frm.below {w W W1 : World} {bs : List (Nat × Obj)} (h : Frm w bs W) (hb : Below W.heap.size W W1) : Frm w bs W1 := ⟨below_step h.b hb, fun p hp => blk_below (h.h p hp) hb⟩
theorem Frm.set {w W : World} {bs : List (Nat × Obj)} (h : Frm w bs W) {a : Addr} (ha : w.heap.size ≤ a.block) (hne : ∀ p ∈ bs, p.1 ≠ a.block) (u : Value) : Frm w bs (W.setCell a u) :=
  ⟨h.b.setCell ha u, fun p hp => (Below.heap_setCell _ _ _ _ (hne p hp)).trans (h.h p hp)⟩
theorem Frm.add {w W : World} {bs : List (Nat × Obj)} (h : Frm w bs W) {k : Nat} (o : Obj) (hk : k = W.heap.size) : Frm w ((k, o) :: bs) (W.alloc o) :=
  ⟨below_al h.b o, fun p hp => by
    rcases List.mem_cons.1 hp with rfl | hp
    · exact blk_new _ _ hk
    · exact blk_alloc (h.h p hp) o⟩
theorem Frm.less {w W : World} {bs bs' : List (Nat × Obj)} (h : Frm w bs W) (hs : ∀ p ∈ bs', p ∈ bs) : Frm w bs' W := ⟨h.b, fun p hp => h.h p (hs p hp)⟩
theorem Frm.put {w W : World} {bs : List (Nat × Obj)} {k : Nat} {cs : Array Value} {t : TypeId} (h : Frm w ((k, .cells cs t) :: bs) W) (hk : w.heap.size ≤ k) (hne : ∀ p ∈ bs, p.1 ≠ k) (o : Nat) (u : Value) : Frm w ((k, .cells (cs.setIfInBounds o u) t) :: bs) (W.setCell ⟨k, o, none⟩ u) :=
  ⟨h.b.setCell hk u, fun p hp => by
    rcases List.mem_cons.1 hp with rfl | hp
    · exact heap_setCell_same (h.h (k, .cells cs t) (by simp)) u
    · exact (Below.heap_setCell _ _ _ _ (hne p hp)).trans (h.h p (by simp [hp]))⟩
theorem Frm.cells {w W : World} {bs : List (Nat × Obj)} {k : Nat} {cs : Array Value} {t : TypeId} (h : Frm w bs W) (hp : (k, Obj.cells cs t) ∈ bs) : ∀ o, W.cell? ⟨k, o, none⟩ = cs[o]? := (boxCells (h.h _ hp)).1
theorem Frm.free {w W : World} {bs : List (Nat × Obj)} {k : Nat} {cs : Array Value} {t : TypeId} (h : Frm w bs W) (hp : (k, Obj.cells cs t) ∈ bs) : ∀ o, W.frozen? ⟨k, o, none⟩ = false := (boxCells (h.h _ hp)).2
theorem Frm.lt {w W : World} {bs : List (Nat × Obj)} {k : Nat} {o : Obj} (h : Frm w bs W) (hp : (k, o) ∈ bs) : k < W.heap.size := (Array.getElem?_eq_some_iff.1 (h.h _ hp)).1
theorem Frm.size {w W : World} {bs : List (Nat × Obj)} (h : Frm w bs W) : w.heap.size ≤ W.heap.size := h.b.size
end Go.Proofs.YtldimlnllmojiaaGreat
