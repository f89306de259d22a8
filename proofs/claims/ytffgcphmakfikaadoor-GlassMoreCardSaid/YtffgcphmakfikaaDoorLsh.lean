/- The law GlassSharp, walked. -/
import Derived.Test.YtffgcphmakfikaaDoorRtr
import Derived.Test.YtffgcphmakfikaaDoorIdm
import Derived.Test.YtffgcphmakfikaaDoorLcl
set_option linter.unusedVariables false
set_option linter.unusedSimpArgs false
namespace Go.Proofs.YtffgcphmakfikaaDoor
open Go.RowKit Go.Maps

theorem Chks.shape2 {w : World} {v : Value} {cs : List Chk} (h : Chks w v cs) : ∃ A c, v = .slice A cs.length c := h.elim fun A h => h.elim fun c h => ⟨A, c, h.1⟩
/-- The cells of one comparison. -/
theorem chk_cells {w : World} {A : Option Addr} {c : Nat} {cs : List Chk} {j : Nat} {x : Chk} (h : Chks w (.slice A cs.length c) cs) (hx : cs[j]? = some x) :
    ∃ b off, A = some ⟨b, off, none⟩ ∧ cs.length ≤ c ∧ c ≤ maxLen ∧ w.cell? ⟨b, off + j * 3, none⟩ = some (.int .i64 x.day) ∧ w.cell? ⟨b, off + j * 3 + 1, none⟩ = some (.int .i64 x.lo) ∧ w.cell? ⟨b, off + j * 3 + 2, none⟩ = some (.int .i64 x.hi) := by
  obtain ⟨A', cap, hv, hl, hm, h⟩ := h
  obtain ⟨rfl, -, rfl⟩ : A = A' ∧ cs.length = cs.length ∧ c = cap := by simpa using hv
  rcases h with rfl | ⟨b, off, hA, hlt, hc⟩
  · simp at hx
  · exact ⟨b, off, hA, hl, hm, hc j x hx⟩
theorem rSpan_is {a b lo hi : Int} {x : Bool} (h : withinB a b lo hi = x) (w : World) :
    Calls Tryd.prog 27 #[.agg #[.int .i64 a, .int .i64 b], .int .i64 lo, .int .i64 hi] w fun e w' => e = .returned (.bool x) ∧ Below w.heap.size w w' := by
  rw [← h]; exact rSpan_any a b lo hi w
theorem far_next (d : Int) : farI d (d + 1) = 1 ∧ farI (d + 1) d = 1 := by unfold farI; omega

end Go.Proofs.YtffgcphmakfikaaDoor
