/- Part of a claim on cone. -/
import Derived.Test.YtldimlnllmojiaaGreatVi
set_option linter.unusedVariables false
set_option linter.unusedSimpArgs false
namespace Go.Proofs.YtldimlnllmojiaaGreat
open Go.RowKit
@[reducible] def lookV (m : Wn) (R L P M : Value) : Value := .agg #[.int .i64 m.n, R, L, P, .int .i64 m.fall, .int .i64 m.win, .int .i64 m.hold, .int .i64 m.dawn, .int .i64 m.dusk, M]
set_option maxHeartbeats 1000000 in
set_option maxRecDepth 100000 in
theorem soonest_any (m : Wn) (A1 : Option Addr) (rs : List Rep) (c1 : Nat) (L P M : Value) (i : Nat) (x : Rep) (w : World) (h1 : Reps w (.slice A1 rs.length c1) rs) (hx : rs[i]? = some x) :
    Calls Tryz.prog 94 #[lookV m (.slice A1 rs.length c1) L P M, .int .i64 i] w fun e w' => e = .returned (.int .i64 x.dlo) ∧ Below w.heap.size w w' := by
  have hi : i < rs.length := (List.getElem?_eq_some_iff.1 hx).1
  have HR := Lib.hid ((Frm.nil w).add (.cells #[.int .i64 m.n, .slice A1 rs.length c1, L, P, .int .i64 m.fall, .int .i64 m.win, .int .i64 m.hold, .int .i64 m.dawn, .int .i64 m.dusk, M] 93) rfl)
  obtain ⟨b, off, hA, hcap, hmx, c0, c10, c20, c30, c40, c50, c60⟩ := rep_cells (Rws.below h1 HR.out.b (Nat.le_refl _)) hx
  unfold maxLen at hmx
  subst hA
  clear h1 hx c0 c10 c20 c50 c60
  go_enter Tryz.func94, Tryz.ntmps94
  go_wp2
  go_ret
  exact ⟨rfl, HR.out.b⟩
set_option maxHeartbeats 1000000 in
set_option maxRecDepth 100000 in
theorem latest_any (m : Wn) (A1 : Option Addr) (rs : List Rep) (c1 : Nat) (L P M : Value) (i : Nat) (x : Rep) (w : World) (h1 : Reps w (.slice A1 rs.length c1) rs) (hx : rs[i]? = some x) :
    Calls Tryz.prog 95 #[lookV m (.slice A1 rs.length c1) L P M, .int .i64 i] w fun e w' => e = .returned (.int .i64 x.dhi) ∧ Below w.heap.size w w' := by
  have hi : i < rs.length := (List.getElem?_eq_some_iff.1 hx).1
  have HR := Lib.hid ((Frm.nil w).add (.cells #[.int .i64 m.n, .slice A1 rs.length c1, L, P, .int .i64 m.fall, .int .i64 m.win, .int .i64 m.hold, .int .i64 m.dawn, .int .i64 m.dusk, M] 93) rfl)
  obtain ⟨b, off, hA, hcap, hmx, c0, c10, c20, c30, c40, c50, c60⟩ := rep_cells (Rws.below h1 HR.out.b (Nat.le_refl _)) hx
  unfold maxLen at hmx
  subst hA
  clear h1 hx c0 c10 c20 c50 c60
  go_enter Tryz.func95, Tryz.ntmps95
  go_wp2
  go_ret
  exact ⟨rfl, HR.out.b⟩
end Go.Proofs.YtldimlnllmojiaaGreat
