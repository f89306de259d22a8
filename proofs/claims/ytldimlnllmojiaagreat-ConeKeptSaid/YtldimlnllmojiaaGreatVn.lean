/- Part of a claim on cone. -/
import Derived.Test.YtldimlnllmojiaaGreatVm
set_option linter.unusedVariables false
set_option linter.unusedSimpArgs false
namespace Go.Proofs.YtldimlnllmojiaaGreat
open Go.RowKit
open Go.Shelf
theorem lvalues_any (A : Option Addr) (n c : Nat) (w : World) :
    Calls Tryz.prog 111 #[.slice A n c] w fun e w' => e = .returned (Value.func (.func 126) #[] #[.pointer (some ⟨w.heap.size, 0, none⟩)]) ∧ w' = w.alloc (.cells #[.slice A n c] 23) := by
  go_enter Tryz.func111, Tryz.ntmps111
  go_wp2
  go_ret
  exact ⟨rfl, rfl⟩
theorem rws_lt {w : World} {A : Option Addr} {n c k : Nat} {rs : List (List Int)} (h : Rws w (.slice A n c) k rs) (hne : rs ≠ []) : ∀ b off, A = some ⟨b, off, none⟩ → b < w.heap.size := fun b off e => by
  obtain ⟨A', cap, hv, hl, hm, h⟩ := h
  obtain ⟨rfl, -, -⟩ : A = A' ∧ n = rs.length ∧ c = cap := by simpa using hv
  rcases h with h | ⟨b', off', hA, hlt, _⟩
  · exact absurd h hne
  · rw [e] at hA
    cases hA
    exact hlt
@[reducible] def lookBox (m : Wn) (R L P M : Value) : Obj := .cells #[.int .i64 m.n, R, L, P, .int .i64 m.fall, .int .i64 m.win, .int .i64 m.hold, .int .i64 m.dawn, .int .i64 m.dusk, M] 93
theorem tells_st {fall : Int} {ls : List Lnk} {x y : Rep} (h : x.st = y.st) : tellsB fall ls x y = (decide (x.tk < y.tk) && decide (fall ≤ x.pr - y.pr)) := by unfold tellsB; rw [if_pos h]
theorem tells_ln {fall : Int} {ls : List Lnk} {x y : Rep} (h : x.st ≠ y.st) : tellsB fall ls x y = ls.any (tellB x y) := by unfold tellsB; rw [if_neg h]; rfl
set_option maxHeartbeats 2000000 in
set_option maxRecDepth 100000 in
theorem tells_any (m : Wn) (R P M : Value) (A2 : Option Addr) (c2 : Nat) (ls : List Lnk) (r1 r2 : Rep) (w : World) (h2 : Lnks w (.slice A2 ls.length c2) ls) (hlen : ls.length ≤ 1000) (a1 : 0 ≤ r1.pr) (a2 : r1.pr ≤ 99999) (b1 : 0 ≤ r2.pr) (b2 : r2.pr ≤ 99999) :
    Calls Tryz.prog 89 #[lookV m R (.slice A2 ls.length c2) P M, repV r1, repV r2] w fun e w' => e = .returned (.bool (tellsB m.fall ls r1 r2)) ∧ Below w.heap.size w w' := by
  have HR := Lib.hid ((((Frm.nil w).add (lookBox m R (.slice A2 ls.length c2) P M) rfl).add (k := w.heap.size + 1) (repBox r1) (by simp)).add (k := w.heap.size + 1 + 1) (repBox r2) (by simp))
  have x0 := HR.out.cells mZ
  have x1 := HR.out.cells (mS mZ)
  have x2 := HR.out.cells (mS (mS mZ))
  have HL := Lib.hid h2
  have w1 : IntKind.i64.wrap (r1.pr - r2.pr) = r1.pr - r2.pr := IntWalk.i64_in _ (by omega)
  clear h2
  by_cases g0 : r1.st = r2.st
  · have HT := Lib.hid (tells_st (fall := m.fall) (ls := ls) g0)
    have HG := Lib.hid g0
    have g1 : (r1.st == r2.st) = true := by simp [g0]
    clear g0
    by_cases g2 : r1.tk < r2.tk
    · by_cases g3 : m.fall ≤ r1.pr - r2.pr
      · go_enter Tryz.func89, Tryz.ntmps89
        go_wp2_with fail
        go_ret
        exact ⟨ret_bool (by rw [HT.out]; simp [g2, g3]), (Frm.b (w := w) (by (repeat (with_reducible first | exact HR.out | apply Frm.drew | apply Frm.alloc | apply Frm.drewN))))⟩
      · go_enter Tryz.func89, Tryz.ntmps89
        go_wp2_with fail
        go_ret
        exact ⟨ret_bool (by rw [HT.out]; simp [g2, g3]), (Frm.b (w := w) (by (repeat (with_reducible first | exact HR.out | apply Frm.drew | apply Frm.alloc | apply Frm.drewN))))⟩
    · go_enter Tryz.func89, Tryz.ntmps89
      go_wp2_with fail
      go_ret
      exact ⟨ret_bool (by rw [HT.out]; simp; omega), (Frm.b (w := w) (by (repeat (with_reducible first | exact HR.out | apply Frm.drew | apply Frm.alloc | apply Frm.drewN))))⟩
  · have HT := Lib.hid (tells_ln (fall := m.fall) (ls := ls) g0)
    have g1 : (r1.st == r2.st) = false := by simp [g0]
    have HG := Lib.hid g0
    clear g0
    go_enter Tryz.func89, Tryz.ntmps89
    go_wp2_with fail
    go_at_call 111
    refine (lvalues_any _ _ _ _).mono ?_
    rintro e _ ⟨rfl, rfl⟩
    have HRq := Lib.hid (HR.out.add (k := w.heap.size + 1 + 1 + 1) (.cells #[.slice A2 ls.length c2] 23) (by simp))
    clear HR x0 x1 x2
    have HR := HRq
    clear HRq
    obtain ⟨W2, hW2⟩ : ∃ W2, (((w.alloc (lookBox m R (.slice A2 ls.length c2) P M)).alloc (repBox r1)).alloc (repBox r2)).alloc (.cells #[.slice A2 ls.length c2] 23) = W2 := ⟨_, rfl⟩
    rw [hW2] at HR
    have hF := Lib.hid (lfirst_in (tellB r1 r2) A2 c2 ls (w.heap.size + 1 + 1 + 1) (w.heap.size + 1) (w.heap.size + 1 + 1) W2 hlen (Rws.below HL.out HR.out.b (Nat.le_refl _)) (HR.out.lt mZ)
      (fun x W hW => tells1_any x r1 r2 _ _ W ((hW.block _ (HR.out.lt (mS (mS mZ)))).trans (HR.out.h _ (mS (mS mZ)))) ((hW.block _ (HR.out.lt (mS mZ))).trans (HR.out.h _ (mS mZ))) a1 a2 b1 b2)
      (HR.out.h _ mZ) (fun hne b off h => Nat.lt_of_lt_of_le (rws_lt HL.out (fun e => hne (List.map_eq_nil_iff.1 e)) b off h) HR.out.size))
    have hz : (((w.alloc (lookBox m R (.slice A2 ls.length c2) P M)).alloc (repBox r1)).alloc (repBox r2)).heap.size = w.heap.size + 1 + 1 + 1 := by simp
    rw [hW2, hz]
    clear hW2 hz
    go_wp2_with fail
    go_at_call 110
    refine hF.out.mono ?_
    rintro e W3 ⟨y, rfl, hb3⟩
    have HB := Lib.hid (HR.out.below hb3).b
    clear hb3
    go_wp2_with fail
    go_ret
    exact ⟨ret_bool HT.out.symm, below_al HB.out _⟩
end Go.Proofs.YtldimlnllmojiaaGreat
