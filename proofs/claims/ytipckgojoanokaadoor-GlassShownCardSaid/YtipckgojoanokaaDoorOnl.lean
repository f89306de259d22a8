/- A station with just two of its comparisons. -/
import Derived.Test.YtipckgojoanokaaDoorLsh
set_option linter.unusedVariables false
set_option linter.unusedSimpArgs false
namespace Go.Proofs.YtipckgojoanokaaDoor
open Go.RowKit Go.Maps

theorem two_checks {W : World} {N : Nat} {x y : Chk} (h : W.heap[N]? = some (.cells #[.int .i64 x.day, .int .i64 x.lo, .int .i64 x.hi, .int .i64 y.day, .int .i64 y.lo, .int .i64 y.hi] 39)) : Chks W (.slice (some ⟨N, 0, none⟩) 2 2) [x, y] := by
  obtain ⟨hc, _⟩ := boxCells h
  refine ⟨_, 2, rfl, by simp, by unfold maxLen; omega, .inr ⟨N, 0, rfl, lt_of_blk h, fun i c hi => ?_⟩⟩
  match i, hi with
  | 0, hi => cases hi; exact ⟨(hc 0).trans rfl, (hc 1).trans rfl, (hc 2).trans rfl⟩
  | 1, hi => cases hi; exact ⟨(hc 3).trans rfl, (hc 4).trans rfl, (hc 5).trans rfl⟩
  | n + 2, hi => simp at hi

set_option maxHeartbeats 4000000 in
set_option maxRecDepth 100000 in
theorem rOnly {s : Stn} {cs : List Chk} {A : Option Addr} {c : Nat} {w : World} {i k : Nat} {x y : Chk} (hc : Chks w (.slice A cs.length c) cs) (h12 : cs.length ≤ 12) (hx : cs[i]? = some x) (hy : cs[k]? = some y) :
    Calls Tryd.prog 27 #[stV s (.slice A cs.length c), .int .i64 i, .int .i64 k] w fun e w' => ∃ v, e = .returned (stV s v) ∧ Chks w' v [x, y] ∧ Below w.heap.size w w' := by
  have hil := (List.getElem?_eq_some_iff.1 hx).1
  have hkl := (List.getElem?_eq_some_iff.1 hy).1
  obtain ⟨b, off, hA, hcap, hm, -⟩ := chk_cells hc hx
  subst hA
  unfold maxLen at hm
  have HR : Hid (Frm w [(w.heap.size + 1 + 1, (stBox s (.slice (some ⟨b, off, none⟩) cs.length c))), (w.heap.size + 1, (.cells #[.int .i64 0, .int .i64 0, .int .i64 0, .int .i64 0, .int .i64 0, .int .i64 0, .int .i64 0, .int .i64 0, .slice none 0 0] 26)), (w.heap.size, (stBox s (.slice (some ⟨b, off, none⟩) cs.length c)))] (((w.alloc (stBox s (.slice (some ⟨b, off, none⟩) cs.length c))).alloc (.cells #[.int .i64 0, .int .i64 0, .int .i64 0, .int .i64 0, .int .i64 0, .int .i64 0, .int .i64 0, .int .i64 0, .slice none 0 0] 26)).alloc (stBox s (.slice (some ⟨b, off, none⟩) cs.length c)))) := Lib.hid ((((Frm.nil w).add _ (by simp)).add _ (by simp)).add _ (by simp))
  obtain ⟨b', off', hA', -, -, p0, p1, p2⟩ := chk_cells (hc.below HR.out.b) hx
  obtain ⟨rfl, rfl⟩ : b = b' ∧ off = off' := by simpa using hA'
  obtain ⟨b', off', hA', -, -, q0, q1, q2⟩ := chk_cells (hc.below HR.out.b) hy
  obtain ⟨rfl, rfl⟩ : b = b' ∧ off = off' := by simpa using hA'
  clear hc hx hy hA'
  have x0 := HR.out.cells (List.mem_cons_self ..)
  have x0f := HR.out.free (List.mem_cons_self ..)
  have x2 := HR.out.cells (List.mem_cons_of_mem _ (List.mem_cons_of_mem _ (List.mem_cons_self ..)))
  go_enter Tryd.func27, Tryd.ntmps27
  go_upto_region 2 with fail
  go_cut [] (fun wx => Frm w [(w.heap.size + 1 + 1 + 1, (.cells #[.int .i64 x.day, .int .i64 x.lo, .int .i64 x.hi, .int .i64 y.day, .int .i64 y.lo, .int .i64 y.hi] 39)), (w.heap.size + 1 + 1, (stBox s (.slice (some ⟨w.heap.size + 1 + 1 + 1, 0, none⟩) 2 2))), (w.heap.size + 1, (.cells #[.int .i64 0, .int .i64 0, .int .i64 0, .int .i64 0, .int .i64 0, .int .i64 0, .int .i64 0, .int .i64 0, .slice none 0 0] 26))] wx)
  case first =>
    go_region
    all_goals
      go_wp2_with fail
      go_meet
      refine ⟨?_, fun p hp => ?_⟩
      · (repeat (with_reducible first | exact Below.refl _ _ | apply below_dr | apply below_al))
      · simp only [List.mem_cons, List.not_mem_nil, or_false] at hp
        rcases hp with rfl | rfl | rfl
        all_goals (repeat (with_reducible first | exact heap_new _ _ (by simp) | apply blk_dr | apply blk_alloc))
  case rest =>
    have HF := Lib.hid hcut
    clear HR hcut x0 x0f x2 p0 p1 p2 q0 q1 q2
    have z1 := HF.out.cells (List.mem_cons_of_mem _ (List.mem_cons_self ..))
    have z2 := HF.out.lt (List.mem_cons_of_mem _ (List.mem_cons_of_mem _ (List.mem_cons_self ..)))
    have z3 := HF.out.free (List.mem_cons_of_mem _ (List.mem_cons_of_mem _ (List.mem_cons_self ..)))
    have z4 := HF.out.cells (List.mem_cons_of_mem _ (List.mem_cons_of_mem _ (List.mem_cons_self ..)))
    go_wp2_with fail
    have hCK := HF.out.h _ (List.mem_cons_self ..)
    have u1 := (heap_setCell_same (o := 8) (heap_setCell_same (o := 7) (heap_setCell_same (o := 6) (heap_setCell_same (o := 5) (heap_setCell_same (o := 4) (heap_setCell_same (o := 3) (heap_setCell_same (o := 2) (heap_setCell_same (o := 1) (heap_setCell_same (o := 0) (HF.out.h _ (List.mem_cons_of_mem _ (List.mem_cons_of_mem _ (List.mem_cons_self ..)))) (.int .i64 s.hl)) (.int .i64 s.hh)) (.int .i64 s.gl)) (.int .i64 s.gh)) (.int .i64 s.dr)) (.int .i64 s.rd)) (.int .i64 s.ea)) (.int .i64 s.sl)) (.slice (some ⟨w.heap.size + 1 + 1 + 1, 0, none⟩) 2 2))
    have u0 := (boxCells u1).1
    refine bodyPost_ret (v := stV s (.slice (some ⟨w.heap.size + 1 + 1 + 1, 0, none⟩) 2 2)) (by simp [results, Tryd.results27, go_sem, u0]) rfl ⟨_, rfl, two_checks (N := w.heap.size + 1 + 1 + 1) ?_, ?_⟩
    · exact (blk_set (blk_set (blk_set (blk_set (blk_set (blk_set (blk_set (blk_set (blk_set hCK (by simp <;> omega) _) (by simp <;> omega) _) (by simp <;> omega) _) (by simp <;> omega) _) (by simp <;> omega) _) (by simp <;> omega) _) (by simp <;> omega) _) (by simp <;> omega) _) (by simp <;> omega) _)
    · exact (below_set (below_set (below_set (below_set (below_set (below_set (below_set (below_set (below_set HF.out.b (by simp <;> omega) _) (by simp <;> omega) _) (by simp <;> omega) _) (by simp <;> omega) _) (by simp <;> omega) _) (by simp <;> omega) _) (by simp <;> omega) _) (by simp <;> omega) _) (by simp <;> omega) _)
end Go.Proofs.YtipckgojoanokaaDoor
