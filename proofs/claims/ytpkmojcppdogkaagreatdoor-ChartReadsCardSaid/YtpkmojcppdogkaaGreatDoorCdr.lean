/- The drawn field, by the program. -/
import Derived.Test.YtpkmojcppdogkaaGreatDoorCv
set_option linter.unusedVariables false
set_option linter.unusedSimpArgs false
namespace Go.Proofs.YtpkmojcppdogkaaGreatDoor
open Go.RowKit
open Go.Maps
/-- The value of a point of the drawn field. -/
def mdF (m : Mp) (cs : List Sta) (p : Nat) : Int := (lowestF m.wd m.sl p cs + highestF m.wd m.sl p cs) / 2
set_option maxHeartbeats 4000000 in
set_option maxRecDepth 100000 in
theorem drawn_any (m : Mp) (A : Option Addr) (c : Nat) (cs : List Sta) (w : World) (hs : Sane m cs) (ha : Agreed m cs) (hc : Stas w (.slice A cs.length c) cs) :
    Calls Tryz.prog 53 #[viewV m.wd m.rw m.sl (.slice A cs.length c)] w fun e w' => ∃ g cap cur, e = .returned (.agg #[.int .i64 m.wd, .slice (some ⟨g, 0, none⟩) ((m.wd * m.rw).toNat) cap]) ∧ w'.heap[g]? = some (.cells cur 3) ∧ RowI (rowZ (mdF m cs) ((m.wd * m.rw).toNat)) cur ∧ w.heap.size ≤ g ∧ ((m.wd * m.rw).toNat) ≤ cap ∧ cap ≤ maxLen ∧ Below w.heap.size w w' := by
  have HC0 := Lib.hid hc
  clear hc
  have ok := hs.ok
  have a1 := ok.a1; have a2 := ok.a2
  obtain ⟨N, hN⟩ : ∃ N : Nat, (m.wd * m.rw).toNat = N := ⟨_, rfl⟩
  have HN := Lib.hid hN
  have hN2 : (N : Int) ≤ 30 := by omega
  have hN1 : 0 < N := by omega
  have HAG := Lib.hid ha
  rw [hN]
  clear hN ha
  obtain ⟨fM, hfM⟩ : ∃ fM : Nat → Int, fM = mdF m cs := ⟨_, rfl⟩
  have HFM := Lib.hid hfM
  rw [← hfM]
  clear hfM
  have HR := Lib.hid ((((Frm.nil w).add (.cells #[.int .i64 m.wd, .int .i64 m.rw, .int .i64 m.sl, (.slice A cs.length c), .int .i64 m.wd, .int .i64 m.rw] 87) rfl).add (k := w.heap.size + 1) (.cells #[.int .i64 0, .slice none 0 0] 27) (by simp)).add (k := w.heap.size + 1 + 1) (.cells #[.int .i64 m.wd, .slice none 0 0] 27) (by simp))
  have x0 := HR.out.cells (List.mem_cons_self ..)
  have x1 := HR.out.cells (List.mem_cons_of_mem _ (List.mem_cons_self ..))
  have x2 := HR.out.cells (List.mem_cons_of_mem _ (List.mem_cons_of_mem _ (List.mem_cons_self ..)))
  go_enter Tryz.func53, Tryz.ntmps53
  go_wp2_with fail
  refine (bounds_any m A c cs _ hs (HC0.out.below HR.out.b)).mono ?_
  rintro e wa ⟨gs, cps, curs, rfl, hg, hrow, hbg, hc1, hc2, hba⟩
  rw [HN.out] at hrow hc1
  try rw [HN.out]
  unfold maxLen at hc2
  have hz := HR.out.size
  have hgs : w.heap.size + 1 + 1 < gs := Nat.lt_of_lt_of_le (HR.out.lt (List.mem_cons_self ..)) hbg
  have hgl : gs < wa.heap.size := (Array.getElem?_eq_some_iff.1 hg).1
  have HW := Lib.hid hrow
  have HRq := Lib.hid (Frm.less (bs' := [(w.heap.size + 1 + 1, (.cells #[.int .i64 m.wd, .slice none 0 0] 27)), (gs, (.cells curs 41)), (w.heap.size + 1, (.cells #[.int .i64 0, .slice none 0 0] 27)), (w.heap.size, (.cells #[.int .i64 m.wd, .int .i64 m.rw, .int .i64 m.sl, (.slice A cs.length c), .int .i64 m.wd, .int .i64 m.rw] 87))]) ((HR.out.below hba).more hg) (fun p hp => by simp only [List.mem_cons, List.not_mem_nil, or_false] at hp ⊢; rcases hp with rfl | rfl | rfl | rfl <;> simp))
  clear HR x0 x1 x2 hg hrow hba hbg
  have HR := HRq
  clear HRq
  generalize hbase : wa.heap.size = base at *
  have hbl : base ≤ wa.heap.size := by omega
  clear hbase
  have x0 := HR.out.cells (List.mem_cons_self ..)
  have x1 := HR.out.cells (List.mem_cons_of_mem _ (List.mem_cons_self ..))
  have x2 := HR.out.cells (List.mem_cons_of_mem _ (List.mem_cons_of_mem _ (List.mem_cons_self ..)))
  have x3 := HR.out.cells (List.mem_cons_of_mem _ (List.mem_cons_of_mem _ (List.mem_cons_of_mem _ (List.mem_cons_self ..))))
  go_wp2_with fail
  go_loopw [5, 13] (fun _ i wr => ∃ n E ec, n ≤ N ∧ i = .int .i64 (n : Int) ∧ wr.ownsRow base 3 1 (.slice E n ec) n (vI (rowZ fM n)) ∧ Frm w [(w.heap.size + 1 + 1, (.cells #[.int .i64 m.wd, .slice E n ec] 27)), (gs, (.cells curs 41)), (w.heap.size + 1, (.cells #[.int .i64 0, .slice none 0 0] 27)), (w.heap.size, (.cells #[.int .i64 m.wd, .int .i64 m.rw, .int .i64 m.sl, (.slice A cs.length c), .int .i64 m.wd, .int .i64 m.rw] 87))] wr ∧ base ≤ wr.heap.size) (fun _ i _ => N - (intOf i).toNat)
  case atStart => exact ⟨0, none, 0, Nat.zero_le _, rfl, World.ownsRow_nil .., HR.out, hbl⟩
  case round =>
    obtain ⟨n, E, ec, hn, rfl, hO, hF, hbs⟩ := hrel
    clear HR x0 x1 x2 x3 hbl
    have HR := Lib.hid hF
    have HO := Lib.hid hO
    clear hF hO
    have x0 := HR.out.cells (List.mem_cons_self ..)
    have x1 := HR.out.cells (List.mem_cons_of_mem _ (List.mem_cons_self ..))
    have x2 := HR.out.cells (List.mem_cons_of_mem _ (List.mem_cons_of_mem _ (List.mem_cons_self ..)))
    have x3 := HR.out.cells (List.mem_cons_of_mem _ (List.mem_cons_of_mem _ (List.mem_cons_of_mem _ (List.mem_cons_self ..))))
    have f0 := HR.out.free (List.mem_cons_self ..)
    have l0 := HR.out.lt (List.mem_cons_self ..)
    have l1 := HR.out.lt (List.mem_cons_of_mem _ (List.mem_cons_self ..))
    by_cases hnl : n < N
    · have HSn := Lib.hid (HW.out n _ (rowP_at (f := spF m cs) hnl))
      dsimp only [spF] at HSn
      obtain ⟨lo, hlo⟩ : ∃ lo, lowestF m.wd m.sl n cs = lo := ⟨_, rfl⟩
      obtain ⟨hi, hhi⟩ : ∃ hi, highestF m.wd m.sl n cs = hi := ⟨_, rfl⟩
      rw [hlo, hhi] at HSn
      have Hlo := Lib.hid hlo
      have Hhi := Lib.hid hhi
      clear hlo hhi
      have hlo : 0 ≤ lo ∧ lo ≤ hi ∧ hi ≤ 99999 := ⟨by rw [← Hlo.out]; exact low_ge0, by rw [← Hlo.out, ← Hhi.out]; exact low_le_high HAG.out hs n, by rw [← Hhi.out]; exact high_le1⟩
      have e1 : IntKind.i64.wrap (lo + hi) = lo + hi := IntWalk.i64_in _ (by omega)
      have e2 : (lo + hi).tdiv 2 = fM n := by rw [HFM.out, Int.tdiv_eq_ediv_of_nonneg (by omega)]; simp only [mdF, Hlo.out, Hhi.out]
      have hm0 : 0 ≤ fM n ∧ fM n ≤ 99999 := by rw [← e2, Int.tdiv_eq_ediv_of_nonneg (by omega)]; omega
      have e3 : IntKind.i64.wrap (fM n) = fM n := IntWalk.i64_in _ (by omega)
      have s0 := HSn.out.1
      have s1 := HSn.out.2
      go_upto_region 5 with fail
      have HRq := Lib.hid (HR.out.add (.cells #[.int .i64 lo, .int .i64 hi] 41) rfl)
      clear HR x0 x1 x2 x3 s0 s1 f0
      have HR := HRq
      have HOq := Lib.hid (World.ownsRow.alloc HO.out (.cells #[.int .i64 lo, .int .i64 hi] 41))
      clear HRq HO
      have HO := HOq
      clear HOq
      have x0 := HR.out.cells (List.mem_cons_self ..)
      have x1 := HR.out.cells (List.mem_cons_of_mem _ (List.mem_cons_self ..))
      have x2 := HR.out.cells (List.mem_cons_of_mem _ (List.mem_cons_of_mem _ (List.mem_cons_self ..)))
      have x3 := HR.out.cells (List.mem_cons_of_mem _ (List.mem_cons_of_mem _ (List.mem_cons_of_mem _ (List.mem_cons_self ..))))
      have x4 := HR.out.cells (List.mem_cons_of_mem _ (List.mem_cons_of_mem _ (List.mem_cons_of_mem _ (List.mem_cons_of_mem _ (List.mem_cons_self ..)))))
      have f0 := HR.out.free (List.mem_cons_of_mem _ (List.mem_cons_self ..))
      go_wp2_with (at_builtin; go_must (refine app_int (base := base) (N := wr.heap.size + 1) (n := n) (zs := rowZ fM n) (y := fM n) (by rfl) _ _ (by rfl) (rowZ_len _ _) ?_ (World.ownsRow.alloc HO.out _) ?_ (heap_new _ _ (by simp)) (by omega) ?_ ?_); rfl; rfl; (have := HR.out.size; simp <;> omega); intro g cap wb hO3 hg3 hat hlt; have HRq := Lib.hid (after_app (w := w) (bs := [(w.heap.size + 1 + 1, (.cells #[.int .i64 m.wd, .slice E n ec] 27)), (gs, (.cells curs 41)), (w.heap.size + 1, (.cells #[.int .i64 0, .slice none 0 0] 27)), (w.heap.size, (.cells #[.int .i64 m.wd, .int .i64 m.rw, .int .i64 m.sl, (.slice A cs.length c), .int .i64 m.wd, .int .i64 m.rw] 87))]) (base := base) (Frm.tail (p := (wr.heap.size, (.cells #[.int .i64 lo, .int .i64 hi] 41))) (bs := [(w.heap.size + 1 + 1, (.cells #[.int .i64 m.wd, .slice E n ec] 27)), (gs, (.cells curs 41)), (w.heap.size + 1, (.cells #[.int .i64 0, .slice none 0 0] 27)), (w.heap.size, (.cells #[.int .i64 m.wd, .int .i64 m.rw, .int .i64 m.sl, (.slice A cs.length c), .int .i64 m.wd, .int .i64 m.rw] 87))]) (by (repeat (with_reducible first | exact HR.out | apply Frm.drew | apply Frm.alloc | apply Frm.drewN)))) (by omega) (by simp <;> omega) (fun k hk => (HO.out.lt k hk).1) hg3); have HOq := Lib.hid (show wb.ownsRow (base) 3 1 (.slice (some ⟨g, 0, none⟩) (n + 1) cap) (n + 1) (vI (rowZ fM (n + 1))) from by rw [rowZ_succ]; exact hO3); have hgb : base ≤ g := (hO3.lt g rfl).1; clear HR HO x0 x1 x2 x3 x4 f0 l0; have HR := HRq; have HO := HOq; clear HRq HOq hO3 hg3 hat hlt; have x0 := HR.out.cells (List.mem_cons_self ..); have x1 := HR.out.cells (List.mem_cons_of_mem _ (List.mem_cons_self ..)); have x2 := HR.out.cells (List.mem_cons_of_mem _ (List.mem_cons_of_mem _ (List.mem_cons_self ..))); have x3 := HR.out.cells (List.mem_cons_of_mem _ (List.mem_cons_of_mem _ (List.mem_cons_of_mem _ (List.mem_cons_self ..)))); have f0 := HR.out.free (List.mem_cons_self ..); have l0 := HR.out.lt (List.mem_cons_self ..))
      go_roundw
      case rel =>
        refine ⟨n + 1, some ⟨g, 0, none⟩, cap, by omega, by go_num, ownsRow_setCell_other HO.out (by simp [Value.ownBlock]; omega) _, ?_, by have := HO.out.lt g rfl; simp [World.setCell]; omega⟩
        have hp := Frm.put HR.out (by omega) (by simp <;> omega) 1 (.slice (some ⟨g, 0, none⟩) (n + 1) cap)
        simpa using hp
      case measure => simp [intOf]; omega
    · obtain rfl : n = N := by omega
      have f2 := HR.out.free (List.mem_cons_of_mem _ (List.mem_cons_of_mem _ (List.mem_cons_self ..)))
      have l2 := HR.out.lt (List.mem_cons_of_mem _ (List.mem_cons_of_mem _ (List.mem_cons_self ..)))
      go_wp2_with fail
      have hF := Frm.put2 (Frm.less (bs' := [(w.heap.size + 1, (.cells #[.int .i64 0, .slice none 0 0] 27)), (w.heap.size + 1 + 1, (.cells #[.int .i64 m.wd, .slice E n ec] 27)), (gs, (.cells curs 41)), (w.heap.size, (.cells #[.int .i64 m.wd, .int .i64 m.rw, .int .i64 m.sl, (.slice A cs.length c), .int .i64 m.wd, .int .i64 m.rw] 87))]) HR.out (fun p hp => by simp only [List.mem_cons, List.not_mem_nil, or_false] at hp ⊢; rcases hp with rfl | rfl | rfl | rfl <;> simp)) (by omega) (by simp <;> omega) (.int .i64 m.wd) (.slice E n ec)
      have u0 := hF.cells (List.mem_cons_self ..)
      have hne : (Value.slice E n ec).ownBlock ≠ some (w.heap.size + 1) := fun e => by have := (HO.out.lt _ e).1; omega
      obtain ⟨g, cur, rfl, hg, hrow, hbg, hc1, hc2⟩ := int_row (ownsRow_setCell_other (ownsRow_setCell_other HO.out (a := ⟨w.heap.size + 1, 0, none⟩) hne (.int .i64 m.wd)) (a := ⟨w.heap.size + 1, 1, none⟩) hne (.slice E n ec)) (rowZ_len _ _) (by omega)
      exact bodyPost_ret (v := .agg #[.int .i64 m.wd, .slice (some ⟨g, 0, none⟩) n ec]) (by simp [results, Tryz.results53, go_sem, u0]) rfl ⟨g, ec, cur, rfl, hg, hrow, by omega, hc1, hc2, hF.b⟩
end Go.Proofs.YtpkmojcppdogkaaGreatDoor
