/- The function Draw of the program and that of the reference. -/
import Derived.Test.YtpkmojcppdogkaaGreatDoorCdr
import Derived.Deep.RegionLaw
import Derived.Deep.RegionHeld3
set_option linter.unusedVariables false
set_option linter.unusedSimpArgs false
namespace Go.Proofs.YtpkmojcppdogkaaGreatDoor
open Go.RowKit
open Go.Maps
set_option maxHeartbeats 1000000 in
theorem cDraw_bad {m : Mp} {A : Option Addr} {c : Nat} {cs : List Sta} {w : World} (hc : Stas w (.slice A cs.length c) cs) (h : mapB m cs = false) :
    Calls Tryz.prog 19 #[mpV m (.slice A cs.length c)] w fun e w' => e = .returned (.tuple #[.agg #[.int .i64 0, .slice none 0 0], .int .i64 2]) ∧ Below w.heap.size w w' := by
  have HC0 := Lib.hid hc
  clear hc
  have HR := Lib.hid (((Frm.nil w).add (mpBox m (.slice A cs.length c)) rfl).add (k := w.heap.size + 1) (.cells #[.int .i64 0, .slice none 0 0] 27) (by simp))
  have x0 := HR.out.cells (List.mem_cons_self ..)
  have x1 := HR.out.cells (List.mem_cons_of_mem _ (List.mem_cons_self ..))
  go_enter Tryz.func19, Tryz.ntmps19
  go_wp2_with (go_at_call 52; refine (possible_bad (HC0.out.below (Frm.b (w := w) (bs := [(w.heap.size + 1, (.cells #[.int .i64 0, .slice none 0 0] 27)), (w.heap.size, (mpBox m (.slice A cs.length c)))]) (by (repeat (with_reducible first | exact HR.out | apply Frm.drew | apply Frm.alloc | apply Frm.drewN))))) h).mono ?_; rintro e wa ⟨rfl, hba⟩; have HRq := Lib.hid (Frm.below (w := w) (bs := [(w.heap.size + 1, (.cells #[.int .i64 0, .slice none 0 0] 27)), (w.heap.size, (mpBox m (.slice A cs.length c)))]) (by (repeat (with_reducible first | exact HR.out | apply Frm.drew | apply Frm.alloc | apply Frm.drewN))) hba); clear HR; have HR := HRq; clear HRq hba; have x0 := HR.out.cells (List.mem_cons_self ..); have x1 := HR.out.cells (List.mem_cons_of_mem _ (List.mem_cons_self ..)); have f0 := HR.out.free (List.mem_cons_self ..); have l0 := HR.out.lt (List.mem_cons_self ..); have f1 := HR.out.free (List.mem_cons_of_mem _ (List.mem_cons_self ..)); have l1 := HR.out.lt (List.mem_cons_of_mem _ (List.mem_cons_self ..)))
  have hF := (Frm.put2 HR.out (by omega) (by simp <;> omega) (.int .i64 0) (.slice none 0 0)).alloc (.cells #[.int .i64 0, .int .i64 0, .int .i64 0, .slice none 0 0, .int .i64 0, .int .i64 0] 87)
  have u0 := hF.cells (List.mem_cons_self ..)
  exact bodyPost_ret (v := .tuple #[.agg #[.int .i64 0, .slice none 0 0], .int .i64 2]) (by simp [results, Tryz.results19, go_sem, u0]) rfl ⟨rfl, hF.b⟩
set_option maxHeartbeats 1000000 in
theorem cDraw_rule {m : Mp} {A : Option Addr} {c : Nat} {cs : List Sta} {w : World} (hc : Stas w (.slice A cs.length c) cs) (hs : Sane m cs) {i j : Nat} (hx : First m cs i j) :
    Calls Tryz.prog 19 #[mpV m (.slice A cs.length c)] w fun e w' => e = .returned (.tuple #[.agg #[.int .i64 0, .slice none 0 0], .int .i64 7]) ∧ Below w.heap.size w w' := by
  have HC0 := Lib.hid hc
  clear hc
  have HR := Lib.hid (((Frm.nil w).add (mpBox m (.slice A cs.length c)) rfl).add (k := w.heap.size + 1) (.cells #[.int .i64 0, .slice none 0 0] 27) (by simp))
  have x0 := HR.out.cells (List.mem_cons_self ..)
  have x1 := HR.out.cells (List.mem_cons_of_mem _ (List.mem_cons_self ..))
  go_enter Tryz.func19, Tryz.ntmps19
  go_wp2_with (go_at_call 52; refine (possible_rule (HC0.out.below (Frm.b (w := w) (bs := [(w.heap.size + 1, (.cells #[.int .i64 0, .slice none 0 0] 27)), (w.heap.size, (mpBox m (.slice A cs.length c)))]) (by (repeat (with_reducible first | exact HR.out | apply Frm.drew | apply Frm.alloc | apply Frm.drewN))))) hs hx).mono ?_; rintro e wa ⟨rfl, hba⟩; have HRq := Lib.hid (Frm.below (w := w) (bs := [(w.heap.size + 1, (.cells #[.int .i64 0, .slice none 0 0] 27)), (w.heap.size, (mpBox m (.slice A cs.length c)))]) (by (repeat (with_reducible first | exact HR.out | apply Frm.drew | apply Frm.alloc | apply Frm.drewN))) hba); clear HR; have HR := HRq; clear HRq hba; have x0 := HR.out.cells (List.mem_cons_self ..); have x1 := HR.out.cells (List.mem_cons_of_mem _ (List.mem_cons_self ..)); have f0 := HR.out.free (List.mem_cons_self ..); have l0 := HR.out.lt (List.mem_cons_self ..); have f1 := HR.out.free (List.mem_cons_of_mem _ (List.mem_cons_self ..)); have l1 := HR.out.lt (List.mem_cons_of_mem _ (List.mem_cons_self ..)))
  have hF := (Frm.put2 HR.out (by omega) (by simp <;> omega) (.int .i64 0) (.slice none 0 0)).alloc (.cells #[.int .i64 0, .int .i64 0, .int .i64 0, .slice none 0 0, .int .i64 0, .int .i64 0] 87)
  have u0 := hF.cells (List.mem_cons_self ..)
  exact bodyPost_ret (v := .tuple #[.agg #[.int .i64 0, .slice none 0 0], .int .i64 7]) (by simp [results, Tryz.results19, go_sem, u0]) rfl ⟨rfl, hF.b⟩
set_option maxHeartbeats 1000000 in
theorem cDraw_ok {m : Mp} {A : Option Addr} {c : Nat} {cs : List Sta} {w : World} (hc : Stas w (.slice A cs.length c) cs) (hs : Sane m cs) (hx : Agreed m cs) :
    Calls Tryz.prog 19 #[mpV m (.slice A cs.length c)] w fun e w' => ∃ g cap cur, e = .returned (.tuple #[.agg #[.int .i64 m.wd, .slice (some ⟨g, 0, none⟩) ((m.wd * m.rw).toNat) cap], .int .i64 0]) ∧ w'.heap[g]? = some (.cells cur 3) ∧ RowI (rowZ (mdF m cs) ((m.wd * m.rw).toNat)) cur ∧ w.heap.size ≤ g ∧ ((m.wd * m.rw).toNat) ≤ cap ∧ cap ≤ maxLen ∧ Below w.heap.size w w' := by
  have HC0 := Lib.hid hc
  clear hc
  have HR := Lib.hid (((Frm.nil w).add (mpBox m (.slice A cs.length c)) rfl).add (k := w.heap.size + 1) (.cells #[.int .i64 0, .slice none 0 0] 27) (by simp))
  have x0 := HR.out.cells (List.mem_cons_self ..)
  have x1 := HR.out.cells (List.mem_cons_of_mem _ (List.mem_cons_self ..))
  go_enter Tryz.func19, Tryz.ntmps19
  go_upto_region 4 with (go_at_call 52; refine (possible_ok (HC0.out.below (Frm.b (w := w) (bs := [(w.heap.size + 1, (.cells #[.int .i64 0, .slice none 0 0] 27)), (w.heap.size, (mpBox m (.slice A cs.length c)))]) (by (repeat (with_reducible first | exact HR.out | apply Frm.drew | apply Frm.alloc | apply Frm.drewN))))) hs hx).mono ?_; rintro e wa ⟨rfl, hba⟩; have HRq := Lib.hid (Frm.below (w := w) (bs := [(w.heap.size + 1, (.cells #[.int .i64 0, .slice none 0 0] 27)), (w.heap.size, (mpBox m (.slice A cs.length c)))]) (by (repeat (with_reducible first | exact HR.out | apply Frm.drew | apply Frm.alloc | apply Frm.drewN))) hba); clear HR; have HR := HRq; clear HRq hba; have x0 := HR.out.cells (List.mem_cons_self ..); have x1 := HR.out.cells (List.mem_cons_of_mem _ (List.mem_cons_self ..)))
  have hkw := HR.out.lt (List.mem_cons_self ..)
  have HRq := Lib.hid (HR.out.add (.cells #[.int .i64 m.wd, .int .i64 m.rw, .int .i64 m.sl, (.slice A cs.length c), .int .i64 m.wd, .int .i64 m.rw] 87) rfl)
  clear HR x0 x1
  have HR := HRq
  clear HRq
  generalize hk0 : wa.heap.size = k0 at *
  have x0 := HR.out.cells (List.mem_cons_self ..)
  have x1 := HR.out.cells (List.mem_cons_of_mem _ (List.mem_cons_self ..))
  have x2 := HR.out.cells (List.mem_cons_of_mem _ (List.mem_cons_of_mem _ (List.mem_cons_self ..)))
  clear hk0
  go_wp2_with (go_at_call 53; refine (drawn_any m A c cs _ hs hx (HC0.out.below HR.out.b)).mono ?_; rintro e wb ⟨g, cap, cur, rfl, hg, hrow, hbg, hc1, hc2, hbb⟩; have hgk := Nat.lt_of_lt_of_le (HR.out.lt (List.mem_cons_self ..)) hbg; have HRq := Lib.hid ((HR.out.below hbb).more hg); have HW := Lib.hid hrow; clear HR x0 x1 x2 hbb hg hrow; have HR := HRq; clear HRq; have x0 := HR.out.cells (List.mem_cons_self ..); have x1 := HR.out.cells (List.mem_cons_of_mem _ (List.mem_cons_self ..)); have x2 := HR.out.cells (List.mem_cons_of_mem _ (List.mem_cons_of_mem _ (List.mem_cons_self ..))); have x3 := HR.out.cells (List.mem_cons_of_mem _ (List.mem_cons_of_mem _ (List.mem_cons_of_mem _ (List.mem_cons_self ..)))); have f2 := HR.out.free (List.mem_cons_of_mem _ (List.mem_cons_of_mem _ (List.mem_cons_self ..))); have l2 := HR.out.lt (List.mem_cons_of_mem _ (List.mem_cons_of_mem _ (List.mem_cons_self ..))))
  have hF := Frm.put2 (Frm.less (bs' := [(w.heap.size + 1, (.cells #[.int .i64 0, .slice none 0 0] 27)), (g, (.cells cur 3)), (k0, (.cells #[.int .i64 m.wd, .int .i64 m.rw, .int .i64 m.sl, (.slice A cs.length c), .int .i64 m.wd, .int .i64 m.rw] 87)), (w.heap.size, (mpBox m (.slice A cs.length c)))]) HR.out (fun p hp => by simp only [List.mem_cons, List.not_mem_nil, or_false] at hp ⊢; rcases hp with rfl | rfl | rfl | rfl <;> simp)) (by omega) (by simp <;> omega) (.int .i64 m.wd) (.slice (some ⟨g, 0, none⟩) ((m.wd * m.rw).toNat) cap)
  have u0 := hF.cells (List.mem_cons_self ..)
  exact bodyPost_ret (v := .tuple #[.agg #[.int .i64 m.wd, .slice (some ⟨g, 0, none⟩) ((m.wd * m.rw).toNat) cap], .int .i64 0]) (by simp [results, Tryz.results19, go_sem, u0]) rfl ⟨g, cap, cur, rfl, hF.h _ (List.mem_cons_of_mem _ (List.mem_cons_self ..)), HW.out, by omega, hc1, hc2, hF.b⟩
end Go.Proofs.YtpkmojcppdogkaaGreatDoor
