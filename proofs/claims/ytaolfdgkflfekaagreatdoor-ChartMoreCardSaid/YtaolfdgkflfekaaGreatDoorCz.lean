/- The program's function Bounds. -/
import Derived.Test.YtaolfdgkflfekaaGreatDoorCy
set_option linter.unusedVariables false
set_option linter.unusedSimpArgs false
namespace Go.Proofs.YtaolfdgkflfekaaGreatDoor
open Go.RowKit
open Go.Maps
set_option maxHeartbeats 1000000 in
theorem cBounds_bad {m : Mp} {A : Option Addr} {c : Nat} {cs : List Sta} {w : World} (hc : Stas w (.slice A cs.length c) cs) (h : mapB m cs = false) :
    Calls Tryz.prog 17 #[mpV m (.slice A cs.length c)] w fun e w' => e = .returned (.tuple #[.slice none 0 0, .int .i64 2]) ∧ Below w.heap.size w w' := by
  have HC0 := Lib.hid hc
  clear hc
  have HR := Lib.hid ((Frm.nil w).add (mpBox m (.slice A cs.length c)) rfl)
  have x0 := HR.out.cells (List.mem_cons_self ..)
  go_enter Tryz.func17, Tryz.ntmps17
  go_wp2_with (go_at_call 44; refine (possible_bad (HC0.out.below (Frm.b (w := w) (bs := [(w.heap.size, (mpBox m (.slice A cs.length c)))]) (by (repeat (with_reducible first | exact HR.out | apply Frm.drew | apply Frm.alloc | apply Frm.drewN))))) h).mono ?_; rintro e wa ⟨rfl, hba⟩; have HRq := Lib.hid (Frm.below (w := w) (bs := [(w.heap.size, (mpBox m (.slice A cs.length c)))]) (by (repeat (with_reducible first | exact HR.out | apply Frm.drew | apply Frm.alloc | apply Frm.drewN))) hba); clear HR; have HR := HRq; clear HRq hba; have x0 := HR.out.cells (List.mem_cons_self ..))
  go_ret2
  exact ⟨rfl, (Frm.b (w := w) (bs := [(w.heap.size, (mpBox m (.slice A cs.length c)))]) (by (repeat (with_reducible first | exact HR.out | apply Frm.drew | apply Frm.alloc | apply Frm.drewN))))⟩
set_option maxHeartbeats 1000000 in
theorem cBounds_rule {m : Mp} {A : Option Addr} {c : Nat} {cs : List Sta} {w : World} (hc : Stas w (.slice A cs.length c) cs) (hs : Sane m cs) {i j : Nat} (hx : First m cs i j) :
    Calls Tryz.prog 17 #[mpV m (.slice A cs.length c)] w fun e w' => e = .returned (.tuple #[.slice none 0 0, .int .i64 7]) ∧ Below w.heap.size w w' := by
  have HC0 := Lib.hid hc
  clear hc
  have HR := Lib.hid ((Frm.nil w).add (mpBox m (.slice A cs.length c)) rfl)
  have x0 := HR.out.cells (List.mem_cons_self ..)
  go_enter Tryz.func17, Tryz.ntmps17
  go_wp2_with (go_at_call 44; refine (possible_rule (HC0.out.below (Frm.b (w := w) (bs := [(w.heap.size, (mpBox m (.slice A cs.length c)))]) (by (repeat (with_reducible first | exact HR.out | apply Frm.drew | apply Frm.alloc | apply Frm.drewN))))) hs hx).mono ?_; rintro e wa ⟨rfl, hba⟩; have HRq := Lib.hid (Frm.below (w := w) (bs := [(w.heap.size, (mpBox m (.slice A cs.length c)))]) (by (repeat (with_reducible first | exact HR.out | apply Frm.drew | apply Frm.alloc | apply Frm.drewN))) hba); clear HR; have HR := HRq; clear HRq hba; have x0 := HR.out.cells (List.mem_cons_self ..))
  go_ret2
  exact ⟨rfl, (Frm.b (w := w) (bs := [(w.heap.size, (mpBox m (.slice A cs.length c)))]) (by (repeat (with_reducible first | exact HR.out | apply Frm.drew | apply Frm.alloc | apply Frm.drewN))))⟩
set_option maxHeartbeats 1000000 in
theorem cBounds_ok {m : Mp} {A : Option Addr} {c : Nat} {cs : List Sta} {w : World} (hc : Stas w (.slice A cs.length c) cs) (hs : Sane m cs) (hx : Agreed m cs) :
    Calls Tryz.prog 17 #[mpV m (.slice A cs.length c)] w fun e w' => ∃ g cap cur, e = .returned (.tuple #[.slice (some ⟨g, 0, none⟩) ((m.wd * m.rw).toNat) cap, .int .i64 0]) ∧ w'.heap[g]? = some (.cells cur 41) ∧ RowS (rowP (spF m cs) ((m.wd * m.rw).toNat)) cur ∧ w.heap.size ≤ g ∧ ((m.wd * m.rw).toNat) ≤ cap ∧ cap ≤ maxLen ∧ Below w.heap.size w w' := by
  have HC0 := Lib.hid hc
  clear hc
  have HR := Lib.hid ((Frm.nil w).add (mpBox m (.slice A cs.length c)) rfl)
  have x0 := HR.out.cells (List.mem_cons_self ..)
  go_enter Tryz.func17, Tryz.ntmps17
  go_upto_region 4 with (go_at_call 44; refine (possible_ok (HC0.out.below (Frm.b (w := w) (bs := [(w.heap.size, (mpBox m (.slice A cs.length c)))]) (by (repeat (with_reducible first | exact HR.out | apply Frm.drew | apply Frm.alloc | apply Frm.drewN))))) hs hx).mono ?_; rintro e wa ⟨rfl, hba⟩; have HRq := Lib.hid (Frm.below (w := w) (bs := [(w.heap.size, (mpBox m (.slice A cs.length c)))]) (by (repeat (with_reducible first | exact HR.out | apply Frm.drew | apply Frm.alloc | apply Frm.drewN))) hba); clear HR; have HR := HRq; clear HRq hba; have x0 := HR.out.cells (List.mem_cons_self ..))
  have HRq := Lib.hid (HR.out.add (.cells #[.int .i64 m.wd, .int .i64 m.rw, .int .i64 m.sl, (.slice A cs.length c), .int .i64 m.wd, .int .i64 m.rw] 75) rfl)
  clear HR x0
  have HR := HRq
  clear HRq
  have x0 := HR.out.cells (List.mem_cons_self ..)
  have x1 := HR.out.cells (List.mem_cons_of_mem _ (List.mem_cons_self ..))
  go_wp2_with fail
  refine (bounds_any m A c cs _ hs (HC0.out.below HR.out.b)).mono ?_
  rintro e wb ⟨g, cap, cur, rfl, hg, hrow, hbg, hc1, hc2, hbb⟩
  have HB := Lib.hid (HR.out.below hbb).b
  have hz := HR.out.size
  have HG := Lib.hid hg
  have HW := Lib.hid hrow
  clear hbb hg hrow
  go_wp2_with fail
  go_ret2
  exact ⟨g, cap, cur, rfl, HG.out, HW.out, by omega, hc1, hc2, HB.out⟩
end Go.Proofs.YtaolfdgkflfekaaGreatDoor
