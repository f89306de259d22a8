/- The program's function Fits. -/
import Derived.Test.YtaolfdgkflfekaaGreatDoorCft
import Derived.Deep.RegionHeld3
set_option linter.unusedVariables false
set_option linter.unusedSimpArgs false
namespace Go.Proofs.YtaolfdgkflfekaaGreatDoor
open Go.RowKit
open Go.Maps
set_option maxHeartbeats 4000000 in
theorem cFits_bad1 {m : Mp} {A : Option Addr} {c : Nat} {cs : List Sta} {wd : Int} {Z : Option Addr} {zc : Nat} {zs : List Int} {w : World} (hc : Stas w (.slice A cs.length c) cs) (hz : Ints w (.slice Z zs.length zc) zs) (h : mapB m cs = false) :
    Calls Tryz.prog 13 #[mpV m (.slice A cs.length c), .agg #[.int .i64 wd, .slice Z zs.length zc]] w fun e w' => e = .returned (.tuple #[.bool false, .int .i64 2]) ∧ Below w.heap.size w w' := by
  have HC0 := Lib.hid hc
  have HZ0 := Lib.hid hz
  clear hc hz
  have HR := Lib.hid (((Frm.nil w).add (mpBox m (.slice A cs.length c)) rfl).add (k := w.heap.size + 1) (.cells #[.int .i64 wd, .slice Z zs.length zc] 27) (by simp))
  have x0 := HR.out.cells (List.mem_cons_self ..)
  have x1 := HR.out.cells (List.mem_cons_of_mem _ (List.mem_cons_self ..))
  go_enter Tryz.func13, Tryz.ntmps13
  go_wp2_with ((go_at_call 35; refine (soundMap_is (HC0.out.below (Frm.b (w := w) (bs := [(w.heap.size + 1, (.cells #[.int .i64 wd, .slice Z zs.length zc] 27)), (w.heap.size, (mpBox m (.slice A cs.length c)))]) (by (repeat (with_reducible first | exact HR.out | apply Frm.drew | apply Frm.alloc | apply Frm.drewN))))) h).mono ?_; rintro e wa ⟨rfl, hba⟩; have HRq := Lib.hid (Frm.below (w := w) (bs := [(w.heap.size + 1, (.cells #[.int .i64 wd, .slice Z zs.length zc] 27)), (w.heap.size, (mpBox m (.slice A cs.length c)))]) (by (repeat (with_reducible first | exact HR.out | apply Frm.drew | apply Frm.alloc | apply Frm.drewN))) hba); clear HR; have HR := HRq; clear HRq hba; have x0 := HR.out.cells (List.mem_cons_self ..); have x1 := HR.out.cells (List.mem_cons_of_mem _ (List.mem_cons_self ..))))
  go_ret2
  exact ⟨rfl, (Frm.b (w := w) (bs := [(w.heap.size + 1, (.cells #[.int .i64 wd, .slice Z zs.length zc] 27)), (w.heap.size, (mpBox m (.slice A cs.length c)))]) (by (repeat (with_reducible first | exact HR.out | apply Frm.drew | apply Frm.alloc | apply Frm.drewN))))⟩
set_option maxHeartbeats 4000000 in
theorem cFits_bad2 {m : Mp} {A : Option Addr} {c : Nat} {cs : List Sta} {wd : Int} {Z : Option Addr} {zc : Nat} {zs : List Int} {w : World} (hc : Stas w (.slice A cs.length c) cs) (hz : Ints w (.slice Z zs.length zc) zs) (h : mapB m cs = true) (h2 : fieldB wd zs = false) :
    Calls Tryz.prog 13 #[mpV m (.slice A cs.length c), .agg #[.int .i64 wd, .slice Z zs.length zc]] w fun e w' => e = .returned (.tuple #[.bool false, .int .i64 2]) ∧ Below w.heap.size w w' := by
  have HC0 := Lib.hid hc
  have HZ0 := Lib.hid hz
  clear hc hz
  have HR := Lib.hid (((Frm.nil w).add (mpBox m (.slice A cs.length c)) rfl).add (k := w.heap.size + 1) (.cells #[.int .i64 wd, .slice Z zs.length zc] 27) (by simp))
  have x0 := HR.out.cells (List.mem_cons_self ..)
  have x1 := HR.out.cells (List.mem_cons_of_mem _ (List.mem_cons_self ..))
  go_enter Tryz.func13, Tryz.ntmps13
  go_wp2_with (first | (go_at_call 35; refine (soundMap_is (HC0.out.below (Frm.b (w := w) (bs := [(w.heap.size + 1, (.cells #[.int .i64 wd, .slice Z zs.length zc] 27)), (w.heap.size, (mpBox m (.slice A cs.length c)))]) (by (repeat (with_reducible first | exact HR.out | apply Frm.drew | apply Frm.alloc | apply Frm.drewN))))) h).mono ?_; rintro e wa ⟨rfl, hba⟩; have HRq := Lib.hid (Frm.below (w := w) (bs := [(w.heap.size + 1, (.cells #[.int .i64 wd, .slice Z zs.length zc] 27)), (w.heap.size, (mpBox m (.slice A cs.length c)))]) (by (repeat (with_reducible first | exact HR.out | apply Frm.drew | apply Frm.alloc | apply Frm.drewN))) hba); clear HR; have HR := HRq; clear HRq hba; have x0 := HR.out.cells (List.mem_cons_self ..); have x1 := HR.out.cells (List.mem_cons_of_mem _ (List.mem_cons_self ..))) | (go_at_call 36; refine (soundField_is (HZ0.out.below (Frm.b (w := w) (bs := [(w.heap.size + 1, (.cells #[.int .i64 wd, .slice Z zs.length zc] 27)), (w.heap.size, (mpBox m (.slice A cs.length c)))]) (by (repeat (with_reducible first | exact HR.out | apply Frm.drew | apply Frm.alloc | apply Frm.drewN))))) h2).mono ?_; rintro e wa ⟨rfl, hba⟩; have HRq := Lib.hid (Frm.below (w := w) (bs := [(w.heap.size + 1, (.cells #[.int .i64 wd, .slice Z zs.length zc] 27)), (w.heap.size, (mpBox m (.slice A cs.length c)))]) (by (repeat (with_reducible first | exact HR.out | apply Frm.drew | apply Frm.alloc | apply Frm.drewN))) hba); clear HR; have HR := HRq; clear HRq hba; have x0 := HR.out.cells (List.mem_cons_self ..); have x1 := HR.out.cells (List.mem_cons_of_mem _ (List.mem_cons_self ..))))
  go_ret2
  exact ⟨rfl, (Frm.b (w := w) (bs := [(w.heap.size + 1, (.cells #[.int .i64 wd, .slice Z zs.length zc] 27)), (w.heap.size, (mpBox m (.slice A cs.length c)))]) (by (repeat (with_reducible first | exact HR.out | apply Frm.drew | apply Frm.alloc | apply Frm.drewN))))⟩
set_option maxHeartbeats 4000000 in
theorem cFits_ok {m : Mp} {A : Option Addr} {c : Nat} {cs : List Sta} {wd : Int} {Z : Option Addr} {zc : Nat} {zs : List Int} {w : World} (hc : Stas w (.slice A cs.length c) cs) (hz : Ints w (.slice Z zs.length zc) zs) (hs : Sane m cs) (hf : fieldB wd zs = true) :
    Calls Tryz.prog 13 #[mpV m (.slice A cs.length c), .agg #[.int .i64 wd, .slice Z zs.length zc]] w fun e w' => e = .returned (.tuple #[.bool (fitsB m cs wd zs), .int .i64 0]) ∧ Below w.heap.size w w' := by
  have HC0 := Lib.hid hc
  have HZ0 := Lib.hid hz
  clear hc hz
  have HR := Lib.hid (((Frm.nil w).add (mpBox m (.slice A cs.length c)) rfl).add (k := w.heap.size + 1) (.cells #[.int .i64 wd, .slice Z zs.length zc] 27) (by simp))
  have x0 := HR.out.cells (List.mem_cons_self ..)
  have x1 := HR.out.cells (List.mem_cons_of_mem _ (List.mem_cons_self ..))
  go_enter Tryz.func13, Tryz.ntmps13
  go_upto_region 3 with (first | (go_at_call 35; refine (soundMap_is (HC0.out.below (Frm.b (w := w) (bs := [(w.heap.size + 1, (.cells #[.int .i64 wd, .slice Z zs.length zc] 27)), (w.heap.size, (mpBox m (.slice A cs.length c)))]) (by (repeat (with_reducible first | exact HR.out | apply Frm.drew | apply Frm.alloc | apply Frm.drewN))))) (mapB_iff.2 hs)).mono ?_; rintro e wa ⟨rfl, hba⟩; have HRq := Lib.hid (Frm.below (w := w) (bs := [(w.heap.size + 1, (.cells #[.int .i64 wd, .slice Z zs.length zc] 27)), (w.heap.size, (mpBox m (.slice A cs.length c)))]) (by (repeat (with_reducible first | exact HR.out | apply Frm.drew | apply Frm.alloc | apply Frm.drewN))) hba); clear HR; have HR := HRq; clear HRq hba; have x0 := HR.out.cells (List.mem_cons_self ..); have x1 := HR.out.cells (List.mem_cons_of_mem _ (List.mem_cons_self ..))) | (go_at_call 36; refine (soundField_is (HZ0.out.below (Frm.b (w := w) (bs := [(w.heap.size + 1, (.cells #[.int .i64 wd, .slice Z zs.length zc] 27)), (w.heap.size, (mpBox m (.slice A cs.length c)))]) (by (repeat (with_reducible first | exact HR.out | apply Frm.drew | apply Frm.alloc | apply Frm.drewN))))) hf).mono ?_; rintro e wa ⟨rfl, hba⟩; have HRq := Lib.hid (Frm.below (w := w) (bs := [(w.heap.size + 1, (.cells #[.int .i64 wd, .slice Z zs.length zc] 27)), (w.heap.size, (mpBox m (.slice A cs.length c)))]) (by (repeat (with_reducible first | exact HR.out | apply Frm.drew | apply Frm.alloc | apply Frm.drewN))) hba); clear HR; have HR := HRq; clear HRq hba; have x0 := HR.out.cells (List.mem_cons_self ..); have x1 := HR.out.cells (List.mem_cons_of_mem _ (List.mem_cons_self ..))))
  go_region_held3 (fun w' => (∀ o, w'.cell? ⟨w.heap.size + 1, o, none⟩ = #[Value.int .i64 wd, .slice Z zs.length zc][o]?) ∧ (∀ o, w'.cell? ⟨w.heap.size, o, none⟩ = #[Value.int .i64 m.wd, .int .i64 m.rw, .int .i64 m.sl, (.slice A cs.length c)][o]?)) ((exact (fun hF : Frm w [(w.heap.size + 1, (.cells #[.int .i64 wd, .slice Z zs.length zc] 27)), (w.heap.size, (mpBox m (.slice A cs.length c)))] _ => ⟨hF.cells (List.mem_cons_self ..), hF.cells (List.mem_cons_of_mem _ (List.mem_cons_self ..))⟩) (by (repeat (with_reducible first | exact HR.out | apply Frm.drew | apply Frm.alloc | apply Frm.drewN))))) (first | (go_at_call 37; refine (look_any m A cs.length c _).mono ?_; rintro e wa ⟨rfl, hba⟩; have HRq := Lib.hid (Frm.below (w := w) (bs := [(w.heap.size + 1, (.cells #[.int .i64 wd, .slice Z zs.length zc] 27)), (w.heap.size, (mpBox m (.slice A cs.length c)))]) (by (repeat (with_reducible first | exact HR.out | apply Frm.drew | apply Frm.alloc | apply Frm.drewN))) hba); clear HR; have HR := HRq; clear HRq hba; have x0 := HR.out.cells (List.mem_cons_self ..); have x1 := HR.out.cells (List.mem_cons_of_mem _ (List.mem_cons_self ..))) | (go_at_call 38; refine (fits_any m A c cs wd Z zc zs _ hs hf (HC0.out.below (Frm.b (w := w) (bs := [(w.heap.size + 1, (.cells #[.int .i64 wd, .slice Z zs.length zc] 27)), (w.heap.size, (mpBox m (.slice A cs.length c)))]) (by (repeat (with_reducible first | exact HR.out | apply Frm.drew | apply Frm.alloc | apply Frm.drewN))))) (HZ0.out.below (Frm.b (w := w) (bs := [(w.heap.size + 1, (.cells #[.int .i64 wd, .slice Z zs.length zc] 27)), (w.heap.size, (mpBox m (.slice A cs.length c)))]) (by (repeat (with_reducible first | exact HR.out | apply Frm.drew | apply Frm.alloc | apply Frm.drewN)))))).mono ?_; rintro e wa ⟨rfl, hba⟩; have HRq := Lib.hid (Frm.below (w := w) (bs := [(w.heap.size + 1, (.cells #[.int .i64 wd, .slice Z zs.length zc] 27)), (w.heap.size, (mpBox m (.slice A cs.length c)))]) (by (repeat (with_reducible first | exact HR.out | apply Frm.drew | apply Frm.alloc | apply Frm.drewN))) hba); clear HR; have HR := HRq; clear HRq hba; have x0 := HR.out.cells (List.mem_cons_self ..); have x1 := HR.out.cells (List.mem_cons_of_mem _ (List.mem_cons_self ..))))
  all_goals
    go_wp2_with fail
    go_ret2
    exact ⟨rfl, (Frm.b (w := w) (bs := [(w.heap.size + 1, (.cells #[.int .i64 wd, .slice Z zs.length zc] 27)), (w.heap.size, (mpBox m (.slice A cs.length c)))]) (by (repeat (with_reducible first | exact HR.out | apply Frm.drew | apply Frm.alloc | apply Frm.drewN))))⟩
end Go.Proofs.YtaolfdgkflfekaaGreatDoor
