/- The law's function possible; fields as defined. -/
import Derived.Test.YtaolfdgkflfekaaGreatDoorCfg
import Derived.Test.YtaolfdgkflfekaaGreatDoorKi
set_option linter.unusedVariables false
set_option linter.unusedSimpArgs false
namespace Go.Proofs.YtaolfdgkflfekaaGreatDoor
open Go.RowKit
open Go.Maps
set_option maxHeartbeats 2000000 in
theorem lposs_is {m : Mp} {A : Option Addr} {c : Nat} {cs : List Sta} {b : Bool} {w : World} (hc : Stas w (.slice A cs.length c) cs) (h : (decide (cs.length ≤ 16) && mapB m cs && agB m cs) = b) :
    Calls Tryz.prog 19 #[mpV m (.slice A cs.length c)] w fun e w' => e = .returned (.bool b) ∧ Below w.heap.size w w' := by
  have HC0 := Lib.hid hc
  clear hc
  have HR := Lib.hid ((Frm.nil w).add (mpBox m (.slice A cs.length c)) rfl)
  have x0 := HR.out.cells (List.mem_cons_self ..)
  by_cases h16 : cs.length ≤ 16
  rotate_left
  · have hb := decide_eq_false h16
    obtain rfl : false = b := by rw [← h, hb]; rfl
    go_enter Tryz.func19, Tryz.ntmps19
    go_wp2_with ((go_at_call 10; refine (short_is hb _).mono ?_; rintro e wa ⟨rfl, hba⟩; have HRq := Lib.hid (Frm.below (w := w) (bs := [(w.heap.size, (mpBox m (.slice A cs.length c)))]) (by (repeat (with_reducible first | exact HR.out | apply Frm.drew | apply Frm.alloc | apply Frm.drewN))) hba); clear HR; have HR := HRq; clear HRq hba; have x0 := HR.out.cells (List.mem_cons_self ..)))
    go_ret
    exact ⟨rfl, (Frm.b (w := w) (bs := [(w.heap.size, (mpBox m (.slice A cs.length c)))]) (by (repeat (with_reducible first | exact HR.out | apply Frm.drew | apply Frm.alloc | apply Frm.drewN))))⟩
  have hb := decide_eq_true h16
  cases hs : mapB m cs
  · obtain rfl : false = b := by rw [← h, hb, hs]; rfl
    go_enter Tryz.func19, Tryz.ntmps19
    go_wp2_with (first | (go_at_call 10; refine (short_is hb _).mono ?_; rintro e wa ⟨rfl, hba⟩; have HRq := Lib.hid (Frm.below (w := w) (bs := [(w.heap.size, (mpBox m (.slice A cs.length c)))]) (by (repeat (with_reducible first | exact HR.out | apply Frm.drew | apply Frm.alloc | apply Frm.drewN))) hba); clear HR; have HR := HRq; clear HRq hba; have x0 := HR.out.cells (List.mem_cons_self ..)) | (go_at_call 14; refine (rMap_is (HC0.out.below (Frm.b (w := w) (bs := [(w.heap.size, (mpBox m (.slice A cs.length c)))]) (by (repeat (with_reducible first | exact HR.out | apply Frm.drew | apply Frm.alloc | apply Frm.drewN))))) hs).mono ?_; rintro e wa ⟨rfl, hba⟩; have HRq := Lib.hid (Frm.below (w := w) (bs := [(w.heap.size, (mpBox m (.slice A cs.length c)))]) (by (repeat (with_reducible first | exact HR.out | apply Frm.drew | apply Frm.alloc | apply Frm.drewN))) hba); clear HR; have HR := HRq; clear HRq hba; have x0 := HR.out.cells (List.mem_cons_self ..)))
    go_ret
    exact ⟨rfl, (Frm.b (w := w) (bs := [(w.heap.size, (mpBox m (.slice A cs.length c)))]) (by (repeat (with_reducible first | exact HR.out | apply Frm.drew | apply Frm.alloc | apply Frm.drewN))))⟩
  have hsa := mapB_iff.1 hs
  cases ha : agB m cs
  · obtain rfl : false = b := by rw [← h, hb, hs, ha]; rfl
    go_enter Tryz.func19, Tryz.ntmps19
    go_wp2_with (first | (go_at_call 10; refine (short_is hb _).mono ?_; rintro e wa ⟨rfl, hba⟩; have HRq := Lib.hid (Frm.below (w := w) (bs := [(w.heap.size, (mpBox m (.slice A cs.length c)))]) (by (repeat (with_reducible first | exact HR.out | apply Frm.drew | apply Frm.alloc | apply Frm.drewN))) hba); clear HR; have HR := HRq; clear HRq hba; have x0 := HR.out.cells (List.mem_cons_self ..)) | (go_at_call 14; refine (rMap_is (HC0.out.below (Frm.b (w := w) (bs := [(w.heap.size, (mpBox m (.slice A cs.length c)))]) (by (repeat (with_reducible first | exact HR.out | apply Frm.drew | apply Frm.alloc | apply Frm.drewN))))) hs).mono ?_; rintro e wa ⟨rfl, hba⟩; have HRq := Lib.hid (Frm.below (w := w) (bs := [(w.heap.size, (mpBox m (.slice A cs.length c)))]) (by (repeat (with_reducible first | exact HR.out | apply Frm.drew | apply Frm.alloc | apply Frm.drewN))) hba); clear HR; have HR := HRq; clear HRq hba; have x0 := HR.out.cells (List.mem_cons_self ..)) | (go_at_call 47; refine (rPossible_is hsa (HC0.out.below (Frm.b (w := w) (bs := [(w.heap.size, (mpBox m (.slice A cs.length c)))]) (by (repeat (with_reducible first | exact HR.out | apply Frm.drew | apply Frm.alloc | apply Frm.drewN))))) ha).mono ?_; rintro e wa ⟨rfl, hba⟩; have HRq := Lib.hid (Frm.below (w := w) (bs := [(w.heap.size, (mpBox m (.slice A cs.length c)))]) (by (repeat (with_reducible first | exact HR.out | apply Frm.drew | apply Frm.alloc | apply Frm.drewN))) hba); clear HR; have HR := HRq; clear HRq hba; have x0 := HR.out.cells (List.mem_cons_self ..)))
    go_ret
    exact ⟨rfl, (Frm.b (w := w) (bs := [(w.heap.size, (mpBox m (.slice A cs.length c)))]) (by (repeat (with_reducible first | exact HR.out | apply Frm.drew | apply Frm.alloc | apply Frm.drewN))))⟩
  · obtain rfl : true = b := by rw [← h, hb, hs, ha]; rfl
    go_enter Tryz.func19, Tryz.ntmps19
    go_wp2_with (first | (go_at_call 10; refine (short_is hb _).mono ?_; rintro e wa ⟨rfl, hba⟩; have HRq := Lib.hid (Frm.below (w := w) (bs := [(w.heap.size, (mpBox m (.slice A cs.length c)))]) (by (repeat (with_reducible first | exact HR.out | apply Frm.drew | apply Frm.alloc | apply Frm.drewN))) hba); clear HR; have HR := HRq; clear HRq hba; have x0 := HR.out.cells (List.mem_cons_self ..)) | (go_at_call 14; refine (rMap_is (HC0.out.below (Frm.b (w := w) (bs := [(w.heap.size, (mpBox m (.slice A cs.length c)))]) (by (repeat (with_reducible first | exact HR.out | apply Frm.drew | apply Frm.alloc | apply Frm.drewN))))) hs).mono ?_; rintro e wa ⟨rfl, hba⟩; have HRq := Lib.hid (Frm.below (w := w) (bs := [(w.heap.size, (mpBox m (.slice A cs.length c)))]) (by (repeat (with_reducible first | exact HR.out | apply Frm.drew | apply Frm.alloc | apply Frm.drewN))) hba); clear HR; have HR := HRq; clear HRq hba; have x0 := HR.out.cells (List.mem_cons_self ..)) | (go_at_call 47; refine (rPossible_is hsa (HC0.out.below (Frm.b (w := w) (bs := [(w.heap.size, (mpBox m (.slice A cs.length c)))]) (by (repeat (with_reducible first | exact HR.out | apply Frm.drew | apply Frm.alloc | apply Frm.drewN))))) ha).mono ?_; rintro e wa ⟨rfl, hba⟩; have HRq := Lib.hid (Frm.below (w := w) (bs := [(w.heap.size, (mpBox m (.slice A cs.length c)))]) (by (repeat (with_reducible first | exact HR.out | apply Frm.drew | apply Frm.alloc | apply Frm.drewN))) hba); clear HR; have HR := HRq; clear HRq hba; have x0 := HR.out.cells (List.mem_cons_self ..)))
    go_ret
    exact ⟨rfl, (Frm.b (w := w) (bs := [(w.heap.size, (mpBox m (.slice A cs.length c)))]) (by (repeat (with_reducible first | exact HR.out | apply Frm.drew | apply Frm.alloc | apply Frm.drewN))))⟩
/-- A field as defined: what a map's size allows. -/
theorem fieldB_row {m : Mp} (hm : m.Ok) {N : Nat} (hN : m.wd * m.rw = (N : Int)) (f : Nat → Int) (hf : ∀ p : Nat, p < N → 0 ≤ f p ∧ f p ≤ 99999) : fieldB m.wd (rowZ f N) = true := by
  have w1 := hm.w1; have w2 := hm.w2; have r1 := hm.r1; have r2 := hm.r2
  simp only [fieldB, rowZ_len, Bool.and_eq_true, decide_eq_true_eq, List.all_eq_true, betw_iff]
  rw [← hN]
  refine ⟨⟨⟨⟨w1, w2⟩, Int.mul_emod_right _ _⟩, ?_⟩, fun z hz => ?_⟩
  · rw [Int.mul_ediv_cancel_left _ (by omega)]; exact ⟨r1, r2⟩
  · obtain ⟨p, hp⟩ := List.mem_iff_getElem?.1 hz
    have hl : p < N := by have := (List.getElem?_eq_some_iff.1 hp).1; rwa [rowZ_len] at this
    rw [rowZ_at hl] at hp
    obtain rfl : f p = z := by simpa using hp
    exact hf p hl
end Go.Proofs.YtaolfdgkflfekaaGreatDoor
