/- Which maps are possible, by the program. -/
import Derived.Test.YtpkmojcppdogkaaGreatDoorCb
set_option linter.unusedVariables false
set_option linter.unusedSimpArgs false
namespace Go.Proofs.YtpkmojcppdogkaaGreatDoor
open Go.RowKit
open Go.Maps
theorem Frm.put2 {w W : World} {bs : List (Nat × Obj)} {k : Nat} {t : TypeId} {a0 a1 : Value} (h : Frm w ((k, .cells #[a0, a1] t) :: bs) W) (hk : w.heap.size ≤ k) (hne : ∀ p ∈ bs, p.1 ≠ k) (v0 v1 : Value) :
    Frm w ((k, .cells #[v0, v1] t) :: bs) ((W.setCell ⟨k, 0, none⟩ v0).setCell ⟨k, 1, none⟩ v1) := by
  have := (h.put hk hne 0 v0).put hk hne 1 v1
  simpa using this
theorem Frm.put6 {w W : World} {bs : List (Nat × Obj)} {k : Nat} {t : TypeId} {a0 a1 a2 a3 a4 a5 : Value} (h : Frm w ((k, .cells #[a0, a1, a2, a3, a4, a5] t) :: bs) W) (hk : w.heap.size ≤ k) (hne : ∀ p ∈ bs, p.1 ≠ k) (v0 v1 v2 v3 v4 v5 : Value) :
    Frm w ((k, .cells #[v0, v1, v2, v3, v4, v5] t) :: bs) ((((((W.setCell ⟨k, 0, none⟩ v0).setCell ⟨k, 1, none⟩ v1).setCell ⟨k, 2, none⟩ v2).setCell ⟨k, 3, none⟩ v3).setCell ⟨k, 4, none⟩ v4).setCell ⟨k, 5, none⟩ v5) := by
  have := (((((h.put hk hne 0 v0).put hk hne 1 v1).put hk hne 2 v2).put hk hne 3 v3).put hk hne 4 v4).put hk hne 5 v5
  simpa using this
set_option maxHeartbeats 1000000 in
theorem possible_bad {m : Mp} {A : Option Addr} {c : Nat} {cs : List Sta} {w : World} (hc : Stas w (.slice A cs.length c) cs) (h : mapB m cs = false) :
    Calls Tryz.prog 52 #[mpV m (.slice A cs.length c)] w fun e w' => e = .returned (.tuple #[.agg #[.int .i64 0, .int .i64 0, .int .i64 0, .slice none 0 0, .int .i64 0, .int .i64 0], .int .i64 2]) ∧ Below w.heap.size w w' := by
  have HC0 := Lib.hid hc
  clear hc
  have HR := Lib.hid (((Frm.nil w).add (mpBox m (.slice A cs.length c)) rfl).add (k := w.heap.size + 1) (.cells #[.int .i64 0, .int .i64 0, .int .i64 0, .slice none 0 0, .int .i64 0, .int .i64 0] 87) (by simp))
  have x0 := HR.out.cells (List.mem_cons_self ..)
  have x1 := HR.out.cells (List.mem_cons_of_mem _ (List.mem_cons_self ..))
  go_enter Tryz.func52, Tryz.ntmps52
  go_wp2_with ((go_at_call 48; refine (soundMap_is (HC0.out.below (Frm.b (w := w) (bs := [(w.heap.size + 1, (.cells #[.int .i64 0, .int .i64 0, .int .i64 0, .slice none 0 0, .int .i64 0, .int .i64 0] 87)), (w.heap.size, (mpBox m (.slice A cs.length c)))]) (by (repeat (with_reducible first | exact HR.out | apply Frm.drew | apply Frm.alloc | apply Frm.drewN))))) h).mono ?_; rintro e wa ⟨rfl, hba⟩; have HRq := Lib.hid (Frm.below (w := w) (bs := [(w.heap.size + 1, (.cells #[.int .i64 0, .int .i64 0, .int .i64 0, .slice none 0 0, .int .i64 0, .int .i64 0] 87)), (w.heap.size, (mpBox m (.slice A cs.length c)))]) (by (repeat (with_reducible first | exact HR.out | apply Frm.drew | apply Frm.alloc | apply Frm.drewN))) hba); clear HR; have HR := HRq; clear HRq hba; have x0 := HR.out.cells (List.mem_cons_self ..); have x1 := HR.out.cells (List.mem_cons_of_mem _ (List.mem_cons_self ..)); have f0 := HR.out.free (List.mem_cons_self ..); have l0 := HR.out.lt (List.mem_cons_self ..); have f1 := HR.out.free (List.mem_cons_of_mem _ (List.mem_cons_self ..)); have l1 := HR.out.lt (List.mem_cons_of_mem _ (List.mem_cons_self ..))))
  have hF := Frm.put6 HR.out (by omega) (by simp <;> omega) (.int .i64 0) (.int .i64 0) (.int .i64 0) (.slice none 0 0) (.int .i64 0) (.int .i64 0)
  have u0 := hF.cells (List.mem_cons_self ..)
  exact bodyPost_ret (v := .tuple #[.agg #[.int .i64 0, .int .i64 0, .int .i64 0, .slice none 0 0, .int .i64 0, .int .i64 0], .int .i64 2]) (by simp [results, Tryz.results52, go_sem, u0]) rfl ⟨rfl, hF.b⟩
set_option maxHeartbeats 1000000 in
theorem possible_ok {m : Mp} {A : Option Addr} {c : Nat} {cs : List Sta} {w : World} (hc : Stas w (.slice A cs.length c) cs) (hs : Sane m cs) (hx : Agreed m cs) :
    Calls Tryz.prog 52 #[mpV m (.slice A cs.length c)] w fun e w' => e = .returned (.tuple #[viewV m.wd m.rw m.sl (.slice A cs.length c), .int .i64 0]) ∧ Below w.heap.size w w' := by
  have HC0 := Lib.hid hc
  clear hc
  have HR := Lib.hid (((Frm.nil w).add (mpBox m (.slice A cs.length c)) rfl).add (k := w.heap.size + 1) (.cells #[.int .i64 0, .int .i64 0, .int .i64 0, .slice none 0 0, .int .i64 0, .int .i64 0] 87) (by simp))
  have x0 := HR.out.cells (List.mem_cons_self ..)
  have x1 := HR.out.cells (List.mem_cons_of_mem _ (List.mem_cons_self ..))
  go_enter Tryz.func52, Tryz.ntmps52
  go_upto_region 4 with (first | (go_at_call 48; refine (soundMap_is (HC0.out.below (Frm.b (w := w) (bs := [(w.heap.size + 1, (.cells #[.int .i64 0, .int .i64 0, .int .i64 0, .slice none 0 0, .int .i64 0, .int .i64 0] 87)), (w.heap.size, (mpBox m (.slice A cs.length c)))]) (by (repeat (with_reducible first | exact HR.out | apply Frm.drew | apply Frm.alloc | apply Frm.drewN))))) (mapB_iff.2 hs)).mono ?_; rintro e wa ⟨rfl, hba⟩; have HRq := Lib.hid (Frm.below (w := w) (bs := [(w.heap.size + 1, (.cells #[.int .i64 0, .int .i64 0, .int .i64 0, .slice none 0 0, .int .i64 0, .int .i64 0] 87)), (w.heap.size, (mpBox m (.slice A cs.length c)))]) (by (repeat (with_reducible first | exact HR.out | apply Frm.drew | apply Frm.alloc | apply Frm.drewN))) hba); clear HR; have HR := HRq; clear HRq hba; have x0 := HR.out.cells (List.mem_cons_self ..); have x1 := HR.out.cells (List.mem_cons_of_mem _ (List.mem_cons_self ..)); have f0 := HR.out.free (List.mem_cons_self ..); have l0 := HR.out.lt (List.mem_cons_self ..); have f1 := HR.out.free (List.mem_cons_of_mem _ (List.mem_cons_self ..)); have l1 := HR.out.lt (List.mem_cons_of_mem _ (List.mem_cons_self ..))) | (go_at_call 50; refine (look_any m A cs.length c _).mono ?_; rintro e wa ⟨rfl, hba⟩; have HRq := Lib.hid (Frm.below (w := w) (bs := [(w.heap.size + 1, (.cells #[.int .i64 0, .int .i64 0, .int .i64 0, .slice none 0 0, .int .i64 0, .int .i64 0] 87)), (w.heap.size, (mpBox m (.slice A cs.length c)))]) (by (repeat (with_reducible first | exact HR.out | apply Frm.drew | apply Frm.alloc | apply Frm.drewN))) hba); clear HR; have HR := HRq; clear HRq hba; have x0 := HR.out.cells (List.mem_cons_self ..); have x1 := HR.out.cells (List.mem_cons_of_mem _ (List.mem_cons_self ..)); have f0 := HR.out.free (List.mem_cons_self ..); have l0 := HR.out.lt (List.mem_cons_self ..); have f1 := HR.out.free (List.mem_cons_of_mem _ (List.mem_cons_self ..)); have l1 := HR.out.lt (List.mem_cons_of_mem _ (List.mem_cons_self ..))))
  have hkw := HR.out.lt (List.mem_cons_self ..)
  have HRq := Lib.hid (HR.out.add (.cells #[.int .i64 m.wd, .int .i64 m.rw, .int .i64 m.sl, (.slice A cs.length c), .int .i64 m.wd, .int .i64 m.rw] 87) rfl)
  clear HR x0 x1 f0 f1 l0 l1
  have HR := HRq
  clear HRq
  have hlk := HR.out.size
  generalize hk0 : wa.heap.size = k0 at *
  have x0 := HR.out.cells (List.mem_cons_self ..)
  have x1 := HR.out.cells (List.mem_cons_of_mem _ (List.mem_cons_self ..))
  have x2 := HR.out.cells (List.mem_cons_of_mem _ (List.mem_cons_of_mem _ (List.mem_cons_self ..)))
  have l0 := HR.out.lt (List.mem_cons_self ..)
  have l1 := HR.out.lt (List.mem_cons_of_mem _ (List.mem_cons_self ..))
  clear hk0
  go_wp2_with (go_at_call 92; refine (clash_agreed m A c cs _ hs (HC0.out.below (Frm.b (w := w) (bs := [(k0, (.cells #[.int .i64 m.wd, .int .i64 m.rw, .int .i64 m.sl, (.slice A cs.length c), .int .i64 m.wd, .int .i64 m.rw] 87)), (w.heap.size + 1, (.cells #[.int .i64 0, .int .i64 0, .int .i64 0, .slice none 0 0, .int .i64 0, .int .i64 0] 87)), (w.heap.size, (mpBox m (.slice A cs.length c)))]) (by (repeat (with_reducible first | exact HR.out | apply Frm.drew | apply Frm.alloc | apply Frm.drewN))))) hx).mono ?_; rintro e wd ⟨rfl, hba⟩; have HRq := Lib.hid (Frm.below (w := w) (bs := [(k0, (.cells #[.int .i64 m.wd, .int .i64 m.rw, .int .i64 m.sl, (.slice A cs.length c), .int .i64 m.wd, .int .i64 m.rw] 87)), (w.heap.size + 1, (.cells #[.int .i64 0, .int .i64 0, .int .i64 0, .slice none 0 0, .int .i64 0, .int .i64 0] 87)), (w.heap.size, (mpBox m (.slice A cs.length c)))]) (by (repeat (with_reducible first | exact HR.out | apply Frm.drew | apply Frm.alloc | apply Frm.drewN))) hba); clear HR; have HR := HRq; clear HRq hba; have x0 := HR.out.cells (List.mem_cons_self ..); have x1 := HR.out.cells (List.mem_cons_of_mem _ (List.mem_cons_self ..)); have x2 := HR.out.cells (List.mem_cons_of_mem _ (List.mem_cons_of_mem _ (List.mem_cons_self ..))); have f0 := HR.out.free (List.mem_cons_self ..); have l0 := HR.out.lt (List.mem_cons_self ..); have f1 := HR.out.free (List.mem_cons_of_mem _ (List.mem_cons_self ..)); have l1 := HR.out.lt (List.mem_cons_of_mem _ (List.mem_cons_self ..)); have f2 := HR.out.free (List.mem_cons_of_mem _ (List.mem_cons_of_mem _ (List.mem_cons_self ..))); have l2 := HR.out.lt (List.mem_cons_of_mem _ (List.mem_cons_of_mem _ (List.mem_cons_self ..))))
  have hF1 := (Frm.less (bs' := [(w.heap.size + 1, (.cells #[.int .i64 0, .int .i64 0, .int .i64 0, .slice none 0 0, .int .i64 0, .int .i64 0] 87)), (k0, (.cells #[.int .i64 m.wd, .int .i64 m.rw, .int .i64 m.sl, (.slice A cs.length c), .int .i64 m.wd, .int .i64 m.rw] 87)), (w.heap.size, (mpBox m (.slice A cs.length c)))]) HR.out (fun p hp => by simp only [List.mem_cons, List.not_mem_nil, or_false] at hp ⊢; rcases hp with rfl | rfl | rfl <;> simp))
  have hF := (Frm.put6 hF1 (by omega) (by simp <;> omega) (.int .i64 m.wd) (.int .i64 m.rw) (.int .i64 m.sl) (.slice A cs.length c) (.int .i64 m.wd) (.int .i64 m.rw)).alloc (.cells #[.int .i64 0, .int .i64 0] 128)
  have u0 := hF.cells (List.mem_cons_self ..)
  exact bodyPost_ret (v := .tuple #[viewV m.wd m.rw m.sl (.slice A cs.length c), .int .i64 0]) (by simp [results, Tryz.results52, go_sem, u0]) rfl ⟨rfl, hF.b⟩
set_option maxHeartbeats 1000000 in
theorem possible_rule {m : Mp} {A : Option Addr} {c : Nat} {cs : List Sta} {w : World} (hc : Stas w (.slice A cs.length c) cs) (hs : Sane m cs) {i j : Nat} (hx : First m cs i j) :
    Calls Tryz.prog 52 #[mpV m (.slice A cs.length c)] w fun e w' => e = .returned (.tuple #[.agg #[.int .i64 0, .int .i64 0, .int .i64 0, .slice none 0 0, .int .i64 0, .int .i64 0], .int .i64 7]) ∧ Below w.heap.size w w' := by
  have HC0 := Lib.hid hc
  clear hc
  have HR := Lib.hid (((Frm.nil w).add (mpBox m (.slice A cs.length c)) rfl).add (k := w.heap.size + 1) (.cells #[.int .i64 0, .int .i64 0, .int .i64 0, .slice none 0 0, .int .i64 0, .int .i64 0] 87) (by simp))
  have x0 := HR.out.cells (List.mem_cons_self ..)
  have x1 := HR.out.cells (List.mem_cons_of_mem _ (List.mem_cons_self ..))
  go_enter Tryz.func52, Tryz.ntmps52
  go_upto_region 4 with (first | (go_at_call 48; refine (soundMap_is (HC0.out.below (Frm.b (w := w) (bs := [(w.heap.size + 1, (.cells #[.int .i64 0, .int .i64 0, .int .i64 0, .slice none 0 0, .int .i64 0, .int .i64 0] 87)), (w.heap.size, (mpBox m (.slice A cs.length c)))]) (by (repeat (with_reducible first | exact HR.out | apply Frm.drew | apply Frm.alloc | apply Frm.drewN))))) (mapB_iff.2 hs)).mono ?_; rintro e wa ⟨rfl, hba⟩; have HRq := Lib.hid (Frm.below (w := w) (bs := [(w.heap.size + 1, (.cells #[.int .i64 0, .int .i64 0, .int .i64 0, .slice none 0 0, .int .i64 0, .int .i64 0] 87)), (w.heap.size, (mpBox m (.slice A cs.length c)))]) (by (repeat (with_reducible first | exact HR.out | apply Frm.drew | apply Frm.alloc | apply Frm.drewN))) hba); clear HR; have HR := HRq; clear HRq hba; have x0 := HR.out.cells (List.mem_cons_self ..); have x1 := HR.out.cells (List.mem_cons_of_mem _ (List.mem_cons_self ..)); have f0 := HR.out.free (List.mem_cons_self ..); have l0 := HR.out.lt (List.mem_cons_self ..); have f1 := HR.out.free (List.mem_cons_of_mem _ (List.mem_cons_self ..)); have l1 := HR.out.lt (List.mem_cons_of_mem _ (List.mem_cons_self ..))) | (go_at_call 50; refine (look_any m A cs.length c _).mono ?_; rintro e wa ⟨rfl, hba⟩; have HRq := Lib.hid (Frm.below (w := w) (bs := [(w.heap.size + 1, (.cells #[.int .i64 0, .int .i64 0, .int .i64 0, .slice none 0 0, .int .i64 0, .int .i64 0] 87)), (w.heap.size, (mpBox m (.slice A cs.length c)))]) (by (repeat (with_reducible first | exact HR.out | apply Frm.drew | apply Frm.alloc | apply Frm.drewN))) hba); clear HR; have HR := HRq; clear HRq hba; have x0 := HR.out.cells (List.mem_cons_self ..); have x1 := HR.out.cells (List.mem_cons_of_mem _ (List.mem_cons_self ..)); have f0 := HR.out.free (List.mem_cons_self ..); have l0 := HR.out.lt (List.mem_cons_self ..); have f1 := HR.out.free (List.mem_cons_of_mem _ (List.mem_cons_self ..)); have l1 := HR.out.lt (List.mem_cons_of_mem _ (List.mem_cons_self ..))))
  have hkw := HR.out.lt (List.mem_cons_self ..)
  have HRq := Lib.hid (HR.out.add (.cells #[.int .i64 m.wd, .int .i64 m.rw, .int .i64 m.sl, (.slice A cs.length c), .int .i64 m.wd, .int .i64 m.rw] 87) rfl)
  clear HR x0 x1 f0 f1 l0 l1
  have HR := HRq
  clear HRq
  have hlk := HR.out.size
  generalize hk0 : wa.heap.size = k0 at *
  have x0 := HR.out.cells (List.mem_cons_self ..)
  have x1 := HR.out.cells (List.mem_cons_of_mem _ (List.mem_cons_self ..))
  have x2 := HR.out.cells (List.mem_cons_of_mem _ (List.mem_cons_of_mem _ (List.mem_cons_self ..)))
  have l0 := HR.out.lt (List.mem_cons_self ..)
  have l1 := HR.out.lt (List.mem_cons_of_mem _ (List.mem_cons_self ..))
  clear hk0
  go_wp2_with (go_at_call 92; refine (clash_first m A c cs _ hs (HC0.out.below (Frm.b (w := w) (bs := [(k0, (.cells #[.int .i64 m.wd, .int .i64 m.rw, .int .i64 m.sl, (.slice A cs.length c), .int .i64 m.wd, .int .i64 m.rw] 87)), (w.heap.size + 1, (.cells #[.int .i64 0, .int .i64 0, .int .i64 0, .slice none 0 0, .int .i64 0, .int .i64 0] 87)), (w.heap.size, (mpBox m (.slice A cs.length c)))]) (by (repeat (with_reducible first | exact HR.out | apply Frm.drew | apply Frm.alloc | apply Frm.drewN))))) hx).mono ?_; rintro e wd ⟨rfl, hba⟩; have HRq := Lib.hid (Frm.below (w := w) (bs := [(k0, (.cells #[.int .i64 m.wd, .int .i64 m.rw, .int .i64 m.sl, (.slice A cs.length c), .int .i64 m.wd, .int .i64 m.rw] 87)), (w.heap.size + 1, (.cells #[.int .i64 0, .int .i64 0, .int .i64 0, .slice none 0 0, .int .i64 0, .int .i64 0] 87)), (w.heap.size, (mpBox m (.slice A cs.length c)))]) (by (repeat (with_reducible first | exact HR.out | apply Frm.drew | apply Frm.alloc | apply Frm.drewN))) hba); clear HR; have HR := HRq; clear HRq hba; have x0 := HR.out.cells (List.mem_cons_self ..); have x1 := HR.out.cells (List.mem_cons_of_mem _ (List.mem_cons_self ..)); have x2 := HR.out.cells (List.mem_cons_of_mem _ (List.mem_cons_of_mem _ (List.mem_cons_self ..))); have f0 := HR.out.free (List.mem_cons_self ..); have l0 := HR.out.lt (List.mem_cons_self ..); have f1 := HR.out.free (List.mem_cons_of_mem _ (List.mem_cons_self ..)); have l1 := HR.out.lt (List.mem_cons_of_mem _ (List.mem_cons_self ..)); have f2 := HR.out.free (List.mem_cons_of_mem _ (List.mem_cons_of_mem _ (List.mem_cons_self ..))); have l2 := HR.out.lt (List.mem_cons_of_mem _ (List.mem_cons_of_mem _ (List.mem_cons_self ..))))
  have hF1 := (Frm.less (bs' := [(w.heap.size + 1, (.cells #[.int .i64 0, .int .i64 0, .int .i64 0, .slice none 0 0, .int .i64 0, .int .i64 0] 87)), (k0, (.cells #[.int .i64 m.wd, .int .i64 m.rw, .int .i64 m.sl, (.slice A cs.length c), .int .i64 m.wd, .int .i64 m.rw] 87)), (w.heap.size, (mpBox m (.slice A cs.length c)))]) HR.out (fun p hp => by simp only [List.mem_cons, List.not_mem_nil, or_false] at hp ⊢; rcases hp with rfl | rfl | rfl <;> simp))
  have hF := (Frm.put6 hF1 (by omega) (by simp <;> omega) (.int .i64 0) (.int .i64 0) (.int .i64 0) (.slice none 0 0) (.int .i64 0) (.int .i64 0)).alloc (.cells #[.int .i64 i, .int .i64 j] 128)
  have u0 := hF.cells (List.mem_cons_self ..)
  exact bodyPost_ret (v := .tuple #[.agg #[.int .i64 0, .int .i64 0, .int .i64 0, .slice none 0 0, .int .i64 0, .int .i64 0], .int .i64 7]) (by simp [results, Tryz.results52, go_sem, u0]) rfl ⟨rfl, hF.b⟩
end Go.Proofs.YtpkmojcppdogkaaGreatDoor
