/- The law ChartSharp, walked. -/
import Derived.Test.YtaolfdgkflfekaaGreatDoorLpo
import Derived.Test.YtaolfdgkflfekaaGreatDoorRwb
set_option linter.unusedVariables false
set_option linter.unusedSimpArgs false
namespace Go.Proofs.YtaolfdgkflfekaaGreatDoor
open Go.RowKit
open Go.Maps
set_option maxHeartbeats 8000000 in
set_option maxRecDepth 100000 in
theorem lawChartSharp {m : Mp} {A : Option Addr} {c : Nat} {cs : List Sta} {p q : Int} {w : World} (hc : Stas w (.slice A cs.length c) cs) (ht : Tab w) :
    Calls Tryz.prog 5 #[mpV m (.slice A cs.length c), .int .i64 p, .int .i64 q] w fun e w' => e = .returned (.bool true) ∧ Below w.heap.size w w' := by
  have HC0 := Lib.hid hc
  have HT := Lib.hid ht
  clear hc ht
  have HR := Lib.hid ((Frm.nil w).add (mpBox m (.slice A cs.length c)) rfl)
  have x0 := HR.out.cells (List.mem_cons_self ..)
  cases hpo : (decide (cs.length ≤ 16) && mapB m cs && agB m cs)
  · go_enter Tryz.func5, Tryz.ntmps5
    go_wp2_with (first | (go_at_call 19; refine (lposs_is (HC0.out.below (Frm.b (w := w) (bs := [(w.heap.size, (mpBox m (.slice A cs.length c)))]) (by (repeat (with_reducible first | exact HR.out | apply Frm.drew | apply Frm.alloc | apply Frm.drewN))))) hpo).mono ?_; rintro e wa ⟨rfl, hba⟩; have HRq := Lib.hid (Frm.below (w := w) (bs := [(w.heap.size, (mpBox m (.slice A cs.length c)))]) (by (repeat (with_reducible first | exact HR.out | apply Frm.drew | apply Frm.alloc | apply Frm.drewN))) hba); clear HR; have HR := HRq; clear HRq hba; have x0 := HR.out.cells (List.mem_cons_self ..)) | (go_at_call 12; refine (GX.known_true _ (HT.out.below (Frm.b (w := w) (bs := [(w.heap.size, (mpBox m (.slice A cs.length c)))]) (by (repeat (with_reducible first | exact HR.out | apply Frm.drew | apply Frm.alloc | apply Frm.drewN)))))).mono ?_; rintro e wa ⟨rfl, hba⟩; have HRq := Lib.hid (Frm.below (w := w) (bs := [(w.heap.size, (mpBox m (.slice A cs.length c)))]) (by (repeat (with_reducible first | exact HR.out | apply Frm.drew | apply Frm.alloc | apply Frm.drewN))) hba); clear HR; have HR := HRq; clear HRq hba))
    go_ret
    exact ⟨rfl, (Frm.b (w := w) (bs := [(w.heap.size, (mpBox m (.slice A cs.length c)))]) (by (repeat (with_reducible first | exact HR.out | apply Frm.drew | apply Frm.alloc | apply Frm.drewN))))⟩
  have hpo' := hpo
  simp only [Bool.and_eq_true] at hpo'
  have hsa := mapB_iff.1 hpo'.1.2
  have hx := agB_iff.1 hpo'.2
  clear hpo'
  have a1 := hsa.ok.a1; have a2 := hsa.ok.a2
  have HPT : Hid (∀ W, Calls Tryz.prog 20 #[mpV m (.slice A cs.length c), .int .i64 p] W fun e w' => e = .returned (.bool (betw p 0 (m.wd * m.rw - 1))) ∧ Below W.heap.size W w') := Lib.hid (fun W => rPoint_any m hsa.ok (.slice A cs.length c) p W)
  cases hp : betw p 0 (m.wd * m.rw - 1)
  · rw [hp] at HPT
    go_enter Tryz.func5, Tryz.ntmps5
    go_wp2_with (first | (go_at_call 19; refine (lposs_is (HC0.out.below (Frm.b (w := w) (bs := [(w.heap.size, (mpBox m (.slice A cs.length c)))]) (by (repeat (with_reducible first | exact HR.out | apply Frm.drew | apply Frm.alloc | apply Frm.drewN))))) hpo).mono ?_; rintro e wa ⟨rfl, hba⟩; have HRq := Lib.hid (Frm.below (w := w) (bs := [(w.heap.size, (mpBox m (.slice A cs.length c)))]) (by (repeat (with_reducible first | exact HR.out | apply Frm.drew | apply Frm.alloc | apply Frm.drewN))) hba); clear HR; have HR := HRq; clear HRq hba; have x0 := HR.out.cells (List.mem_cons_self ..)) | (go_at_call 20; refine (HPT.out _).mono ?_; rintro e wa ⟨rfl, hba⟩; have HRq := Lib.hid (Frm.below (w := w) (bs := [(w.heap.size, (mpBox m (.slice A cs.length c)))]) (by (repeat (with_reducible first | exact HR.out | apply Frm.drew | apply Frm.alloc | apply Frm.drewN))) hba); clear HR x0; have HR := HRq; clear HRq hba; have x0 := HR.out.cells (List.mem_cons_self ..)) | (go_at_call 12; refine (GX.known_true _ (HT.out.below (Frm.b (w := w) (bs := [(w.heap.size, (mpBox m (.slice A cs.length c)))]) (by (repeat (with_reducible first | exact HR.out | apply Frm.drew | apply Frm.alloc | apply Frm.drewN)))))).mono ?_; rintro e wa ⟨rfl, hba⟩; have HRq := Lib.hid (Frm.below (w := w) (bs := [(w.heap.size, (mpBox m (.slice A cs.length c)))]) (by (repeat (with_reducible first | exact HR.out | apply Frm.drew | apply Frm.alloc | apply Frm.drewN))) hba); clear HR; have HR := HRq; clear HRq hba))
    go_ret
    exact ⟨rfl, (Frm.b (w := w) (bs := [(w.heap.size, (mpBox m (.slice A cs.length c)))]) (by (repeat (with_reducible first | exact HR.out | apply Frm.drew | apply Frm.alloc | apply Frm.drewN))))⟩
  rw [hp] at HPT
  by_cases hq0 : q < 0
  · go_enter Tryz.func5, Tryz.ntmps5
    go_wp2_with (first | (go_at_call 19; refine (lposs_is (HC0.out.below (Frm.b (w := w) (bs := [(w.heap.size, (mpBox m (.slice A cs.length c)))]) (by (repeat (with_reducible first | exact HR.out | apply Frm.drew | apply Frm.alloc | apply Frm.drewN))))) hpo).mono ?_; rintro e wa ⟨rfl, hba⟩; have HRq := Lib.hid (Frm.below (w := w) (bs := [(w.heap.size, (mpBox m (.slice A cs.length c)))]) (by (repeat (with_reducible first | exact HR.out | apply Frm.drew | apply Frm.alloc | apply Frm.drewN))) hba); clear HR; have HR := HRq; clear HRq hba; have x0 := HR.out.cells (List.mem_cons_self ..)) | (go_at_call 20; refine (HPT.out _).mono ?_; rintro e wa ⟨rfl, hba⟩; have HRq := Lib.hid (Frm.below (w := w) (bs := [(w.heap.size, (mpBox m (.slice A cs.length c)))]) (by (repeat (with_reducible first | exact HR.out | apply Frm.drew | apply Frm.alloc | apply Frm.drewN))) hba); clear HR x0; have HR := HRq; clear HRq hba; have x0 := HR.out.cells (List.mem_cons_self ..)) | (go_at_call 12; refine (GX.known_true _ (HT.out.below (Frm.b (w := w) (bs := [(w.heap.size, (mpBox m (.slice A cs.length c)))]) (by (repeat (with_reducible first | exact HR.out | apply Frm.drew | apply Frm.alloc | apply Frm.drewN)))))).mono ?_; rintro e wa ⟨rfl, hba⟩; have HRq := Lib.hid (Frm.below (w := w) (bs := [(w.heap.size, (mpBox m (.slice A cs.length c)))]) (by (repeat (with_reducible first | exact HR.out | apply Frm.drew | apply Frm.alloc | apply Frm.drewN))) hba); clear HR; have HR := HRq; clear HRq hba))
    go_ret
    exact ⟨rfl, (Frm.b (w := w) (bs := [(w.heap.size, (mpBox m (.slice A cs.length c)))]) (by (repeat (with_reducible first | exact HR.out | apply Frm.drew | apply Frm.alloc | apply Frm.drewN))))⟩
  by_cases hq100 : 100 < q
  · go_enter Tryz.func5, Tryz.ntmps5
    go_wp2_with (first | (go_at_call 19; refine (lposs_is (HC0.out.below (Frm.b (w := w) (bs := [(w.heap.size, (mpBox m (.slice A cs.length c)))]) (by (repeat (with_reducible first | exact HR.out | apply Frm.drew | apply Frm.alloc | apply Frm.drewN))))) hpo).mono ?_; rintro e wa ⟨rfl, hba⟩; have HRq := Lib.hid (Frm.below (w := w) (bs := [(w.heap.size, (mpBox m (.slice A cs.length c)))]) (by (repeat (with_reducible first | exact HR.out | apply Frm.drew | apply Frm.alloc | apply Frm.drewN))) hba); clear HR; have HR := HRq; clear HRq hba; have x0 := HR.out.cells (List.mem_cons_self ..)) | (go_at_call 20; refine (HPT.out _).mono ?_; rintro e wa ⟨rfl, hba⟩; have HRq := Lib.hid (Frm.below (w := w) (bs := [(w.heap.size, (mpBox m (.slice A cs.length c)))]) (by (repeat (with_reducible first | exact HR.out | apply Frm.drew | apply Frm.alloc | apply Frm.drewN))) hba); clear HR x0; have HR := HRq; clear HRq hba; have x0 := HR.out.cells (List.mem_cons_self ..)) | (go_at_call 12; refine (GX.known_true _ (HT.out.below (Frm.b (w := w) (bs := [(w.heap.size, (mpBox m (.slice A cs.length c)))]) (by (repeat (with_reducible first | exact HR.out | apply Frm.drew | apply Frm.alloc | apply Frm.drewN)))))).mono ?_; rintro e wa ⟨rfl, hba⟩; have HRq := Lib.hid (Frm.below (w := w) (bs := [(w.heap.size, (mpBox m (.slice A cs.length c)))]) (by (repeat (with_reducible first | exact HR.out | apply Frm.drew | apply Frm.alloc | apply Frm.drewN))) hba); clear HR; have HR := HRq; clear HRq hba))
    go_ret
    exact ⟨rfl, (Frm.b (w := w) (bs := [(w.heap.size, (mpBox m (.slice A cs.length c)))]) (by (repeat (with_reducible first | exact HR.out | apply Frm.drew | apply Frm.alloc | apply Frm.drewN))))⟩
  obtain ⟨N, hN⟩ : ∃ N : Nat, ((m.wd * m.rw).toNat) = N := ⟨_, rfl⟩
  have hN' : m.wd * m.rw = (N : Int) := by omega
  have hN2 : N ≤ 30 := by omega
  have e1 : IntKind.i64.wrap (m.wd * m.rw) = (N : Int) := by rw [hN']; exact IntWalk.i64_in _ (by omega)
  have hpp := betw_iff.1 hp
  obtain ⟨pt, rfl⟩ : ∃ pt : Nat, p = pt := ⟨p.toNat, by omega⟩
  have hptN : pt < N := by omega
  have HNW := Lib.hid hN'
  have HNT := Lib.hid hN
  obtain ⟨fL, hfL⟩ : ∃ fL : Nat → Int, fL = fun p : Nat => lowestF m.wd m.sl p cs := ⟨_, rfl⟩
  obtain ⟨fH, hfH⟩ : ∃ fH : Nat → Int, fH = fun p : Nat => highestF m.wd m.sl p cs := ⟨_, rfl⟩
  have hLH : ∀ p, 0 ≤ fL p ∧ fL p ≤ fH p ∧ fH p ≤ 99999 := fun p => by rw [hfL, hfH]; exact ⟨low_ge0, low_le_high hx hsa p, high_le1⟩
  obtain ⟨lo, hlo⟩ : ∃ lo, fL pt = lo := ⟨_, rfl⟩
  obtain ⟨hi, hhi⟩ : ∃ hi, fH pt = hi := ⟨_, rfl⟩
  have hlh := hLH pt
  rw [hlo, hhi] at hlh
  obtain ⟨v, hv⟩ : ∃ v, v = lo + (hi - lo) * q / 100 := ⟨_, rfl⟩
  have hq1 : 0 ≤ (hi - lo) * q := Int.mul_nonneg (by omega) (by omega)
  have hq2 : (hi - lo) * q ≤ (hi - lo) * 100 := Int.mul_le_mul_of_nonneg_left (by omega) (by omega)
  have hvb : lo ≤ v ∧ v ≤ hi := by omega
  have e2 : IntKind.i64.wrap (hi - lo) = hi - lo := IntWalk.i64_in _ (by omega)
  have e3 : IntKind.i64.wrap ((hi - lo) * q) = (hi - lo) * q := IntWalk.i64_in _ (by omega)
  have e4 : ((hi - lo) * q).tdiv 100 = (hi - lo) * q / 100 := Int.tdiv_eq_ediv_of_nonneg hq1
  have e5 : IntKind.i64.wrap ((hi - lo) * q / 100) = (hi - lo) * q / 100 := IntWalk.i64_in _ (by omega)
  have e6 : IntKind.i64.wrap (lo + (hi - lo) * q / 100) = v := by rw [← hv]; exact IntWalk.i64_in _ (by omega)
  obtain ⟨fC, hfC⟩ : ∃ fC : Nat → Int, fC = fun p : Nat => min (fH p) (v + m.sl * distI m.wd pt p) := ⟨_, rfl⟩
  have HFI1 := Lib.hid (show fitsB m cs m.wd (rowZ fL N) = true from fitsB_iff.2 (by rw [hfL, ← hN]; exact fits_low hsa hx))
  have HFI2 := Lib.hid (show fitsB m cs m.wd (rowZ fH N) = true from fitsB_iff.2 (by rw [hfH, ← hN]; exact fits_high hsa hx))
  have HFI3 := Lib.hid (show fitsB m cs m.wd (rowZ fC N) = true from fitsB_iff.2 (by rw [hfC, hfH, ← hN]; exact fits_cone hsa hx (c := pt) (n := v) (by rw [hfL] at hlo; simp only at hlo; omega)))
  have HFB1 := Lib.hid (fieldB_row hsa.ok hN' fL fun p _ => by have := hLH p; omega)
  have HFB2 := Lib.hid (fieldB_row hsa.ok hN' fH fun p _ => by have := hLH p; omega)
  have hdn : ∀ p : Nat, 0 ≤ m.sl * distI m.wd pt p := fun p => sl_nonneg hsa.ok.s0
  have HFB3 := Lib.hid (fieldB_row hsa.ok hN' fC fun p _ => by have := hLH p; have := hdn p; rw [hfC]; simp only; omega)
  have HCP := Lib.hid (show fC pt = v by rw [hfC]; simp only; rw [dist_self, hhi]; omega)
  have HLH := Lib.hid hLH
  have HFC := Lib.hid hfC
  have HFL := Lib.hid hfL
  have HFH := Lib.hid hfH
  have HLO := Lib.hid hlo
  have HHI := Lib.hid hhi
  clear hLH hfC hfL hfH hdn hN' hq1 hq2 hv hN
  go_enter Tryz.func5, Tryz.ntmps5
  go_upto_region 4 with (first | (go_at_call 19; refine (lposs_is (HC0.out.below (Frm.b (w := w) (bs := [(w.heap.size, (mpBox m (.slice A cs.length c)))]) (by (repeat (with_reducible first | exact HR.out | apply Frm.drew | apply Frm.alloc | apply Frm.drewN))))) hpo).mono ?_; rintro e wa ⟨rfl, hba⟩; have HRq := Lib.hid (Frm.below (w := w) (bs := [(w.heap.size, (mpBox m (.slice A cs.length c)))]) (by (repeat (with_reducible first | exact HR.out | apply Frm.drew | apply Frm.alloc | apply Frm.drewN))) hba); clear HR; have HR := HRq; clear HRq hba; have x0 := HR.out.cells (List.mem_cons_self ..)) | (go_at_call 20; refine (HPT.out _).mono ?_; rintro e wa ⟨rfl, hba⟩; have HRq := Lib.hid (Frm.below (w := w) (bs := [(w.heap.size, (mpBox m (.slice A cs.length c)))]) (by (repeat (with_reducible first | exact HR.out | apply Frm.drew | apply Frm.alloc | apply Frm.drewN))) hba); clear HR x0; have HR := HRq; clear HRq hba; have x0 := HR.out.cells (List.mem_cons_self ..)) | (go_at_call 17; refine (cBounds_ok (HC0.out.below (Frm.b (w := w) (bs := [(w.heap.size, (mpBox m (.slice A cs.length c)))]) (by (repeat (with_reducible first | exact HR.out | apply Frm.drew | apply Frm.alloc | apply Frm.drewN))))) hsa hx).mono ?_; rintro e wa ⟨g1, cap1, cur1, rfl, hg1, hrow1, hbg1, hc1a, hc1b, hba⟩; have HRq := Lib.hid ((Frm.below (w := w) (bs := [(w.heap.size, (mpBox m (.slice A cs.length c)))]) (by (repeat (with_reducible first | exact HR.out | apply Frm.drew | apply Frm.alloc | apply Frm.drewN))) hba).more hg1); have HW1 := Lib.hid hrow1; clear HR x0 hg1 hrow1 hba; have HR := HRq; clear HRq; have x0 := HR.out.cells (List.mem_cons_self ..); have x1 := HR.out.cells (List.mem_cons_of_mem _ (List.mem_cons_self ..))))
  rw [HNT.out] at HW1 hc1a
  try rw [HNT.out]
  unfold maxLen at hc1b
  go_upto_region 6 with fail
  obtain ⟨d0, d1⟩ := HW1.out pt _ (rowP_at hptN)
  dsimp only [spF] at d0 d1
  have hd0 : cur1[pt * 2]? = some (.int .i64 lo) := by rw [d0, ← HLO.out, HFL.out]
  have hd1 : cur1[pt * 2 + 1]? = some (.int .i64 hi) := by rw [d1, ← HHI.out, HFH.out]
  clear d0 d1
  have hRW := HR.out
  obtain ⟨wb, hwb⟩ : ∃ wb, wb = wa := ⟨_, rfl⟩
  subst hwb
  have zg := HR.out.lt (List.mem_cons_self ..)
  have zw := HR.out.lt (List.mem_cons_of_mem _ (List.mem_cons_self ..))
  go_cut [9, 10, 11] (fun s9 s10 s11 wx => ∃ P Q R : Nat, s9 = .pointer (some ⟨P, 0, none⟩) ∧ s10 = .pointer (some ⟨Q, 0, none⟩) ∧ s11 = .pointer (some ⟨R, 0, none⟩) ∧ P ≠ Q ∧ P ≠ R ∧ Q ≠ R ∧ wb.heap.size ≤ P ∧ wb.heap.size ≤ Q ∧ wb.heap.size ≤ R ∧ Frm w [(P, (.cells #[.int .i64 m.wd, .slice none 0 0] 27)), (Q, (.cells #[.int .i64 m.wd, .slice none 0 0] 27)), (R, (.cells #[.int .i64 m.wd, .slice none 0 0] 27)), (g1, (.cells cur1 41)), (w.heap.size, (mpBox m (.slice A cs.length c)))] wx)
  case first =>
    have HRq := Lib.hid (RW.start HR.out)
    clear HR x0 x1
    have HR := HRq
    clear HRq hRW
    refine hw_start (S := fun w' => ∀ o, w'.cell? ⟨w.heap.size, o, none⟩ = #[Value.int .i64 m.wd, .int .i64 m.rw, .int .i64 m.sl, (.slice A cs.length c)][o]?) (by kernel_rfl) ((HR.out.drew.frm.cells (List.mem_cons_of_mem _ (List.mem_cons_self ..)))) ?_
    refine (fun (W1 : World) (hRn : RW w _ [(g1, (.cells cur1 41)), (w.heap.size, (mpBox m (.slice A cs.length c)))] [] W1) (hzW1 : Hid (W1.heap.size = wb.heap.size)) => (?_ : HW _ _ _ _ _ _ _ W1)) _ HR.out.drew (Lib.hid rfl)
    clear HR
    have HR := Lib.hid hRn
    clear hRn
    refine hw_pure (i := 0) (oi := ⟨some 56, _, _, _, _, _⟩) (v := ?v2) rfl (by kernel_rfl) (by kernel_rfl) (by kernel_rfl) (by kernel_rfl) (fun _ _ _ h => h) rfl (by kernel_rfl) ?hv2 ?rv2
    case hv2 => (intro w; go_simp) <;> (with_reducible rfl)
    try simp only [Act.put, List.setIfInBounds_toArray, List.set_cons_zero, List.set_cons_succ]
    refine hw_load (i := 1) (oi := ⟨some 57, _, _, _, _, _⟩) (v := ?v3) rfl (by kernel_rfl) (by kernel_rfl) (by kernel_rfl) (by kernel_rfl) (by kernel_rfl) (fun _ _ _ h => h) rfl (by kernel_rfl) ?hv3 ?rv3
    case hv3 => (intro w hSw; (try dsimp only at hSw); go_simp) <;> (with_reducible rfl)
    try simp only [Act.put, List.setIfInBounds_toArray, List.set_cons_zero, List.set_cons_succ]
    refine hw_pure (i := 2) (oi := ⟨some 58, _, _, _, _, _⟩) (v := ?v4) rfl (by kernel_rfl) (by kernel_rfl) (by kernel_rfl) (by kernel_rfl) (fun _ _ _ h => h) rfl (by kernel_rfl) ?hv4 ?rv4
    case hv4 => (intro w; go_simp) <;> (with_reducible rfl)
    try simp only [Act.put, List.setIfInBounds_toArray, List.set_cons_zero, List.set_cons_succ]
    refine hw_pure (i := 3) (oi := ⟨some 59, _, _, _, _, _⟩) (v := ?v5) rfl (by kernel_rfl) (by kernel_rfl) (by kernel_rfl) (by kernel_rfl) (fun _ _ _ h => h) rfl (by kernel_rfl) ?hv5 ?rv5
    case hv5 => (intro w; go_simp) <;> (with_reducible rfl)
    try simp only [Act.put, List.setIfInBounds_toArray, List.set_cons_zero, List.set_cons_succ]
    refine hw_load (i := 4) (oi := ⟨some 60, _, _, _, _, _⟩) (v := ?v6) rfl (by kernel_rfl) (by kernel_rfl) (by kernel_rfl) (by kernel_rfl) (by kernel_rfl) (fun _ _ _ h => h) rfl (by kernel_rfl) ?hv6 ?rv6
    case hv6 => (intro w hSw; (try dsimp only at hSw); go_simp) <;> (with_reducible rfl)
    try simp only [Act.put, List.setIfInBounds_toArray, List.set_cons_zero, List.set_cons_succ]
    refine hw_pure (i := 5) (oi := ⟨some 61, _, _, _, _, _⟩) (v := ?v7) rfl (by kernel_rfl) (by kernel_rfl) (by kernel_rfl) (by kernel_rfl) (fun _ _ _ h => h) rfl (by kernel_rfl) ?hv7 ?rv7
    case hv7 => (intro w; go_simp) <;> (with_reducible rfl)
    try simp only [Act.put, List.setIfInBounds_toArray, List.set_cons_zero, List.set_cons_succ]
    refine hw_pure (i := 6) (oi := ⟨some 62, _, _, _, _, _⟩) (v := ?v8) rfl (by kernel_rfl) (by kernel_rfl) (by kernel_rfl) (by kernel_rfl) (fun _ _ _ h => h) rfl (by kernel_rfl) ?hv8 ?rv8
    case hv8 => (intro w; go_simp) <;> (with_reducible rfl)
    try simp only [Act.put, List.setIfInBounds_toArray, List.set_cons_zero, List.set_cons_succ]
    refine hw_load (i := 7) (oi := ⟨some 63, _, _, _, _, _⟩) (v := ?v9) rfl (by kernel_rfl) (by kernel_rfl) (by kernel_rfl) (by kernel_rfl) (by kernel_rfl) (fun _ _ _ h => h) rfl (by kernel_rfl) ?hv9 ?rv9
    case hv9 => (intro w hSw; (try dsimp only at hSw); go_simp) <;> (with_reducible rfl)
    try simp only [Act.put, List.setIfInBounds_toArray, List.set_cons_zero, List.set_cons_succ]
    refine hw_pure (i := 8) (oi := ⟨some 64, _, _, _, _, _⟩) (v := ?v10) rfl (by kernel_rfl) (by kernel_rfl) (by kernel_rfl) (by kernel_rfl) (fun _ _ _ h => h) rfl (by kernel_rfl) ?hv10 ?rv10
    case hv10 => (intro w; go_simp) <;> (with_reducible rfl)
    try simp only [Act.put, List.setIfInBounds_toArray, List.set_cons_zero, List.set_cons_succ]
    refine hw_ready (rs := [9, 10, 11]) (by kernel_rfl) (by simp) ?_
    refine AllHW.cons (i := 9) (o := ⟨some 9, _, _, _, _, _⟩) rfl rfl (by kernel_rfl) (fun K hK => ?s11) ?ms11
    case s11 =>
      (try go_simp)
      refine (fun (W12 : World) (hRn : RW w _ [(W1.heap.size, (.cells #[.int .i64 0, .slice none 0 0] 27)), (g1, (.cells cur1 41)), (w.heap.size, (mpBox m (.slice A cs.length c)))] [] W12) (hzW12 : Hid (W12.heap.size = W1.heap.size + 1)) => hK.out _ W12 ((hRn.frm.cells (List.mem_cons_of_mem _ (List.mem_cons_of_mem _ (List.mem_cons_self ..))))) ?_) _ (HR.out.add (.cells #[.int .i64 0, .slice none 0 0] 27) rfl) (Lib.hid (by simp))
      clear HR
      have HR := Lib.hid hRn
      clear hRn
      refine hw_ready (rs := [10, 11]) (by kernel_rfl) (by simp) ?_
      refine AllHW.cons (i := 10) (o := ⟨some 10, _, _, _, _, _⟩) rfl rfl (by kernel_rfl) (fun K hK => ?s13) ?ms13
      case s13 =>
        (try go_simp)
        refine (fun (W14 : World) (hRn : RW w _ [(W12.heap.size, (.cells #[.int .i64 0, .slice none 0 0] 27)), (W1.heap.size, (.cells #[.int .i64 0, .slice none 0 0] 27)), (g1, (.cells cur1 41)), (w.heap.size, (mpBox m (.slice A cs.length c)))] [] W14) (hzW14 : Hid (W14.heap.size = W12.heap.size + 1)) => hK.out _ W14 ((hRn.frm.cells (List.mem_cons_of_mem _ (List.mem_cons_of_mem _ (List.mem_cons_of_mem _ (List.mem_cons_self ..)))))) ?_) _ (HR.out.add (.cells #[.int .i64 0, .slice none 0 0] 27) rfl) (Lib.hid (by simp))
        clear HR
        have HR := Lib.hid hRn
        clear hRn
        refine hw_ready (rs := [11]) (by kernel_rfl) (by simp) ?_
        refine AllHW.cons (i := 11) (o := ⟨some 11, _, _, _, _, _⟩) rfl rfl (by kernel_rfl) (fun K hK => ?s15) ?ms15
        case s15 =>
          (try go_simp)
          refine (fun (W16 : World) (hRn : RW w _ [(W14.heap.size, (.cells #[.int .i64 0, .slice none 0 0] 27)), (W12.heap.size, (.cells #[.int .i64 0, .slice none 0 0] 27)), (W1.heap.size, (.cells #[.int .i64 0, .slice none 0 0] 27)), (g1, (.cells cur1 41)), (w.heap.size, (mpBox m (.slice A cs.length c)))] [] W16) (hzW16 : Hid (W16.heap.size = W14.heap.size + 1)) => hK.out _ W16 ((hRn.frm.cells (List.mem_cons_of_mem _ (List.mem_cons_of_mem _ (List.mem_cons_of_mem _ (List.mem_cons_of_mem _ (List.mem_cons_self ..))))))) ?_) _ (HR.out.add (.cells #[.int .i64 0, .slice none 0 0] 27) rfl) (Lib.hid (by simp))
          clear HR
          have HR := Lib.hid hRn
          clear hRn
          refine hw_ready (rs := [12]) (by kernel_rfl) (by simp) ?_
          refine AllHW.cons (i := 12) (o := ⟨none, _, _, _, _, _⟩) rfl rfl (by kernel_rfl) (fun K hK => ?s17) ?ms17
          case s17 =>
            have u0 := (boxCells (HR.out.frm.h _ (List.mem_cons_of_mem _ (List.mem_cons_of_mem _ (List.mem_cons_self ..))))).1
            have f0 := (boxCells (HR.out.frm.h _ (List.mem_cons_of_mem _ (List.mem_cons_of_mem _ (List.mem_cons_self ..))))).2
            have l0 := lt_of_blk (HR.out.frm.h _ (List.mem_cons_of_mem _ (List.mem_cons_of_mem _ (List.mem_cons_self ..))))
            (try go_simp)
            clear u0 f0 l0
            refine (fun (W18 : World) (hRn : RW w _ [(W1.heap.size, (.cells #[.int .i64 m.wd, .slice none 0 0] 27)), (W14.heap.size, (.cells #[.int .i64 0, .slice none 0 0] 27)), (W12.heap.size, (.cells #[.int .i64 0, .slice none 0 0] 27)), (g1, (.cells cur1 41)), (w.heap.size, (mpBox m (.slice A cs.length c)))] [] W18) (hzW18 : Hid (W18.heap.size = W16.heap.size)) => hK.out _ W18 ((hRn.frm.cells (List.mem_cons_of_mem _ (List.mem_cons_of_mem _ (List.mem_cons_of_mem _ (List.mem_cons_of_mem _ (List.mem_cons_self ..))))))) ?_) _ ((RW.put (RW.put (RW.less (bs' := [(W1.heap.size, (.cells #[.int .i64 0, .slice none 0 0] 27)), (W14.heap.size, (.cells #[.int .i64 0, .slice none 0 0] 27)), (W12.heap.size, (.cells #[.int .i64 0, .slice none 0 0] 27)), (g1, (.cells cur1 41)), (w.heap.size, (mpBox m (.slice A cs.length c)))]) HR.out (by simp only [List.forall_mem_cons, List.forall_mem_nil, and_true]; exact ⟨(List.mem_cons_of_mem _ (List.mem_cons_of_mem _ (List.mem_cons_self ..))), (List.mem_cons_self ..), (List.mem_cons_of_mem _ (List.mem_cons_self ..)), (List.mem_cons_of_mem _ (List.mem_cons_of_mem _ (List.mem_cons_of_mem _ (List.mem_cons_self ..)))), (List.mem_cons_of_mem _ (List.mem_cons_of_mem _ (List.mem_cons_of_mem _ (List.mem_cons_of_mem _ (List.mem_cons_self ..))))), by simp⟩)) (by have := hzW1.out; have := hzW12.out; have := hzW14.out; have := hzW16.out; omega) (by have := hzW1.out; have := hzW12.out; have := hzW14.out; have := hzW16.out; simp <;> omega) 0 (.int .i64 m.wd)) (by have := hzW1.out; have := hzW12.out; have := hzW14.out; have := hzW16.out; omega) (by have := hzW1.out; have := hzW12.out; have := hzW14.out; have := hzW16.out; simp <;> omega) 1 (.slice none 0 0))) (Lib.hid (by simp))
            clear HR
            have HR := Lib.hid hRn
            clear hRn
            refine hw_ready (rs := [13]) (by kernel_rfl) (by simp) ?_
            refine AllHW.cons (i := 13) (o := ⟨none, _, _, _, _, _⟩) rfl rfl (by kernel_rfl) (fun K hK => ?s19) ?ms19
            case s19 =>
              have u0 := (boxCells (HR.out.frm.h _ (List.mem_cons_of_mem _ (List.mem_cons_of_mem _ (List.mem_cons_self ..))))).1
              have f0 := (boxCells (HR.out.frm.h _ (List.mem_cons_of_mem _ (List.mem_cons_of_mem _ (List.mem_cons_self ..))))).2
              have l0 := lt_of_blk (HR.out.frm.h _ (List.mem_cons_of_mem _ (List.mem_cons_of_mem _ (List.mem_cons_self ..))))
              (try go_simp)
              clear u0 f0 l0
              refine (fun (W20 : World) (hRn : RW w _ [(W12.heap.size, (.cells #[.int .i64 m.wd, .slice none 0 0] 27)), (W1.heap.size, (.cells #[.int .i64 m.wd, .slice none 0 0] 27)), (W14.heap.size, (.cells #[.int .i64 0, .slice none 0 0] 27)), (g1, (.cells cur1 41)), (w.heap.size, (mpBox m (.slice A cs.length c)))] [] W20) (hzW20 : Hid (W20.heap.size = W18.heap.size)) => hK.out _ W20 ((hRn.frm.cells (List.mem_cons_of_mem _ (List.mem_cons_of_mem _ (List.mem_cons_of_mem _ (List.mem_cons_of_mem _ (List.mem_cons_self ..))))))) ?_) _ ((RW.put (RW.put (RW.less (bs' := [(W12.heap.size, (.cells #[.int .i64 0, .slice none 0 0] 27)), (W1.heap.size, (.cells #[.int .i64 m.wd, .slice none 0 0] 27)), (W14.heap.size, (.cells #[.int .i64 0, .slice none 0 0] 27)), (g1, (.cells cur1 41)), (w.heap.size, (mpBox m (.slice A cs.length c)))]) HR.out (by simp only [List.forall_mem_cons, List.forall_mem_nil, and_true]; exact ⟨(List.mem_cons_of_mem _ (List.mem_cons_of_mem _ (List.mem_cons_self ..))), (List.mem_cons_self ..), (List.mem_cons_of_mem _ (List.mem_cons_self ..)), (List.mem_cons_of_mem _ (List.mem_cons_of_mem _ (List.mem_cons_of_mem _ (List.mem_cons_self ..)))), (List.mem_cons_of_mem _ (List.mem_cons_of_mem _ (List.mem_cons_of_mem _ (List.mem_cons_of_mem _ (List.mem_cons_self ..))))), by simp⟩)) (by have := hzW1.out; have := hzW12.out; have := hzW14.out; have := hzW16.out; have := hzW18.out; omega) (by have := hzW1.out; have := hzW12.out; have := hzW14.out; have := hzW16.out; have := hzW18.out; simp <;> omega) 0 (.int .i64 m.wd)) (by have := hzW1.out; have := hzW12.out; have := hzW14.out; have := hzW16.out; have := hzW18.out; omega) (by have := hzW1.out; have := hzW12.out; have := hzW14.out; have := hzW16.out; have := hzW18.out; simp <;> omega) 1 (.slice none 0 0))) (Lib.hid (by simp))
              clear HR
              have HR := Lib.hid hRn
              clear hRn
              refine hw_ready (rs := [14]) (by kernel_rfl) (by simp) ?_
              refine AllHW.cons (i := 14) (o := ⟨none, _, _, _, _, _⟩) rfl rfl (by kernel_rfl) (fun K hK => ?s21) ?ms21
              case s21 =>
                have u0 := (boxCells (HR.out.frm.h _ (List.mem_cons_of_mem _ (List.mem_cons_of_mem _ (List.mem_cons_self ..))))).1
                have f0 := (boxCells (HR.out.frm.h _ (List.mem_cons_of_mem _ (List.mem_cons_of_mem _ (List.mem_cons_self ..))))).2
                have l0 := lt_of_blk (HR.out.frm.h _ (List.mem_cons_of_mem _ (List.mem_cons_of_mem _ (List.mem_cons_self ..))))
                (try go_simp)
                clear u0 f0 l0
                refine (fun (W22 : World) (hRn : RW w _ [(W14.heap.size, (.cells #[.int .i64 m.wd, .slice none 0 0] 27)), (W12.heap.size, (.cells #[.int .i64 m.wd, .slice none 0 0] 27)), (W1.heap.size, (.cells #[.int .i64 m.wd, .slice none 0 0] 27)), (g1, (.cells cur1 41)), (w.heap.size, (mpBox m (.slice A cs.length c)))] [] W22) (hzW22 : Hid (W22.heap.size = W20.heap.size)) => hK.out _ W22 ((hRn.frm.cells (List.mem_cons_of_mem _ (List.mem_cons_of_mem _ (List.mem_cons_of_mem _ (List.mem_cons_of_mem _ (List.mem_cons_self ..))))))) ?_) _ ((RW.put (RW.put (RW.less (bs' := [(W14.heap.size, (.cells #[.int .i64 0, .slice none 0 0] 27)), (W12.heap.size, (.cells #[.int .i64 m.wd, .slice none 0 0] 27)), (W1.heap.size, (.cells #[.int .i64 m.wd, .slice none 0 0] 27)), (g1, (.cells cur1 41)), (w.heap.size, (mpBox m (.slice A cs.length c)))]) HR.out (by simp only [List.forall_mem_cons, List.forall_mem_nil, and_true]; exact ⟨(List.mem_cons_of_mem _ (List.mem_cons_of_mem _ (List.mem_cons_self ..))), (List.mem_cons_self ..), (List.mem_cons_of_mem _ (List.mem_cons_self ..)), (List.mem_cons_of_mem _ (List.mem_cons_of_mem _ (List.mem_cons_of_mem _ (List.mem_cons_self ..)))), (List.mem_cons_of_mem _ (List.mem_cons_of_mem _ (List.mem_cons_of_mem _ (List.mem_cons_of_mem _ (List.mem_cons_self ..))))), by simp⟩)) (by have := hzW1.out; have := hzW12.out; have := hzW14.out; have := hzW16.out; have := hzW18.out; have := hzW20.out; omega) (by have := hzW1.out; have := hzW12.out; have := hzW14.out; have := hzW16.out; have := hzW18.out; have := hzW20.out; simp <;> omega) 0 (.int .i64 m.wd)) (by have := hzW1.out; have := hzW12.out; have := hzW14.out; have := hzW16.out; have := hzW18.out; have := hzW20.out; omega) (by have := hzW1.out; have := hzW12.out; have := hzW14.out; have := hzW16.out; have := hzW18.out; have := hzW20.out; simp <;> omega) 1 (.slice none 0 0))) (Lib.hid (by simp))
                clear HR
                have HR := Lib.hid hRn
                clear hRn
                refine hw_done (by kernel_rfl) ?_
                go_wp2_with fail
                go_meet
                have zhzW1 := hzW1.out
                have zhzW12 := hzW12.out
                have zhzW14 := hzW14.out
                have zhzW16 := hzW16.out
                have zhzW18 := hzW18.out
                have zhzW20 := hzW20.out
                have zhzW22 := hzW22.out
                exact ⟨W1.heap.size, W12.heap.size, W14.heap.size, rfl, rfl, rfl, by omega, by omega, by omega, by omega, by omega, by omega, (RW.less (bs' := [(W1.heap.size, (.cells #[.int .i64 m.wd, .slice none 0 0] 27)), (W12.heap.size, (.cells #[.int .i64 m.wd, .slice none 0 0] 27)), (W14.heap.size, (.cells #[.int .i64 m.wd, .slice none 0 0] 27)), (g1, (.cells cur1 41)), (w.heap.size, (mpBox m (.slice A cs.length c)))]) HR.out (by simp only [List.forall_mem_cons, List.forall_mem_nil, and_true]; exact ⟨(List.mem_cons_of_mem _ (List.mem_cons_of_mem _ (List.mem_cons_self ..))), (List.mem_cons_of_mem _ (List.mem_cons_self ..)), (List.mem_cons_self ..), (List.mem_cons_of_mem _ (List.mem_cons_of_mem _ (List.mem_cons_of_mem _ (List.mem_cons_self ..)))), (List.mem_cons_of_mem _ (List.mem_cons_of_mem _ (List.mem_cons_of_mem _ (List.mem_cons_of_mem _ (List.mem_cons_self ..))))), by simp⟩)).frm⟩
              exact AllHW.nil
            exact AllHW.nil
          exact AllHW.nil
        exact AllHW.nil
      refine AllHW.cons (i := 11) (o := ⟨some 11, _, _, _, _, _⟩) rfl rfl (by kernel_rfl) (fun K hK => ?s23) ?ms23
      case s23 =>
        (try go_simp)
        refine (fun (W24 : World) (hRn : RW w _ [(W12.heap.size, (.cells #[.int .i64 0, .slice none 0 0] 27)), (W1.heap.size, (.cells #[.int .i64 0, .slice none 0 0] 27)), (g1, (.cells cur1 41)), (w.heap.size, (mpBox m (.slice A cs.length c)))] [] W24) (hzW24 : Hid (W24.heap.size = W12.heap.size + 1)) => hK.out _ W24 ((hRn.frm.cells (List.mem_cons_of_mem _ (List.mem_cons_of_mem _ (List.mem_cons_of_mem _ (List.mem_cons_self ..)))))) ?_) _ (HR.out.add (.cells #[.int .i64 0, .slice none 0 0] 27) rfl) (Lib.hid (by simp))
        clear HR
        have HR := Lib.hid hRn
        clear hRn
        refine hw_ready (rs := [10]) (by kernel_rfl) (by simp) ?_
        refine AllHW.cons (i := 10) (o := ⟨some 10, _, _, _, _, _⟩) rfl rfl (by kernel_rfl) (fun K hK => ?s25) ?ms25
        case s25 =>
          (try go_simp)
          refine (fun (W26 : World) (hRn : RW w _ [(W24.heap.size, (.cells #[.int .i64 0, .slice none 0 0] 27)), (W12.heap.size, (.cells #[.int .i64 0, .slice none 0 0] 27)), (W1.heap.size, (.cells #[.int .i64 0, .slice none 0 0] 27)), (g1, (.cells cur1 41)), (w.heap.size, (mpBox m (.slice A cs.length c)))] [] W26) (hzW26 : Hid (W26.heap.size = W24.heap.size + 1)) => hK.out _ W26 ((hRn.frm.cells (List.mem_cons_of_mem _ (List.mem_cons_of_mem _ (List.mem_cons_of_mem _ (List.mem_cons_of_mem _ (List.mem_cons_self ..))))))) ?_) _ (HR.out.add (.cells #[.int .i64 0, .slice none 0 0] 27) rfl) (Lib.hid (by simp))
          clear HR
          have HR := Lib.hid hRn
          clear hRn
          refine hw_ready (rs := [12]) (by kernel_rfl) (by simp) ?_
          refine AllHW.cons (i := 12) (o := ⟨none, _, _, _, _, _⟩) rfl rfl (by kernel_rfl) (fun K hK => ?s27) ?ms27
          case s27 =>
            have u0 := (boxCells (HR.out.frm.h _ (List.mem_cons_of_mem _ (List.mem_cons_of_mem _ (List.mem_cons_self ..))))).1
            have f0 := (boxCells (HR.out.frm.h _ (List.mem_cons_of_mem _ (List.mem_cons_of_mem _ (List.mem_cons_self ..))))).2
            have l0 := lt_of_blk (HR.out.frm.h _ (List.mem_cons_of_mem _ (List.mem_cons_of_mem _ (List.mem_cons_self ..))))
            (try go_simp)
            clear u0 f0 l0
            refine (fun (W28 : World) (hRn : RW w _ [(W1.heap.size, (.cells #[.int .i64 m.wd, .slice none 0 0] 27)), (W24.heap.size, (.cells #[.int .i64 0, .slice none 0 0] 27)), (W12.heap.size, (.cells #[.int .i64 0, .slice none 0 0] 27)), (g1, (.cells cur1 41)), (w.heap.size, (mpBox m (.slice A cs.length c)))] [] W28) (hzW28 : Hid (W28.heap.size = W26.heap.size)) => hK.out _ W28 ((hRn.frm.cells (List.mem_cons_of_mem _ (List.mem_cons_of_mem _ (List.mem_cons_of_mem _ (List.mem_cons_of_mem _ (List.mem_cons_self ..))))))) ?_) _ ((RW.put (RW.put (RW.less (bs' := [(W1.heap.size, (.cells #[.int .i64 0, .slice none 0 0] 27)), (W24.heap.size, (.cells #[.int .i64 0, .slice none 0 0] 27)), (W12.heap.size, (.cells #[.int .i64 0, .slice none 0 0] 27)), (g1, (.cells cur1 41)), (w.heap.size, (mpBox m (.slice A cs.length c)))]) HR.out (by simp only [List.forall_mem_cons, List.forall_mem_nil, and_true]; exact ⟨(List.mem_cons_of_mem _ (List.mem_cons_of_mem _ (List.mem_cons_self ..))), (List.mem_cons_self ..), (List.mem_cons_of_mem _ (List.mem_cons_self ..)), (List.mem_cons_of_mem _ (List.mem_cons_of_mem _ (List.mem_cons_of_mem _ (List.mem_cons_self ..)))), (List.mem_cons_of_mem _ (List.mem_cons_of_mem _ (List.mem_cons_of_mem _ (List.mem_cons_of_mem _ (List.mem_cons_self ..))))), by simp⟩)) (by have := hzW1.out; have := hzW12.out; have := hzW24.out; have := hzW26.out; omega) (by have := hzW1.out; have := hzW12.out; have := hzW24.out; have := hzW26.out; simp <;> omega) 0 (.int .i64 m.wd)) (by have := hzW1.out; have := hzW12.out; have := hzW24.out; have := hzW26.out; omega) (by have := hzW1.out; have := hzW12.out; have := hzW24.out; have := hzW26.out; simp <;> omega) 1 (.slice none 0 0))) (Lib.hid (by simp))
            clear HR
            have HR := Lib.hid hRn
            clear hRn
            refine hw_ready (rs := [13]) (by kernel_rfl) (by simp) ?_
            refine AllHW.cons (i := 13) (o := ⟨none, _, _, _, _, _⟩) rfl rfl (by kernel_rfl) (fun K hK => ?s29) ?ms29
            case s29 =>
              have u0 := (boxCells (HR.out.frm.h _ (List.mem_cons_of_mem _ (List.mem_cons_self ..)))).1
              have f0 := (boxCells (HR.out.frm.h _ (List.mem_cons_of_mem _ (List.mem_cons_self ..)))).2
              have l0 := lt_of_blk (HR.out.frm.h _ (List.mem_cons_of_mem _ (List.mem_cons_self ..)))
              (try go_simp)
              clear u0 f0 l0
              refine (fun (W30 : World) (hRn : RW w _ [(W24.heap.size, (.cells #[.int .i64 m.wd, .slice none 0 0] 27)), (W1.heap.size, (.cells #[.int .i64 m.wd, .slice none 0 0] 27)), (W12.heap.size, (.cells #[.int .i64 0, .slice none 0 0] 27)), (g1, (.cells cur1 41)), (w.heap.size, (mpBox m (.slice A cs.length c)))] [] W30) (hzW30 : Hid (W30.heap.size = W28.heap.size)) => hK.out _ W30 ((hRn.frm.cells (List.mem_cons_of_mem _ (List.mem_cons_of_mem _ (List.mem_cons_of_mem _ (List.mem_cons_of_mem _ (List.mem_cons_self ..))))))) ?_) _ ((RW.put (RW.put (RW.less (bs' := [(W24.heap.size, (.cells #[.int .i64 0, .slice none 0 0] 27)), (W1.heap.size, (.cells #[.int .i64 m.wd, .slice none 0 0] 27)), (W12.heap.size, (.cells #[.int .i64 0, .slice none 0 0] 27)), (g1, (.cells cur1 41)), (w.heap.size, (mpBox m (.slice A cs.length c)))]) HR.out (by simp only [List.forall_mem_cons, List.forall_mem_nil, and_true]; exact ⟨(List.mem_cons_of_mem _ (List.mem_cons_self ..)), (List.mem_cons_self ..), (List.mem_cons_of_mem _ (List.mem_cons_of_mem _ (List.mem_cons_self ..))), (List.mem_cons_of_mem _ (List.mem_cons_of_mem _ (List.mem_cons_of_mem _ (List.mem_cons_self ..)))), (List.mem_cons_of_mem _ (List.mem_cons_of_mem _ (List.mem_cons_of_mem _ (List.mem_cons_of_mem _ (List.mem_cons_self ..))))), by simp⟩)) (by have := hzW1.out; have := hzW12.out; have := hzW24.out; have := hzW26.out; have := hzW28.out; omega) (by have := hzW1.out; have := hzW12.out; have := hzW24.out; have := hzW26.out; have := hzW28.out; simp <;> omega) 0 (.int .i64 m.wd)) (by have := hzW1.out; have := hzW12.out; have := hzW24.out; have := hzW26.out; have := hzW28.out; omega) (by have := hzW1.out; have := hzW12.out; have := hzW24.out; have := hzW26.out; have := hzW28.out; simp <;> omega) 1 (.slice none 0 0))) (Lib.hid (by simp))
              clear HR
              have HR := Lib.hid hRn
              clear hRn
              refine hw_ready (rs := [14]) (by kernel_rfl) (by simp) ?_
              refine AllHW.cons (i := 14) (o := ⟨none, _, _, _, _, _⟩) rfl rfl (by kernel_rfl) (fun K hK => ?s31) ?ms31
              case s31 =>
                have u0 := (boxCells (HR.out.frm.h _ (List.mem_cons_of_mem _ (List.mem_cons_of_mem _ (List.mem_cons_self ..))))).1
                have f0 := (boxCells (HR.out.frm.h _ (List.mem_cons_of_mem _ (List.mem_cons_of_mem _ (List.mem_cons_self ..))))).2
                have l0 := lt_of_blk (HR.out.frm.h _ (List.mem_cons_of_mem _ (List.mem_cons_of_mem _ (List.mem_cons_self ..))))
                (try go_simp)
                clear u0 f0 l0
                refine (fun (W32 : World) (hRn : RW w _ [(W12.heap.size, (.cells #[.int .i64 m.wd, .slice none 0 0] 27)), (W24.heap.size, (.cells #[.int .i64 m.wd, .slice none 0 0] 27)), (W1.heap.size, (.cells #[.int .i64 m.wd, .slice none 0 0] 27)), (g1, (.cells cur1 41)), (w.heap.size, (mpBox m (.slice A cs.length c)))] [] W32) (hzW32 : Hid (W32.heap.size = W30.heap.size)) => hK.out _ W32 ((hRn.frm.cells (List.mem_cons_of_mem _ (List.mem_cons_of_mem _ (List.mem_cons_of_mem _ (List.mem_cons_of_mem _ (List.mem_cons_self ..))))))) ?_) _ ((RW.put (RW.put (RW.less (bs' := [(W12.heap.size, (.cells #[.int .i64 0, .slice none 0 0] 27)), (W24.heap.size, (.cells #[.int .i64 m.wd, .slice none 0 0] 27)), (W1.heap.size, (.cells #[.int .i64 m.wd, .slice none 0 0] 27)), (g1, (.cells cur1 41)), (w.heap.size, (mpBox m (.slice A cs.length c)))]) HR.out (by simp only [List.forall_mem_cons, List.forall_mem_nil, and_true]; exact ⟨(List.mem_cons_of_mem _ (List.mem_cons_of_mem _ (List.mem_cons_self ..))), (List.mem_cons_self ..), (List.mem_cons_of_mem _ (List.mem_cons_self ..)), (List.mem_cons_of_mem _ (List.mem_cons_of_mem _ (List.mem_cons_of_mem _ (List.mem_cons_self ..)))), (List.mem_cons_of_mem _ (List.mem_cons_of_mem _ (List.mem_cons_of_mem _ (List.mem_cons_of_mem _ (List.mem_cons_self ..))))), by simp⟩)) (by have := hzW1.out; have := hzW12.out; have := hzW24.out; have := hzW26.out; have := hzW28.out; have := hzW30.out; omega) (by have := hzW1.out; have := hzW12.out; have := hzW24.out; have := hzW26.out; have := hzW28.out; have := hzW30.out; simp <;> omega) 0 (.int .i64 m.wd)) (by have := hzW1.out; have := hzW12.out; have := hzW24.out; have := hzW26.out; have := hzW28.out; have := hzW30.out; omega) (by have := hzW1.out; have := hzW12.out; have := hzW24.out; have := hzW26.out; have := hzW28.out; have := hzW30.out; simp <;> omega) 1 (.slice none 0 0))) (Lib.hid (by simp))
                clear HR
                have HR := Lib.hid hRn
                clear hRn
                refine hw_done (by kernel_rfl) ?_
                go_wp2_with fail
                go_meet
                have zhzW1 := hzW1.out
                have zhzW12 := hzW12.out
                have zhzW24 := hzW24.out
                have zhzW26 := hzW26.out
                have zhzW28 := hzW28.out
                have zhzW30 := hzW30.out
                have zhzW32 := hzW32.out
                exact ⟨W1.heap.size, W24.heap.size, W12.heap.size, rfl, rfl, rfl, by omega, by omega, by omega, by omega, by omega, by omega, (RW.less (bs' := [(W1.heap.size, (.cells #[.int .i64 m.wd, .slice none 0 0] 27)), (W24.heap.size, (.cells #[.int .i64 m.wd, .slice none 0 0] 27)), (W12.heap.size, (.cells #[.int .i64 m.wd, .slice none 0 0] 27)), (g1, (.cells cur1 41)), (w.heap.size, (mpBox m (.slice A cs.length c)))]) HR.out (by simp only [List.forall_mem_cons, List.forall_mem_nil, and_true]; exact ⟨(List.mem_cons_of_mem _ (List.mem_cons_of_mem _ (List.mem_cons_self ..))), (List.mem_cons_of_mem _ (List.mem_cons_self ..)), (List.mem_cons_self ..), (List.mem_cons_of_mem _ (List.mem_cons_of_mem _ (List.mem_cons_of_mem _ (List.mem_cons_self ..)))), (List.mem_cons_of_mem _ (List.mem_cons_of_mem _ (List.mem_cons_of_mem _ (List.mem_cons_of_mem _ (List.mem_cons_self ..))))), by simp⟩)).frm⟩
              exact AllHW.nil
            exact AllHW.nil
          exact AllHW.nil
        exact AllHW.nil
      exact AllHW.nil
    refine AllHW.cons (i := 10) (o := ⟨some 10, _, _, _, _, _⟩) rfl rfl (by kernel_rfl) (fun K hK => ?s33) ?ms33
    case s33 =>
      (try go_simp)
      refine (fun (W34 : World) (hRn : RW w _ [(W1.heap.size, (.cells #[.int .i64 0, .slice none 0 0] 27)), (g1, (.cells cur1 41)), (w.heap.size, (mpBox m (.slice A cs.length c)))] [] W34) (hzW34 : Hid (W34.heap.size = W1.heap.size + 1)) => hK.out _ W34 ((hRn.frm.cells (List.mem_cons_of_mem _ (List.mem_cons_of_mem _ (List.mem_cons_self ..))))) ?_) _ (HR.out.add (.cells #[.int .i64 0, .slice none 0 0] 27) rfl) (Lib.hid (by simp))
      clear HR
      have HR := Lib.hid hRn
      clear hRn
      refine hw_ready (rs := [9, 11]) (by kernel_rfl) (by simp) ?_
      refine AllHW.cons (i := 9) (o := ⟨some 9, _, _, _, _, _⟩) rfl rfl (by kernel_rfl) (fun K hK => ?s35) ?ms35
      case s35 =>
        (try go_simp)
        refine (fun (W36 : World) (hRn : RW w _ [(W34.heap.size, (.cells #[.int .i64 0, .slice none 0 0] 27)), (W1.heap.size, (.cells #[.int .i64 0, .slice none 0 0] 27)), (g1, (.cells cur1 41)), (w.heap.size, (mpBox m (.slice A cs.length c)))] [] W36) (hzW36 : Hid (W36.heap.size = W34.heap.size + 1)) => hK.out _ W36 ((hRn.frm.cells (List.mem_cons_of_mem _ (List.mem_cons_of_mem _ (List.mem_cons_of_mem _ (List.mem_cons_self ..)))))) ?_) _ (HR.out.add (.cells #[.int .i64 0, .slice none 0 0] 27) rfl) (Lib.hid (by simp))
        clear HR
        have HR := Lib.hid hRn
        clear hRn
        refine hw_ready (rs := [11]) (by kernel_rfl) (by simp) ?_
        refine AllHW.cons (i := 11) (o := ⟨some 11, _, _, _, _, _⟩) rfl rfl (by kernel_rfl) (fun K hK => ?s37) ?ms37
        case s37 =>
          (try go_simp)
          refine (fun (W38 : World) (hRn : RW w _ [(W36.heap.size, (.cells #[.int .i64 0, .slice none 0 0] 27)), (W34.heap.size, (.cells #[.int .i64 0, .slice none 0 0] 27)), (W1.heap.size, (.cells #[.int .i64 0, .slice none 0 0] 27)), (g1, (.cells cur1 41)), (w.heap.size, (mpBox m (.slice A cs.length c)))] [] W38) (hzW38 : Hid (W38.heap.size = W36.heap.size + 1)) => hK.out _ W38 ((hRn.frm.cells (List.mem_cons_of_mem _ (List.mem_cons_of_mem _ (List.mem_cons_of_mem _ (List.mem_cons_of_mem _ (List.mem_cons_self ..))))))) ?_) _ (HR.out.add (.cells #[.int .i64 0, .slice none 0 0] 27) rfl) (Lib.hid (by simp))
          clear HR
          have HR := Lib.hid hRn
          clear hRn
          refine hw_ready (rs := [12]) (by kernel_rfl) (by simp) ?_
          refine AllHW.cons (i := 12) (o := ⟨none, _, _, _, _, _⟩) rfl rfl (by kernel_rfl) (fun K hK => ?s39) ?ms39
          case s39 =>
            have u0 := (boxCells (HR.out.frm.h _ (List.mem_cons_of_mem _ (List.mem_cons_self ..)))).1
            have f0 := (boxCells (HR.out.frm.h _ (List.mem_cons_of_mem _ (List.mem_cons_self ..)))).2
            have l0 := lt_of_blk (HR.out.frm.h _ (List.mem_cons_of_mem _ (List.mem_cons_self ..)))
            (try go_simp)
            clear u0 f0 l0
            refine (fun (W40 : World) (hRn : RW w _ [(W34.heap.size, (.cells #[.int .i64 m.wd, .slice none 0 0] 27)), (W36.heap.size, (.cells #[.int .i64 0, .slice none 0 0] 27)), (W1.heap.size, (.cells #[.int .i64 0, .slice none 0 0] 27)), (g1, (.cells cur1 41)), (w.heap.size, (mpBox m (.slice A cs.length c)))] [] W40) (hzW40 : Hid (W40.heap.size = W38.heap.size)) => hK.out _ W40 ((hRn.frm.cells (List.mem_cons_of_mem _ (List.mem_cons_of_mem _ (List.mem_cons_of_mem _ (List.mem_cons_of_mem _ (List.mem_cons_self ..))))))) ?_) _ ((RW.put (RW.put (RW.less (bs' := [(W34.heap.size, (.cells #[.int .i64 0, .slice none 0 0] 27)), (W36.heap.size, (.cells #[.int .i64 0, .slice none 0 0] 27)), (W1.heap.size, (.cells #[.int .i64 0, .slice none 0 0] 27)), (g1, (.cells cur1 41)), (w.heap.size, (mpBox m (.slice A cs.length c)))]) HR.out (by simp only [List.forall_mem_cons, List.forall_mem_nil, and_true]; exact ⟨(List.mem_cons_of_mem _ (List.mem_cons_self ..)), (List.mem_cons_self ..), (List.mem_cons_of_mem _ (List.mem_cons_of_mem _ (List.mem_cons_self ..))), (List.mem_cons_of_mem _ (List.mem_cons_of_mem _ (List.mem_cons_of_mem _ (List.mem_cons_self ..)))), (List.mem_cons_of_mem _ (List.mem_cons_of_mem _ (List.mem_cons_of_mem _ (List.mem_cons_of_mem _ (List.mem_cons_self ..))))), by simp⟩)) (by have := hzW1.out; have := hzW34.out; have := hzW36.out; have := hzW38.out; omega) (by have := hzW1.out; have := hzW34.out; have := hzW36.out; have := hzW38.out; simp <;> omega) 0 (.int .i64 m.wd)) (by have := hzW1.out; have := hzW34.out; have := hzW36.out; have := hzW38.out; omega) (by have := hzW1.out; have := hzW34.out; have := hzW36.out; have := hzW38.out; simp <;> omega) 1 (.slice none 0 0))) (Lib.hid (by simp))
            clear HR
            have HR := Lib.hid hRn
            clear hRn
            refine hw_ready (rs := [13]) (by kernel_rfl) (by simp) ?_
            refine AllHW.cons (i := 13) (o := ⟨none, _, _, _, _, _⟩) rfl rfl (by kernel_rfl) (fun K hK => ?s41) ?ms41
            case s41 =>
              have u0 := (boxCells (HR.out.frm.h _ (List.mem_cons_of_mem _ (List.mem_cons_of_mem _ (List.mem_cons_self ..))))).1
              have f0 := (boxCells (HR.out.frm.h _ (List.mem_cons_of_mem _ (List.mem_cons_of_mem _ (List.mem_cons_self ..))))).2
              have l0 := lt_of_blk (HR.out.frm.h _ (List.mem_cons_of_mem _ (List.mem_cons_of_mem _ (List.mem_cons_self ..))))
              (try go_simp)
              clear u0 f0 l0
              refine (fun (W42 : World) (hRn : RW w _ [(W1.heap.size, (.cells #[.int .i64 m.wd, .slice none 0 0] 27)), (W34.heap.size, (.cells #[.int .i64 m.wd, .slice none 0 0] 27)), (W36.heap.size, (.cells #[.int .i64 0, .slice none 0 0] 27)), (g1, (.cells cur1 41)), (w.heap.size, (mpBox m (.slice A cs.length c)))] [] W42) (hzW42 : Hid (W42.heap.size = W40.heap.size)) => hK.out _ W42 ((hRn.frm.cells (List.mem_cons_of_mem _ (List.mem_cons_of_mem _ (List.mem_cons_of_mem _ (List.mem_cons_of_mem _ (List.mem_cons_self ..))))))) ?_) _ ((RW.put (RW.put (RW.less (bs' := [(W1.heap.size, (.cells #[.int .i64 0, .slice none 0 0] 27)), (W34.heap.size, (.cells #[.int .i64 m.wd, .slice none 0 0] 27)), (W36.heap.size, (.cells #[.int .i64 0, .slice none 0 0] 27)), (g1, (.cells cur1 41)), (w.heap.size, (mpBox m (.slice A cs.length c)))]) HR.out (by simp only [List.forall_mem_cons, List.forall_mem_nil, and_true]; exact ⟨(List.mem_cons_of_mem _ (List.mem_cons_of_mem _ (List.mem_cons_self ..))), (List.mem_cons_self ..), (List.mem_cons_of_mem _ (List.mem_cons_self ..)), (List.mem_cons_of_mem _ (List.mem_cons_of_mem _ (List.mem_cons_of_mem _ (List.mem_cons_self ..)))), (List.mem_cons_of_mem _ (List.mem_cons_of_mem _ (List.mem_cons_of_mem _ (List.mem_cons_of_mem _ (List.mem_cons_self ..))))), by simp⟩)) (by have := hzW1.out; have := hzW34.out; have := hzW36.out; have := hzW38.out; have := hzW40.out; omega) (by have := hzW1.out; have := hzW34.out; have := hzW36.out; have := hzW38.out; have := hzW40.out; simp <;> omega) 0 (.int .i64 m.wd)) (by have := hzW1.out; have := hzW34.out; have := hzW36.out; have := hzW38.out; have := hzW40.out; omega) (by have := hzW1.out; have := hzW34.out; have := hzW36.out; have := hzW38.out; have := hzW40.out; simp <;> omega) 1 (.slice none 0 0))) (Lib.hid (by simp))
              clear HR
              have HR := Lib.hid hRn
              clear hRn
              refine hw_ready (rs := [14]) (by kernel_rfl) (by simp) ?_
              refine AllHW.cons (i := 14) (o := ⟨none, _, _, _, _, _⟩) rfl rfl (by kernel_rfl) (fun K hK => ?s43) ?ms43
              case s43 =>
                have u0 := (boxCells (HR.out.frm.h _ (List.mem_cons_of_mem _ (List.mem_cons_of_mem _ (List.mem_cons_self ..))))).1
                have f0 := (boxCells (HR.out.frm.h _ (List.mem_cons_of_mem _ (List.mem_cons_of_mem _ (List.mem_cons_self ..))))).2
                have l0 := lt_of_blk (HR.out.frm.h _ (List.mem_cons_of_mem _ (List.mem_cons_of_mem _ (List.mem_cons_self ..))))
                (try go_simp)
                clear u0 f0 l0
                refine (fun (W44 : World) (hRn : RW w _ [(W36.heap.size, (.cells #[.int .i64 m.wd, .slice none 0 0] 27)), (W1.heap.size, (.cells #[.int .i64 m.wd, .slice none 0 0] 27)), (W34.heap.size, (.cells #[.int .i64 m.wd, .slice none 0 0] 27)), (g1, (.cells cur1 41)), (w.heap.size, (mpBox m (.slice A cs.length c)))] [] W44) (hzW44 : Hid (W44.heap.size = W42.heap.size)) => hK.out _ W44 ((hRn.frm.cells (List.mem_cons_of_mem _ (List.mem_cons_of_mem _ (List.mem_cons_of_mem _ (List.mem_cons_of_mem _ (List.mem_cons_self ..))))))) ?_) _ ((RW.put (RW.put (RW.less (bs' := [(W36.heap.size, (.cells #[.int .i64 0, .slice none 0 0] 27)), (W1.heap.size, (.cells #[.int .i64 m.wd, .slice none 0 0] 27)), (W34.heap.size, (.cells #[.int .i64 m.wd, .slice none 0 0] 27)), (g1, (.cells cur1 41)), (w.heap.size, (mpBox m (.slice A cs.length c)))]) HR.out (by simp only [List.forall_mem_cons, List.forall_mem_nil, and_true]; exact ⟨(List.mem_cons_of_mem _ (List.mem_cons_of_mem _ (List.mem_cons_self ..))), (List.mem_cons_self ..), (List.mem_cons_of_mem _ (List.mem_cons_self ..)), (List.mem_cons_of_mem _ (List.mem_cons_of_mem _ (List.mem_cons_of_mem _ (List.mem_cons_self ..)))), (List.mem_cons_of_mem _ (List.mem_cons_of_mem _ (List.mem_cons_of_mem _ (List.mem_cons_of_mem _ (List.mem_cons_self ..))))), by simp⟩)) (by have := hzW1.out; have := hzW34.out; have := hzW36.out; have := hzW38.out; have := hzW40.out; have := hzW42.out; omega) (by have := hzW1.out; have := hzW34.out; have := hzW36.out; have := hzW38.out; have := hzW40.out; have := hzW42.out; simp <;> omega) 0 (.int .i64 m.wd)) (by have := hzW1.out; have := hzW34.out; have := hzW36.out; have := hzW38.out; have := hzW40.out; have := hzW42.out; omega) (by have := hzW1.out; have := hzW34.out; have := hzW36.out; have := hzW38.out; have := hzW40.out; have := hzW42.out; simp <;> omega) 1 (.slice none 0 0))) (Lib.hid (by simp))
                clear HR
                have HR := Lib.hid hRn
                clear hRn
                refine hw_done (by kernel_rfl) ?_
                go_wp2_with fail
                go_meet
                have zhzW1 := hzW1.out
                have zhzW34 := hzW34.out
                have zhzW36 := hzW36.out
                have zhzW38 := hzW38.out
                have zhzW40 := hzW40.out
                have zhzW42 := hzW42.out
                have zhzW44 := hzW44.out
                exact ⟨W34.heap.size, W1.heap.size, W36.heap.size, rfl, rfl, rfl, by omega, by omega, by omega, by omega, by omega, by omega, (RW.less (bs' := [(W34.heap.size, (.cells #[.int .i64 m.wd, .slice none 0 0] 27)), (W1.heap.size, (.cells #[.int .i64 m.wd, .slice none 0 0] 27)), (W36.heap.size, (.cells #[.int .i64 m.wd, .slice none 0 0] 27)), (g1, (.cells cur1 41)), (w.heap.size, (mpBox m (.slice A cs.length c)))]) HR.out (by simp only [List.forall_mem_cons, List.forall_mem_nil, and_true]; exact ⟨(List.mem_cons_of_mem _ (List.mem_cons_of_mem _ (List.mem_cons_self ..))), (List.mem_cons_of_mem _ (List.mem_cons_self ..)), (List.mem_cons_self ..), (List.mem_cons_of_mem _ (List.mem_cons_of_mem _ (List.mem_cons_of_mem _ (List.mem_cons_self ..)))), (List.mem_cons_of_mem _ (List.mem_cons_of_mem _ (List.mem_cons_of_mem _ (List.mem_cons_of_mem _ (List.mem_cons_self ..))))), by simp⟩)).frm⟩
              exact AllHW.nil
            exact AllHW.nil
          exact AllHW.nil
        exact AllHW.nil
      refine AllHW.cons (i := 11) (o := ⟨some 11, _, _, _, _, _⟩) rfl rfl (by kernel_rfl) (fun K hK => ?s45) ?ms45
      case s45 =>
        (try go_simp)
        refine (fun (W46 : World) (hRn : RW w _ [(W34.heap.size, (.cells #[.int .i64 0, .slice none 0 0] 27)), (W1.heap.size, (.cells #[.int .i64 0, .slice none 0 0] 27)), (g1, (.cells cur1 41)), (w.heap.size, (mpBox m (.slice A cs.length c)))] [] W46) (hzW46 : Hid (W46.heap.size = W34.heap.size + 1)) => hK.out _ W46 ((hRn.frm.cells (List.mem_cons_of_mem _ (List.mem_cons_of_mem _ (List.mem_cons_of_mem _ (List.mem_cons_self ..)))))) ?_) _ (HR.out.add (.cells #[.int .i64 0, .slice none 0 0] 27) rfl) (Lib.hid (by simp))
        clear HR
        have HR := Lib.hid hRn
        clear hRn
        refine hw_ready (rs := [9]) (by kernel_rfl) (by simp) ?_
        refine AllHW.cons (i := 9) (o := ⟨some 9, _, _, _, _, _⟩) rfl rfl (by kernel_rfl) (fun K hK => ?s47) ?ms47
        case s47 =>
          (try go_simp)
          refine (fun (W48 : World) (hRn : RW w _ [(W46.heap.size, (.cells #[.int .i64 0, .slice none 0 0] 27)), (W34.heap.size, (.cells #[.int .i64 0, .slice none 0 0] 27)), (W1.heap.size, (.cells #[.int .i64 0, .slice none 0 0] 27)), (g1, (.cells cur1 41)), (w.heap.size, (mpBox m (.slice A cs.length c)))] [] W48) (hzW48 : Hid (W48.heap.size = W46.heap.size + 1)) => hK.out _ W48 ((hRn.frm.cells (List.mem_cons_of_mem _ (List.mem_cons_of_mem _ (List.mem_cons_of_mem _ (List.mem_cons_of_mem _ (List.mem_cons_self ..))))))) ?_) _ (HR.out.add (.cells #[.int .i64 0, .slice none 0 0] 27) rfl) (Lib.hid (by simp))
          clear HR
          have HR := Lib.hid hRn
          clear hRn
          refine hw_ready (rs := [12]) (by kernel_rfl) (by simp) ?_
          refine AllHW.cons (i := 12) (o := ⟨none, _, _, _, _, _⟩) rfl rfl (by kernel_rfl) (fun K hK => ?s49) ?ms49
          case s49 =>
            have u0 := (boxCells (HR.out.frm.h _ (List.mem_cons_self ..))).1
            have f0 := (boxCells (HR.out.frm.h _ (List.mem_cons_self ..))).2
            have l0 := lt_of_blk (HR.out.frm.h _ (List.mem_cons_self ..))
            (try go_simp)
            clear u0 f0 l0
            refine (fun (W50 : World) (hRn : RW w _ [(W46.heap.size, (.cells #[.int .i64 m.wd, .slice none 0 0] 27)), (W34.heap.size, (.cells #[.int .i64 0, .slice none 0 0] 27)), (W1.heap.size, (.cells #[.int .i64 0, .slice none 0 0] 27)), (g1, (.cells cur1 41)), (w.heap.size, (mpBox m (.slice A cs.length c)))] [] W50) (hzW50 : Hid (W50.heap.size = W48.heap.size)) => hK.out _ W50 ((hRn.frm.cells (List.mem_cons_of_mem _ (List.mem_cons_of_mem _ (List.mem_cons_of_mem _ (List.mem_cons_of_mem _ (List.mem_cons_self ..))))))) ?_) _ ((RW.put (RW.put (RW.less (bs' := [(W46.heap.size, (.cells #[.int .i64 0, .slice none 0 0] 27)), (W34.heap.size, (.cells #[.int .i64 0, .slice none 0 0] 27)), (W1.heap.size, (.cells #[.int .i64 0, .slice none 0 0] 27)), (g1, (.cells cur1 41)), (w.heap.size, (mpBox m (.slice A cs.length c)))]) HR.out (by simp only [List.forall_mem_cons, List.forall_mem_nil, and_true]; exact ⟨(List.mem_cons_self ..), (List.mem_cons_of_mem _ (List.mem_cons_self ..)), (List.mem_cons_of_mem _ (List.mem_cons_of_mem _ (List.mem_cons_self ..))), (List.mem_cons_of_mem _ (List.mem_cons_of_mem _ (List.mem_cons_of_mem _ (List.mem_cons_self ..)))), (List.mem_cons_of_mem _ (List.mem_cons_of_mem _ (List.mem_cons_of_mem _ (List.mem_cons_of_mem _ (List.mem_cons_self ..))))), by simp⟩)) (by have := hzW1.out; have := hzW34.out; have := hzW46.out; have := hzW48.out; omega) (by have := hzW1.out; have := hzW34.out; have := hzW46.out; have := hzW48.out; simp <;> omega) 0 (.int .i64 m.wd)) (by have := hzW1.out; have := hzW34.out; have := hzW46.out; have := hzW48.out; omega) (by have := hzW1.out; have := hzW34.out; have := hzW46.out; have := hzW48.out; simp <;> omega) 1 (.slice none 0 0))) (Lib.hid (by simp))
            clear HR
            have HR := Lib.hid hRn
            clear hRn
            refine hw_ready (rs := [13]) (by kernel_rfl) (by simp) ?_
            refine AllHW.cons (i := 13) (o := ⟨none, _, _, _, _, _⟩) rfl rfl (by kernel_rfl) (fun K hK => ?s51) ?ms51
            case s51 =>
              have u0 := (boxCells (HR.out.frm.h _ (List.mem_cons_of_mem _ (List.mem_cons_of_mem _ (List.mem_cons_self ..))))).1
              have f0 := (boxCells (HR.out.frm.h _ (List.mem_cons_of_mem _ (List.mem_cons_of_mem _ (List.mem_cons_self ..))))).2
              have l0 := lt_of_blk (HR.out.frm.h _ (List.mem_cons_of_mem _ (List.mem_cons_of_mem _ (List.mem_cons_self ..))))
              (try go_simp)
              clear u0 f0 l0
              refine (fun (W52 : World) (hRn : RW w _ [(W1.heap.size, (.cells #[.int .i64 m.wd, .slice none 0 0] 27)), (W46.heap.size, (.cells #[.int .i64 m.wd, .slice none 0 0] 27)), (W34.heap.size, (.cells #[.int .i64 0, .slice none 0 0] 27)), (g1, (.cells cur1 41)), (w.heap.size, (mpBox m (.slice A cs.length c)))] [] W52) (hzW52 : Hid (W52.heap.size = W50.heap.size)) => hK.out _ W52 ((hRn.frm.cells (List.mem_cons_of_mem _ (List.mem_cons_of_mem _ (List.mem_cons_of_mem _ (List.mem_cons_of_mem _ (List.mem_cons_self ..))))))) ?_) _ ((RW.put (RW.put (RW.less (bs' := [(W1.heap.size, (.cells #[.int .i64 0, .slice none 0 0] 27)), (W46.heap.size, (.cells #[.int .i64 m.wd, .slice none 0 0] 27)), (W34.heap.size, (.cells #[.int .i64 0, .slice none 0 0] 27)), (g1, (.cells cur1 41)), (w.heap.size, (mpBox m (.slice A cs.length c)))]) HR.out (by simp only [List.forall_mem_cons, List.forall_mem_nil, and_true]; exact ⟨(List.mem_cons_of_mem _ (List.mem_cons_of_mem _ (List.mem_cons_self ..))), (List.mem_cons_self ..), (List.mem_cons_of_mem _ (List.mem_cons_self ..)), (List.mem_cons_of_mem _ (List.mem_cons_of_mem _ (List.mem_cons_of_mem _ (List.mem_cons_self ..)))), (List.mem_cons_of_mem _ (List.mem_cons_of_mem _ (List.mem_cons_of_mem _ (List.mem_cons_of_mem _ (List.mem_cons_self ..))))), by simp⟩)) (by have := hzW1.out; have := hzW34.out; have := hzW46.out; have := hzW48.out; have := hzW50.out; omega) (by have := hzW1.out; have := hzW34.out; have := hzW46.out; have := hzW48.out; have := hzW50.out; simp <;> omega) 0 (.int .i64 m.wd)) (by have := hzW1.out; have := hzW34.out; have := hzW46.out; have := hzW48.out; have := hzW50.out; omega) (by have := hzW1.out; have := hzW34.out; have := hzW46.out; have := hzW48.out; have := hzW50.out; simp <;> omega) 1 (.slice none 0 0))) (Lib.hid (by simp))
              clear HR
              have HR := Lib.hid hRn
              clear hRn
              refine hw_ready (rs := [14]) (by kernel_rfl) (by simp) ?_
              refine AllHW.cons (i := 14) (o := ⟨none, _, _, _, _, _⟩) rfl rfl (by kernel_rfl) (fun K hK => ?s53) ?ms53
              case s53 =>
                have u0 := (boxCells (HR.out.frm.h _ (List.mem_cons_of_mem _ (List.mem_cons_of_mem _ (List.mem_cons_self ..))))).1
                have f0 := (boxCells (HR.out.frm.h _ (List.mem_cons_of_mem _ (List.mem_cons_of_mem _ (List.mem_cons_self ..))))).2
                have l0 := lt_of_blk (HR.out.frm.h _ (List.mem_cons_of_mem _ (List.mem_cons_of_mem _ (List.mem_cons_self ..))))
                (try go_simp)
                clear u0 f0 l0
                refine (fun (W54 : World) (hRn : RW w _ [(W34.heap.size, (.cells #[.int .i64 m.wd, .slice none 0 0] 27)), (W1.heap.size, (.cells #[.int .i64 m.wd, .slice none 0 0] 27)), (W46.heap.size, (.cells #[.int .i64 m.wd, .slice none 0 0] 27)), (g1, (.cells cur1 41)), (w.heap.size, (mpBox m (.slice A cs.length c)))] [] W54) (hzW54 : Hid (W54.heap.size = W52.heap.size)) => hK.out _ W54 ((hRn.frm.cells (List.mem_cons_of_mem _ (List.mem_cons_of_mem _ (List.mem_cons_of_mem _ (List.mem_cons_of_mem _ (List.mem_cons_self ..))))))) ?_) _ ((RW.put (RW.put (RW.less (bs' := [(W34.heap.size, (.cells #[.int .i64 0, .slice none 0 0] 27)), (W1.heap.size, (.cells #[.int .i64 m.wd, .slice none 0 0] 27)), (W46.heap.size, (.cells #[.int .i64 m.wd, .slice none 0 0] 27)), (g1, (.cells cur1 41)), (w.heap.size, (mpBox m (.slice A cs.length c)))]) HR.out (by simp only [List.forall_mem_cons, List.forall_mem_nil, and_true]; exact ⟨(List.mem_cons_of_mem _ (List.mem_cons_of_mem _ (List.mem_cons_self ..))), (List.mem_cons_self ..), (List.mem_cons_of_mem _ (List.mem_cons_self ..)), (List.mem_cons_of_mem _ (List.mem_cons_of_mem _ (List.mem_cons_of_mem _ (List.mem_cons_self ..)))), (List.mem_cons_of_mem _ (List.mem_cons_of_mem _ (List.mem_cons_of_mem _ (List.mem_cons_of_mem _ (List.mem_cons_self ..))))), by simp⟩)) (by have := hzW1.out; have := hzW34.out; have := hzW46.out; have := hzW48.out; have := hzW50.out; have := hzW52.out; omega) (by have := hzW1.out; have := hzW34.out; have := hzW46.out; have := hzW48.out; have := hzW50.out; have := hzW52.out; simp <;> omega) 0 (.int .i64 m.wd)) (by have := hzW1.out; have := hzW34.out; have := hzW46.out; have := hzW48.out; have := hzW50.out; have := hzW52.out; omega) (by have := hzW1.out; have := hzW34.out; have := hzW46.out; have := hzW48.out; have := hzW50.out; have := hzW52.out; simp <;> omega) 1 (.slice none 0 0))) (Lib.hid (by simp))
                clear HR
                have HR := Lib.hid hRn
                clear hRn
                refine hw_done (by kernel_rfl) ?_
                go_wp2_with fail
                go_meet
                have zhzW1 := hzW1.out
                have zhzW34 := hzW34.out
                have zhzW46 := hzW46.out
                have zhzW48 := hzW48.out
                have zhzW50 := hzW50.out
                have zhzW52 := hzW52.out
                have zhzW54 := hzW54.out
                exact ⟨W46.heap.size, W1.heap.size, W34.heap.size, rfl, rfl, rfl, by omega, by omega, by omega, by omega, by omega, by omega, (RW.less (bs' := [(W46.heap.size, (.cells #[.int .i64 m.wd, .slice none 0 0] 27)), (W1.heap.size, (.cells #[.int .i64 m.wd, .slice none 0 0] 27)), (W34.heap.size, (.cells #[.int .i64 m.wd, .slice none 0 0] 27)), (g1, (.cells cur1 41)), (w.heap.size, (mpBox m (.slice A cs.length c)))]) HR.out (by simp only [List.forall_mem_cons, List.forall_mem_nil, and_true]; exact ⟨(List.mem_cons_of_mem _ (List.mem_cons_of_mem _ (List.mem_cons_self ..))), (List.mem_cons_of_mem _ (List.mem_cons_self ..)), (List.mem_cons_self ..), (List.mem_cons_of_mem _ (List.mem_cons_of_mem _ (List.mem_cons_of_mem _ (List.mem_cons_self ..)))), (List.mem_cons_of_mem _ (List.mem_cons_of_mem _ (List.mem_cons_of_mem _ (List.mem_cons_of_mem _ (List.mem_cons_self ..))))), by simp⟩)).frm⟩
              exact AllHW.nil
            exact AllHW.nil
          exact AllHW.nil
        exact AllHW.nil
      exact AllHW.nil
    refine AllHW.cons (i := 11) (o := ⟨some 11, _, _, _, _, _⟩) rfl rfl (by kernel_rfl) (fun K hK => ?s55) ?ms55
    case s55 =>
      (try go_simp)
      refine (fun (W56 : World) (hRn : RW w _ [(W1.heap.size, (.cells #[.int .i64 0, .slice none 0 0] 27)), (g1, (.cells cur1 41)), (w.heap.size, (mpBox m (.slice A cs.length c)))] [] W56) (hzW56 : Hid (W56.heap.size = W1.heap.size + 1)) => hK.out _ W56 ((hRn.frm.cells (List.mem_cons_of_mem _ (List.mem_cons_of_mem _ (List.mem_cons_self ..))))) ?_) _ (HR.out.add (.cells #[.int .i64 0, .slice none 0 0] 27) rfl) (Lib.hid (by simp))
      clear HR
      have HR := Lib.hid hRn
      clear hRn
      refine hw_ready (rs := [9, 10]) (by kernel_rfl) (by simp) ?_
      refine AllHW.cons (i := 9) (o := ⟨some 9, _, _, _, _, _⟩) rfl rfl (by kernel_rfl) (fun K hK => ?s57) ?ms57
      case s57 =>
        (try go_simp)
        refine (fun (W58 : World) (hRn : RW w _ [(W56.heap.size, (.cells #[.int .i64 0, .slice none 0 0] 27)), (W1.heap.size, (.cells #[.int .i64 0, .slice none 0 0] 27)), (g1, (.cells cur1 41)), (w.heap.size, (mpBox m (.slice A cs.length c)))] [] W58) (hzW58 : Hid (W58.heap.size = W56.heap.size + 1)) => hK.out _ W58 ((hRn.frm.cells (List.mem_cons_of_mem _ (List.mem_cons_of_mem _ (List.mem_cons_of_mem _ (List.mem_cons_self ..)))))) ?_) _ (HR.out.add (.cells #[.int .i64 0, .slice none 0 0] 27) rfl) (Lib.hid (by simp))
        clear HR
        have HR := Lib.hid hRn
        clear hRn
        refine hw_ready (rs := [10]) (by kernel_rfl) (by simp) ?_
        refine AllHW.cons (i := 10) (o := ⟨some 10, _, _, _, _, _⟩) rfl rfl (by kernel_rfl) (fun K hK => ?s59) ?ms59
        case s59 =>
          (try go_simp)
          refine (fun (W60 : World) (hRn : RW w _ [(W58.heap.size, (.cells #[.int .i64 0, .slice none 0 0] 27)), (W56.heap.size, (.cells #[.int .i64 0, .slice none 0 0] 27)), (W1.heap.size, (.cells #[.int .i64 0, .slice none 0 0] 27)), (g1, (.cells cur1 41)), (w.heap.size, (mpBox m (.slice A cs.length c)))] [] W60) (hzW60 : Hid (W60.heap.size = W58.heap.size + 1)) => hK.out _ W60 ((hRn.frm.cells (List.mem_cons_of_mem _ (List.mem_cons_of_mem _ (List.mem_cons_of_mem _ (List.mem_cons_of_mem _ (List.mem_cons_self ..))))))) ?_) _ (HR.out.add (.cells #[.int .i64 0, .slice none 0 0] 27) rfl) (Lib.hid (by simp))
          clear HR
          have HR := Lib.hid hRn
          clear hRn
          refine hw_ready (rs := [12]) (by kernel_rfl) (by simp) ?_
          refine AllHW.cons (i := 12) (o := ⟨none, _, _, _, _, _⟩) rfl rfl (by kernel_rfl) (fun K hK => ?s61) ?ms61
          case s61 =>
            have u0 := (boxCells (HR.out.frm.h _ (List.mem_cons_of_mem _ (List.mem_cons_self ..)))).1
            have f0 := (boxCells (HR.out.frm.h _ (List.mem_cons_of_mem _ (List.mem_cons_self ..)))).2
            have l0 := lt_of_blk (HR.out.frm.h _ (List.mem_cons_of_mem _ (List.mem_cons_self ..)))
            (try go_simp)
            clear u0 f0 l0
            refine (fun (W62 : World) (hRn : RW w _ [(W56.heap.size, (.cells #[.int .i64 m.wd, .slice none 0 0] 27)), (W58.heap.size, (.cells #[.int .i64 0, .slice none 0 0] 27)), (W1.heap.size, (.cells #[.int .i64 0, .slice none 0 0] 27)), (g1, (.cells cur1 41)), (w.heap.size, (mpBox m (.slice A cs.length c)))] [] W62) (hzW62 : Hid (W62.heap.size = W60.heap.size)) => hK.out _ W62 ((hRn.frm.cells (List.mem_cons_of_mem _ (List.mem_cons_of_mem _ (List.mem_cons_of_mem _ (List.mem_cons_of_mem _ (List.mem_cons_self ..))))))) ?_) _ ((RW.put (RW.put (RW.less (bs' := [(W56.heap.size, (.cells #[.int .i64 0, .slice none 0 0] 27)), (W58.heap.size, (.cells #[.int .i64 0, .slice none 0 0] 27)), (W1.heap.size, (.cells #[.int .i64 0, .slice none 0 0] 27)), (g1, (.cells cur1 41)), (w.heap.size, (mpBox m (.slice A cs.length c)))]) HR.out (by simp only [List.forall_mem_cons, List.forall_mem_nil, and_true]; exact ⟨(List.mem_cons_of_mem _ (List.mem_cons_self ..)), (List.mem_cons_self ..), (List.mem_cons_of_mem _ (List.mem_cons_of_mem _ (List.mem_cons_self ..))), (List.mem_cons_of_mem _ (List.mem_cons_of_mem _ (List.mem_cons_of_mem _ (List.mem_cons_self ..)))), (List.mem_cons_of_mem _ (List.mem_cons_of_mem _ (List.mem_cons_of_mem _ (List.mem_cons_of_mem _ (List.mem_cons_self ..))))), by simp⟩)) (by have := hzW1.out; have := hzW56.out; have := hzW58.out; have := hzW60.out; omega) (by have := hzW1.out; have := hzW56.out; have := hzW58.out; have := hzW60.out; simp <;> omega) 0 (.int .i64 m.wd)) (by have := hzW1.out; have := hzW56.out; have := hzW58.out; have := hzW60.out; omega) (by have := hzW1.out; have := hzW56.out; have := hzW58.out; have := hzW60.out; simp <;> omega) 1 (.slice none 0 0))) (Lib.hid (by simp))
            clear HR
            have HR := Lib.hid hRn
            clear hRn
            refine hw_ready (rs := [13]) (by kernel_rfl) (by simp) ?_
            refine AllHW.cons (i := 13) (o := ⟨none, _, _, _, _, _⟩) rfl rfl (by kernel_rfl) (fun K hK => ?s63) ?ms63
            case s63 =>
              have u0 := (boxCells (HR.out.frm.h _ (List.mem_cons_of_mem _ (List.mem_cons_self ..)))).1
              have f0 := (boxCells (HR.out.frm.h _ (List.mem_cons_of_mem _ (List.mem_cons_self ..)))).2
              have l0 := lt_of_blk (HR.out.frm.h _ (List.mem_cons_of_mem _ (List.mem_cons_self ..)))
              (try go_simp)
              clear u0 f0 l0
              refine (fun (W64 : World) (hRn : RW w _ [(W58.heap.size, (.cells #[.int .i64 m.wd, .slice none 0 0] 27)), (W56.heap.size, (.cells #[.int .i64 m.wd, .slice none 0 0] 27)), (W1.heap.size, (.cells #[.int .i64 0, .slice none 0 0] 27)), (g1, (.cells cur1 41)), (w.heap.size, (mpBox m (.slice A cs.length c)))] [] W64) (hzW64 : Hid (W64.heap.size = W62.heap.size)) => hK.out _ W64 ((hRn.frm.cells (List.mem_cons_of_mem _ (List.mem_cons_of_mem _ (List.mem_cons_of_mem _ (List.mem_cons_of_mem _ (List.mem_cons_self ..))))))) ?_) _ ((RW.put (RW.put (RW.less (bs' := [(W58.heap.size, (.cells #[.int .i64 0, .slice none 0 0] 27)), (W56.heap.size, (.cells #[.int .i64 m.wd, .slice none 0 0] 27)), (W1.heap.size, (.cells #[.int .i64 0, .slice none 0 0] 27)), (g1, (.cells cur1 41)), (w.heap.size, (mpBox m (.slice A cs.length c)))]) HR.out (by simp only [List.forall_mem_cons, List.forall_mem_nil, and_true]; exact ⟨(List.mem_cons_of_mem _ (List.mem_cons_self ..)), (List.mem_cons_self ..), (List.mem_cons_of_mem _ (List.mem_cons_of_mem _ (List.mem_cons_self ..))), (List.mem_cons_of_mem _ (List.mem_cons_of_mem _ (List.mem_cons_of_mem _ (List.mem_cons_self ..)))), (List.mem_cons_of_mem _ (List.mem_cons_of_mem _ (List.mem_cons_of_mem _ (List.mem_cons_of_mem _ (List.mem_cons_self ..))))), by simp⟩)) (by have := hzW1.out; have := hzW56.out; have := hzW58.out; have := hzW60.out; have := hzW62.out; omega) (by have := hzW1.out; have := hzW56.out; have := hzW58.out; have := hzW60.out; have := hzW62.out; simp <;> omega) 0 (.int .i64 m.wd)) (by have := hzW1.out; have := hzW56.out; have := hzW58.out; have := hzW60.out; have := hzW62.out; omega) (by have := hzW1.out; have := hzW56.out; have := hzW58.out; have := hzW60.out; have := hzW62.out; simp <;> omega) 1 (.slice none 0 0))) (Lib.hid (by simp))
              clear HR
              have HR := Lib.hid hRn
              clear hRn
              refine hw_ready (rs := [14]) (by kernel_rfl) (by simp) ?_
              refine AllHW.cons (i := 14) (o := ⟨none, _, _, _, _, _⟩) rfl rfl (by kernel_rfl) (fun K hK => ?s65) ?ms65
              case s65 =>
                have u0 := (boxCells (HR.out.frm.h _ (List.mem_cons_of_mem _ (List.mem_cons_of_mem _ (List.mem_cons_self ..))))).1
                have f0 := (boxCells (HR.out.frm.h _ (List.mem_cons_of_mem _ (List.mem_cons_of_mem _ (List.mem_cons_self ..))))).2
                have l0 := lt_of_blk (HR.out.frm.h _ (List.mem_cons_of_mem _ (List.mem_cons_of_mem _ (List.mem_cons_self ..))))
                (try go_simp)
                clear u0 f0 l0
                refine (fun (W66 : World) (hRn : RW w _ [(W1.heap.size, (.cells #[.int .i64 m.wd, .slice none 0 0] 27)), (W58.heap.size, (.cells #[.int .i64 m.wd, .slice none 0 0] 27)), (W56.heap.size, (.cells #[.int .i64 m.wd, .slice none 0 0] 27)), (g1, (.cells cur1 41)), (w.heap.size, (mpBox m (.slice A cs.length c)))] [] W66) (hzW66 : Hid (W66.heap.size = W64.heap.size)) => hK.out _ W66 ((hRn.frm.cells (List.mem_cons_of_mem _ (List.mem_cons_of_mem _ (List.mem_cons_of_mem _ (List.mem_cons_of_mem _ (List.mem_cons_self ..))))))) ?_) _ ((RW.put (RW.put (RW.less (bs' := [(W1.heap.size, (.cells #[.int .i64 0, .slice none 0 0] 27)), (W58.heap.size, (.cells #[.int .i64 m.wd, .slice none 0 0] 27)), (W56.heap.size, (.cells #[.int .i64 m.wd, .slice none 0 0] 27)), (g1, (.cells cur1 41)), (w.heap.size, (mpBox m (.slice A cs.length c)))]) HR.out (by simp only [List.forall_mem_cons, List.forall_mem_nil, and_true]; exact ⟨(List.mem_cons_of_mem _ (List.mem_cons_of_mem _ (List.mem_cons_self ..))), (List.mem_cons_self ..), (List.mem_cons_of_mem _ (List.mem_cons_self ..)), (List.mem_cons_of_mem _ (List.mem_cons_of_mem _ (List.mem_cons_of_mem _ (List.mem_cons_self ..)))), (List.mem_cons_of_mem _ (List.mem_cons_of_mem _ (List.mem_cons_of_mem _ (List.mem_cons_of_mem _ (List.mem_cons_self ..))))), by simp⟩)) (by have := hzW1.out; have := hzW56.out; have := hzW58.out; have := hzW60.out; have := hzW62.out; have := hzW64.out; omega) (by have := hzW1.out; have := hzW56.out; have := hzW58.out; have := hzW60.out; have := hzW62.out; have := hzW64.out; simp <;> omega) 0 (.int .i64 m.wd)) (by have := hzW1.out; have := hzW56.out; have := hzW58.out; have := hzW60.out; have := hzW62.out; have := hzW64.out; omega) (by have := hzW1.out; have := hzW56.out; have := hzW58.out; have := hzW60.out; have := hzW62.out; have := hzW64.out; simp <;> omega) 1 (.slice none 0 0))) (Lib.hid (by simp))
                clear HR
                have HR := Lib.hid hRn
                clear hRn
                refine hw_done (by kernel_rfl) ?_
                go_wp2_with fail
                go_meet
                have zhzW1 := hzW1.out
                have zhzW56 := hzW56.out
                have zhzW58 := hzW58.out
                have zhzW60 := hzW60.out
                have zhzW62 := hzW62.out
                have zhzW64 := hzW64.out
                have zhzW66 := hzW66.out
                exact ⟨W56.heap.size, W58.heap.size, W1.heap.size, rfl, rfl, rfl, by omega, by omega, by omega, by omega, by omega, by omega, (RW.less (bs' := [(W56.heap.size, (.cells #[.int .i64 m.wd, .slice none 0 0] 27)), (W58.heap.size, (.cells #[.int .i64 m.wd, .slice none 0 0] 27)), (W1.heap.size, (.cells #[.int .i64 m.wd, .slice none 0 0] 27)), (g1, (.cells cur1 41)), (w.heap.size, (mpBox m (.slice A cs.length c)))]) HR.out (by simp only [List.forall_mem_cons, List.forall_mem_nil, and_true]; exact ⟨(List.mem_cons_of_mem _ (List.mem_cons_of_mem _ (List.mem_cons_self ..))), (List.mem_cons_of_mem _ (List.mem_cons_self ..)), (List.mem_cons_self ..), (List.mem_cons_of_mem _ (List.mem_cons_of_mem _ (List.mem_cons_of_mem _ (List.mem_cons_self ..)))), (List.mem_cons_of_mem _ (List.mem_cons_of_mem _ (List.mem_cons_of_mem _ (List.mem_cons_of_mem _ (List.mem_cons_self ..))))), by simp⟩)).frm⟩
              exact AllHW.nil
            exact AllHW.nil
          exact AllHW.nil
        exact AllHW.nil
      refine AllHW.cons (i := 10) (o := ⟨some 10, _, _, _, _, _⟩) rfl rfl (by kernel_rfl) (fun K hK => ?s67) ?ms67
      case s67 =>
        (try go_simp)
        refine (fun (W68 : World) (hRn : RW w _ [(W56.heap.size, (.cells #[.int .i64 0, .slice none 0 0] 27)), (W1.heap.size, (.cells #[.int .i64 0, .slice none 0 0] 27)), (g1, (.cells cur1 41)), (w.heap.size, (mpBox m (.slice A cs.length c)))] [] W68) (hzW68 : Hid (W68.heap.size = W56.heap.size + 1)) => hK.out _ W68 ((hRn.frm.cells (List.mem_cons_of_mem _ (List.mem_cons_of_mem _ (List.mem_cons_of_mem _ (List.mem_cons_self ..)))))) ?_) _ (HR.out.add (.cells #[.int .i64 0, .slice none 0 0] 27) rfl) (Lib.hid (by simp))
        clear HR
        have HR := Lib.hid hRn
        clear hRn
        refine hw_ready (rs := [9]) (by kernel_rfl) (by simp) ?_
        refine AllHW.cons (i := 9) (o := ⟨some 9, _, _, _, _, _⟩) rfl rfl (by kernel_rfl) (fun K hK => ?s69) ?ms69
        case s69 =>
          (try go_simp)
          refine (fun (W70 : World) (hRn : RW w _ [(W68.heap.size, (.cells #[.int .i64 0, .slice none 0 0] 27)), (W56.heap.size, (.cells #[.int .i64 0, .slice none 0 0] 27)), (W1.heap.size, (.cells #[.int .i64 0, .slice none 0 0] 27)), (g1, (.cells cur1 41)), (w.heap.size, (mpBox m (.slice A cs.length c)))] [] W70) (hzW70 : Hid (W70.heap.size = W68.heap.size + 1)) => hK.out _ W70 ((hRn.frm.cells (List.mem_cons_of_mem _ (List.mem_cons_of_mem _ (List.mem_cons_of_mem _ (List.mem_cons_of_mem _ (List.mem_cons_self ..))))))) ?_) _ (HR.out.add (.cells #[.int .i64 0, .slice none 0 0] 27) rfl) (Lib.hid (by simp))
          clear HR
          have HR := Lib.hid hRn
          clear hRn
          refine hw_ready (rs := [12]) (by kernel_rfl) (by simp) ?_
          refine AllHW.cons (i := 12) (o := ⟨none, _, _, _, _, _⟩) rfl rfl (by kernel_rfl) (fun K hK => ?s71) ?ms71
          case s71 =>
            have u0 := (boxCells (HR.out.frm.h _ (List.mem_cons_self ..))).1
            have f0 := (boxCells (HR.out.frm.h _ (List.mem_cons_self ..))).2
            have l0 := lt_of_blk (HR.out.frm.h _ (List.mem_cons_self ..))
            (try go_simp)
            clear u0 f0 l0
            refine (fun (W72 : World) (hRn : RW w _ [(W68.heap.size, (.cells #[.int .i64 m.wd, .slice none 0 0] 27)), (W56.heap.size, (.cells #[.int .i64 0, .slice none 0 0] 27)), (W1.heap.size, (.cells #[.int .i64 0, .slice none 0 0] 27)), (g1, (.cells cur1 41)), (w.heap.size, (mpBox m (.slice A cs.length c)))] [] W72) (hzW72 : Hid (W72.heap.size = W70.heap.size)) => hK.out _ W72 ((hRn.frm.cells (List.mem_cons_of_mem _ (List.mem_cons_of_mem _ (List.mem_cons_of_mem _ (List.mem_cons_of_mem _ (List.mem_cons_self ..))))))) ?_) _ ((RW.put (RW.put (RW.less (bs' := [(W68.heap.size, (.cells #[.int .i64 0, .slice none 0 0] 27)), (W56.heap.size, (.cells #[.int .i64 0, .slice none 0 0] 27)), (W1.heap.size, (.cells #[.int .i64 0, .slice none 0 0] 27)), (g1, (.cells cur1 41)), (w.heap.size, (mpBox m (.slice A cs.length c)))]) HR.out (by simp only [List.forall_mem_cons, List.forall_mem_nil, and_true]; exact ⟨(List.mem_cons_self ..), (List.mem_cons_of_mem _ (List.mem_cons_self ..)), (List.mem_cons_of_mem _ (List.mem_cons_of_mem _ (List.mem_cons_self ..))), (List.mem_cons_of_mem _ (List.mem_cons_of_mem _ (List.mem_cons_of_mem _ (List.mem_cons_self ..)))), (List.mem_cons_of_mem _ (List.mem_cons_of_mem _ (List.mem_cons_of_mem _ (List.mem_cons_of_mem _ (List.mem_cons_self ..))))), by simp⟩)) (by have := hzW1.out; have := hzW56.out; have := hzW68.out; have := hzW70.out; omega) (by have := hzW1.out; have := hzW56.out; have := hzW68.out; have := hzW70.out; simp <;> omega) 0 (.int .i64 m.wd)) (by have := hzW1.out; have := hzW56.out; have := hzW68.out; have := hzW70.out; omega) (by have := hzW1.out; have := hzW56.out; have := hzW68.out; have := hzW70.out; simp <;> omega) 1 (.slice none 0 0))) (Lib.hid (by simp))
            clear HR
            have HR := Lib.hid hRn
            clear hRn
            refine hw_ready (rs := [13]) (by kernel_rfl) (by simp) ?_
            refine AllHW.cons (i := 13) (o := ⟨none, _, _, _, _, _⟩) rfl rfl (by kernel_rfl) (fun K hK => ?s73) ?ms73
            case s73 =>
              have u0 := (boxCells (HR.out.frm.h _ (List.mem_cons_of_mem _ (List.mem_cons_self ..)))).1
              have f0 := (boxCells (HR.out.frm.h _ (List.mem_cons_of_mem _ (List.mem_cons_self ..)))).2
              have l0 := lt_of_blk (HR.out.frm.h _ (List.mem_cons_of_mem _ (List.mem_cons_self ..)))
              (try go_simp)
              clear u0 f0 l0
              refine (fun (W74 : World) (hRn : RW w _ [(W56.heap.size, (.cells #[.int .i64 m.wd, .slice none 0 0] 27)), (W68.heap.size, (.cells #[.int .i64 m.wd, .slice none 0 0] 27)), (W1.heap.size, (.cells #[.int .i64 0, .slice none 0 0] 27)), (g1, (.cells cur1 41)), (w.heap.size, (mpBox m (.slice A cs.length c)))] [] W74) (hzW74 : Hid (W74.heap.size = W72.heap.size)) => hK.out _ W74 ((hRn.frm.cells (List.mem_cons_of_mem _ (List.mem_cons_of_mem _ (List.mem_cons_of_mem _ (List.mem_cons_of_mem _ (List.mem_cons_self ..))))))) ?_) _ ((RW.put (RW.put (RW.less (bs' := [(W56.heap.size, (.cells #[.int .i64 0, .slice none 0 0] 27)), (W68.heap.size, (.cells #[.int .i64 m.wd, .slice none 0 0] 27)), (W1.heap.size, (.cells #[.int .i64 0, .slice none 0 0] 27)), (g1, (.cells cur1 41)), (w.heap.size, (mpBox m (.slice A cs.length c)))]) HR.out (by simp only [List.forall_mem_cons, List.forall_mem_nil, and_true]; exact ⟨(List.mem_cons_of_mem _ (List.mem_cons_self ..)), (List.mem_cons_self ..), (List.mem_cons_of_mem _ (List.mem_cons_of_mem _ (List.mem_cons_self ..))), (List.mem_cons_of_mem _ (List.mem_cons_of_mem _ (List.mem_cons_of_mem _ (List.mem_cons_self ..)))), (List.mem_cons_of_mem _ (List.mem_cons_of_mem _ (List.mem_cons_of_mem _ (List.mem_cons_of_mem _ (List.mem_cons_self ..))))), by simp⟩)) (by have := hzW1.out; have := hzW56.out; have := hzW68.out; have := hzW70.out; have := hzW72.out; omega) (by have := hzW1.out; have := hzW56.out; have := hzW68.out; have := hzW70.out; have := hzW72.out; simp <;> omega) 0 (.int .i64 m.wd)) (by have := hzW1.out; have := hzW56.out; have := hzW68.out; have := hzW70.out; have := hzW72.out; omega) (by have := hzW1.out; have := hzW56.out; have := hzW68.out; have := hzW70.out; have := hzW72.out; simp <;> omega) 1 (.slice none 0 0))) (Lib.hid (by simp))
              clear HR
              have HR := Lib.hid hRn
              clear hRn
              refine hw_ready (rs := [14]) (by kernel_rfl) (by simp) ?_
              refine AllHW.cons (i := 14) (o := ⟨none, _, _, _, _, _⟩) rfl rfl (by kernel_rfl) (fun K hK => ?s75) ?ms75
              case s75 =>
                have u0 := (boxCells (HR.out.frm.h _ (List.mem_cons_of_mem _ (List.mem_cons_of_mem _ (List.mem_cons_self ..))))).1
                have f0 := (boxCells (HR.out.frm.h _ (List.mem_cons_of_mem _ (List.mem_cons_of_mem _ (List.mem_cons_self ..))))).2
                have l0 := lt_of_blk (HR.out.frm.h _ (List.mem_cons_of_mem _ (List.mem_cons_of_mem _ (List.mem_cons_self ..))))
                (try go_simp)
                clear u0 f0 l0
                refine (fun (W76 : World) (hRn : RW w _ [(W1.heap.size, (.cells #[.int .i64 m.wd, .slice none 0 0] 27)), (W56.heap.size, (.cells #[.int .i64 m.wd, .slice none 0 0] 27)), (W68.heap.size, (.cells #[.int .i64 m.wd, .slice none 0 0] 27)), (g1, (.cells cur1 41)), (w.heap.size, (mpBox m (.slice A cs.length c)))] [] W76) (hzW76 : Hid (W76.heap.size = W74.heap.size)) => hK.out _ W76 ((hRn.frm.cells (List.mem_cons_of_mem _ (List.mem_cons_of_mem _ (List.mem_cons_of_mem _ (List.mem_cons_of_mem _ (List.mem_cons_self ..))))))) ?_) _ ((RW.put (RW.put (RW.less (bs' := [(W1.heap.size, (.cells #[.int .i64 0, .slice none 0 0] 27)), (W56.heap.size, (.cells #[.int .i64 m.wd, .slice none 0 0] 27)), (W68.heap.size, (.cells #[.int .i64 m.wd, .slice none 0 0] 27)), (g1, (.cells cur1 41)), (w.heap.size, (mpBox m (.slice A cs.length c)))]) HR.out (by simp only [List.forall_mem_cons, List.forall_mem_nil, and_true]; exact ⟨(List.mem_cons_of_mem _ (List.mem_cons_of_mem _ (List.mem_cons_self ..))), (List.mem_cons_self ..), (List.mem_cons_of_mem _ (List.mem_cons_self ..)), (List.mem_cons_of_mem _ (List.mem_cons_of_mem _ (List.mem_cons_of_mem _ (List.mem_cons_self ..)))), (List.mem_cons_of_mem _ (List.mem_cons_of_mem _ (List.mem_cons_of_mem _ (List.mem_cons_of_mem _ (List.mem_cons_self ..))))), by simp⟩)) (by have := hzW1.out; have := hzW56.out; have := hzW68.out; have := hzW70.out; have := hzW72.out; have := hzW74.out; omega) (by have := hzW1.out; have := hzW56.out; have := hzW68.out; have := hzW70.out; have := hzW72.out; have := hzW74.out; simp <;> omega) 0 (.int .i64 m.wd)) (by have := hzW1.out; have := hzW56.out; have := hzW68.out; have := hzW70.out; have := hzW72.out; have := hzW74.out; omega) (by have := hzW1.out; have := hzW56.out; have := hzW68.out; have := hzW70.out; have := hzW72.out; have := hzW74.out; simp <;> omega) 1 (.slice none 0 0))) (Lib.hid (by simp))
                clear HR
                have HR := Lib.hid hRn
                clear hRn
                refine hw_done (by kernel_rfl) ?_
                go_wp2_with fail
                go_meet
                have zhzW1 := hzW1.out
                have zhzW56 := hzW56.out
                have zhzW68 := hzW68.out
                have zhzW70 := hzW70.out
                have zhzW72 := hzW72.out
                have zhzW74 := hzW74.out
                have zhzW76 := hzW76.out
                exact ⟨W68.heap.size, W56.heap.size, W1.heap.size, rfl, rfl, rfl, by omega, by omega, by omega, by omega, by omega, by omega, (RW.less (bs' := [(W68.heap.size, (.cells #[.int .i64 m.wd, .slice none 0 0] 27)), (W56.heap.size, (.cells #[.int .i64 m.wd, .slice none 0 0] 27)), (W1.heap.size, (.cells #[.int .i64 m.wd, .slice none 0 0] 27)), (g1, (.cells cur1 41)), (w.heap.size, (mpBox m (.slice A cs.length c)))]) HR.out (by simp only [List.forall_mem_cons, List.forall_mem_nil, and_true]; exact ⟨(List.mem_cons_of_mem _ (List.mem_cons_of_mem _ (List.mem_cons_self ..))), (List.mem_cons_of_mem _ (List.mem_cons_self ..)), (List.mem_cons_self ..), (List.mem_cons_of_mem _ (List.mem_cons_of_mem _ (List.mem_cons_of_mem _ (List.mem_cons_self ..)))), (List.mem_cons_of_mem _ (List.mem_cons_of_mem _ (List.mem_cons_of_mem _ (List.mem_cons_of_mem _ (List.mem_cons_self ..))))), by simp⟩)).frm⟩
              exact AllHW.nil
            exact AllHW.nil
          exact AllHW.nil
        exact AllHW.nil
      exact AllHW.nil
    exact AllHW.nil

  case rest =>
    obtain ⟨P, Q, R, rfl, rfl, rfl, nPQ, nPR, nQR, lP, lQ, lR, hF⟩ := hcut
    clear HR x0 x1 hRW
    have HR := Lib.hid hF
    clear hF
    have zP := HR.out.lt (List.mem_cons_self ..)
    have zQ := HR.out.lt (List.mem_cons_of_mem _ (List.mem_cons_self ..))
    have zR := HR.out.lt (List.mem_cons_of_mem _ (List.mem_cons_of_mem _ (List.mem_cons_self ..)))
    have zg2 := HR.out.lt (List.mem_cons_of_mem _ (List.mem_cons_of_mem _ (List.mem_cons_of_mem _ (List.mem_cons_self ..))))
    have x0 := HR.out.cells (List.mem_cons_self ..)
    have x1 := HR.out.cells (List.mem_cons_of_mem _ (List.mem_cons_self ..))
    have x2 := HR.out.cells (List.mem_cons_of_mem _ (List.mem_cons_of_mem _ (List.mem_cons_self ..)))
    have x3 := HR.out.cells (List.mem_cons_of_mem _ (List.mem_cons_of_mem _ (List.mem_cons_of_mem _ (List.mem_cons_self ..))))
    have x4 := HR.out.cells (List.mem_cons_of_mem _ (List.mem_cons_of_mem _ (List.mem_cons_of_mem _ (List.mem_cons_of_mem _ (List.mem_cons_self ..)))))
    rename World => wx
    go_upto_region 8 with fail
    have HRq := Lib.hid (HR.out.add (k := wx.heap.size) (.cells #[.int .i64 lo, .int .i64 hi] 41) rfl)
    generalize hW8 : wx.alloc (.cells #[.int .i64 lo, .int .i64 hi] 41) = W8 at HRq ⊢
    obtain ⟨bx, hbx⟩ : ∃ bx, bx = wx.heap.size := ⟨_, rfl⟩
    simp only [← hbx] at HRq ⊢
    have hbP : P < bx := by omega
    have hbQ : Q < bx := by omega
    have hbR : R < bx := by omega
    have hbg : g1 < bx := by omega
    have hbw : w.heap.size < bx := by omega
    have hgP : g1 < P := by omega
    have hgQ : g1 < Q := by omega
    have hgR : g1 < R := by omega
    have hwP : w.heap.size < P := by omega
    have hwQ : w.heap.size < Q := by omega
    have hwR : w.heap.size < R := by omega
    clear HR x0 x1 x2 x3 x4 hW8 hbx zP zQ zR zg2 lP lQ lR zg zw
    have HR := HRq
    clear HRq
    have x0 := HR.out.cells (List.mem_cons_self ..)
    have x1 := HR.out.cells (List.mem_cons_of_mem _ (List.mem_cons_self ..))
    have x2 := HR.out.cells (List.mem_cons_of_mem _ (List.mem_cons_of_mem _ (List.mem_cons_self ..)))
    have x3 := HR.out.cells (List.mem_cons_of_mem _ (List.mem_cons_of_mem _ (List.mem_cons_of_mem _ (List.mem_cons_self ..))))
    have x4 := HR.out.cells (List.mem_cons_of_mem _ (List.mem_cons_of_mem _ (List.mem_cons_of_mem _ (List.mem_cons_of_mem _ (List.mem_cons_self ..)))))
    have x5 := HR.out.cells (List.mem_cons_of_mem _ (List.mem_cons_of_mem _ (List.mem_cons_of_mem _ (List.mem_cons_of_mem _ (List.mem_cons_of_mem _ (List.mem_cons_self ..))))))
    go_wp2_with fail
    obtain ⟨base, hRW⟩ : ∃ base, RW w base [(P, (.cells #[.int .i64 m.wd, .slice none 0 0] 27)), (Q, (.cells #[.int .i64 m.wd, .slice none 0 0] 27)), (R, (.cells #[.int .i64 m.wd, .slice none 0 0] 27)), (bx, (.cells #[.int .i64 lo, .int .i64 hi] 41)), (g1, (.cells cur1 41)), (w.heap.size, (mpBox m (.slice A cs.length c)))] [rwI (.slice none 0 0) (0) (rowZ fL (0)), rwI (.slice none 0 0) (0) (rowZ fH (0)), rwI (.slice none 0 0) (0) (rowZ fC (0))] W8 := ⟨_, (((RW.start (HR.out.less (bs' := [(P, (.cells #[.int .i64 m.wd, .slice none 0 0] 27)), (Q, (.cells #[.int .i64 m.wd, .slice none 0 0] 27)), (R, (.cells #[.int .i64 m.wd, .slice none 0 0] 27)), (bx, (.cells #[.int .i64 lo, .int .i64 hi] 41)), (g1, (.cells cur1 41)), (w.heap.size, (mpBox m (.slice A cs.length c)))]) (by simp only [List.forall_mem_cons, List.forall_mem_nil, and_true]; exact ⟨(List.mem_cons_of_mem _ (List.mem_cons_self ..)), (List.mem_cons_of_mem _ (List.mem_cons_of_mem _ (List.mem_cons_self ..))), (List.mem_cons_of_mem _ (List.mem_cons_of_mem _ (List.mem_cons_of_mem _ (List.mem_cons_self ..)))), (List.mem_cons_self ..), (List.mem_cons_of_mem _ (List.mem_cons_of_mem _ (List.mem_cons_of_mem _ (List.mem_cons_of_mem _ (List.mem_cons_self ..))))), (List.mem_cons_of_mem _ (List.mem_cons_of_mem _ (List.mem_cons_of_mem _ (List.mem_cons_of_mem _ (List.mem_cons_of_mem _ (List.mem_cons_self ..)))))), by simp⟩))).nil 3 1).nil 3 1).nil 3 1⟩
    clear HR x0 x1 x2 x3 x4 x5
    go_loopw [14] (fun i wr => ∃ n E1 c1 E2 c2 E3 c3, n ≤ N ∧ i = .int .i64 (n : Int) ∧ RW w base [(P, (.cells #[.int .i64 m.wd, .slice E1 n c1] 27)), (Q, (.cells #[.int .i64 m.wd, .slice E2 n c2] 27)), (R, (.cells #[.int .i64 m.wd, .slice E3 n c3] 27)), (bx, (.cells #[.int .i64 lo, .int .i64 hi] 41)), (g1, (.cells cur1 41)), (w.heap.size, (mpBox m (.slice A cs.length c)))] [rwI (.slice E1 n c1) (n) (rowZ fL (n)), rwI (.slice E2 n c2) (n) (rowZ fH (n)), rwI (.slice E3 n c3) (n) (rowZ fC (n))] wr) (fun i _ => N - (intOf i).toNat)
    case atStart => exact ⟨0, none, 0, none, 0, none, 0, Nat.zero_le _, rfl, hRW⟩
    case round =>
      obtain ⟨n, E1, c1, E2, c2, E3, c3, hn, rfl, hF⟩ := hrel
      clear hRW
      have HR := Lib.hid hF
      clear hF
      by_cases hnl : n < N
      · have HD0 := Lib.hid (show cur1[n * 2]? = some (.int .i64 (fL n)) by rw [(HW1.out n _ (rowP_at hnl)).1, HFL.out]; rfl)
        have HD1 := Lib.hid (show cur1[n * 2 + 1]? = some (.int .i64 (fH n)) by rw [(HW1.out n _ (rowP_at hnl)).2, HFH.out]; rfl)
        have HDI := Lib.hid (fun W => rDistance_any m.wd pt n W hsa.ok.w1 (by have := hsa.ok.w2; omega) (by omega) (by omega) (by omega) (by omega))
        have hdb := dist_bd (wd := m.wd) (a := pt) (b := n) hsa.ok.w1 (by omega) (by omega) (by omega) (by omega)
        have hFCn : fC n = min (fH n) (v + m.sl * distI m.wd pt n) := by rw [HFC.out]
        have hdd : 0 ≤ distI m.wd pt n ∧ distI m.wd pt n ≤ 1000006 := by have := hsa.ok.w2; unfold distI; omega
        obtain ⟨d, hd⟩ : ∃ d, distI m.wd pt n = d := ⟨_, rfl⟩
        rw [hd] at HDI hFCn hdd
        have hsd : 0 ≤ m.sl * d := Int.mul_nonneg hsa.ok.s0 hdd.1
        have hsd2 : m.sl * d ≤ 5000 * 1000006 := Int.mul_le_mul hsa.ok.s1 hdd.2 hdd.1 (by omega)
        have e7 : IntKind.i64.wrap (m.sl * d) = m.sl * d := IntWalk.i64_in _ (by omega)
        have e8 : IntKind.i64.wrap (v + m.sl * d) = v + m.sl * d := IntWalk.i64_in _ (by omega)
        have hlhn := HLH.out n
        have e9 : min (fH n) (v + m.sl * d) = fC n := hFCn.symm
        clear hd hdb hFCn hsd hsd2 hdd
        go_upto_region 14 with fail
        go_cut [101] (fun s101 wx => ∃ g2 d2 g3 d3, RW w base [(P, (.cells #[.int .i64 m.wd, .slice (some ⟨g2, 0, none⟩) (n + 1) d2] 27)), (Q, (.cells #[.int .i64 m.wd, .slice (some ⟨g3, 0, none⟩) (n + 1) d3] 27)), (R, (.cells #[.int .i64 m.wd, .slice E3 n c3] 27)), (bx, (.cells #[.int .i64 lo, .int .i64 hi] 41)), (g1, (.cells cur1 41)), (w.heap.size, (mpBox m (.slice A cs.length c)))] [rwI (.slice (some ⟨g2, 0, none⟩) (n + 1) d2) (n + 1) (rowZ fL (n + 1)), rwI (.slice (some ⟨g3, 0, none⟩) (n + 1) d3) (n + 1) (rowZ fH (n + 1)), rwI (.slice E3 n c3) (n) (rowZ fC (n))] wx)
        case first =>
          refine hw_start (S := fun w' => (∀ o, w'.cell? ⟨P, o, none⟩ = #[Value.int .i64 m.wd, .slice E1 n c1][o]?) ∧ (∀ o, w'.cell? ⟨Q, o, none⟩ = #[Value.int .i64 m.wd, .slice E2 n c2][o]?) ∧ w'.cell? ⟨g1, n * 2, none⟩ = some (.int .i64 (fL n)) ∧ w'.cell? ⟨g1, n * 2 + 1, none⟩ = some (.int .i64 (fH n))) (by kernel_rfl) (⟨HR.out.drew.frm.cells (List.mem_cons_self ..), HR.out.drew.frm.cells (List.mem_cons_of_mem _ (List.mem_cons_self ..)), (HR.out.drew.frm.cells (List.mem_cons_of_mem _ (List.mem_cons_of_mem _ (List.mem_cons_of_mem _ (List.mem_cons_of_mem _ (List.mem_cons_self ..))))) _).trans HD0.out, (HR.out.drew.frm.cells (List.mem_cons_of_mem _ (List.mem_cons_of_mem _ (List.mem_cons_of_mem _ (List.mem_cons_of_mem _ (List.mem_cons_self ..))))) _).trans HD1.out⟩) ?_
          refine (fun (W77 : World) (hRn : RW w base [(P, (.cells #[.int .i64 m.wd, .slice E1 n c1] 27)), (Q, (.cells #[.int .i64 m.wd, .slice E2 n c2] 27)), (R, (.cells #[.int .i64 m.wd, .slice E3 n c3] 27)), (bx, (.cells #[.int .i64 lo, .int .i64 hi] 41)), (g1, (.cells cur1 41)), (w.heap.size, (mpBox m (.slice A cs.length c)))] [rwI (.slice E1 n c1) (n) (rowZ fL (n)), rwI (.slice E2 n c2) (n) (rowZ fH (n)), rwI (.slice E3 n c3) (n) (rowZ fC (n))] W77) (hzW77 : Hid (W77.heap.size = wr.heap.size)) => (?_ : HW _ _ _ _ _ _ _ W77)) _ HR.out.drew (Lib.hid rfl)
          clear HR
          have HR := Lib.hid hRn
          clear hRn
          refine hw_pure (i := 0) (oi := ⟨some 101, _, _, _, _, _⟩) (v := ?v78) rfl (by kernel_rfl) (by kernel_rfl) (by kernel_rfl) (by kernel_rfl) (fun _ _ _ h => h) rfl (by kernel_rfl) ?hv78 ?rv78
          case hv78 => (intro w; go_simp) <;> (with_reducible rfl)
          try simp only [Act.put, List.setIfInBounds_toArray, List.set_cons_zero, List.set_cons_succ]
          refine hw_load (i := 1) (oi := ⟨some 102, _, _, _, _, _⟩) (v := ?v79) rfl (by kernel_rfl) (by kernel_rfl) (by kernel_rfl) (by kernel_rfl) (by kernel_rfl) (fun _ _ _ h => h) rfl (by kernel_rfl) ?hv79 ?rv79
          case hv79 => (intro w hSw; (try dsimp only at hSw); go_simp) <;> (with_reducible rfl)
          try simp only [Act.put, List.setIfInBounds_toArray, List.set_cons_zero, List.set_cons_succ]
          refine hw_pure (i := 2) (oi := ⟨some 103, _, _, _, _, _⟩) (v := ?v80) rfl (by kernel_rfl) (by kernel_rfl) (by kernel_rfl) (by kernel_rfl) (fun _ _ _ h => h) rfl (by kernel_rfl) ?hv80 ?rv80
          case hv80 => (intro w; go_simp) <;> (with_reducible rfl)
          try simp only [Act.put, List.setIfInBounds_toArray, List.set_cons_zero, List.set_cons_succ]
          refine hw_pure (i := 3) (oi := ⟨some 104, _, _, _, _, _⟩) (v := ?v81) rfl (by kernel_rfl) (by kernel_rfl) (by kernel_rfl) (by kernel_rfl) (fun _ _ _ h => h) rfl (by kernel_rfl) ?hv81 ?rv81
          case hv81 => (intro w; go_simp) <;> (with_reducible rfl)
          try simp only [Act.put, List.setIfInBounds_toArray, List.set_cons_zero, List.set_cons_succ]
          refine hw_pure (i := 4) (oi := ⟨some 105, _, _, _, _, _⟩) (v := ?v82) rfl (by kernel_rfl) (by kernel_rfl) (by kernel_rfl) (by kernel_rfl) (fun _ _ _ h => h) rfl (by kernel_rfl) ?hv82 ?rv82
          case hv82 => (intro w; go_simp) <;> (with_reducible rfl)
          try simp only [Act.put, List.setIfInBounds_toArray, List.set_cons_zero, List.set_cons_succ]
          refine hw_pure (i := 5) (oi := ⟨some 106, _, _, _, _, _⟩) (v := ?v83) rfl (by kernel_rfl) (by kernel_rfl) (by kernel_rfl) (by kernel_rfl) (fun _ _ _ h => h) rfl (by kernel_rfl) ?hv83 ?rv83
          case hv83 => (intro w; go_simp) <;> (with_reducible rfl)
          try simp only [Act.put, List.setIfInBounds_toArray, List.set_cons_zero, List.set_cons_succ]
          refine hw_load (i := 6) (oi := ⟨some 107, _, _, _, _, _⟩) (v := ?v84) rfl (by kernel_rfl) (by kernel_rfl) (by kernel_rfl) (by kernel_rfl) (by kernel_rfl) (fun _ _ _ h => h) rfl (by kernel_rfl) ?hv84 ?rv84
          case hv84 => (intro w hSw; (try dsimp only at hSw); go_simp) <;> (with_reducible rfl)
          try simp only [Act.put, List.setIfInBounds_toArray, List.set_cons_zero, List.set_cons_succ]
          refine hw_pure (i := 9) (oi := ⟨some 110, _, _, _, _, _⟩) (v := ?v85) rfl (by kernel_rfl) (by kernel_rfl) (by kernel_rfl) (by kernel_rfl) (fun _ _ _ h => h) rfl (by kernel_rfl) ?hv85 ?rv85
          case hv85 => (intro w; go_simp) <;> (with_reducible rfl)
          try simp only [Act.put, List.setIfInBounds_toArray, List.set_cons_zero, List.set_cons_succ]
          refine hw_load (i := 10) (oi := ⟨some 111, _, _, _, _, _⟩) (v := ?v86) rfl (by kernel_rfl) (by kernel_rfl) (by kernel_rfl) (by kernel_rfl) (by kernel_rfl) (fun _ _ _ h => h) rfl (by kernel_rfl) ?hv86 ?rv86
          case hv86 => (intro w hSw; (try dsimp only at hSw); go_simp) <;> (with_reducible rfl)
          try simp only [Act.put, List.setIfInBounds_toArray, List.set_cons_zero, List.set_cons_succ]
          refine hw_pure (i := 11) (oi := ⟨some 112, _, _, _, _, _⟩) (v := ?v87) rfl (by kernel_rfl) (by kernel_rfl) (by kernel_rfl) (by kernel_rfl) (fun _ _ _ h => h) rfl (by kernel_rfl) ?hv87 ?rv87
          case hv87 => (intro w; go_simp) <;> (with_reducible rfl)
          try simp only [Act.put, List.setIfInBounds_toArray, List.set_cons_zero, List.set_cons_succ]
          refine hw_pure (i := 12) (oi := ⟨some 113, _, _, _, _, _⟩) (v := ?v88) rfl (by kernel_rfl) (by kernel_rfl) (by kernel_rfl) (by kernel_rfl) (fun _ _ _ h => h) rfl (by kernel_rfl) ?hv88 ?rv88
          case hv88 => (intro w; go_simp) <;> (with_reducible rfl)
          try simp only [Act.put, List.setIfInBounds_toArray, List.set_cons_zero, List.set_cons_succ]
          refine hw_pure (i := 13) (oi := ⟨some 114, _, _, _, _, _⟩) (v := ?v89) rfl (by kernel_rfl) (by kernel_rfl) (by kernel_rfl) (by kernel_rfl) (fun _ _ _ h => h) rfl (by kernel_rfl) ?hv89 ?rv89
          case hv89 => (intro w; go_simp) <;> (with_reducible rfl)
          try simp only [Act.put, List.setIfInBounds_toArray, List.set_cons_zero, List.set_cons_succ]
          refine hw_pure (i := 14) (oi := ⟨some 115, _, _, _, _, _⟩) (v := ?v90) rfl (by kernel_rfl) (by kernel_rfl) (by kernel_rfl) (by kernel_rfl) (fun _ _ _ h => h) rfl (by kernel_rfl) ?hv90 ?rv90
          case hv90 => (intro w; go_simp) <;> (with_reducible rfl)
          try simp only [Act.put, List.setIfInBounds_toArray, List.set_cons_zero, List.set_cons_succ]
          refine hw_load (i := 15) (oi := ⟨some 116, _, _, _, _, _⟩) (v := ?v91) rfl (by kernel_rfl) (by kernel_rfl) (by kernel_rfl) (by kernel_rfl) (by kernel_rfl) (fun _ _ _ h => h) rfl (by kernel_rfl) ?hv91 ?rv91
          case hv91 => (intro w hSw; (try dsimp only at hSw); go_simp) <;> (with_reducible rfl)
          try simp only [Act.put, List.setIfInBounds_toArray, List.set_cons_zero, List.set_cons_succ]
          refine hw_ready (rs := [7, 16]) (by kernel_rfl) (by simp) ?_
          refine AllHW.cons (i := 7) (o := ⟨some 108, _, _, _, _, _⟩) rfl rfl (by kernel_rfl) (fun K hK => ?s92) ?ms92
          case s92 =>
            (try go_simp)
            refine (fun (W93 : World) (hRn : RW w base [(W77.heap.size, (.cells #[.int .i64 (fL n)] 3)), (P, (.cells #[.int .i64 m.wd, .slice E1 n c1] 27)), (Q, (.cells #[.int .i64 m.wd, .slice E2 n c2] 27)), (R, (.cells #[.int .i64 m.wd, .slice E3 n c3] 27)), (bx, (.cells #[.int .i64 lo, .int .i64 hi] 41)), (g1, (.cells cur1 41)), (w.heap.size, (mpBox m (.slice A cs.length c)))] [rwI (.slice E1 n c1) (n) (rowZ fL (n)), rwI (.slice E2 n c2) (n) (rowZ fH (n)), rwI (.slice E3 n c3) (n) (rowZ fC (n))] W93) (hzW93 : Hid (W93.heap.size = W77.heap.size + 1)) => hK.out _ W93 (⟨hRn.frm.cells (List.mem_cons_of_mem _ (List.mem_cons_self ..)), hRn.frm.cells (List.mem_cons_of_mem _ (List.mem_cons_of_mem _ (List.mem_cons_self ..))), (hRn.frm.cells (List.mem_cons_of_mem _ (List.mem_cons_of_mem _ (List.mem_cons_of_mem _ (List.mem_cons_of_mem _ (List.mem_cons_of_mem _ (List.mem_cons_self ..)))))) _).trans HD0.out, (hRn.frm.cells (List.mem_cons_of_mem _ (List.mem_cons_of_mem _ (List.mem_cons_of_mem _ (List.mem_cons_of_mem _ (List.mem_cons_of_mem _ (List.mem_cons_self ..)))))) _).trans HD1.out⟩) ?_) _ (HR.out.add (.cells #[.int .i64 (fL n)] 3) rfl) (Lib.hid (by simp))
            clear HR
            have HR := Lib.hid hRn
            clear hRn
            refine hw_ready (rs := [8, 16]) (by kernel_rfl) (by simp) ?_
            refine AllHW.cons (i := 8) (o := ⟨some 109, _, _, _, _, _⟩) rfl rfl (by kernel_rfl) (fun K hK => ?s94) ?ms94
            case s94 =>
              refine RW.app_int _ _ (by rfl) HR.out (by first | rfl | exact rowZ_len _ _) (by rfl) (by rfl) (List.mem_cons_self ..) (by omega) ?_
              intro g95 cap96 W97 hRn
              rw [← rowZ_succ] at hRn
              refine hK.out _ _ (⟨hRn.frm.cells (List.mem_cons_of_mem _ (List.mem_cons_self ..)), hRn.frm.cells (List.mem_cons_of_mem _ (List.mem_cons_of_mem _ (List.mem_cons_self ..))), (hRn.frm.cells (List.mem_cons_of_mem _ (List.mem_cons_of_mem _ (List.mem_cons_of_mem _ (List.mem_cons_of_mem _ (List.mem_cons_of_mem _ (List.mem_cons_self ..)))))) _).trans HD0.out, (hRn.frm.cells (List.mem_cons_of_mem _ (List.mem_cons_of_mem _ (List.mem_cons_of_mem _ (List.mem_cons_of_mem _ (List.mem_cons_of_mem _ (List.mem_cons_self ..)))))) _).trans HD1.out⟩) ?_
              clear HR
              have HR := Lib.hid hRn
              clear hRn
              refine hw_pure (i := 18) (oi := ⟨some 119, _, _, _, _, _⟩) (v := ?v98) rfl (by kernel_rfl) (by kernel_rfl) (by kernel_rfl) (by kernel_rfl) (fun _ _ _ h => h) rfl (by kernel_rfl) ?hv98 ?rv98
              case hv98 => (intro w; go_simp) <;> (with_reducible rfl)
              try simp only [Act.put, List.setIfInBounds_toArray, List.set_cons_zero, List.set_cons_succ]
              refine hw_ready (rs := [16]) (by kernel_rfl) (by simp) ?_
              refine AllHW.cons (i := 16) (o := ⟨some 117, _, _, _, _, _⟩) rfl rfl (by kernel_rfl) (fun K hK => ?s99) ?ms99
              case s99 =>
                (try go_simp)
                refine (fun (W100 : World) (hRn : RW w base [(W97.heap.size, (.cells #[.int .i64 (fH n)] 3)), (W77.heap.size, (.cells #[.int .i64 (fL n)] 3)), (P, (.cells #[.int .i64 m.wd, .slice E1 n c1] 27)), (Q, (.cells #[.int .i64 m.wd, .slice E2 n c2] 27)), (R, (.cells #[.int .i64 m.wd, .slice E3 n c3] 27)), (bx, (.cells #[.int .i64 lo, .int .i64 hi] 41)), (g1, (.cells cur1 41)), (w.heap.size, (mpBox m (.slice A cs.length c)))] [rwI (.slice (some ⟨g95, 0, none⟩) (n + 1) cap96) (n + 1) (rowZ fL (n + 1)), rwI (.slice E2 n c2) (n) (rowZ fH (n)), rwI (.slice E3 n c3) (n) (rowZ fC (n))] W100) (hzW100 : Hid (W100.heap.size = W97.heap.size + 1)) => hK.out _ W100 (⟨hRn.frm.cells (List.mem_cons_of_mem _ (List.mem_cons_of_mem _ (List.mem_cons_self ..))), hRn.frm.cells (List.mem_cons_of_mem _ (List.mem_cons_of_mem _ (List.mem_cons_of_mem _ (List.mem_cons_self ..)))), (hRn.frm.cells (List.mem_cons_of_mem _ (List.mem_cons_of_mem _ (List.mem_cons_of_mem _ (List.mem_cons_of_mem _ (List.mem_cons_of_mem _ (List.mem_cons_of_mem _ (List.mem_cons_self ..))))))) _).trans HD0.out, (hRn.frm.cells (List.mem_cons_of_mem _ (List.mem_cons_of_mem _ (List.mem_cons_of_mem _ (List.mem_cons_of_mem _ (List.mem_cons_of_mem _ (List.mem_cons_of_mem _ (List.mem_cons_self ..))))))) _).trans HD1.out⟩) ?_) _ (HR.out.add (.cells #[.int .i64 (fH n)] 3) rfl) (Lib.hid (by simp))
                clear HR
                have HR := Lib.hid hRn
                clear hRn
                refine hw_ready (rs := [17]) (by kernel_rfl) (by simp) ?_
                refine AllHW.cons (i := 17) (o := ⟨some 118, _, _, _, _, _⟩) rfl rfl (by kernel_rfl) (fun K hK => ?s101) ?ms101
                case s101 =>
                  refine RW.app_int _ _ (by rfl) (HR.out.perm (List.Perm.swap _ _ _)) (by first | rfl | exact rowZ_len _ _) (by rfl) (by rfl) (List.mem_cons_self ..) (by omega) ?_
                  intro g102 cap103 W104 hRn
                  rw [← rowZ_succ] at hRn
                  refine hK.out _ _ (⟨hRn.frm.cells (List.mem_cons_of_mem _ (List.mem_cons_of_mem _ (List.mem_cons_self ..))), hRn.frm.cells (List.mem_cons_of_mem _ (List.mem_cons_of_mem _ (List.mem_cons_of_mem _ (List.mem_cons_self ..)))), (hRn.frm.cells (List.mem_cons_of_mem _ (List.mem_cons_of_mem _ (List.mem_cons_of_mem _ (List.mem_cons_of_mem _ (List.mem_cons_of_mem _ (List.mem_cons_of_mem _ (List.mem_cons_self ..))))))) _).trans HD0.out, (hRn.frm.cells (List.mem_cons_of_mem _ (List.mem_cons_of_mem _ (List.mem_cons_of_mem _ (List.mem_cons_of_mem _ (List.mem_cons_of_mem _ (List.mem_cons_of_mem _ (List.mem_cons_self ..))))))) _).trans HD1.out⟩) ?_
                  clear HR
                  have HR := Lib.hid hRn
                  clear hRn
                  refine hw_ready (rs := [19]) (by kernel_rfl) (by simp) ?_
                  refine AllHW.consF (f := 19) (i := 19) (o := ⟨none, _, _, _, _, _⟩) rfl (by kernel_rfl) (.inl rfl) rfl (by kernel_rfl) (fun K hK => ?s105) ?ms105
                  case s105 =>
                    have u0 := (boxCells (HR.out.frm.h _ (List.mem_cons_of_mem _ (List.mem_cons_of_mem _ (List.mem_cons_self ..))))).1
                    have f0 := (boxCells (HR.out.frm.h _ (List.mem_cons_of_mem _ (List.mem_cons_of_mem _ (List.mem_cons_self ..))))).2
                    have l0 := lt_of_blk (HR.out.frm.h _ (List.mem_cons_of_mem _ (List.mem_cons_of_mem _ (List.mem_cons_self ..))))
                    (try go_simp)
                    clear u0 f0 l0
                    refine (fun (W106 : World) (hRn : RW w base [(P, (.cells #[.int .i64 m.wd, .slice (some ⟨g95, 0, none⟩) (n + 1) cap96] 27)), (Q, (.cells #[.int .i64 m.wd, .slice E2 n c2] 27)), (R, (.cells #[.int .i64 m.wd, .slice E3 n c3] 27)), (bx, (.cells #[.int .i64 lo, .int .i64 hi] 41)), (g1, (.cells cur1 41)), (w.heap.size, (mpBox m (.slice A cs.length c)))] [rwI (.slice (some ⟨g102, 0, none⟩) (n + 1) cap103) (n + 1) (rowZ fH (n + 1)), rwI (.slice (some ⟨g95, 0, none⟩) (n + 1) cap96) (n + 1) (rowZ fL (n + 1)), rwI (.slice E3 n c3) (n) (rowZ fC (n))] W106) (hzW106 : Hid (W106.heap.size = W104.heap.size)) => hK.out _ W106 ?_) _ ((RW.put (RW.less (bs' := [(P, (.cells #[.int .i64 m.wd, .slice E1 n c1] 27)), (Q, (.cells #[.int .i64 m.wd, .slice E2 n c2] 27)), (R, (.cells #[.int .i64 m.wd, .slice E3 n c3] 27)), (bx, (.cells #[.int .i64 lo, .int .i64 hi] 41)), (g1, (.cells cur1 41)), (w.heap.size, (mpBox m (.slice A cs.length c)))]) HR.out (by simp only [List.forall_mem_cons, List.forall_mem_nil, and_true]; exact ⟨(List.mem_cons_of_mem _ (List.mem_cons_of_mem _ (List.mem_cons_self ..))), (List.mem_cons_of_mem _ (List.mem_cons_of_mem _ (List.mem_cons_of_mem _ (List.mem_cons_self ..)))), (List.mem_cons_of_mem _ (List.mem_cons_of_mem _ (List.mem_cons_of_mem _ (List.mem_cons_of_mem _ (List.mem_cons_self ..))))), (List.mem_cons_of_mem _ (List.mem_cons_of_mem _ (List.mem_cons_of_mem _ (List.mem_cons_of_mem _ (List.mem_cons_of_mem _ (List.mem_cons_self ..)))))), (List.mem_cons_of_mem _ (List.mem_cons_of_mem _ (List.mem_cons_of_mem _ (List.mem_cons_of_mem _ (List.mem_cons_of_mem _ (List.mem_cons_of_mem _ (List.mem_cons_self ..))))))), (List.mem_cons_of_mem _ (List.mem_cons_of_mem _ (List.mem_cons_of_mem _ (List.mem_cons_of_mem _ (List.mem_cons_of_mem _ (List.mem_cons_of_mem _ (List.mem_cons_of_mem _ (List.mem_cons_self ..)))))))), by simp⟩)) (by have := hzW77.out; have := hzW93.out; have := hzW100.out; omega) (by have := hzW77.out; have := hzW93.out; have := hzW100.out; simp <;> omega) 1 (.slice (some ⟨g95, 0, none⟩) (n + 1) cap96))) (Lib.hid (by simp))
                    clear HR
                    have HR := Lib.hid hRn
                    clear hRn
                    refine hw_pure (i := 20) (oi := ⟨some 120, _, _, _, _, _⟩) (v := ?v107) rfl (by kernel_rfl) (by kernel_rfl) (by kernel_rfl) (by kernel_rfl) (fun _ _ _ h => h) rfl (by kernel_rfl) ?hv107 ?rv107
                    case hv107 => (intro w; go_simp) <;> (with_reducible rfl)
                    try simp only [Act.put, List.setIfInBounds_toArray, List.set_cons_zero, List.set_cons_succ]
                    refine hw_ready (rs := [21]) (by kernel_rfl) (by simp) ?_
                    refine AllHW.consF (f := 19) (i := 21) (o := ⟨none, _, _, _, _, _⟩) rfl (by kernel_rfl) (.inr (by kernel_rfl)) rfl (by kernel_rfl) (fun K hK => ?s108) ?ms108
                    case s108 =>
                      have u0 := (boxCells (HR.out.frm.h _ (List.mem_cons_of_mem _ (List.mem_cons_self ..)))).1
                      have f0 := (boxCells (HR.out.frm.h _ (List.mem_cons_of_mem _ (List.mem_cons_self ..)))).2
                      have l0 := lt_of_blk (HR.out.frm.h _ (List.mem_cons_of_mem _ (List.mem_cons_self ..)))
                      (try go_simp)
                      clear u0 f0 l0
                      refine (fun (W109 : World) (hRn : RW w base [(Q, (.cells #[.int .i64 m.wd, .slice (some ⟨g102, 0, none⟩) (n + 1) cap103] 27)), (P, (.cells #[.int .i64 m.wd, .slice (some ⟨g95, 0, none⟩) (n + 1) cap96] 27)), (R, (.cells #[.int .i64 m.wd, .slice E3 n c3] 27)), (bx, (.cells #[.int .i64 lo, .int .i64 hi] 41)), (g1, (.cells cur1 41)), (w.heap.size, (mpBox m (.slice A cs.length c)))] [rwI (.slice (some ⟨g102, 0, none⟩) (n + 1) cap103) (n + 1) (rowZ fH (n + 1)), rwI (.slice (some ⟨g95, 0, none⟩) (n + 1) cap96) (n + 1) (rowZ fL (n + 1)), rwI (.slice E3 n c3) (n) (rowZ fC (n))] W109) (hzW109 : Hid (W109.heap.size = W106.heap.size)) => hK.out _ W109 ?_) _ ((RW.put (RW.less (bs' := [(Q, (.cells #[.int .i64 m.wd, .slice E2 n c2] 27)), (P, (.cells #[.int .i64 m.wd, .slice (some ⟨g95, 0, none⟩) (n + 1) cap96] 27)), (R, (.cells #[.int .i64 m.wd, .slice E3 n c3] 27)), (bx, (.cells #[.int .i64 lo, .int .i64 hi] 41)), (g1, (.cells cur1 41)), (w.heap.size, (mpBox m (.slice A cs.length c)))]) HR.out (by simp only [List.forall_mem_cons, List.forall_mem_nil, and_true]; exact ⟨(List.mem_cons_of_mem _ (List.mem_cons_self ..)), (List.mem_cons_self ..), (List.mem_cons_of_mem _ (List.mem_cons_of_mem _ (List.mem_cons_self ..))), (List.mem_cons_of_mem _ (List.mem_cons_of_mem _ (List.mem_cons_of_mem _ (List.mem_cons_self ..)))), (List.mem_cons_of_mem _ (List.mem_cons_of_mem _ (List.mem_cons_of_mem _ (List.mem_cons_of_mem _ (List.mem_cons_self ..))))), (List.mem_cons_of_mem _ (List.mem_cons_of_mem _ (List.mem_cons_of_mem _ (List.mem_cons_of_mem _ (List.mem_cons_of_mem _ (List.mem_cons_self ..)))))), by simp⟩)) (by have := hzW77.out; have := hzW93.out; have := hzW100.out; have := hzW106.out; omega) (by have := hzW77.out; have := hzW93.out; have := hzW100.out; have := hzW106.out; simp <;> omega) 1 (.slice (some ⟨g102, 0, none⟩) (n + 1) cap103))) (Lib.hid (by simp))
                      clear HR
                      have HR := Lib.hid hRn
                      clear hRn
                      refine hw_done (by kernel_rfl) ?_
                      go_wp2_with fail
                      go_meet
                      exact ⟨g95, cap96, g102, cap103, (RW.less (bs' := [(P, (.cells #[.int .i64 m.wd, .slice (some ⟨g95, 0, none⟩) (n + 1) cap96] 27)), (Q, (.cells #[.int .i64 m.wd, .slice (some ⟨g102, 0, none⟩) (n + 1) cap103] 27)), (R, (.cells #[.int .i64 m.wd, .slice E3 n c3] 27)), (bx, (.cells #[.int .i64 lo, .int .i64 hi] 41)), (g1, (.cells cur1 41)), (w.heap.size, (mpBox m (.slice A cs.length c)))]) HR.out (by simp only [List.forall_mem_cons, List.forall_mem_nil, and_true]; exact ⟨(List.mem_cons_of_mem _ (List.mem_cons_self ..)), (List.mem_cons_self ..), (List.mem_cons_of_mem _ (List.mem_cons_of_mem _ (List.mem_cons_self ..))), (List.mem_cons_of_mem _ (List.mem_cons_of_mem _ (List.mem_cons_of_mem _ (List.mem_cons_self ..)))), (List.mem_cons_of_mem _ (List.mem_cons_of_mem _ (List.mem_cons_of_mem _ (List.mem_cons_of_mem _ (List.mem_cons_self ..))))), (List.mem_cons_of_mem _ (List.mem_cons_of_mem _ (List.mem_cons_of_mem _ (List.mem_cons_of_mem _ (List.mem_cons_of_mem _ (List.mem_cons_self ..)))))), by simp⟩)).perm (List.Perm.swap _ _ _)⟩
                    exact AllHW.nil
                  exact AllHW.nil
                exact AllHW.nil
              exact AllHW.nil
            refine AllHW.cons (i := 16) (o := ⟨some 117, _, _, _, _, _⟩) rfl rfl (by kernel_rfl) (fun K hK => ?s110) ?ms110
            case s110 =>
              (try go_simp)
              refine (fun (W111 : World) (hRn : RW w base [(W93.heap.size, (.cells #[.int .i64 (fH n)] 3)), (W77.heap.size, (.cells #[.int .i64 (fL n)] 3)), (P, (.cells #[.int .i64 m.wd, .slice E1 n c1] 27)), (Q, (.cells #[.int .i64 m.wd, .slice E2 n c2] 27)), (R, (.cells #[.int .i64 m.wd, .slice E3 n c3] 27)), (bx, (.cells #[.int .i64 lo, .int .i64 hi] 41)), (g1, (.cells cur1 41)), (w.heap.size, (mpBox m (.slice A cs.length c)))] [rwI (.slice E1 n c1) (n) (rowZ fL (n)), rwI (.slice E2 n c2) (n) (rowZ fH (n)), rwI (.slice E3 n c3) (n) (rowZ fC (n))] W111) (hzW111 : Hid (W111.heap.size = W93.heap.size + 1)) => hK.out _ W111 (⟨hRn.frm.cells (List.mem_cons_of_mem _ (List.mem_cons_of_mem _ (List.mem_cons_self ..))), hRn.frm.cells (List.mem_cons_of_mem _ (List.mem_cons_of_mem _ (List.mem_cons_of_mem _ (List.mem_cons_self ..)))), (hRn.frm.cells (List.mem_cons_of_mem _ (List.mem_cons_of_mem _ (List.mem_cons_of_mem _ (List.mem_cons_of_mem _ (List.mem_cons_of_mem _ (List.mem_cons_of_mem _ (List.mem_cons_self ..))))))) _).trans HD0.out, (hRn.frm.cells (List.mem_cons_of_mem _ (List.mem_cons_of_mem _ (List.mem_cons_of_mem _ (List.mem_cons_of_mem _ (List.mem_cons_of_mem _ (List.mem_cons_of_mem _ (List.mem_cons_self ..))))))) _).trans HD1.out⟩) ?_) _ (HR.out.add (.cells #[.int .i64 (fH n)] 3) rfl) (Lib.hid (by simp))
              clear HR
              have HR := Lib.hid hRn
              clear hRn
              refine hw_ready (rs := [8]) (by kernel_rfl) (by simp) ?_
              refine AllHW.cons (i := 8) (o := ⟨some 109, _, _, _, _, _⟩) rfl rfl (by kernel_rfl) (fun K hK => ?s112) ?ms112
              case s112 =>
                refine RW.app_int _ _ (by rfl) HR.out (by first | rfl | exact rowZ_len _ _) (by rfl) (by rfl) (List.mem_cons_of_mem _ (List.mem_cons_self ..)) (by omega) ?_
                intro g113 cap114 W115 hRn
                rw [← rowZ_succ] at hRn
                refine hK.out _ _ (⟨hRn.frm.cells (List.mem_cons_of_mem _ (List.mem_cons_of_mem _ (List.mem_cons_self ..))), hRn.frm.cells (List.mem_cons_of_mem _ (List.mem_cons_of_mem _ (List.mem_cons_of_mem _ (List.mem_cons_self ..)))), (hRn.frm.cells (List.mem_cons_of_mem _ (List.mem_cons_of_mem _ (List.mem_cons_of_mem _ (List.mem_cons_of_mem _ (List.mem_cons_of_mem _ (List.mem_cons_of_mem _ (List.mem_cons_self ..))))))) _).trans HD0.out, (hRn.frm.cells (List.mem_cons_of_mem _ (List.mem_cons_of_mem _ (List.mem_cons_of_mem _ (List.mem_cons_of_mem _ (List.mem_cons_of_mem _ (List.mem_cons_of_mem _ (List.mem_cons_self ..))))))) _).trans HD1.out⟩) ?_
                clear HR
                have HR := Lib.hid hRn
                clear hRn
                refine hw_pure (i := 18) (oi := ⟨some 119, _, _, _, _, _⟩) (v := ?v116) rfl (by kernel_rfl) (by kernel_rfl) (by kernel_rfl) (by kernel_rfl) (fun _ _ _ h => h) rfl (by kernel_rfl) ?hv116 ?rv116
                case hv116 => (intro w; go_simp) <;> (with_reducible rfl)
                try simp only [Act.put, List.setIfInBounds_toArray, List.set_cons_zero, List.set_cons_succ]
                refine hw_ready (rs := [17]) (by kernel_rfl) (by simp) ?_
                refine AllHW.cons (i := 17) (o := ⟨some 118, _, _, _, _, _⟩) rfl rfl (by kernel_rfl) (fun K hK => ?s117) ?ms117
                case s117 =>
                  refine RW.app_int _ _ (by rfl) (HR.out.perm (List.Perm.swap _ _ _)) (by first | rfl | exact rowZ_len _ _) (by rfl) (by rfl) (List.mem_cons_self ..) (by omega) ?_
                  intro g118 cap119 W120 hRn
                  rw [← rowZ_succ] at hRn
                  refine hK.out _ _ (⟨hRn.frm.cells (List.mem_cons_of_mem _ (List.mem_cons_of_mem _ (List.mem_cons_self ..))), hRn.frm.cells (List.mem_cons_of_mem _ (List.mem_cons_of_mem _ (List.mem_cons_of_mem _ (List.mem_cons_self ..)))), (hRn.frm.cells (List.mem_cons_of_mem _ (List.mem_cons_of_mem _ (List.mem_cons_of_mem _ (List.mem_cons_of_mem _ (List.mem_cons_of_mem _ (List.mem_cons_of_mem _ (List.mem_cons_self ..))))))) _).trans HD0.out, (hRn.frm.cells (List.mem_cons_of_mem _ (List.mem_cons_of_mem _ (List.mem_cons_of_mem _ (List.mem_cons_of_mem _ (List.mem_cons_of_mem _ (List.mem_cons_of_mem _ (List.mem_cons_self ..))))))) _).trans HD1.out⟩) ?_
                  clear HR
                  have HR := Lib.hid hRn
                  clear hRn
                  refine hw_ready (rs := [19]) (by kernel_rfl) (by simp) ?_
                  refine AllHW.consF (f := 19) (i := 19) (o := ⟨none, _, _, _, _, _⟩) rfl (by kernel_rfl) (.inl rfl) rfl (by kernel_rfl) (fun K hK => ?s121) ?ms121
                  case s121 =>
                    have u0 := (boxCells (HR.out.frm.h _ (List.mem_cons_of_mem _ (List.mem_cons_of_mem _ (List.mem_cons_self ..))))).1
                    have f0 := (boxCells (HR.out.frm.h _ (List.mem_cons_of_mem _ (List.mem_cons_of_mem _ (List.mem_cons_self ..))))).2
                    have l0 := lt_of_blk (HR.out.frm.h _ (List.mem_cons_of_mem _ (List.mem_cons_of_mem _ (List.mem_cons_self ..))))
                    (try go_simp)
                    clear u0 f0 l0
                    refine (fun (W122 : World) (hRn : RW w base [(P, (.cells #[.int .i64 m.wd, .slice (some ⟨g113, 0, none⟩) (n + 1) cap114] 27)), (Q, (.cells #[.int .i64 m.wd, .slice E2 n c2] 27)), (R, (.cells #[.int .i64 m.wd, .slice E3 n c3] 27)), (bx, (.cells #[.int .i64 lo, .int .i64 hi] 41)), (g1, (.cells cur1 41)), (w.heap.size, (mpBox m (.slice A cs.length c)))] [rwI (.slice (some ⟨g118, 0, none⟩) (n + 1) cap119) (n + 1) (rowZ fH (n + 1)), rwI (.slice (some ⟨g113, 0, none⟩) (n + 1) cap114) (n + 1) (rowZ fL (n + 1)), rwI (.slice E3 n c3) (n) (rowZ fC (n))] W122) (hzW122 : Hid (W122.heap.size = W120.heap.size)) => hK.out _ W122 ?_) _ ((RW.put (RW.less (bs' := [(P, (.cells #[.int .i64 m.wd, .slice E1 n c1] 27)), (Q, (.cells #[.int .i64 m.wd, .slice E2 n c2] 27)), (R, (.cells #[.int .i64 m.wd, .slice E3 n c3] 27)), (bx, (.cells #[.int .i64 lo, .int .i64 hi] 41)), (g1, (.cells cur1 41)), (w.heap.size, (mpBox m (.slice A cs.length c)))]) HR.out (by simp only [List.forall_mem_cons, List.forall_mem_nil, and_true]; exact ⟨(List.mem_cons_of_mem _ (List.mem_cons_of_mem _ (List.mem_cons_self ..))), (List.mem_cons_of_mem _ (List.mem_cons_of_mem _ (List.mem_cons_of_mem _ (List.mem_cons_self ..)))), (List.mem_cons_of_mem _ (List.mem_cons_of_mem _ (List.mem_cons_of_mem _ (List.mem_cons_of_mem _ (List.mem_cons_self ..))))), (List.mem_cons_of_mem _ (List.mem_cons_of_mem _ (List.mem_cons_of_mem _ (List.mem_cons_of_mem _ (List.mem_cons_of_mem _ (List.mem_cons_self ..)))))), (List.mem_cons_of_mem _ (List.mem_cons_of_mem _ (List.mem_cons_of_mem _ (List.mem_cons_of_mem _ (List.mem_cons_of_mem _ (List.mem_cons_of_mem _ (List.mem_cons_self ..))))))), (List.mem_cons_of_mem _ (List.mem_cons_of_mem _ (List.mem_cons_of_mem _ (List.mem_cons_of_mem _ (List.mem_cons_of_mem _ (List.mem_cons_of_mem _ (List.mem_cons_of_mem _ (List.mem_cons_self ..)))))))), by simp⟩)) (by have := hzW77.out; have := hzW93.out; have := hzW111.out; omega) (by have := hzW77.out; have := hzW93.out; have := hzW111.out; simp <;> omega) 1 (.slice (some ⟨g113, 0, none⟩) (n + 1) cap114))) (Lib.hid (by simp))
                    clear HR
                    have HR := Lib.hid hRn
                    clear hRn
                    refine hw_pure (i := 20) (oi := ⟨some 120, _, _, _, _, _⟩) (v := ?v123) rfl (by kernel_rfl) (by kernel_rfl) (by kernel_rfl) (by kernel_rfl) (fun _ _ _ h => h) rfl (by kernel_rfl) ?hv123 ?rv123
                    case hv123 => (intro w; go_simp) <;> (with_reducible rfl)
                    try simp only [Act.put, List.setIfInBounds_toArray, List.set_cons_zero, List.set_cons_succ]
                    refine hw_ready (rs := [21]) (by kernel_rfl) (by simp) ?_
                    refine AllHW.consF (f := 19) (i := 21) (o := ⟨none, _, _, _, _, _⟩) rfl (by kernel_rfl) (.inr (by kernel_rfl)) rfl (by kernel_rfl) (fun K hK => ?s124) ?ms124
                    case s124 =>
                      have u0 := (boxCells (HR.out.frm.h _ (List.mem_cons_of_mem _ (List.mem_cons_self ..)))).1
                      have f0 := (boxCells (HR.out.frm.h _ (List.mem_cons_of_mem _ (List.mem_cons_self ..)))).2
                      have l0 := lt_of_blk (HR.out.frm.h _ (List.mem_cons_of_mem _ (List.mem_cons_self ..)))
                      (try go_simp)
                      clear u0 f0 l0
                      refine (fun (W125 : World) (hRn : RW w base [(Q, (.cells #[.int .i64 m.wd, .slice (some ⟨g118, 0, none⟩) (n + 1) cap119] 27)), (P, (.cells #[.int .i64 m.wd, .slice (some ⟨g113, 0, none⟩) (n + 1) cap114] 27)), (R, (.cells #[.int .i64 m.wd, .slice E3 n c3] 27)), (bx, (.cells #[.int .i64 lo, .int .i64 hi] 41)), (g1, (.cells cur1 41)), (w.heap.size, (mpBox m (.slice A cs.length c)))] [rwI (.slice (some ⟨g118, 0, none⟩) (n + 1) cap119) (n + 1) (rowZ fH (n + 1)), rwI (.slice (some ⟨g113, 0, none⟩) (n + 1) cap114) (n + 1) (rowZ fL (n + 1)), rwI (.slice E3 n c3) (n) (rowZ fC (n))] W125) (hzW125 : Hid (W125.heap.size = W122.heap.size)) => hK.out _ W125 ?_) _ ((RW.put (RW.less (bs' := [(Q, (.cells #[.int .i64 m.wd, .slice E2 n c2] 27)), (P, (.cells #[.int .i64 m.wd, .slice (some ⟨g113, 0, none⟩) (n + 1) cap114] 27)), (R, (.cells #[.int .i64 m.wd, .slice E3 n c3] 27)), (bx, (.cells #[.int .i64 lo, .int .i64 hi] 41)), (g1, (.cells cur1 41)), (w.heap.size, (mpBox m (.slice A cs.length c)))]) HR.out (by simp only [List.forall_mem_cons, List.forall_mem_nil, and_true]; exact ⟨(List.mem_cons_of_mem _ (List.mem_cons_self ..)), (List.mem_cons_self ..), (List.mem_cons_of_mem _ (List.mem_cons_of_mem _ (List.mem_cons_self ..))), (List.mem_cons_of_mem _ (List.mem_cons_of_mem _ (List.mem_cons_of_mem _ (List.mem_cons_self ..)))), (List.mem_cons_of_mem _ (List.mem_cons_of_mem _ (List.mem_cons_of_mem _ (List.mem_cons_of_mem _ (List.mem_cons_self ..))))), (List.mem_cons_of_mem _ (List.mem_cons_of_mem _ (List.mem_cons_of_mem _ (List.mem_cons_of_mem _ (List.mem_cons_of_mem _ (List.mem_cons_self ..)))))), by simp⟩)) (by have := hzW77.out; have := hzW93.out; have := hzW111.out; have := hzW122.out; omega) (by have := hzW77.out; have := hzW93.out; have := hzW111.out; have := hzW122.out; simp <;> omega) 1 (.slice (some ⟨g118, 0, none⟩) (n + 1) cap119))) (Lib.hid (by simp))
                      clear HR
                      have HR := Lib.hid hRn
                      clear hRn
                      refine hw_done (by kernel_rfl) ?_
                      go_wp2_with fail
                      go_meet
                      exact ⟨g113, cap114, g118, cap119, (RW.less (bs' := [(P, (.cells #[.int .i64 m.wd, .slice (some ⟨g113, 0, none⟩) (n + 1) cap114] 27)), (Q, (.cells #[.int .i64 m.wd, .slice (some ⟨g118, 0, none⟩) (n + 1) cap119] 27)), (R, (.cells #[.int .i64 m.wd, .slice E3 n c3] 27)), (bx, (.cells #[.int .i64 lo, .int .i64 hi] 41)), (g1, (.cells cur1 41)), (w.heap.size, (mpBox m (.slice A cs.length c)))]) HR.out (by simp only [List.forall_mem_cons, List.forall_mem_nil, and_true]; exact ⟨(List.mem_cons_of_mem _ (List.mem_cons_self ..)), (List.mem_cons_self ..), (List.mem_cons_of_mem _ (List.mem_cons_of_mem _ (List.mem_cons_self ..))), (List.mem_cons_of_mem _ (List.mem_cons_of_mem _ (List.mem_cons_of_mem _ (List.mem_cons_self ..)))), (List.mem_cons_of_mem _ (List.mem_cons_of_mem _ (List.mem_cons_of_mem _ (List.mem_cons_of_mem _ (List.mem_cons_self ..))))), (List.mem_cons_of_mem _ (List.mem_cons_of_mem _ (List.mem_cons_of_mem _ (List.mem_cons_of_mem _ (List.mem_cons_of_mem _ (List.mem_cons_self ..)))))), by simp⟩)).perm (List.Perm.swap _ _ _)⟩
                    exact AllHW.nil
                  exact AllHW.nil
                exact AllHW.nil
              exact AllHW.nil
            exact AllHW.nil
          refine AllHW.cons (i := 16) (o := ⟨some 117, _, _, _, _, _⟩) rfl rfl (by kernel_rfl) (fun K hK => ?s126) ?ms126
          case s126 =>
            (try go_simp)
            refine (fun (W127 : World) (hRn : RW w base [(W77.heap.size, (.cells #[.int .i64 (fH n)] 3)), (P, (.cells #[.int .i64 m.wd, .slice E1 n c1] 27)), (Q, (.cells #[.int .i64 m.wd, .slice E2 n c2] 27)), (R, (.cells #[.int .i64 m.wd, .slice E3 n c3] 27)), (bx, (.cells #[.int .i64 lo, .int .i64 hi] 41)), (g1, (.cells cur1 41)), (w.heap.size, (mpBox m (.slice A cs.length c)))] [rwI (.slice E1 n c1) (n) (rowZ fL (n)), rwI (.slice E2 n c2) (n) (rowZ fH (n)), rwI (.slice E3 n c3) (n) (rowZ fC (n))] W127) (hzW127 : Hid (W127.heap.size = W77.heap.size + 1)) => hK.out _ W127 (⟨hRn.frm.cells (List.mem_cons_of_mem _ (List.mem_cons_self ..)), hRn.frm.cells (List.mem_cons_of_mem _ (List.mem_cons_of_mem _ (List.mem_cons_self ..))), (hRn.frm.cells (List.mem_cons_of_mem _ (List.mem_cons_of_mem _ (List.mem_cons_of_mem _ (List.mem_cons_of_mem _ (List.mem_cons_of_mem _ (List.mem_cons_self ..)))))) _).trans HD0.out, (hRn.frm.cells (List.mem_cons_of_mem _ (List.mem_cons_of_mem _ (List.mem_cons_of_mem _ (List.mem_cons_of_mem _ (List.mem_cons_of_mem _ (List.mem_cons_self ..)))))) _).trans HD1.out⟩) ?_) _ (HR.out.add (.cells #[.int .i64 (fH n)] 3) rfl) (Lib.hid (by simp))
            clear HR
            have HR := Lib.hid hRn
            clear hRn
            refine hw_ready (rs := [7]) (by kernel_rfl) (by simp) ?_
            refine AllHW.cons (i := 7) (o := ⟨some 108, _, _, _, _, _⟩) rfl rfl (by kernel_rfl) (fun K hK => ?s128) ?ms128
            case s128 =>
              (try go_simp)
              refine (fun (W129 : World) (hRn : RW w base [(W127.heap.size, (.cells #[.int .i64 (fL n)] 3)), (W77.heap.size, (.cells #[.int .i64 (fH n)] 3)), (P, (.cells #[.int .i64 m.wd, .slice E1 n c1] 27)), (Q, (.cells #[.int .i64 m.wd, .slice E2 n c2] 27)), (R, (.cells #[.int .i64 m.wd, .slice E3 n c3] 27)), (bx, (.cells #[.int .i64 lo, .int .i64 hi] 41)), (g1, (.cells cur1 41)), (w.heap.size, (mpBox m (.slice A cs.length c)))] [rwI (.slice E1 n c1) (n) (rowZ fL (n)), rwI (.slice E2 n c2) (n) (rowZ fH (n)), rwI (.slice E3 n c3) (n) (rowZ fC (n))] W129) (hzW129 : Hid (W129.heap.size = W127.heap.size + 1)) => hK.out _ W129 (⟨hRn.frm.cells (List.mem_cons_of_mem _ (List.mem_cons_of_mem _ (List.mem_cons_self ..))), hRn.frm.cells (List.mem_cons_of_mem _ (List.mem_cons_of_mem _ (List.mem_cons_of_mem _ (List.mem_cons_self ..)))), (hRn.frm.cells (List.mem_cons_of_mem _ (List.mem_cons_of_mem _ (List.mem_cons_of_mem _ (List.mem_cons_of_mem _ (List.mem_cons_of_mem _ (List.mem_cons_of_mem _ (List.mem_cons_self ..))))))) _).trans HD0.out, (hRn.frm.cells (List.mem_cons_of_mem _ (List.mem_cons_of_mem _ (List.mem_cons_of_mem _ (List.mem_cons_of_mem _ (List.mem_cons_of_mem _ (List.mem_cons_of_mem _ (List.mem_cons_self ..))))))) _).trans HD1.out⟩) ?_) _ (HR.out.add (.cells #[.int .i64 (fL n)] 3) rfl) (Lib.hid (by simp))
              clear HR
              have HR := Lib.hid hRn
              clear hRn
              refine hw_ready (rs := [8]) (by kernel_rfl) (by simp) ?_
              refine AllHW.cons (i := 8) (o := ⟨some 109, _, _, _, _, _⟩) rfl rfl (by kernel_rfl) (fun K hK => ?s130) ?ms130
              case s130 =>
                refine RW.app_int _ _ (by rfl) HR.out (by first | rfl | exact rowZ_len _ _) (by rfl) (by rfl) (List.mem_cons_self ..) (by omega) ?_
                intro g131 cap132 W133 hRn
                rw [← rowZ_succ] at hRn
                refine hK.out _ _ (⟨hRn.frm.cells (List.mem_cons_of_mem _ (List.mem_cons_of_mem _ (List.mem_cons_self ..))), hRn.frm.cells (List.mem_cons_of_mem _ (List.mem_cons_of_mem _ (List.mem_cons_of_mem _ (List.mem_cons_self ..)))), (hRn.frm.cells (List.mem_cons_of_mem _ (List.mem_cons_of_mem _ (List.mem_cons_of_mem _ (List.mem_cons_of_mem _ (List.mem_cons_of_mem _ (List.mem_cons_of_mem _ (List.mem_cons_self ..))))))) _).trans HD0.out, (hRn.frm.cells (List.mem_cons_of_mem _ (List.mem_cons_of_mem _ (List.mem_cons_of_mem _ (List.mem_cons_of_mem _ (List.mem_cons_of_mem _ (List.mem_cons_of_mem _ (List.mem_cons_self ..))))))) _).trans HD1.out⟩) ?_
                clear HR
                have HR := Lib.hid hRn
                clear hRn
                refine hw_pure (i := 18) (oi := ⟨some 119, _, _, _, _, _⟩) (v := ?v134) rfl (by kernel_rfl) (by kernel_rfl) (by kernel_rfl) (by kernel_rfl) (fun _ _ _ h => h) rfl (by kernel_rfl) ?hv134 ?rv134
                case hv134 => (intro w; go_simp) <;> (with_reducible rfl)
                try simp only [Act.put, List.setIfInBounds_toArray, List.set_cons_zero, List.set_cons_succ]
                refine hw_ready (rs := [17]) (by kernel_rfl) (by simp) ?_
                refine AllHW.cons (i := 17) (o := ⟨some 118, _, _, _, _, _⟩) rfl rfl (by kernel_rfl) (fun K hK => ?s135) ?ms135
                case s135 =>
                  refine RW.app_int _ _ (by rfl) (HR.out.perm (List.Perm.swap _ _ _)) (by first | rfl | exact rowZ_len _ _) (by rfl) (by rfl) (List.mem_cons_of_mem _ (List.mem_cons_self ..)) (by omega) ?_
                  intro g136 cap137 W138 hRn
                  rw [← rowZ_succ] at hRn
                  refine hK.out _ _ (⟨hRn.frm.cells (List.mem_cons_of_mem _ (List.mem_cons_of_mem _ (List.mem_cons_self ..))), hRn.frm.cells (List.mem_cons_of_mem _ (List.mem_cons_of_mem _ (List.mem_cons_of_mem _ (List.mem_cons_self ..)))), (hRn.frm.cells (List.mem_cons_of_mem _ (List.mem_cons_of_mem _ (List.mem_cons_of_mem _ (List.mem_cons_of_mem _ (List.mem_cons_of_mem _ (List.mem_cons_of_mem _ (List.mem_cons_self ..))))))) _).trans HD0.out, (hRn.frm.cells (List.mem_cons_of_mem _ (List.mem_cons_of_mem _ (List.mem_cons_of_mem _ (List.mem_cons_of_mem _ (List.mem_cons_of_mem _ (List.mem_cons_of_mem _ (List.mem_cons_self ..))))))) _).trans HD1.out⟩) ?_
                  clear HR
                  have HR := Lib.hid hRn
                  clear hRn
                  refine hw_ready (rs := [19]) (by kernel_rfl) (by simp) ?_
                  refine AllHW.consF (f := 19) (i := 19) (o := ⟨none, _, _, _, _, _⟩) rfl (by kernel_rfl) (.inl rfl) rfl (by kernel_rfl) (fun K hK => ?s139) ?ms139
                  case s139 =>
                    have u0 := (boxCells (HR.out.frm.h _ (List.mem_cons_of_mem _ (List.mem_cons_of_mem _ (List.mem_cons_self ..))))).1
                    have f0 := (boxCells (HR.out.frm.h _ (List.mem_cons_of_mem _ (List.mem_cons_of_mem _ (List.mem_cons_self ..))))).2
                    have l0 := lt_of_blk (HR.out.frm.h _ (List.mem_cons_of_mem _ (List.mem_cons_of_mem _ (List.mem_cons_self ..))))
                    (try go_simp)
                    clear u0 f0 l0
                    refine (fun (W140 : World) (hRn : RW w base [(P, (.cells #[.int .i64 m.wd, .slice (some ⟨g131, 0, none⟩) (n + 1) cap132] 27)), (Q, (.cells #[.int .i64 m.wd, .slice E2 n c2] 27)), (R, (.cells #[.int .i64 m.wd, .slice E3 n c3] 27)), (bx, (.cells #[.int .i64 lo, .int .i64 hi] 41)), (g1, (.cells cur1 41)), (w.heap.size, (mpBox m (.slice A cs.length c)))] [rwI (.slice (some ⟨g136, 0, none⟩) (n + 1) cap137) (n + 1) (rowZ fH (n + 1)), rwI (.slice (some ⟨g131, 0, none⟩) (n + 1) cap132) (n + 1) (rowZ fL (n + 1)), rwI (.slice E3 n c3) (n) (rowZ fC (n))] W140) (hzW140 : Hid (W140.heap.size = W138.heap.size)) => hK.out _ W140 ?_) _ ((RW.put (RW.less (bs' := [(P, (.cells #[.int .i64 m.wd, .slice E1 n c1] 27)), (Q, (.cells #[.int .i64 m.wd, .slice E2 n c2] 27)), (R, (.cells #[.int .i64 m.wd, .slice E3 n c3] 27)), (bx, (.cells #[.int .i64 lo, .int .i64 hi] 41)), (g1, (.cells cur1 41)), (w.heap.size, (mpBox m (.slice A cs.length c)))]) HR.out (by simp only [List.forall_mem_cons, List.forall_mem_nil, and_true]; exact ⟨(List.mem_cons_of_mem _ (List.mem_cons_of_mem _ (List.mem_cons_self ..))), (List.mem_cons_of_mem _ (List.mem_cons_of_mem _ (List.mem_cons_of_mem _ (List.mem_cons_self ..)))), (List.mem_cons_of_mem _ (List.mem_cons_of_mem _ (List.mem_cons_of_mem _ (List.mem_cons_of_mem _ (List.mem_cons_self ..))))), (List.mem_cons_of_mem _ (List.mem_cons_of_mem _ (List.mem_cons_of_mem _ (List.mem_cons_of_mem _ (List.mem_cons_of_mem _ (List.mem_cons_self ..)))))), (List.mem_cons_of_mem _ (List.mem_cons_of_mem _ (List.mem_cons_of_mem _ (List.mem_cons_of_mem _ (List.mem_cons_of_mem _ (List.mem_cons_of_mem _ (List.mem_cons_self ..))))))), (List.mem_cons_of_mem _ (List.mem_cons_of_mem _ (List.mem_cons_of_mem _ (List.mem_cons_of_mem _ (List.mem_cons_of_mem _ (List.mem_cons_of_mem _ (List.mem_cons_of_mem _ (List.mem_cons_self ..)))))))), by simp⟩)) (by have := hzW77.out; have := hzW127.out; have := hzW129.out; omega) (by have := hzW77.out; have := hzW127.out; have := hzW129.out; simp <;> omega) 1 (.slice (some ⟨g131, 0, none⟩) (n + 1) cap132))) (Lib.hid (by simp))
                    clear HR
                    have HR := Lib.hid hRn
                    clear hRn
                    refine hw_pure (i := 20) (oi := ⟨some 120, _, _, _, _, _⟩) (v := ?v141) rfl (by kernel_rfl) (by kernel_rfl) (by kernel_rfl) (by kernel_rfl) (fun _ _ _ h => h) rfl (by kernel_rfl) ?hv141 ?rv141
                    case hv141 => (intro w; go_simp) <;> (with_reducible rfl)
                    try simp only [Act.put, List.setIfInBounds_toArray, List.set_cons_zero, List.set_cons_succ]
                    refine hw_ready (rs := [21]) (by kernel_rfl) (by simp) ?_
                    refine AllHW.consF (f := 19) (i := 21) (o := ⟨none, _, _, _, _, _⟩) rfl (by kernel_rfl) (.inr (by kernel_rfl)) rfl (by kernel_rfl) (fun K hK => ?s142) ?ms142
                    case s142 =>
                      have u0 := (boxCells (HR.out.frm.h _ (List.mem_cons_of_mem _ (List.mem_cons_self ..)))).1
                      have f0 := (boxCells (HR.out.frm.h _ (List.mem_cons_of_mem _ (List.mem_cons_self ..)))).2
                      have l0 := lt_of_blk (HR.out.frm.h _ (List.mem_cons_of_mem _ (List.mem_cons_self ..)))
                      (try go_simp)
                      clear u0 f0 l0
                      refine (fun (W143 : World) (hRn : RW w base [(Q, (.cells #[.int .i64 m.wd, .slice (some ⟨g136, 0, none⟩) (n + 1) cap137] 27)), (P, (.cells #[.int .i64 m.wd, .slice (some ⟨g131, 0, none⟩) (n + 1) cap132] 27)), (R, (.cells #[.int .i64 m.wd, .slice E3 n c3] 27)), (bx, (.cells #[.int .i64 lo, .int .i64 hi] 41)), (g1, (.cells cur1 41)), (w.heap.size, (mpBox m (.slice A cs.length c)))] [rwI (.slice (some ⟨g136, 0, none⟩) (n + 1) cap137) (n + 1) (rowZ fH (n + 1)), rwI (.slice (some ⟨g131, 0, none⟩) (n + 1) cap132) (n + 1) (rowZ fL (n + 1)), rwI (.slice E3 n c3) (n) (rowZ fC (n))] W143) (hzW143 : Hid (W143.heap.size = W140.heap.size)) => hK.out _ W143 ?_) _ ((RW.put (RW.less (bs' := [(Q, (.cells #[.int .i64 m.wd, .slice E2 n c2] 27)), (P, (.cells #[.int .i64 m.wd, .slice (some ⟨g131, 0, none⟩) (n + 1) cap132] 27)), (R, (.cells #[.int .i64 m.wd, .slice E3 n c3] 27)), (bx, (.cells #[.int .i64 lo, .int .i64 hi] 41)), (g1, (.cells cur1 41)), (w.heap.size, (mpBox m (.slice A cs.length c)))]) HR.out (by simp only [List.forall_mem_cons, List.forall_mem_nil, and_true]; exact ⟨(List.mem_cons_of_mem _ (List.mem_cons_self ..)), (List.mem_cons_self ..), (List.mem_cons_of_mem _ (List.mem_cons_of_mem _ (List.mem_cons_self ..))), (List.mem_cons_of_mem _ (List.mem_cons_of_mem _ (List.mem_cons_of_mem _ (List.mem_cons_self ..)))), (List.mem_cons_of_mem _ (List.mem_cons_of_mem _ (List.mem_cons_of_mem _ (List.mem_cons_of_mem _ (List.mem_cons_self ..))))), (List.mem_cons_of_mem _ (List.mem_cons_of_mem _ (List.mem_cons_of_mem _ (List.mem_cons_of_mem _ (List.mem_cons_of_mem _ (List.mem_cons_self ..)))))), by simp⟩)) (by have := hzW77.out; have := hzW127.out; have := hzW129.out; have := hzW140.out; omega) (by have := hzW77.out; have := hzW127.out; have := hzW129.out; have := hzW140.out; simp <;> omega) 1 (.slice (some ⟨g136, 0, none⟩) (n + 1) cap137))) (Lib.hid (by simp))
                      clear HR
                      have HR := Lib.hid hRn
                      clear hRn
                      refine hw_done (by kernel_rfl) ?_
                      go_wp2_with fail
                      go_meet
                      exact ⟨g131, cap132, g136, cap137, (RW.less (bs' := [(P, (.cells #[.int .i64 m.wd, .slice (some ⟨g131, 0, none⟩) (n + 1) cap132] 27)), (Q, (.cells #[.int .i64 m.wd, .slice (some ⟨g136, 0, none⟩) (n + 1) cap137] 27)), (R, (.cells #[.int .i64 m.wd, .slice E3 n c3] 27)), (bx, (.cells #[.int .i64 lo, .int .i64 hi] 41)), (g1, (.cells cur1 41)), (w.heap.size, (mpBox m (.slice A cs.length c)))]) HR.out (by simp only [List.forall_mem_cons, List.forall_mem_nil, and_true]; exact ⟨(List.mem_cons_of_mem _ (List.mem_cons_self ..)), (List.mem_cons_self ..), (List.mem_cons_of_mem _ (List.mem_cons_of_mem _ (List.mem_cons_self ..))), (List.mem_cons_of_mem _ (List.mem_cons_of_mem _ (List.mem_cons_of_mem _ (List.mem_cons_self ..)))), (List.mem_cons_of_mem _ (List.mem_cons_of_mem _ (List.mem_cons_of_mem _ (List.mem_cons_of_mem _ (List.mem_cons_self ..))))), (List.mem_cons_of_mem _ (List.mem_cons_of_mem _ (List.mem_cons_of_mem _ (List.mem_cons_of_mem _ (List.mem_cons_of_mem _ (List.mem_cons_self ..)))))), by simp⟩)).perm (List.Perm.swap _ _ _)⟩
                    exact AllHW.nil
                  exact AllHW.nil
                exact AllHW.nil
              exact AllHW.nil
            exact AllHW.nil
          exact AllHW.nil

        case rest =>
          obtain ⟨g2, d2, g3, d3, hF⟩ := hcut
          clear HR
          have HR := Lib.hid hF
          clear hF
          rename World => wr2
          go_upto_region 15 with fail
          refine hw_start (S := fun w' => (∀ o, w'.cell? ⟨R, o, none⟩ = #[Value.int .i64 m.wd, .slice E3 n c3][o]?) ∧ (∀ o, w'.cell? ⟨w.heap.size, o, none⟩ = #[Value.int .i64 m.wd, .int .i64 m.rw, .int .i64 m.sl, (.slice A cs.length c)][o]?) ∧ w'.cell? ⟨g1, n * 2 + 1, none⟩ = some (.int .i64 (fH n))) (by kernel_rfl) (⟨HR.out.drew.frm.cells (List.mem_cons_of_mem _ (List.mem_cons_of_mem _ (List.mem_cons_self ..))), HR.out.drew.frm.cells (List.mem_cons_of_mem _ (List.mem_cons_of_mem _ (List.mem_cons_of_mem _ (List.mem_cons_of_mem _ (List.mem_cons_of_mem _ (List.mem_cons_self ..)))))), (HR.out.drew.frm.cells (List.mem_cons_of_mem _ (List.mem_cons_of_mem _ (List.mem_cons_of_mem _ (List.mem_cons_of_mem _ (List.mem_cons_self ..))))) _).trans HD1.out⟩) ?_
          refine (fun (W144 : World) (hRn : RW w base [(P, (.cells #[.int .i64 m.wd, .slice (some ⟨g2, 0, none⟩) (n + 1) d2] 27)), (Q, (.cells #[.int .i64 m.wd, .slice (some ⟨g3, 0, none⟩) (n + 1) d3] 27)), (R, (.cells #[.int .i64 m.wd, .slice E3 n c3] 27)), (bx, (.cells #[.int .i64 lo, .int .i64 hi] 41)), (g1, (.cells cur1 41)), (w.heap.size, (mpBox m (.slice A cs.length c)))] [rwI (.slice (some ⟨g2, 0, none⟩) (n + 1) d2) (n + 1) (rowZ fL (n + 1)), rwI (.slice (some ⟨g3, 0, none⟩) (n + 1) d3) (n + 1) (rowZ fH (n + 1)), rwI (.slice E3 n c3) (n) (rowZ fC (n))] W144) (hzW144 : Hid (W144.heap.size = wr2.heap.size)) => (?_ : HW _ _ _ _ _ _ _ W144)) _ HR.out.drew (Lib.hid rfl)
          clear HR
          have HR := Lib.hid hRn
          clear hRn
          refine hw_pure (i := 0) (oi := ⟨some 121, _, _, _, _, _⟩) (v := ?v145) rfl (by kernel_rfl) (by kernel_rfl) (by kernel_rfl) (by kernel_rfl) (fun _ _ _ h => h) rfl (by kernel_rfl) ?hv145 ?rv145
          case hv145 => (intro w; go_simp) <;> (with_reducible rfl)
          try simp only [Act.put, List.setIfInBounds_toArray, List.set_cons_zero, List.set_cons_succ]
          refine hw_load (i := 1) (oi := ⟨some 122, _, _, _, _, _⟩) (v := ?v146) rfl (by kernel_rfl) (by kernel_rfl) (by kernel_rfl) (by kernel_rfl) (by kernel_rfl) (fun _ _ _ h => h) rfl (by kernel_rfl) ?hv146 ?rv146
          case hv146 => (intro w hSw; (try dsimp only at hSw); go_simp) <;> (with_reducible rfl)
          try simp only [Act.put, List.setIfInBounds_toArray, List.set_cons_zero, List.set_cons_succ]
          refine hw_pure (i := 2) (oi := ⟨some 123, _, _, _, _, _⟩) (v := ?v147) rfl (by kernel_rfl) (by kernel_rfl) (by kernel_rfl) (by kernel_rfl) (fun _ _ _ h => h) rfl (by kernel_rfl) ?hv147 ?rv147
          case hv147 => (intro w; go_simp) <;> (with_reducible rfl)
          try simp only [Act.put, List.setIfInBounds_toArray, List.set_cons_zero, List.set_cons_succ]
          refine hw_pure (i := 3) (oi := ⟨some 124, _, _, _, _, _⟩) (v := ?v148) rfl (by kernel_rfl) (by kernel_rfl) (by kernel_rfl) (by kernel_rfl) (fun _ _ _ h => h) rfl (by kernel_rfl) ?hv148 ?rv148
          case hv148 => (intro w; go_simp) <;> (with_reducible rfl)
          try simp only [Act.put, List.setIfInBounds_toArray, List.set_cons_zero, List.set_cons_succ]
          refine hw_pure (i := 4) (oi := ⟨some 125, _, _, _, _, _⟩) (v := ?v149) rfl (by kernel_rfl) (by kernel_rfl) (by kernel_rfl) (by kernel_rfl) (fun _ _ _ h => h) rfl (by kernel_rfl) ?hv149 ?rv149
          case hv149 => (intro w; go_simp) <;> (with_reducible rfl)
          try simp only [Act.put, List.setIfInBounds_toArray, List.set_cons_zero, List.set_cons_succ]
          refine hw_pure (i := 5) (oi := ⟨some 126, _, _, _, _, _⟩) (v := ?v150) rfl (by kernel_rfl) (by kernel_rfl) (by kernel_rfl) (by kernel_rfl) (fun _ _ _ h => h) rfl (by kernel_rfl) ?hv150 ?rv150
          case hv150 => (intro w; go_simp) <;> (with_reducible rfl)
          try simp only [Act.put, List.setIfInBounds_toArray, List.set_cons_zero, List.set_cons_succ]
          refine hw_load (i := 6) (oi := ⟨some 127, _, _, _, _, _⟩) (v := ?v151) rfl (by kernel_rfl) (by kernel_rfl) (by kernel_rfl) (by kernel_rfl) (by kernel_rfl) (fun _ _ _ h => h) rfl (by kernel_rfl) ?hv151 ?rv151
          case hv151 => (intro w hSw; (try dsimp only at hSw); go_simp) <;> (with_reducible rfl)
          try simp only [Act.put, List.setIfInBounds_toArray, List.set_cons_zero, List.set_cons_succ]
          refine hw_pure (i := 7) (oi := ⟨some 128, _, _, _, _, _⟩) (v := ?v152) rfl (by kernel_rfl) (by kernel_rfl) (by kernel_rfl) (by kernel_rfl) (fun _ _ _ h => h) rfl (by kernel_rfl) ?hv152 ?rv152
          case hv152 => (intro w; go_simp) <;> (with_reducible rfl)
          try simp only [Act.put, List.setIfInBounds_toArray, List.set_cons_zero, List.set_cons_succ]
          refine hw_pure (i := 8) (oi := ⟨some 129, _, _, _, _, _⟩) (v := ?v153) rfl (by kernel_rfl) (by kernel_rfl) (by kernel_rfl) (by kernel_rfl) (fun _ _ _ h => h) rfl (by kernel_rfl) ?hv153 ?rv153
          case hv153 => (intro w; go_simp) <;> (with_reducible rfl)
          try simp only [Act.put, List.setIfInBounds_toArray, List.set_cons_zero, List.set_cons_succ]
          refine hw_load (i := 9) (oi := ⟨some 130, _, _, _, _, _⟩) (v := ?v154) rfl (by kernel_rfl) (by kernel_rfl) (by kernel_rfl) (by kernel_rfl) (by kernel_rfl) (fun _ _ _ h => h) rfl (by kernel_rfl) ?hv154 ?rv154
          case hv154 => (intro w hSw; (try dsimp only at hSw); go_simp) <;> (with_reducible rfl)
          try simp only [Act.put, List.setIfInBounds_toArray, List.set_cons_zero, List.set_cons_succ]
          refine hw_pure (i := 10) (oi := ⟨some 131, _, _, _, _, _⟩) (v := ?v155) rfl (by kernel_rfl) (by kernel_rfl) (by kernel_rfl) (by kernel_rfl) (fun _ _ _ h => h) rfl (by kernel_rfl) ?hv155 ?rv155
          case hv155 => (intro w; go_simp) <;> (with_reducible rfl)
          try simp only [Act.put, List.setIfInBounds_toArray, List.set_cons_zero, List.set_cons_succ]
          refine hw_load (i := 11) (oi := ⟨some 132, _, _, _, _, _⟩) (v := ?v156) rfl (by kernel_rfl) (by kernel_rfl) (by kernel_rfl) (by kernel_rfl) (by kernel_rfl) (fun _ _ _ h => h) rfl (by kernel_rfl) ?hv156 ?rv156
          case hv156 => (intro w hSw; (try dsimp only at hSw); go_simp) <;> (with_reducible rfl)
          try simp only [Act.put, List.setIfInBounds_toArray, List.set_cons_zero, List.set_cons_succ]
          refine hw_pure (i := 12) (oi := ⟨some 133, _, _, _, _, _⟩) (v := ?v157) rfl (by kernel_rfl) (by kernel_rfl) (by kernel_rfl) (by kernel_rfl) (fun _ _ _ h => h) rfl (by kernel_rfl) ?hv157 ?rv157
          case hv157 => (intro w; go_simp) <;> (with_reducible rfl)
          try simp only [Act.put, List.setIfInBounds_toArray, List.set_cons_zero, List.set_cons_succ]
          refine hw_pure (i := 13) (oi := ⟨some 134, _, _, _, _, _⟩) (v := ?v158) rfl (by kernel_rfl) (by kernel_rfl) (by kernel_rfl) (by kernel_rfl) (fun _ _ _ h => h) rfl (by kernel_rfl) ?hv158 ?rv158
          case hv158 => (intro w; go_simp) <;> (with_reducible rfl)
          try simp only [Act.put, List.setIfInBounds_toArray, List.set_cons_zero, List.set_cons_succ]
          refine hw_ready (rs := [14]) (by kernel_rfl) (by simp) ?_
          refine AllHW.cons (i := 14) (o := ⟨some 135, _, _, _, _, _⟩) rfl rfl (by kernel_rfl) (fun K hK => ?s159) ?ms159
          case s159 =>
            (try go_simp)
            go_at_call 21
            refine (HDI.out _).mono ?_
            rintro e W160 ⟨rfl, hbd1⟩
            have hRn := HR.out.below hbd1
            clear HR hbd1
            have HR := Lib.hid hRn
            clear hRn
            (try go_wp2_with fail)
            refine hK.out _ _ (⟨HR.out.frm.cells (List.mem_cons_of_mem _ (List.mem_cons_of_mem _ (List.mem_cons_self ..))), HR.out.frm.cells (List.mem_cons_of_mem _ (List.mem_cons_of_mem _ (List.mem_cons_of_mem _ (List.mem_cons_of_mem _ (List.mem_cons_of_mem _ (List.mem_cons_self ..)))))), (HR.out.frm.cells (List.mem_cons_of_mem _ (List.mem_cons_of_mem _ (List.mem_cons_of_mem _ (List.mem_cons_of_mem _ (List.mem_cons_self ..))))) _).trans HD1.out⟩) ?_
            refine hw_pure (i := 15) (oi := ⟨some 136, _, _, _, _, _⟩) (v := ?v161) rfl (by kernel_rfl) (by kernel_rfl) (by kernel_rfl) (by kernel_rfl) (fun _ _ _ h => h) rfl (by kernel_rfl) ?hv161 ?rv161
            case hv161 => (intro w; go_simp) <;> (with_reducible rfl)
            try simp only [Act.put, List.setIfInBounds_toArray, List.set_cons_zero, List.set_cons_succ]
            refine hw_pure (i := 16) (oi := ⟨some 137, _, _, _, _, _⟩) (v := ?v162) rfl (by kernel_rfl) (by kernel_rfl) (by kernel_rfl) (by kernel_rfl) (fun _ _ _ h => h) rfl (by kernel_rfl) ?hv162 ?rv162
            case hv162 => (intro w; go_simp) <;> (with_reducible rfl)
            try simp only [Act.put, List.setIfInBounds_toArray, List.set_cons_zero, List.set_cons_succ]
            refine hw_pure (i := 17) (oi := ⟨some 138, _, _, _, _, _⟩) (v := ?v163) rfl (by kernel_rfl) (by kernel_rfl) (by kernel_rfl) (by kernel_rfl) (fun _ _ _ h => h) rfl (by kernel_rfl) ?hv163 ?rv163
            case hv163 => (intro w; go_simp) <;> (with_reducible rfl)
            try simp only [Act.put, List.setIfInBounds_toArray, List.set_cons_zero, List.set_cons_succ]
            refine hw_ready (rs := [18]) (by kernel_rfl) (by simp) ?_
            refine AllHW.cons (i := 18) (o := ⟨some 139, _, _, _, _, _⟩) rfl rfl (by kernel_rfl) (fun K hK => ?s164) ?ms164
            case s164 =>
              (try go_simp)
              refine (fun (W165 : World) (hRn : RW w base [(W160.heap.size, (.cells #[.int .i64 (fC n)] 3)), (P, (.cells #[.int .i64 m.wd, .slice (some ⟨g2, 0, none⟩) (n + 1) d2] 27)), (Q, (.cells #[.int .i64 m.wd, .slice (some ⟨g3, 0, none⟩) (n + 1) d3] 27)), (R, (.cells #[.int .i64 m.wd, .slice E3 n c3] 27)), (bx, (.cells #[.int .i64 lo, .int .i64 hi] 41)), (g1, (.cells cur1 41)), (w.heap.size, (mpBox m (.slice A cs.length c)))] [rwI (.slice (some ⟨g2, 0, none⟩) (n + 1) d2) (n + 1) (rowZ fL (n + 1)), rwI (.slice (some ⟨g3, 0, none⟩) (n + 1) d3) (n + 1) (rowZ fH (n + 1)), rwI (.slice E3 n c3) (n) (rowZ fC (n))] W165) (hzW165 : Hid (W165.heap.size = W160.heap.size + 1)) => hK.out _ W165 (⟨hRn.frm.cells (List.mem_cons_of_mem _ (List.mem_cons_of_mem _ (List.mem_cons_of_mem _ (List.mem_cons_self ..)))), hRn.frm.cells (List.mem_cons_of_mem _ (List.mem_cons_of_mem _ (List.mem_cons_of_mem _ (List.mem_cons_of_mem _ (List.mem_cons_of_mem _ (List.mem_cons_of_mem _ (List.mem_cons_self ..))))))), (hRn.frm.cells (List.mem_cons_of_mem _ (List.mem_cons_of_mem _ (List.mem_cons_of_mem _ (List.mem_cons_of_mem _ (List.mem_cons_of_mem _ (List.mem_cons_self ..)))))) _).trans HD1.out⟩) ?_) _ (HR.out.add (.cells #[.int .i64 (fC n)] 3) rfl) (Lib.hid (by simp))
              clear HR
              have HR := Lib.hid hRn
              clear hRn
              refine hw_ready (rs := [19]) (by kernel_rfl) (by simp) ?_
              refine AllHW.cons (i := 19) (o := ⟨some 140, _, _, _, _, _⟩) rfl rfl (by kernel_rfl) (fun K hK => ?s166) ?ms166
              case s166 =>
                refine RW.app_int _ _ (by rfl) (HR.out.perm (List.Perm.trans (List.Perm.cons _ (List.Perm.swap _ _ _)) (List.Perm.swap _ _ _))) (by first | rfl | exact rowZ_len _ _) (by rfl) (by rfl) (List.mem_cons_self ..) (by omega) ?_
                intro g167 cap168 W169 hRn
                rw [← rowZ_succ] at hRn
                refine hK.out _ _ (⟨hRn.frm.cells (List.mem_cons_of_mem _ (List.mem_cons_of_mem _ (List.mem_cons_of_mem _ (List.mem_cons_self ..)))), hRn.frm.cells (List.mem_cons_of_mem _ (List.mem_cons_of_mem _ (List.mem_cons_of_mem _ (List.mem_cons_of_mem _ (List.mem_cons_of_mem _ (List.mem_cons_of_mem _ (List.mem_cons_self ..))))))), (hRn.frm.cells (List.mem_cons_of_mem _ (List.mem_cons_of_mem _ (List.mem_cons_of_mem _ (List.mem_cons_of_mem _ (List.mem_cons_of_mem _ (List.mem_cons_self ..)))))) _).trans HD1.out⟩) ?_
                clear HR
                have HR := Lib.hid hRn
                clear hRn
                refine hw_pure (i := 20) (oi := ⟨some 141, _, _, _, _, _⟩) (v := ?v170) rfl (by kernel_rfl) (by kernel_rfl) (by kernel_rfl) (by kernel_rfl) (fun _ _ _ h => h) rfl (by kernel_rfl) ?hv170 ?rv170
                case hv170 => (intro w; go_simp) <;> (with_reducible rfl)
                try simp only [Act.put, List.setIfInBounds_toArray, List.set_cons_zero, List.set_cons_succ]
                refine hw_ready (rs := [21]) (by kernel_rfl) (by simp) ?_
                refine AllHW.consF (f := 21) (i := 21) (o := ⟨none, _, _, _, _, _⟩) rfl (by kernel_rfl) (.inl rfl) rfl (by kernel_rfl) (fun K hK => ?s171) ?ms171
                case s171 =>
                  have u0 := (boxCells (HR.out.frm.h _ (List.mem_cons_of_mem _ (List.mem_cons_of_mem _ (List.mem_cons_of_mem _ (List.mem_cons_self ..)))))).1
                  have f0 := (boxCells (HR.out.frm.h _ (List.mem_cons_of_mem _ (List.mem_cons_of_mem _ (List.mem_cons_of_mem _ (List.mem_cons_self ..)))))).2
                  have l0 := lt_of_blk (HR.out.frm.h _ (List.mem_cons_of_mem _ (List.mem_cons_of_mem _ (List.mem_cons_of_mem _ (List.mem_cons_self ..)))))
                  (try go_simp)
                  clear u0 f0 l0
                  refine (fun (W172 : World) (hRn : RW w base [(R, (.cells #[.int .i64 m.wd, .slice (some ⟨g167, 0, none⟩) (n + 1) cap168] 27)), (P, (.cells #[.int .i64 m.wd, .slice (some ⟨g2, 0, none⟩) (n + 1) d2] 27)), (Q, (.cells #[.int .i64 m.wd, .slice (some ⟨g3, 0, none⟩) (n + 1) d3] 27)), (bx, (.cells #[.int .i64 lo, .int .i64 hi] 41)), (g1, (.cells cur1 41)), (w.heap.size, (mpBox m (.slice A cs.length c)))] [rwI (.slice (some ⟨g167, 0, none⟩) (n + 1) cap168) (n + 1) (rowZ fC (n + 1)), rwI (.slice (some ⟨g2, 0, none⟩) (n + 1) d2) (n + 1) (rowZ fL (n + 1)), rwI (.slice (some ⟨g3, 0, none⟩) (n + 1) d3) (n + 1) (rowZ fH (n + 1))] W172) (hzW172 : Hid (W172.heap.size = W169.heap.size)) => hK.out _ W172 ?_) _ ((RW.put (RW.less (bs' := [(R, (.cells #[.int .i64 m.wd, .slice E3 n c3] 27)), (P, (.cells #[.int .i64 m.wd, .slice (some ⟨g2, 0, none⟩) (n + 1) d2] 27)), (Q, (.cells #[.int .i64 m.wd, .slice (some ⟨g3, 0, none⟩) (n + 1) d3] 27)), (bx, (.cells #[.int .i64 lo, .int .i64 hi] 41)), (g1, (.cells cur1 41)), (w.heap.size, (mpBox m (.slice A cs.length c)))]) HR.out (by simp only [List.forall_mem_cons, List.forall_mem_nil, and_true]; exact ⟨(List.mem_cons_of_mem _ (List.mem_cons_of_mem _ (List.mem_cons_of_mem _ (List.mem_cons_self ..)))), (List.mem_cons_of_mem _ (List.mem_cons_self ..)), (List.mem_cons_of_mem _ (List.mem_cons_of_mem _ (List.mem_cons_self ..))), (List.mem_cons_of_mem _ (List.mem_cons_of_mem _ (List.mem_cons_of_mem _ (List.mem_cons_of_mem _ (List.mem_cons_self ..))))), (List.mem_cons_of_mem _ (List.mem_cons_of_mem _ (List.mem_cons_of_mem _ (List.mem_cons_of_mem _ (List.mem_cons_of_mem _ (List.mem_cons_self ..)))))), (List.mem_cons_of_mem _ (List.mem_cons_of_mem _ (List.mem_cons_of_mem _ (List.mem_cons_of_mem _ (List.mem_cons_of_mem _ (List.mem_cons_of_mem _ (List.mem_cons_self ..))))))), by simp⟩)) (by have := hzW144.out; have := hzW165.out; omega) (by have := hzW144.out; have := hzW165.out; simp <;> omega) 1 (.slice (some ⟨g167, 0, none⟩) (n + 1) cap168))) (Lib.hid (by simp))
                  clear HR
                  have HR := Lib.hid hRn
                  clear hRn
                  refine hw_done (by kernel_rfl) ?_
                  go_wp2_with fail
                  go_roundw
                  case rel => exact ⟨n + 1, some ⟨g2, 0, none⟩, d2, some ⟨g3, 0, none⟩, d3, some ⟨g167, 0, none⟩, cap168, by omega, by go_num, (RW.less (bs' := [(P, (.cells #[.int .i64 m.wd, .slice (some ⟨g2, 0, none⟩) (n + 1) d2] 27)), (Q, (.cells #[.int .i64 m.wd, .slice (some ⟨g3, 0, none⟩) (n + 1) d3] 27)), (R, (.cells #[.int .i64 m.wd, .slice (some ⟨g167, 0, none⟩) (n + 1) cap168] 27)), (bx, (.cells #[.int .i64 lo, .int .i64 hi] 41)), (g1, (.cells cur1 41)), (w.heap.size, (mpBox m (.slice A cs.length c)))]) HR.out (by simp only [List.forall_mem_cons, List.forall_mem_nil, and_true]; exact ⟨(List.mem_cons_of_mem _ (List.mem_cons_self ..)), (List.mem_cons_of_mem _ (List.mem_cons_of_mem _ (List.mem_cons_self ..))), (List.mem_cons_self ..), (List.mem_cons_of_mem _ (List.mem_cons_of_mem _ (List.mem_cons_of_mem _ (List.mem_cons_self ..)))), (List.mem_cons_of_mem _ (List.mem_cons_of_mem _ (List.mem_cons_of_mem _ (List.mem_cons_of_mem _ (List.mem_cons_self ..))))), (List.mem_cons_of_mem _ (List.mem_cons_of_mem _ (List.mem_cons_of_mem _ (List.mem_cons_of_mem _ (List.mem_cons_of_mem _ (List.mem_cons_self ..)))))), by simp⟩)).perm (List.Perm.trans (List.Perm.swap _ _ _) (List.Perm.cons _ (List.Perm.swap _ _ _)))⟩
                  case measure => simp [intOf]; omega
                exact AllHW.nil
              exact AllHW.nil
            exact AllHW.nil
          exact AllHW.nil

      · obtain rfl : n = N := by omega
        obtain ⟨gx, cu1, rfl, hr1, hb1, h11, h12, hR1⟩ := HR.out.row_int (rowZ_len _ _) (by omega)
        obtain ⟨gy, cu2, rfl, hr2, hb2, h21, h22, hR2⟩ := hR1.row_int (rowZ_len _ _) (by omega)
        obtain ⟨gz, cu3, rfl, hr3, hb3, h31, h32, hR3⟩ := hR2.row_int (rowZ_len _ _) (by omega)
        have hcx1 := And.intro h11 h12
        have hcx2 := And.intro h21 h22
        have hcx3 := And.intro h31 h32
        have HRo1 := Lib.hid hr1
        have HRo2 := Lib.hid hr2
        have HRo3 := Lib.hid hr3
        have hc3 : cu3[pt]? = some (.int .i64 v) := by rw [hr3 pt _ (rowZ_at hptN), HCP.out]
        unfold maxLen at h12 h22 h32
        have HRq := Lib.hid hR3.frm
        clear HR hR1 hR2 hR3 hr1 hr2 hr3
        have HR := HRq
        clear HRq
        have HF1 : Hid (∀ W, Stas W (.slice A cs.length c) cs → Ints W (.slice (some ⟨gx, 0, none⟩) n c1) (rowZ fL n) → Calls Tryz.prog 13 #[mpV m (.slice A cs.length c), .agg #[.int .i64 m.wd, .slice (some ⟨gx, 0, none⟩) n c1]] W fun e w' => e = .returned (.tuple #[.bool true, .int .i64 0]) ∧ Below W.heap.size W w') := Lib.hid (fun W h1 h2 => by
          have := cFits_ok (zs := rowZ fL n) (wd := m.wd) (Z := some ⟨gx, 0, none⟩) (zc := c1) h1 (by rw [rowZ_len]; exact h2) hsa (HFB1.out)
          rw [rowZ_len, HFI1.out] at this
          exact this)
        have HF2 : Hid (∀ W, Stas W (.slice A cs.length c) cs → Ints W (.slice (some ⟨gy, 0, none⟩) n c2) (rowZ fH n) → Calls Tryz.prog 13 #[mpV m (.slice A cs.length c), .agg #[.int .i64 m.wd, .slice (some ⟨gy, 0, none⟩) n c2]] W fun e w' => e = .returned (.tuple #[.bool true, .int .i64 0]) ∧ Below W.heap.size W w') := Lib.hid (fun W h1 h2 => by
          have := cFits_ok (zs := rowZ fH n) (wd := m.wd) (Z := some ⟨gy, 0, none⟩) (zc := c2) h1 (by rw [rowZ_len]; exact h2) hsa (HFB2.out)
          rw [rowZ_len, HFI2.out] at this
          exact this)
        have HF3 : Hid (∀ W, Stas W (.slice A cs.length c) cs → Ints W (.slice (some ⟨gz, 0, none⟩) n c3) (rowZ fC n) → Calls Tryz.prog 13 #[mpV m (.slice A cs.length c), .agg #[.int .i64 m.wd, .slice (some ⟨gz, 0, none⟩) n c3]] W fun e w' => e = .returned (.tuple #[.bool true, .int .i64 0]) ∧ Below W.heap.size W w') := Lib.hid (fun W h1 h2 => by
          have := cFits_ok (zs := rowZ fC n) (wd := m.wd) (Z := some ⟨gz, 0, none⟩) (zc := c3) h1 (by rw [rowZ_len]; exact h2) hsa (HFB3.out)
          rw [rowZ_len, HFI3.out] at this
          exact this)
        have x0 := HR.out.cells (List.mem_cons_self ..)
        have x1 := HR.out.cells (List.mem_cons_of_mem _ (List.mem_cons_self ..))
        have x2 := HR.out.cells (List.mem_cons_of_mem _ (List.mem_cons_of_mem _ (List.mem_cons_self ..)))
        have x3 := HR.out.cells (List.mem_cons_of_mem _ (List.mem_cons_of_mem _ (List.mem_cons_of_mem _ (List.mem_cons_self ..))))
        have x4 := HR.out.cells (List.mem_cons_of_mem _ (List.mem_cons_of_mem _ (List.mem_cons_of_mem _ (List.mem_cons_of_mem _ (List.mem_cons_self ..)))))
        have x5 := HR.out.cells (List.mem_cons_of_mem _ (List.mem_cons_of_mem _ (List.mem_cons_of_mem _ (List.mem_cons_of_mem _ (List.mem_cons_of_mem _ (List.mem_cons_self ..))))))
        have x6 := HR.out.cells (List.mem_cons_of_mem _ (List.mem_cons_of_mem _ (List.mem_cons_of_mem _ (List.mem_cons_of_mem _ (List.mem_cons_of_mem _ (List.mem_cons_of_mem _ (List.mem_cons_self ..)))))))
        have x7 := HR.out.cells (List.mem_cons_of_mem _ (List.mem_cons_of_mem _ (List.mem_cons_of_mem _ (List.mem_cons_of_mem _ (List.mem_cons_of_mem _ (List.mem_cons_of_mem _ (List.mem_cons_of_mem _ (List.mem_cons_self ..))))))))
        have x8 := HR.out.cells (List.mem_cons_of_mem _ (List.mem_cons_of_mem _ (List.mem_cons_of_mem _ (List.mem_cons_of_mem _ (List.mem_cons_of_mem _ (List.mem_cons_of_mem _ (List.mem_cons_of_mem _ (List.mem_cons_of_mem _ (List.mem_cons_self ..)))))))))
        go_wp2_with (first | (go_at_call 13; with_reducible refine (HF1.out _ (HC0.out.below (Frm.b (w := w) (bs := [(gz, (.cells cu3 3)), (gy, (.cells cu2 3)), (gx, (.cells cu1 3)), (P, (.cells #[.int .i64 m.wd, .slice (some ⟨gx, 0, none⟩) n c1] 27)), (Q, (.cells #[.int .i64 m.wd, .slice (some ⟨gy, 0, none⟩) n c2] 27)), (R, (.cells #[.int .i64 m.wd, .slice (some ⟨gz, 0, none⟩) n c3] 27)), (bx, (.cells #[.int .i64 lo, .int .i64 hi] 41)), (g1, (.cells cur1 41)), (w.heap.size, (mpBox m (.slice A cs.length c)))]) (by (repeat (with_reducible first | exact HR.out | apply Frm.drew | apply Frm.alloc | apply Frm.drewN))))) (by have HB0 : Frm w [(gz, (.cells cu3 3)), (gy, (.cells cu2 3)), (gx, (.cells cu1 3)), (P, (.cells #[.int .i64 m.wd, .slice (some ⟨gx, 0, none⟩) n c1] 27)), (Q, (.cells #[.int .i64 m.wd, .slice (some ⟨gy, 0, none⟩) n c2] 27)), (R, (.cells #[.int .i64 m.wd, .slice (some ⟨gz, 0, none⟩) n c3] 27)), (bx, (.cells #[.int .i64 lo, .int .i64 hi] 41)), (g1, (.cells cur1 41)), (w.heap.size, (mpBox m (.slice A cs.length c)))] _ := (by (repeat (with_reducible first | exact HR.out | apply Frm.drew | apply Frm.alloc | apply Frm.drewN))); exact (row_ints (HB0.h _ (List.mem_cons_of_mem _ (List.mem_cons_of_mem _ (List.mem_cons_self ..)))) HRo1.out (rowZ_len _ _) hcx1.1 hcx1.2))).mono ?_; rintro e wa ⟨rfl, hba⟩; have HRq := Lib.hid (Frm.below (w := w) (bs := [(gz, (.cells cu3 3)), (gy, (.cells cu2 3)), (gx, (.cells cu1 3)), (P, (.cells #[.int .i64 m.wd, .slice (some ⟨gx, 0, none⟩) n c1] 27)), (Q, (.cells #[.int .i64 m.wd, .slice (some ⟨gy, 0, none⟩) n c2] 27)), (R, (.cells #[.int .i64 m.wd, .slice (some ⟨gz, 0, none⟩) n c3] 27)), (bx, (.cells #[.int .i64 lo, .int .i64 hi] 41)), (g1, (.cells cur1 41)), (w.heap.size, (mpBox m (.slice A cs.length c)))]) (by (repeat (with_reducible first | exact HR.out | apply Frm.drew | apply Frm.alloc | apply Frm.drewN))) hba); clear HR x0 x1 x2 x3 x4 x5 x6 x7 x8; have HR := HRq; clear HRq hba; have x0 := HR.out.cells (List.mem_cons_self ..); have x1 := HR.out.cells (List.mem_cons_of_mem _ (List.mem_cons_self ..)); have x2 := HR.out.cells (List.mem_cons_of_mem _ (List.mem_cons_of_mem _ (List.mem_cons_self ..))); have x3 := HR.out.cells (List.mem_cons_of_mem _ (List.mem_cons_of_mem _ (List.mem_cons_of_mem _ (List.mem_cons_self ..)))); have x4 := HR.out.cells (List.mem_cons_of_mem _ (List.mem_cons_of_mem _ (List.mem_cons_of_mem _ (List.mem_cons_of_mem _ (List.mem_cons_self ..))))); have x5 := HR.out.cells (List.mem_cons_of_mem _ (List.mem_cons_of_mem _ (List.mem_cons_of_mem _ (List.mem_cons_of_mem _ (List.mem_cons_of_mem _ (List.mem_cons_self ..)))))); have x6 := HR.out.cells (List.mem_cons_of_mem _ (List.mem_cons_of_mem _ (List.mem_cons_of_mem _ (List.mem_cons_of_mem _ (List.mem_cons_of_mem _ (List.mem_cons_of_mem _ (List.mem_cons_self ..))))))); have x7 := HR.out.cells (List.mem_cons_of_mem _ (List.mem_cons_of_mem _ (List.mem_cons_of_mem _ (List.mem_cons_of_mem _ (List.mem_cons_of_mem _ (List.mem_cons_of_mem _ (List.mem_cons_of_mem _ (List.mem_cons_self ..)))))))); have x8 := HR.out.cells (List.mem_cons_of_mem _ (List.mem_cons_of_mem _ (List.mem_cons_of_mem _ (List.mem_cons_of_mem _ (List.mem_cons_of_mem _ (List.mem_cons_of_mem _ (List.mem_cons_of_mem _ (List.mem_cons_of_mem _ (List.mem_cons_self ..)))))))))) | (go_at_call 13; with_reducible refine (HF2.out _ (HC0.out.below (Frm.b (w := w) (bs := [(gz, (.cells cu3 3)), (gy, (.cells cu2 3)), (gx, (.cells cu1 3)), (P, (.cells #[.int .i64 m.wd, .slice (some ⟨gx, 0, none⟩) n c1] 27)), (Q, (.cells #[.int .i64 m.wd, .slice (some ⟨gy, 0, none⟩) n c2] 27)), (R, (.cells #[.int .i64 m.wd, .slice (some ⟨gz, 0, none⟩) n c3] 27)), (bx, (.cells #[.int .i64 lo, .int .i64 hi] 41)), (g1, (.cells cur1 41)), (w.heap.size, (mpBox m (.slice A cs.length c)))]) (by (repeat (with_reducible first | exact HR.out | apply Frm.drew | apply Frm.alloc | apply Frm.drewN))))) (by have HB0 : Frm w [(gz, (.cells cu3 3)), (gy, (.cells cu2 3)), (gx, (.cells cu1 3)), (P, (.cells #[.int .i64 m.wd, .slice (some ⟨gx, 0, none⟩) n c1] 27)), (Q, (.cells #[.int .i64 m.wd, .slice (some ⟨gy, 0, none⟩) n c2] 27)), (R, (.cells #[.int .i64 m.wd, .slice (some ⟨gz, 0, none⟩) n c3] 27)), (bx, (.cells #[.int .i64 lo, .int .i64 hi] 41)), (g1, (.cells cur1 41)), (w.heap.size, (mpBox m (.slice A cs.length c)))] _ := (by (repeat (with_reducible first | exact HR.out | apply Frm.drew | apply Frm.alloc | apply Frm.drewN))); exact (row_ints (HB0.h _ (List.mem_cons_of_mem _ (List.mem_cons_self ..))) HRo2.out (rowZ_len _ _) hcx2.1 hcx2.2))).mono ?_; rintro e wa ⟨rfl, hba⟩; have HRq := Lib.hid (Frm.below (w := w) (bs := [(gz, (.cells cu3 3)), (gy, (.cells cu2 3)), (gx, (.cells cu1 3)), (P, (.cells #[.int .i64 m.wd, .slice (some ⟨gx, 0, none⟩) n c1] 27)), (Q, (.cells #[.int .i64 m.wd, .slice (some ⟨gy, 0, none⟩) n c2] 27)), (R, (.cells #[.int .i64 m.wd, .slice (some ⟨gz, 0, none⟩) n c3] 27)), (bx, (.cells #[.int .i64 lo, .int .i64 hi] 41)), (g1, (.cells cur1 41)), (w.heap.size, (mpBox m (.slice A cs.length c)))]) (by (repeat (with_reducible first | exact HR.out | apply Frm.drew | apply Frm.alloc | apply Frm.drewN))) hba); clear HR x0 x1 x2 x3 x4 x5 x6 x7 x8; have HR := HRq; clear HRq hba; have x0 := HR.out.cells (List.mem_cons_self ..); have x1 := HR.out.cells (List.mem_cons_of_mem _ (List.mem_cons_self ..)); have x2 := HR.out.cells (List.mem_cons_of_mem _ (List.mem_cons_of_mem _ (List.mem_cons_self ..))); have x3 := HR.out.cells (List.mem_cons_of_mem _ (List.mem_cons_of_mem _ (List.mem_cons_of_mem _ (List.mem_cons_self ..)))); have x4 := HR.out.cells (List.mem_cons_of_mem _ (List.mem_cons_of_mem _ (List.mem_cons_of_mem _ (List.mem_cons_of_mem _ (List.mem_cons_self ..))))); have x5 := HR.out.cells (List.mem_cons_of_mem _ (List.mem_cons_of_mem _ (List.mem_cons_of_mem _ (List.mem_cons_of_mem _ (List.mem_cons_of_mem _ (List.mem_cons_self ..)))))); have x6 := HR.out.cells (List.mem_cons_of_mem _ (List.mem_cons_of_mem _ (List.mem_cons_of_mem _ (List.mem_cons_of_mem _ (List.mem_cons_of_mem _ (List.mem_cons_of_mem _ (List.mem_cons_self ..))))))); have x7 := HR.out.cells (List.mem_cons_of_mem _ (List.mem_cons_of_mem _ (List.mem_cons_of_mem _ (List.mem_cons_of_mem _ (List.mem_cons_of_mem _ (List.mem_cons_of_mem _ (List.mem_cons_of_mem _ (List.mem_cons_self ..)))))))); have x8 := HR.out.cells (List.mem_cons_of_mem _ (List.mem_cons_of_mem _ (List.mem_cons_of_mem _ (List.mem_cons_of_mem _ (List.mem_cons_of_mem _ (List.mem_cons_of_mem _ (List.mem_cons_of_mem _ (List.mem_cons_of_mem _ (List.mem_cons_self ..)))))))))) | (go_at_call 13; with_reducible refine (HF3.out _ (HC0.out.below (Frm.b (w := w) (bs := [(gz, (.cells cu3 3)), (gy, (.cells cu2 3)), (gx, (.cells cu1 3)), (P, (.cells #[.int .i64 m.wd, .slice (some ⟨gx, 0, none⟩) n c1] 27)), (Q, (.cells #[.int .i64 m.wd, .slice (some ⟨gy, 0, none⟩) n c2] 27)), (R, (.cells #[.int .i64 m.wd, .slice (some ⟨gz, 0, none⟩) n c3] 27)), (bx, (.cells #[.int .i64 lo, .int .i64 hi] 41)), (g1, (.cells cur1 41)), (w.heap.size, (mpBox m (.slice A cs.length c)))]) (by (repeat (with_reducible first | exact HR.out | apply Frm.drew | apply Frm.alloc | apply Frm.drewN))))) (by have HB0 : Frm w [(gz, (.cells cu3 3)), (gy, (.cells cu2 3)), (gx, (.cells cu1 3)), (P, (.cells #[.int .i64 m.wd, .slice (some ⟨gx, 0, none⟩) n c1] 27)), (Q, (.cells #[.int .i64 m.wd, .slice (some ⟨gy, 0, none⟩) n c2] 27)), (R, (.cells #[.int .i64 m.wd, .slice (some ⟨gz, 0, none⟩) n c3] 27)), (bx, (.cells #[.int .i64 lo, .int .i64 hi] 41)), (g1, (.cells cur1 41)), (w.heap.size, (mpBox m (.slice A cs.length c)))] _ := (by (repeat (with_reducible first | exact HR.out | apply Frm.drew | apply Frm.alloc | apply Frm.drewN))); exact (row_ints (HB0.h _ (List.mem_cons_self ..)) HRo3.out (rowZ_len _ _) hcx3.1 hcx3.2))).mono ?_; rintro e wa ⟨rfl, hba⟩; have HRq := Lib.hid (Frm.below (w := w) (bs := [(gz, (.cells cu3 3)), (gy, (.cells cu2 3)), (gx, (.cells cu1 3)), (P, (.cells #[.int .i64 m.wd, .slice (some ⟨gx, 0, none⟩) n c1] 27)), (Q, (.cells #[.int .i64 m.wd, .slice (some ⟨gy, 0, none⟩) n c2] 27)), (R, (.cells #[.int .i64 m.wd, .slice (some ⟨gz, 0, none⟩) n c3] 27)), (bx, (.cells #[.int .i64 lo, .int .i64 hi] 41)), (g1, (.cells cur1 41)), (w.heap.size, (mpBox m (.slice A cs.length c)))]) (by (repeat (with_reducible first | exact HR.out | apply Frm.drew | apply Frm.alloc | apply Frm.drewN))) hba); clear HR x0 x1 x2 x3 x4 x5 x6 x7 x8; have HR := HRq; clear HRq hba; have x0 := HR.out.cells (List.mem_cons_self ..); have x1 := HR.out.cells (List.mem_cons_of_mem _ (List.mem_cons_self ..)); have x2 := HR.out.cells (List.mem_cons_of_mem _ (List.mem_cons_of_mem _ (List.mem_cons_self ..))); have x3 := HR.out.cells (List.mem_cons_of_mem _ (List.mem_cons_of_mem _ (List.mem_cons_of_mem _ (List.mem_cons_self ..)))); have x4 := HR.out.cells (List.mem_cons_of_mem _ (List.mem_cons_of_mem _ (List.mem_cons_of_mem _ (List.mem_cons_of_mem _ (List.mem_cons_self ..))))); have x5 := HR.out.cells (List.mem_cons_of_mem _ (List.mem_cons_of_mem _ (List.mem_cons_of_mem _ (List.mem_cons_of_mem _ (List.mem_cons_of_mem _ (List.mem_cons_self ..)))))); have x6 := HR.out.cells (List.mem_cons_of_mem _ (List.mem_cons_of_mem _ (List.mem_cons_of_mem _ (List.mem_cons_of_mem _ (List.mem_cons_of_mem _ (List.mem_cons_of_mem _ (List.mem_cons_self ..))))))); have x7 := HR.out.cells (List.mem_cons_of_mem _ (List.mem_cons_of_mem _ (List.mem_cons_of_mem _ (List.mem_cons_of_mem _ (List.mem_cons_of_mem _ (List.mem_cons_of_mem _ (List.mem_cons_of_mem _ (List.mem_cons_self ..)))))))); have x8 := HR.out.cells (List.mem_cons_of_mem _ (List.mem_cons_of_mem _ (List.mem_cons_of_mem _ (List.mem_cons_of_mem _ (List.mem_cons_of_mem _ (List.mem_cons_of_mem _ (List.mem_cons_of_mem _ (List.mem_cons_of_mem _ (List.mem_cons_self ..)))))))))) | (go_at_call 12; refine (GX.known_true _ (HT.out.below (Frm.b (w := w) (bs := [(gz, (.cells cu3 3)), (gy, (.cells cu2 3)), (gx, (.cells cu1 3)), (P, (.cells #[.int .i64 m.wd, .slice (some ⟨gx, 0, none⟩) n c1] 27)), (Q, (.cells #[.int .i64 m.wd, .slice (some ⟨gy, 0, none⟩) n c2] 27)), (R, (.cells #[.int .i64 m.wd, .slice (some ⟨gz, 0, none⟩) n c3] 27)), (bx, (.cells #[.int .i64 lo, .int .i64 hi] 41)), (g1, (.cells cur1 41)), (w.heap.size, (mpBox m (.slice A cs.length c)))]) (by (repeat (with_reducible first | exact HR.out | apply Frm.drew | apply Frm.alloc | apply Frm.drewN)))))).mono ?_; rintro e wa ⟨rfl, hba⟩; have HRq := Lib.hid (Frm.below (w := w) (bs := [(gz, (.cells cu3 3)), (gy, (.cells cu2 3)), (gx, (.cells cu1 3)), (P, (.cells #[.int .i64 m.wd, .slice (some ⟨gx, 0, none⟩) n c1] 27)), (Q, (.cells #[.int .i64 m.wd, .slice (some ⟨gy, 0, none⟩) n c2] 27)), (R, (.cells #[.int .i64 m.wd, .slice (some ⟨gz, 0, none⟩) n c3] 27)), (bx, (.cells #[.int .i64 lo, .int .i64 hi] 41)), (g1, (.cells cur1 41)), (w.heap.size, (mpBox m (.slice A cs.length c)))]) (by (repeat (with_reducible first | exact HR.out | apply Frm.drew | apply Frm.alloc | apply Frm.drewN))) hba); clear HR; have HR := HRq; clear HRq hba; have x0 := HR.out.cells (List.mem_cons_self ..); have x1 := HR.out.cells (List.mem_cons_of_mem _ (List.mem_cons_self ..)); have x2 := HR.out.cells (List.mem_cons_of_mem _ (List.mem_cons_of_mem _ (List.mem_cons_self ..))); have x3 := HR.out.cells (List.mem_cons_of_mem _ (List.mem_cons_of_mem _ (List.mem_cons_of_mem _ (List.mem_cons_self ..)))); have x4 := HR.out.cells (List.mem_cons_of_mem _ (List.mem_cons_of_mem _ (List.mem_cons_of_mem _ (List.mem_cons_of_mem _ (List.mem_cons_self ..))))); have x5 := HR.out.cells (List.mem_cons_of_mem _ (List.mem_cons_of_mem _ (List.mem_cons_of_mem _ (List.mem_cons_of_mem _ (List.mem_cons_of_mem _ (List.mem_cons_self ..)))))); have x6 := HR.out.cells (List.mem_cons_of_mem _ (List.mem_cons_of_mem _ (List.mem_cons_of_mem _ (List.mem_cons_of_mem _ (List.mem_cons_of_mem _ (List.mem_cons_of_mem _ (List.mem_cons_self ..))))))); have x7 := HR.out.cells (List.mem_cons_of_mem _ (List.mem_cons_of_mem _ (List.mem_cons_of_mem _ (List.mem_cons_of_mem _ (List.mem_cons_of_mem _ (List.mem_cons_of_mem _ (List.mem_cons_of_mem _ (List.mem_cons_self ..)))))))); have x8 := HR.out.cells (List.mem_cons_of_mem _ (List.mem_cons_of_mem _ (List.mem_cons_of_mem _ (List.mem_cons_of_mem _ (List.mem_cons_of_mem _ (List.mem_cons_of_mem _ (List.mem_cons_of_mem _ (List.mem_cons_of_mem _ (List.mem_cons_self ..)))))))))))
        go_ret
        exact ⟨rfl, (Frm.b (w := w) (bs := [(gz, (.cells cu3 3)), (gy, (.cells cu2 3)), (gx, (.cells cu1 3)), (P, (.cells #[.int .i64 m.wd, .slice (some ⟨gx, 0, none⟩) n c1] 27)), (Q, (.cells #[.int .i64 m.wd, .slice (some ⟨gy, 0, none⟩) n c2] 27)), (R, (.cells #[.int .i64 m.wd, .slice (some ⟨gz, 0, none⟩) n c3] 27)), (bx, (.cells #[.int .i64 lo, .int .i64 hi] 41)), (g1, (.cells cur1 41)), (w.heap.size, (mpBox m (.slice A cs.length c)))]) (by (repeat (with_reducible first | exact HR.out | apply Frm.drew | apply Frm.alloc | apply Frm.drewN))))⟩
end Go.Proofs.YtaolfdgkflfekaaGreatDoor
