/- Which maps are as defined, by the program and by the reference. -/
import Derived.Test.YtpkmojcppdogkaaGreatDoorCs
set_option linter.unusedVariables false
set_option linter.unusedSimpArgs false
namespace Go.Proofs.YtpkmojcppdogkaaGreatDoor
open Go.RowKit

set_option maxHeartbeats 4000000 in
set_option maxRecDepth 100000 in
theorem soundMap_any (m : Mp) (A : Option Addr) (c : Nat) (cs : List Sta) (w : World) (hc : Stas w (.slice A cs.length c) cs) :
    Calls Tryz.prog 48 #[mpV m (.slice A cs.length c)] w fun e w' => e = .returned (.bool (mapB m cs)) ∧ Below w.heap.size w w' := by
  have HC0 := Lib.hid hc
  have hlen : cs.length ≤ maxLen := by
    obtain ⟨A', cap, hv, hl, hm, h⟩ := hc
    omega
  unfold maxLen at hlen
  clear hc
  have HR := Lib.hid ((Frm.nil w).add (mpBox m (.slice A cs.length c)) rfl)
  have x0 := HR.out.cells (List.mem_cons_self ..)
  cases q1 : betw m.wd 1 6
  · have z1 : sizeB m = false := by simp [sizeB, *]
    have HB := Lib.hid (show mapB m cs = false by simp [mapB, sizeB, q1])
    rw [HB.out]
    go_enter Tryz.func48, Tryz.ntmps48
    go_wp2_with ((go_at_call 86; refine (between_any _ _ _ _).mono ?_; rintro e wq ⟨rfl, rfl⟩))
    go_ret
    exact ⟨rfl, HR.out.b⟩
  cases q2 : betw m.rw 1 5
  · have z1 : sizeB m = false := by simp [sizeB, *]
    have HB := Lib.hid (show mapB m cs = false by simp [mapB, sizeB, q2])
    rw [HB.out]
    go_enter Tryz.func48, Tryz.ntmps48
    go_wp2_with ((go_at_call 86; refine (between_any _ _ _ _).mono ?_; rintro e wq ⟨rfl, rfl⟩))
    go_ret
    exact ⟨rfl, HR.out.b⟩
  cases q3 : betw m.sl 0 5000
  · have z1 : sizeB m = true := by simp [sizeB, *]
    have HB := Lib.hid (show mapB m cs = false by simp [mapB, q3])
    rw [HB.out]
    go_enter Tryz.func48, Tryz.ntmps48
    go_wp2_with ((go_at_call 86; refine (between_any _ _ _ _).mono ?_; rintro e wq ⟨rfl, rfl⟩))
    go_ret
    exact ⟨rfl, HR.out.b⟩
  by_cases h12 : cs.length ≤ 12
  rotate_left
  · have z1 : sizeB m = true := by simp [sizeB, *]
    have HB := Lib.hid (show mapB m cs = false by simp [mapB]; omega)
    rw [HB.out]
    go_enter Tryz.func48, Tryz.ntmps48
    go_wp2_with ((go_at_call 86; refine (between_any _ _ _ _).mono ?_; rintro e wq ⟨rfl, rfl⟩))
    go_ret
    exact ⟨rfl, HR.out.b⟩
  have hm : m.Ok := by
    have := betw_iff.1 q1; have := betw_iff.1 q2; have := betw_iff.1 q3
    have := area (a := m.wd) (b := m.rw) (by omega) (by omega) (by omega) (by omega)
    exact ⟨by omega, by omega, by omega, by omega, by omega, by omega, by omega, by omega⟩
  have z1 : sizeB m = true := by simp [sizeB, *]
  have HB := Lib.hid (show mapB m cs = cs.all (staB m) by simp [mapB, sizeB, q1, q2, q3, h12])
  rw [HB.out]
  go_enter Tryz.func48, Tryz.ntmps48
  go_wp2_with ((go_at_call 86; refine (between_any _ _ _ _).mono ?_; rintro e wq ⟨rfl, rfl⟩))
  go_loopw [4, 30] (fun _ i wr => ∃ n : Nat, n ≤ cs.length ∧ i = .int .i64 n ∧ (cs.take n).all (staB m) = true ∧ Frm w [(w.heap.size, (mpBox m (.slice A cs.length c)))] wr) (fun _ i _ => cs.length - (intOf i).toNat)
  case atStart => exact ⟨0, Nat.zero_le _, rfl, by simp, (by (repeat (with_reducible first | exact HR.out | apply Frm.drew | apply Frm.alloc | apply Frm.drewN)))⟩
  case round =>
    obtain ⟨n, hn, rfl, hall, hF⟩ := hrel
    clear HR x0
    have HR := Lib.hid hF
    have HA := Lib.hid hall
    have HC := Lib.hid (HC0.out.below HR.out.b)
    clear hF hall
    have x0 := HR.out.cells (List.mem_cons_self ..)
    by_cases hnl : n < cs.length
    · obtain ⟨x, hx⟩ : ∃ x, cs[n]? = some x := ⟨_, List.getElem?_eq_getElem hnl⟩
      obtain ⟨b, off, hA, hcap, hmx, c0, c1, c2⟩ := sta_cells HC.out hx
      unfold maxLen at hmx
      subst hA
      have HX := Lib.hid hx
      clear hx HC
      go_upto_region 6 with fail
      have HRq := Lib.hid (HR.out.add (stBox x) rfl)
      clear HR x0 c0 c1 c2
      have HR := HRq
      clear HRq
      have x0 := HR.out.cells (List.mem_cons_self ..)
      have x1 := HR.out.cells (List.mem_cons_of_mem _ (List.mem_cons_self ..))
      cases g1 : betw x.pt 0 (m.wd * m.rw - 1)
      · have HN := Lib.hid (show cs.all (staB m) = false by rw [List.all_eq_false]; exact ⟨x, List.mem_of_getElem? HX.out, by simp [staB, g1]⟩)
        go_wp2_with (first | (go_at_call 87; refine (point_any m hm _ _ _).mono ?_; rintro e wa ⟨rfl, hba⟩; have HRq := Lib.hid (Frm.below (w := w) (bs := [(wr.heap.size, (stBox x)), (w.heap.size, (mpBox m (.slice (some ⟨b, off, none⟩) cs.length c)))]) (by (repeat (with_reducible first | exact HR.out | apply Frm.drew | apply Frm.alloc | apply Frm.drewN))) hba); clear HR; have HR := HRq; clear HRq hba; have x0 := HR.out.cells (List.mem_cons_self ..); have x1 := HR.out.cells (List.mem_cons_of_mem _ (List.mem_cons_self ..))) | (go_at_call 88; refine (value_any _ _).mono ?_; rintro e wq ⟨rfl, rfl⟩))
        go_ret
        exact ⟨ret_bool HN.out.symm, HR.out.b⟩
      by_cases g2 : x.lo ≤ x.hi
      rotate_left
      · have HN := Lib.hid (show cs.all (staB m) = false by rw [List.all_eq_false]; exact ⟨x, List.mem_of_getElem? HX.out, by simp [staB, g2]⟩)
        go_wp2_with (first | (go_at_call 87; refine (point_any m hm _ _ _).mono ?_; rintro e wa ⟨rfl, hba⟩; have HRq := Lib.hid (Frm.below (w := w) (bs := [(wr.heap.size, (stBox x)), (w.heap.size, (mpBox m (.slice (some ⟨b, off, none⟩) cs.length c)))]) (by (repeat (with_reducible first | exact HR.out | apply Frm.drew | apply Frm.alloc | apply Frm.drewN))) hba); clear HR; have HR := HRq; clear HRq hba; have x0 := HR.out.cells (List.mem_cons_self ..); have x1 := HR.out.cells (List.mem_cons_of_mem _ (List.mem_cons_self ..))) | (go_at_call 88; refine (value_any _ _).mono ?_; rintro e wq ⟨rfl, rfl⟩))
        go_ret
        exact ⟨ret_bool HN.out.symm, HR.out.b⟩
      cases g3 : betw x.lo 0 99999
      · have HN := Lib.hid (show cs.all (staB m) = false by rw [List.all_eq_false]; exact ⟨x, List.mem_of_getElem? HX.out, by simp [staB, g3]⟩)
        go_wp2_with (first | (go_at_call 87; refine (point_any m hm _ _ _).mono ?_; rintro e wa ⟨rfl, hba⟩; have HRq := Lib.hid (Frm.below (w := w) (bs := [(wr.heap.size, (stBox x)), (w.heap.size, (mpBox m (.slice (some ⟨b, off, none⟩) cs.length c)))]) (by (repeat (with_reducible first | exact HR.out | apply Frm.drew | apply Frm.alloc | apply Frm.drewN))) hba); clear HR; have HR := HRq; clear HRq hba; have x0 := HR.out.cells (List.mem_cons_self ..); have x1 := HR.out.cells (List.mem_cons_of_mem _ (List.mem_cons_self ..))) | (go_at_call 88; refine (value_any _ _).mono ?_; rintro e wq ⟨rfl, rfl⟩))
        go_ret
        exact ⟨ret_bool HN.out.symm, HR.out.b⟩
      cases g4 : betw x.hi 0 99999
      · have HN := Lib.hid (show cs.all (staB m) = false by rw [List.all_eq_false]; exact ⟨x, List.mem_of_getElem? HX.out, by simp [staB, g4]⟩)
        go_wp2_with (first | (go_at_call 87; refine (point_any m hm _ _ _).mono ?_; rintro e wa ⟨rfl, hba⟩; have HRq := Lib.hid (Frm.below (w := w) (bs := [(wr.heap.size, (stBox x)), (w.heap.size, (mpBox m (.slice (some ⟨b, off, none⟩) cs.length c)))]) (by (repeat (with_reducible first | exact HR.out | apply Frm.drew | apply Frm.alloc | apply Frm.drewN))) hba); clear HR; have HR := HRq; clear HRq hba; have x0 := HR.out.cells (List.mem_cons_self ..); have x1 := HR.out.cells (List.mem_cons_of_mem _ (List.mem_cons_self ..))) | (go_at_call 88; refine (value_any _ _).mono ?_; rintro e wq ⟨rfl, rfl⟩))
        go_ret
        exact ⟨ret_bool HN.out.symm, HR.out.b⟩
      have HN := Lib.hid (show (cs.take (n + 1)).all (staB m) = true by rw [List.take_add_one, HX.out]; simp only [List.all_append, HA.out, Option.toList, List.all_cons, List.all_nil, Bool.and_true, Bool.true_and]; simp [staB, g1, g2, g3, g4])
      go_wp2_with (first | (go_at_call 87; refine (point_any m hm _ _ _).mono ?_; rintro e wa ⟨rfl, hba⟩; have HRq := Lib.hid (Frm.below (w := w) (bs := [(wr.heap.size, (stBox x)), (w.heap.size, (mpBox m (.slice (some ⟨b, off, none⟩) cs.length c)))]) (by (repeat (with_reducible first | exact HR.out | apply Frm.drew | apply Frm.alloc | apply Frm.drewN))) hba); clear HR; have HR := HRq; clear HRq hba; have x0 := HR.out.cells (List.mem_cons_self ..); have x1 := HR.out.cells (List.mem_cons_of_mem _ (List.mem_cons_self ..))) | (go_at_call 88; refine (value_any _ _).mono ?_; rintro e wq ⟨rfl, rfl⟩))
      go_roundw
      case rel => exact ⟨n + 1, by omega, by go_num, HN.out, Frm.less (bs := [(wr.heap.size, (stBox x)), (w.heap.size, (mpBox m (.slice (some ⟨b, off, none⟩) cs.length c)))]) (by (repeat (with_reducible first | exact HR.out | apply Frm.drew | apply Frm.alloc | apply Frm.drewN))) (fun p hp => by simp only [List.mem_cons, List.not_mem_nil, or_false] at hp; subst hp; simp)⟩
      case measure => simp [intOf]; omega
    · obtain rfl : n = cs.length := by omega
      have HT := Lib.hid (show cs.all (staB m) = true by have := HA.out; rwa [List.take_length] at this)
      go_wp2_with fail
      go_ret
      exact ⟨ret_bool HT.out.symm, HR.out.b⟩

set_option maxHeartbeats 4000000 in
set_option maxRecDepth 100000 in
theorem rMap_any (m : Mp) (A : Option Addr) (c : Nat) (cs : List Sta) (w : World) (hc : Stas w (.slice A cs.length c) cs) :
    Calls Tryz.prog 14 #[mpV m (.slice A cs.length c)] w fun e w' => e = .returned (.bool (mapB m cs)) ∧ Below w.heap.size w w' := by
  have HC0 := Lib.hid hc
  have hlen : cs.length ≤ maxLen := by
    obtain ⟨A', cap, hv, hl, hm, h⟩ := hc
    omega
  unfold maxLen at hlen
  clear hc
  have HR := Lib.hid ((Frm.nil w).add (mpBox m (.slice A cs.length c)) rfl)
  have x0 := HR.out.cells (List.mem_cons_self ..)
  cases q1 : betw m.wd 1 6
  · have z1 : sizeB m = false := by simp [sizeB, *]
    have HB := Lib.hid (show mapB m cs = false by simp [mapB, sizeB, q1])
    rw [HB.out]
    go_enter Tryz.func14, Tryz.ntmps14
    go_wp2_with (first | (go_at_call 43; refine (rSize_any m _).mono ?_; rintro e wq ⟨rfl, rfl⟩) | (go_at_call 44; refine (in_any _ _ _ _).mono ?_; rintro e wq ⟨rfl, rfl⟩))
    go_ret
    exact ⟨rfl, HR.out.b⟩
  cases q2 : betw m.rw 1 5
  · have z1 : sizeB m = false := by simp [sizeB, *]
    have HB := Lib.hid (show mapB m cs = false by simp [mapB, sizeB, q2])
    rw [HB.out]
    go_enter Tryz.func14, Tryz.ntmps14
    go_wp2_with (first | (go_at_call 43; refine (rSize_any m _).mono ?_; rintro e wq ⟨rfl, rfl⟩) | (go_at_call 44; refine (in_any _ _ _ _).mono ?_; rintro e wq ⟨rfl, rfl⟩))
    go_ret
    exact ⟨rfl, HR.out.b⟩
  cases q3 : betw m.sl 0 5000
  · have z1 : sizeB m = true := by simp [sizeB, *]
    have HB := Lib.hid (show mapB m cs = false by simp [mapB, q3])
    rw [HB.out]
    go_enter Tryz.func14, Tryz.ntmps14
    go_wp2_with (first | (go_at_call 43; refine (rSize_any m _).mono ?_; rintro e wq ⟨rfl, rfl⟩) | (go_at_call 44; refine (in_any _ _ _ _).mono ?_; rintro e wq ⟨rfl, rfl⟩))
    go_ret
    exact ⟨rfl, HR.out.b⟩
  by_cases h12 : cs.length ≤ 12
  rotate_left
  · have z1 : sizeB m = true := by simp [sizeB, *]
    have HB := Lib.hid (show mapB m cs = false by simp [mapB]; omega)
    rw [HB.out]
    go_enter Tryz.func14, Tryz.ntmps14
    go_wp2_with (first | (go_at_call 43; refine (rSize_any m _).mono ?_; rintro e wq ⟨rfl, rfl⟩) | (go_at_call 44; refine (in_any _ _ _ _).mono ?_; rintro e wq ⟨rfl, rfl⟩))
    go_ret
    exact ⟨rfl, HR.out.b⟩
  have hm : m.Ok := by
    have := betw_iff.1 q1; have := betw_iff.1 q2; have := betw_iff.1 q3
    have := area (a := m.wd) (b := m.rw) (by omega) (by omega) (by omega) (by omega)
    exact ⟨by omega, by omega, by omega, by omega, by omega, by omega, by omega, by omega⟩
  have z1 : sizeB m = true := by simp [sizeB, *]
  have HB := Lib.hid (show mapB m cs = cs.all (staB m) by simp [mapB, sizeB, q1, q2, q3, h12])
  rw [HB.out]
  go_enter Tryz.func14, Tryz.ntmps14
  go_wp2_with (first | (go_at_call 43; refine (rSize_any m _).mono ?_; rintro e wq ⟨rfl, rfl⟩) | (go_at_call 44; refine (in_any _ _ _ _).mono ?_; rintro e wq ⟨rfl, rfl⟩))
  go_loopw [3, 4] (fun i _ wr => ∃ n : Nat, n ≤ cs.length ∧ i = .int .i64 n ∧ (cs.take n).all (staB m) = true ∧ Frm w [(w.heap.size, (mpBox m (.slice A cs.length c)))] wr) (fun i _ _ => cs.length - (intOf i).toNat)
  case atStart => exact ⟨0, Nat.zero_le _, rfl, by simp, (by (repeat (with_reducible first | exact HR.out | apply Frm.drew | apply Frm.alloc | apply Frm.drewN)))⟩
  case round =>
    obtain ⟨n, hn, rfl, hall, hF⟩ := hrel
    clear HR x0
    have HR := Lib.hid hF
    have HA := Lib.hid hall
    have HC := Lib.hid (HC0.out.below HR.out.b)
    clear hF hall
    have x0 := HR.out.cells (List.mem_cons_self ..)
    by_cases hnl : n < cs.length
    · obtain ⟨x, hx⟩ : ∃ x, cs[n]? = some x := ⟨_, List.getElem?_eq_getElem hnl⟩
      obtain ⟨b, off, hA, hcap, hmx, c0, c1, c2⟩ := sta_cells HC.out hx
      unfold maxLen at hmx
      subst hA
      have HX := Lib.hid hx
      clear hx HC
      go_upto_region 7 with fail
      have HRq := Lib.hid (HR.out.add (stBox x) rfl)
      clear HR x0 c0 c1 c2
      have HR := HRq
      clear HRq
      have x0 := HR.out.cells (List.mem_cons_self ..)
      have x1 := HR.out.cells (List.mem_cons_of_mem _ (List.mem_cons_self ..))
      cases g1 : betw x.pt 0 (m.wd * m.rw - 1)
      · have HN := Lib.hid (show cs.all (staB m) = false by rw [List.all_eq_false]; exact ⟨x, List.mem_of_getElem? HX.out, by simp [staB, g1]⟩)
        go_wp2_with (first | (go_at_call 32; refine (rPoint_any m hm _ _ _).mono ?_; rintro e wa ⟨rfl, hba⟩; have HRq := Lib.hid (Frm.below (w := w) (bs := [(wr.heap.size, (stBox x)), (w.heap.size, (mpBox m (.slice (some ⟨b, off, none⟩) cs.length c)))]) (by (repeat (with_reducible first | exact HR.out | apply Frm.drew | apply Frm.alloc | apply Frm.drewN))) hba); clear HR; have HR := HRq; clear HRq hba; have x0 := HR.out.cells (List.mem_cons_self ..); have x1 := HR.out.cells (List.mem_cons_of_mem _ (List.mem_cons_self ..))) | (go_at_call 45; refine (rValue_any _ _).mono ?_; rintro e wq ⟨rfl, rfl⟩))
        go_ret
        exact ⟨ret_bool HN.out.symm, HR.out.b⟩
      cases g3 : betw x.lo 0 99999
      · have HN := Lib.hid (show cs.all (staB m) = false by rw [List.all_eq_false]; exact ⟨x, List.mem_of_getElem? HX.out, by simp [staB, g3]⟩)
        go_wp2_with (first | (go_at_call 32; refine (rPoint_any m hm _ _ _).mono ?_; rintro e wa ⟨rfl, hba⟩; have HRq := Lib.hid (Frm.below (w := w) (bs := [(wr.heap.size, (stBox x)), (w.heap.size, (mpBox m (.slice (some ⟨b, off, none⟩) cs.length c)))]) (by (repeat (with_reducible first | exact HR.out | apply Frm.drew | apply Frm.alloc | apply Frm.drewN))) hba); clear HR; have HR := HRq; clear HRq hba; have x0 := HR.out.cells (List.mem_cons_self ..); have x1 := HR.out.cells (List.mem_cons_of_mem _ (List.mem_cons_self ..))) | (go_at_call 45; refine (rValue_any _ _).mono ?_; rintro e wq ⟨rfl, rfl⟩))
        go_ret
        exact ⟨ret_bool HN.out.symm, HR.out.b⟩
      cases g4 : betw x.hi 0 99999
      · have HN := Lib.hid (show cs.all (staB m) = false by rw [List.all_eq_false]; exact ⟨x, List.mem_of_getElem? HX.out, by simp [staB, g4]⟩)
        go_wp2_with (first | (go_at_call 32; refine (rPoint_any m hm _ _ _).mono ?_; rintro e wa ⟨rfl, hba⟩; have HRq := Lib.hid (Frm.below (w := w) (bs := [(wr.heap.size, (stBox x)), (w.heap.size, (mpBox m (.slice (some ⟨b, off, none⟩) cs.length c)))]) (by (repeat (with_reducible first | exact HR.out | apply Frm.drew | apply Frm.alloc | apply Frm.drewN))) hba); clear HR; have HR := HRq; clear HRq hba; have x0 := HR.out.cells (List.mem_cons_self ..); have x1 := HR.out.cells (List.mem_cons_of_mem _ (List.mem_cons_self ..))) | (go_at_call 45; refine (rValue_any _ _).mono ?_; rintro e wq ⟨rfl, rfl⟩))
        go_ret
        exact ⟨ret_bool HN.out.symm, HR.out.b⟩
      by_cases g2 : x.lo ≤ x.hi
      rotate_left
      · have HN := Lib.hid (show cs.all (staB m) = false by rw [List.all_eq_false]; exact ⟨x, List.mem_of_getElem? HX.out, by simp [staB, g2]⟩)
        go_wp2_with (first | (go_at_call 32; refine (rPoint_any m hm _ _ _).mono ?_; rintro e wa ⟨rfl, hba⟩; have HRq := Lib.hid (Frm.below (w := w) (bs := [(wr.heap.size, (stBox x)), (w.heap.size, (mpBox m (.slice (some ⟨b, off, none⟩) cs.length c)))]) (by (repeat (with_reducible first | exact HR.out | apply Frm.drew | apply Frm.alloc | apply Frm.drewN))) hba); clear HR; have HR := HRq; clear HRq hba; have x0 := HR.out.cells (List.mem_cons_self ..); have x1 := HR.out.cells (List.mem_cons_of_mem _ (List.mem_cons_self ..))) | (go_at_call 45; refine (rValue_any _ _).mono ?_; rintro e wq ⟨rfl, rfl⟩))
        go_ret
        exact ⟨ret_bool HN.out.symm, HR.out.b⟩
      have HN := Lib.hid (show (cs.take (n + 1)).all (staB m) = true by rw [List.take_add_one, HX.out]; simp only [List.all_append, HA.out, Option.toList, List.all_cons, List.all_nil, Bool.and_true, Bool.true_and]; simp [staB, g1, g2, g3, g4])
      go_wp2_with (first | (go_at_call 32; refine (rPoint_any m hm _ _ _).mono ?_; rintro e wa ⟨rfl, hba⟩; have HRq := Lib.hid (Frm.below (w := w) (bs := [(wr.heap.size, (stBox x)), (w.heap.size, (mpBox m (.slice (some ⟨b, off, none⟩) cs.length c)))]) (by (repeat (with_reducible first | exact HR.out | apply Frm.drew | apply Frm.alloc | apply Frm.drewN))) hba); clear HR; have HR := HRq; clear HRq hba; have x0 := HR.out.cells (List.mem_cons_self ..); have x1 := HR.out.cells (List.mem_cons_of_mem _ (List.mem_cons_self ..))) | (go_at_call 45; refine (rValue_any _ _).mono ?_; rintro e wq ⟨rfl, rfl⟩))
      go_roundw
      case rel => exact ⟨n + 1, by omega, by go_num, HN.out, Frm.less (bs := [(wr.heap.size, (stBox x)), (w.heap.size, (mpBox m (.slice (some ⟨b, off, none⟩) cs.length c)))]) (by (repeat (with_reducible first | exact HR.out | apply Frm.drew | apply Frm.alloc | apply Frm.drewN))) (fun p hp => by simp only [List.mem_cons, List.not_mem_nil, or_false] at hp; subst hp; simp)⟩
      case measure => simp [intOf]; omega
    · obtain rfl : n = cs.length := by omega
      have HT := Lib.hid (show cs.all (staB m) = true by have := HA.out; rwa [List.take_length] at this)
      go_wp2_with fail
      go_ret
      exact ⟨ret_bool HT.out.symm, HR.out.b⟩
end Go.Proofs.YtpkmojcppdogkaaGreatDoor
