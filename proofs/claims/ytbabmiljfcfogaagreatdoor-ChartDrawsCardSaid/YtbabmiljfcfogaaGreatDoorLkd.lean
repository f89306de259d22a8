/- The law ChartDraws, walked. -/
import Derived.Test.YtbabmiljfcfogaaGreatDoorCdd
import Derived.Test.YtbabmiljfcfogaaGreatDoorLkb
import Derived.BigRegion
set_option linter.unusedVariables false
set_option linter.unusedSimpArgs false
namespace Go.Proofs.YtbabmiljfcfogaaGreatDoor
open Go.RowKit
open Go.Maps
theorem row_ints_at {w : World} {g cap n : Nat} {zs : List Int} {cur : Array Value} (h : w.heap[g]? = some (.cells cur 3)) (hr : RowI zs cur) (hn : zs.length = n) (h1 : n ≤ cap) (h2 : cap ≤ maxLen) : Ints w (.slice (some ⟨g, 0, none⟩) n cap) zs := row_ints h hr hn h1 h2
theorem Ints.nil (w : World) : Ints w (.slice none 0 0) [] := ⟨none, 0, rfl, Nat.le_refl _, by unfold maxLen; omega, .inl rfl⟩
set_option maxHeartbeats 4000000 in
set_option maxRecDepth 100000 in
theorem rSame_yes (A A' : Option Addr) (c c' N : Nat) (zs : List Int) (w : World) (hn : zs.length = N) (hN : N ≤ 1000) (h1 : Ints w (.slice A N c) zs) (h2 : Ints w (.slice A' N c') zs) :
    Calls Tryz.prog 54 #[.slice A N c, .slice A' N c'] w fun e w' => e = .returned (.bool true) ∧ Below w.heap.size w w' := by
  subst hn
  have H1 := Lib.hid h1
  have H2 := Lib.hid h2
  clear h1 h2
  go_enter Tryz.func54, Tryz.ntmps54
  go_wp2_with fail
  go_loopw [5] (fun i wr => ∃ n : Nat, n ≤ zs.length ∧ i = .int .i64 n ∧ Below w.heap.size w wr) (fun i _ => zs.length - (intOf i).toNat)
  case atStart => exact ⟨0, Nat.zero_le _, rfl, Below.refl _ _⟩
  case round =>
    obtain ⟨n, hn, rfl, hb⟩ := hrel
    by_cases hnl : n < zs.length
    · obtain ⟨x, hx⟩ : ∃ x, zs[n]? = some x := ⟨_, List.getElem?_eq_getElem hnl⟩
      obtain ⟨b, off, hA, hcap, hm, c0⟩ := ints_cells (H1.out.below hb) hx
      obtain ⟨b', off', hA', hcap', hm', d0⟩ := ints_cells (H2.out.below hb) hx
      unfold maxLen at hm hm'
      subst hA hA'
      have HB := Lib.hid hb
      clear hb hx
      go_upto_region 6 with fail
      go_region
      all_goals
        go_wp2_with fail
        go_roundw
        case rel => exact ⟨n + 1, by omega, by go_num, by first | exact HB.out | exact HB.out.drew | (repeat (first | exact HB.out | apply Below.drew))⟩
        case measure => simp [intOf]; omega
    · obtain rfl : n = zs.length := by omega
      go_wp2_with fail
      go_ret
      exact ⟨rfl, hb⟩
set_option maxHeartbeats 1000000 in
theorem rSameField_yes (wd : Int) (A A' : Option Addr) (c c' N : Nat) (zs : List Int) (w : World) (hn : zs.length = N) (hN : N ≤ 1000) (h1 : Ints w (.slice A N c) zs) (h2 : Ints w (.slice A' N c') zs) :
    Calls Tryz.prog 29 #[.agg #[.int .i64 wd, .slice A N c], .agg #[.int .i64 wd, .slice A' N c']] w fun e w' => e = .returned (.bool true) ∧ Below w.heap.size w w' := by
  have HR := Lib.hid (((Frm.nil w).add (.cells #[.int .i64 wd, .slice A N c] 37) rfl).add (k := w.heap.size + 1) (.cells #[.int .i64 wd, .slice A' N c'] 37) (by simp))
  have H1 := Lib.hid h1
  have H2 := Lib.hid h2
  clear h1 h2
  have x0 := HR.out.cells (List.mem_cons_self ..)
  have x1 := HR.out.cells (List.mem_cons_of_mem _ (List.mem_cons_self ..))
  go_enter Tryz.func29, Tryz.ntmps29
  go_wp2_with fail
  refine (rSame_yes A A' c c' N zs _ hn hN (H1.out.below HR.out.b) (H2.out.below HR.out.b)).mono ?_
  rintro e wa ⟨rfl, hba⟩
  have HB := Lib.hid (HR.out.below hba).b
  clear hba
  go_wp2_with fail
  go_ret
  exact ⟨rfl, HB.out⟩
set_option maxHeartbeats 8000000 in
set_option maxRecDepth 100000 in
theorem lawChartDraws {m : Mp} {A : Option Addr} {c : Nat} {cs : List Sta} {w : World} (hc : Stas w (.slice A cs.length c) cs) (ht : Tab w) :
    Calls Tryz.prog 9 #[mpV m (.slice A cs.length c)] w fun e w' => e = .returned (.bool true) ∧ Below w.heap.size w w' := by
  have HC0 := Lib.hid hc
  have HT := Lib.hid ht
  clear hc ht
  have HR := Lib.hid ((Frm.nil w).add (mpBox m (.slice A cs.length c)) rfl)
  have x0 := HR.out.cells (List.mem_cons_self ..)
  by_cases h16 : cs.length ≤ 16
  rotate_left
  · have hb := decide_eq_false h16
    go_enter Tryz.func9, Tryz.ntmps9
    go_wp2_with (first | (go_at_call 10; refine (short_is hb _).mono ?_; rintro e wa ⟨rfl, hba⟩; have HRq := Lib.hid (Frm.below (w := w) (bs := [(w.heap.size, (mpBox m (.slice A cs.length c)))]) (by (repeat (with_reducible first | exact HR.out | apply Frm.drew | apply Frm.alloc | apply Frm.drewN))) hba); clear HR; have HR := HRq; clear HRq hba; have x0 := HR.out.cells (List.mem_cons_self ..)) | (go_at_call 11; refine (GX.known_true _ (HT.out.below (Frm.b (w := w) (bs := [(w.heap.size, (mpBox m (.slice A cs.length c)))]) (by (repeat (with_reducible first | exact HR.out | apply Frm.drew | apply Frm.alloc | apply Frm.drewN)))))).mono ?_; rintro e wa ⟨rfl, hba⟩; have HRq := Lib.hid (Frm.below (w := w) (bs := [(w.heap.size, (mpBox m (.slice A cs.length c)))]) (by (repeat (with_reducible first | exact HR.out | apply Frm.drew | apply Frm.alloc | apply Frm.drewN))) hba); clear HR; have HR := HRq; clear HRq hba))
    go_ret
    exact ⟨rfl, (Frm.b (w := w) (bs := [(w.heap.size, (mpBox m (.slice A cs.length c)))]) (by (repeat (with_reducible first | exact HR.out | apply Frm.drew | apply Frm.alloc | apply Frm.drewN))))⟩
  have hb := decide_eq_true h16
  cases hs : mapB m cs
  · have hq := askF_bad (fine := true) hs
    go_enter Tryz.func9, Tryz.ntmps9
    go_upto_region 4 with (first | (go_at_call 10; refine (short_is hb _).mono ?_; rintro e wa ⟨rfl, hba⟩; have HRq := Lib.hid (Frm.below (w := w) (bs := [(w.heap.size, (mpBox m (.slice A cs.length c)))]) (by (repeat (with_reducible first | exact HR.out | apply Frm.drew | apply Frm.alloc | apply Frm.drewN))) hba); clear HR; have HR := HRq; clear HRq hba; have x0 := HR.out.cells (List.mem_cons_self ..)) | (go_at_call 27; refine (cDraw_bad (HC0.out.below (Frm.b (w := w) (bs := [(w.heap.size, (mpBox m (.slice A cs.length c)))]) (by (repeat (with_reducible first | exact HR.out | apply Frm.drew | apply Frm.alloc | apply Frm.drewN))))) hs).mono ?_; rintro e wa ⟨rfl, hba⟩; have HRq := Lib.hid (Frm.below (w := w) (bs := [(w.heap.size, (mpBox m (.slice A cs.length c)))]) (by (repeat (with_reducible first | exact HR.out | apply Frm.drew | apply Frm.alloc | apply Frm.drewN))) hba); clear HR; have HR := HRq; clear HRq hba; have x0 := HR.out.cells (List.mem_cons_self ..)))
    have HRq := Lib.hid (HR.out.add (.cells #[.int .i64 0, .slice none 0 0] 37) rfl)
    clear HR x0
    have HR := HRq
    clear HRq
    generalize hk0 : wa.heap.size = k0 at *
    have x0 := HR.out.cells (List.mem_cons_self ..)
    have x1 := HR.out.cells (List.mem_cons_of_mem _ (List.mem_cons_self ..))
    clear hk0
    go_wp2_with (first | (go_at_call 15; refine (asked_is (HC0.out.below (Frm.b (w := w) (bs := [(k0, (.cells #[.int .i64 0, .slice none 0 0] 37)), (w.heap.size, (mpBox m (.slice A cs.length c)))]) (by (repeat (with_reducible first | exact HR.out | apply Frm.drew | apply Frm.alloc | apply Frm.drewN))))) hq).mono ?_; rintro e wa ⟨rfl, hba⟩; have HRq := Lib.hid (Frm.below (w := w) (bs := [(k0, (.cells #[.int .i64 0, .slice none 0 0] 37)), (w.heap.size, (mpBox m (.slice A cs.length c)))]) (by (repeat (with_reducible first | exact HR.out | apply Frm.drew | apply Frm.alloc | apply Frm.drewN))) hba); clear HR; have HR := HRq; clear HRq hba; have x0 := HR.out.cells (List.mem_cons_self ..); have x1 := HR.out.cells (List.mem_cons_of_mem _ (List.mem_cons_self ..))) | (go_at_call 29; refine (rSameField_yes 0 none none 0 0 0 [] _ rfl (by omega) (Ints.nil _) (Ints.nil _)).mono ?_; rintro e wa ⟨rfl, hba⟩; have HRq := Lib.hid (Frm.below (w := w) (bs := [(k0, (.cells #[.int .i64 0, .slice none 0 0] 37)), (w.heap.size, (mpBox m (.slice A cs.length c)))]) (by (repeat (with_reducible first | exact HR.out | apply Frm.drew | apply Frm.alloc | apply Frm.drewN))) hba); clear HR; have HR := HRq; clear HRq hba; have x0 := HR.out.cells (List.mem_cons_self ..); have x1 := HR.out.cells (List.mem_cons_of_mem _ (List.mem_cons_self ..))) | (go_at_call 11; refine (GX.known_true _ (HT.out.below (Frm.b (w := w) (bs := [(k0, (.cells #[.int .i64 0, .slice none 0 0] 37)), (w.heap.size, (mpBox m (.slice A cs.length c)))]) (by (repeat (with_reducible first | exact HR.out | apply Frm.drew | apply Frm.alloc | apply Frm.drewN)))))).mono ?_; rintro e wa ⟨rfl, hba⟩; have HRq := Lib.hid (Frm.below (w := w) (bs := [(k0, (.cells #[.int .i64 0, .slice none 0 0] 37)), (w.heap.size, (mpBox m (.slice A cs.length c)))]) (by (repeat (with_reducible first | exact HR.out | apply Frm.drew | apply Frm.alloc | apply Frm.drewN))) hba); clear HR; have HR := HRq; clear HRq hba; have x0 := HR.out.cells (List.mem_cons_self ..); have x1 := HR.out.cells (List.mem_cons_of_mem _ (List.mem_cons_self ..))))
    go_ret
    exact ⟨rfl, (Frm.b (w := w) (bs := [(k0, (.cells #[.int .i64 0, .slice none 0 0] 37)), (w.heap.size, (mpBox m (.slice A cs.length c)))]) (by (repeat (with_reducible first | exact HR.out | apply Frm.drew | apply Frm.alloc | apply Frm.drewN))))⟩
  · have hsa := mapB_iff.1 hs
    have a1 := hsa.ok.a1
    have a2 := hsa.ok.a2
    rcases agreed_or m cs with hx | ⟨i, j, hx⟩
    · have hq := askF_ok hs hx
      go_enter Tryz.func9, Tryz.ntmps9
      go_upto_region 4 with (first | (go_at_call 10; refine (short_is hb _).mono ?_; rintro e wa ⟨rfl, hba⟩; have HRq := Lib.hid (Frm.below (w := w) (bs := [(w.heap.size, (mpBox m (.slice A cs.length c)))]) (by (repeat (with_reducible first | exact HR.out | apply Frm.drew | apply Frm.alloc | apply Frm.drewN))) hba); clear HR; have HR := HRq; clear HRq hba; have x0 := HR.out.cells (List.mem_cons_self ..)) | (go_at_call 27; refine (cDraw_ok (HC0.out.below (Frm.b (w := w) (bs := [(w.heap.size, (mpBox m (.slice A cs.length c)))]) (by (repeat (with_reducible first | exact HR.out | apply Frm.drew | apply Frm.alloc | apply Frm.drewN))))) hsa hx).mono ?_; rintro e wa ⟨g1, cap1, cur1, rfl, hg1, hrow1, hbg1, hc1a, hc1b, hba⟩; have HRq := Lib.hid ((Frm.below (w := w) (bs := [(w.heap.size, (mpBox m (.slice A cs.length c)))]) (by (repeat (with_reducible first | exact HR.out | apply Frm.drew | apply Frm.alloc | apply Frm.drewN))) hba).more hg1); have HW1 := Lib.hid hrow1; clear HR x0 hg1 hrow1 hba; have HR := HRq; clear HRq; have x0 := HR.out.cells (List.mem_cons_self ..); have x1 := HR.out.cells (List.mem_cons_of_mem _ (List.mem_cons_self ..))))
      have HRq := Lib.hid (HR.out.add (.cells #[.int .i64 m.wd, .slice (some ⟨g1, 0, none⟩) ((m.wd * m.rw).toNat) cap1] 37) rfl)
      clear HR x0 x1
      have HR := HRq
      clear HRq
      generalize hk0 : wa.heap.size = k0 at *
      have x0 := HR.out.cells (List.mem_cons_self ..)
      have x1 := HR.out.cells (List.mem_cons_of_mem _ (List.mem_cons_self ..))
      have x2 := HR.out.cells (List.mem_cons_of_mem _ (List.mem_cons_of_mem _ (List.mem_cons_self ..)))
      clear hk0
      go_upto_region 7 with (go_at_call 15; refine (asked_is (HC0.out.below (Frm.b (w := w) (bs := [(k0, (.cells #[.int .i64 m.wd, .slice (some ⟨g1, 0, none⟩) ((m.wd * m.rw).toNat) cap1] 37)), (g1, (.cells cur1 3)), (w.heap.size, (mpBox m (.slice A cs.length c)))]) (by (repeat (with_reducible first | exact HR.out | apply Frm.drew | apply Frm.alloc | apply Frm.drewN))))) hq).mono ?_; rintro e wa ⟨rfl, hba⟩; have HRq := Lib.hid (Frm.below (w := w) (bs := [(k0, (.cells #[.int .i64 m.wd, .slice (some ⟨g1, 0, none⟩) ((m.wd * m.rw).toNat) cap1] 37)), (g1, (.cells cur1 3)), (w.heap.size, (mpBox m (.slice A cs.length c)))]) (by (repeat (with_reducible first | exact HR.out | apply Frm.drew | apply Frm.alloc | apply Frm.drewN))) hba); clear HR; have HR := HRq; clear HRq hba; have x0 := HR.out.cells (List.mem_cons_self ..); have x1 := HR.out.cells (List.mem_cons_of_mem _ (List.mem_cons_self ..)); have x2 := HR.out.cells (List.mem_cons_of_mem _ (List.mem_cons_of_mem _ (List.mem_cons_self ..))))
      go_region_held3 (fun w' => (∀ o, w'.cell? ⟨k0, o, none⟩ = #[Value.int .i64 m.wd, .slice (some ⟨g1, 0, none⟩) ((m.wd * m.rw).toNat) cap1][o]?) ∧ (∀ o, w'.cell? ⟨w.heap.size, o, none⟩ = #[Value.int .i64 m.wd, .int .i64 m.rw, .int .i64 m.sl, (.slice A cs.length c)][o]?)) ((exact (fun hF : Frm w [(k0, (.cells #[.int .i64 m.wd, .slice (some ⟨g1, 0, none⟩) ((m.wd * m.rw).toNat) cap1] 37)), (g1, (.cells cur1 3)), (w.heap.size, (mpBox m (.slice A cs.length c)))] _ => ⟨hF.cells (List.mem_cons_self ..), hF.cells (List.mem_cons_of_mem _ (List.mem_cons_of_mem _ (List.mem_cons_self ..)))⟩) (by (repeat (with_reducible first | exact HR.out | apply Frm.drew | apply Frm.alloc | apply Frm.drewN))))) (first | (go_at_call 30; refine (rDraw_any m A c cs _ hsa hx (HC0.out.below (Frm.b (w := w) (bs := [(k0, (.cells #[.int .i64 m.wd, .slice (some ⟨g1, 0, none⟩) ((m.wd * m.rw).toNat) cap1] 37)), (g1, (.cells cur1 3)), (w.heap.size, (mpBox m (.slice A cs.length c)))]) (by (repeat (with_reducible first | exact HR.out | apply Frm.drew | apply Frm.alloc | apply Frm.drewN)))))).mono ?_; rintro e wc ⟨g2, cap2, cur2, rfl, hg2, hrow2, hbg2, hc2a, hc2b, hba⟩; have HRq := Lib.hid (Frm.below (w := w) (bs := [(k0, (.cells #[.int .i64 m.wd, .slice (some ⟨g1, 0, none⟩) ((m.wd * m.rw).toNat) cap1] 37)), (g1, (.cells cur1 3)), (w.heap.size, (mpBox m (.slice A cs.length c)))]) (by (repeat (with_reducible first | exact HR.out | apply Frm.drew | apply Frm.alloc | apply Frm.drewN))) hba); have HG2 := Lib.hid hg2; have HW2 := Lib.hid hrow2; clear HR hg2 hrow2 hba; have HR := HRq; clear HRq; have x0 := HR.out.cells (List.mem_cons_self ..); have x1 := HR.out.cells (List.mem_cons_of_mem _ (List.mem_cons_self ..)); have x2 := HR.out.cells (List.mem_cons_of_mem _ (List.mem_cons_of_mem _ (List.mem_cons_self ..)))) | (go_at_call 29; refine (rSameField_yes m.wd (some ⟨g1, 0, none⟩) (some ⟨g2, 0, none⟩) cap1 cap2 ((m.wd * m.rw).toNat) (rowZ (mdF m cs) ((m.wd * m.rw).toNat)) _ (rowZ_len _ _) (by omega) (row_ints ((Frm.h (w := w) (bs := [(k0, (.cells #[.int .i64 m.wd, .slice (some ⟨g1, 0, none⟩) ((m.wd * m.rw).toNat) cap1] 37)), (g1, (.cells cur1 3)), (w.heap.size, (mpBox m (.slice A cs.length c)))]) (by (repeat (with_reducible first | exact HR.out | apply Frm.drew | apply Frm.alloc | apply Frm.drewN)))) _ (List.mem_cons_of_mem _ (List.mem_cons_self ..))) HW1.out (rowZ_len _ _) hc1a hc1b) (row_ints (by first | exact HG2.out | exact blk_dr HG2.out | exact blk_alloc HG2.out _) HW2.out (rowZ_len _ _) hc2a hc2b)).mono ?_; rintro e we ⟨rfl, hba⟩; have HRq := Lib.hid (Frm.below (w := w) (bs := [(k0, (.cells #[.int .i64 m.wd, .slice (some ⟨g1, 0, none⟩) ((m.wd * m.rw).toNat) cap1] 37)), (g1, (.cells cur1 3)), (w.heap.size, (mpBox m (.slice A cs.length c)))]) (by (repeat (with_reducible first | exact HR.out | apply Frm.drew | apply Frm.alloc | apply Frm.drewN))) hba); clear HR; have HR := HRq; clear HRq hba; have x0 := HR.out.cells (List.mem_cons_self ..); have x1 := HR.out.cells (List.mem_cons_of_mem _ (List.mem_cons_self ..)); have x2 := HR.out.cells (List.mem_cons_of_mem _ (List.mem_cons_of_mem _ (List.mem_cons_self ..)))) | (go_at_call 11; refine (GX.known_true _ (HT.out.below (Frm.b (w := w) (bs := [(k0, (.cells #[.int .i64 m.wd, .slice (some ⟨g1, 0, none⟩) ((m.wd * m.rw).toNat) cap1] 37)), (g1, (.cells cur1 3)), (w.heap.size, (mpBox m (.slice A cs.length c)))]) (by (repeat (with_reducible first | exact HR.out | apply Frm.drew | apply Frm.alloc | apply Frm.drewN)))))).mono ?_; rintro e wa ⟨rfl, hba⟩; have HRq := Lib.hid (Frm.below (w := w) (bs := [(k0, (.cells #[.int .i64 m.wd, .slice (some ⟨g1, 0, none⟩) ((m.wd * m.rw).toNat) cap1] 37)), (g1, (.cells cur1 3)), (w.heap.size, (mpBox m (.slice A cs.length c)))]) (by (repeat (with_reducible first | exact HR.out | apply Frm.drew | apply Frm.alloc | apply Frm.drewN))) hba); clear HR; have HR := HRq; clear HRq hba))
      all_goals
        go_wp2_with fail
        go_ret
        exact ⟨rfl, (Frm.b (w := w) (bs := [(k0, (.cells #[.int .i64 m.wd, .slice (some ⟨g1, 0, none⟩) ((m.wd * m.rw).toNat) cap1] 37)), (g1, (.cells cur1 3)), (w.heap.size, (mpBox m (.slice A cs.length c)))]) (by (repeat (with_reducible first | exact HR.out | apply Frm.drew | apply Frm.alloc | apply Frm.drewN))))⟩
    · have hq := askF_rule hs hx
      go_enter Tryz.func9, Tryz.ntmps9
      go_upto_region 4 with (first | (go_at_call 10; refine (short_is hb _).mono ?_; rintro e wa ⟨rfl, hba⟩; have HRq := Lib.hid (Frm.below (w := w) (bs := [(w.heap.size, (mpBox m (.slice A cs.length c)))]) (by (repeat (with_reducible first | exact HR.out | apply Frm.drew | apply Frm.alloc | apply Frm.drewN))) hba); clear HR; have HR := HRq; clear HRq hba; have x0 := HR.out.cells (List.mem_cons_self ..)) | (go_at_call 27; refine (cDraw_rule (HC0.out.below (Frm.b (w := w) (bs := [(w.heap.size, (mpBox m (.slice A cs.length c)))]) (by (repeat (with_reducible first | exact HR.out | apply Frm.drew | apply Frm.alloc | apply Frm.drewN))))) hsa hx).mono ?_; rintro e wa ⟨rfl, hba⟩; have HRq := Lib.hid (Frm.below (w := w) (bs := [(w.heap.size, (mpBox m (.slice A cs.length c)))]) (by (repeat (with_reducible first | exact HR.out | apply Frm.drew | apply Frm.alloc | apply Frm.drewN))) hba); clear HR; have HR := HRq; clear HRq hba; have x0 := HR.out.cells (List.mem_cons_self ..)))
      have HRq := Lib.hid (HR.out.add (.cells #[.int .i64 0, .slice none 0 0] 37) rfl)
      clear HR x0
      have HR := HRq
      clear HRq
      generalize hk0 : wa.heap.size = k0 at *
      have x0 := HR.out.cells (List.mem_cons_self ..)
      have x1 := HR.out.cells (List.mem_cons_of_mem _ (List.mem_cons_self ..))
      clear hk0
      go_wp2_with (first | (go_at_call 15; refine (asked_is (HC0.out.below (Frm.b (w := w) (bs := [(k0, (.cells #[.int .i64 0, .slice none 0 0] 37)), (w.heap.size, (mpBox m (.slice A cs.length c)))]) (by (repeat (with_reducible first | exact HR.out | apply Frm.drew | apply Frm.alloc | apply Frm.drewN))))) hq).mono ?_; rintro e wa ⟨rfl, hba⟩; have HRq := Lib.hid (Frm.below (w := w) (bs := [(k0, (.cells #[.int .i64 0, .slice none 0 0] 37)), (w.heap.size, (mpBox m (.slice A cs.length c)))]) (by (repeat (with_reducible first | exact HR.out | apply Frm.drew | apply Frm.alloc | apply Frm.drewN))) hba); clear HR; have HR := HRq; clear HRq hba; have x0 := HR.out.cells (List.mem_cons_self ..); have x1 := HR.out.cells (List.mem_cons_of_mem _ (List.mem_cons_self ..))) | (go_at_call 29; refine (rSameField_yes 0 none none 0 0 0 [] _ rfl (by omega) (Ints.nil _) (Ints.nil _)).mono ?_; rintro e wa ⟨rfl, hba⟩; have HRq := Lib.hid (Frm.below (w := w) (bs := [(k0, (.cells #[.int .i64 0, .slice none 0 0] 37)), (w.heap.size, (mpBox m (.slice A cs.length c)))]) (by (repeat (with_reducible first | exact HR.out | apply Frm.drew | apply Frm.alloc | apply Frm.drewN))) hba); clear HR; have HR := HRq; clear HRq hba; have x0 := HR.out.cells (List.mem_cons_self ..); have x1 := HR.out.cells (List.mem_cons_of_mem _ (List.mem_cons_self ..))) | (go_at_call 11; refine (GX.known_true _ (HT.out.below (Frm.b (w := w) (bs := [(k0, (.cells #[.int .i64 0, .slice none 0 0] 37)), (w.heap.size, (mpBox m (.slice A cs.length c)))]) (by (repeat (with_reducible first | exact HR.out | apply Frm.drew | apply Frm.alloc | apply Frm.drewN)))))).mono ?_; rintro e wa ⟨rfl, hba⟩; have HRq := Lib.hid (Frm.below (w := w) (bs := [(k0, (.cells #[.int .i64 0, .slice none 0 0] 37)), (w.heap.size, (mpBox m (.slice A cs.length c)))]) (by (repeat (with_reducible first | exact HR.out | apply Frm.drew | apply Frm.alloc | apply Frm.drewN))) hba); clear HR; have HR := HRq; clear HRq hba; have x0 := HR.out.cells (List.mem_cons_self ..); have x1 := HR.out.cells (List.mem_cons_of_mem _ (List.mem_cons_self ..))))
      go_ret
      exact ⟨rfl, (Frm.b (w := w) (bs := [(k0, (.cells #[.int .i64 0, .slice none 0 0] 37)), (w.heap.size, (mpBox m (.slice A cs.length c)))]) (by (repeat (with_reducible first | exact HR.out | apply Frm.drew | apply Frm.alloc | apply Frm.drewN))))⟩
end Go.Proofs.YtbabmiljfcfogaaGreatDoor
