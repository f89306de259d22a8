/- The law ChartShown: the proposed stations do not contradict each other. -/
import Derived.Test.YtbabmiljfcfogaaGreatDoorCon
import Derived.Test.YtbabmiljfcfogaaGreatDoorLkb
set_option linter.unusedVariables false
set_option linter.unusedSimpArgs false
namespace Go.Proofs.YtbabmiljfcfogaaGreatDoor
open Go.RowKit
open Go.Maps
set_option maxHeartbeats 8000000 in
set_option maxRecDepth 100000 in
theorem ls_a1 {m : Mp} {A : Option Addr} {c : Nat} {cs : List Sta} {i0 k0 : Nat} {x y : Sta} {w : World} (hc : Stas w (.slice A cs.length c) cs) (ht : Tab w) (hb : decide (cs.length ≤ 16) = true) (hs : mapB m cs = true) (hsa : Sane m cs)
    (hik : i0 < k0) (hkl : k0 < cs.length) (hx : cs[i0]? = some x) (hy : cs[k0]? = some y) (h2s : Sane m [x, y]) {a b : Nat} {xa xb : Sta} (hf : First m cs a b) (hab : a < b) (hbl : b < cs.length) (hxa : cs[a]? = some xa) (hxb : cs[b]? = some xb) (h3s : Sane m [xa, xb]) (h3a : First m [xa, xb] 0 1) (h2a : Agreed m [x, y]) (m1 : ¬ ((i0 : Int) < (a : Int))) (m2 : ((i0 : Int) == (a : Int)) = true) (m3 : (k0 : Int) < (b : Int))  :
    Calls Tryz.prog 8 #[mpV m (.slice A cs.length c), .int .i64 (i0 : Int), .int .i64 (k0 : Int)] w fun e w' => e = .returned (.bool true) ∧ Below w.heap.size w w' := by
  have HC0 := Lib.hid hc
  have HT := Lib.hid ht
  have Hx := Lib.hid hx
  have Hy := Lib.hid hy
  clear hc ht hx hy
  have hl12 := hsa.len
  have g1 : ¬ ((i0 : Int) < 0) := by omega
  have g2 : ¬ ((k0 : Int) ≤ (i0 : Int)) := by omega
  have g3 : ¬ ((cs.length : Int) ≤ (k0 : Int)) := by omega
  have HR := Lib.hid ((Frm.nil w).add (mpBox m (.slice A cs.length c)) rfl)
  have x0 := HR.out.cells (List.mem_cons_self ..)
  have n1 : ¬ ((a : Int) < 0) := by omega
  have n2 : ¬ ((b : Int) ≤ (a : Int)) := by omega
  have n3 : ¬ ((cs.length : Int) ≤ (b : Int)) := by omega
  have Hxa := Lib.hid hxa
  have Hxb := Lib.hid hxb
  clear hxa hxb
  go_enter Tryz.func8, Tryz.ntmps8
  go_upto_region 5 with (first | (go_at_call 10; refine (short_is hb _).mono ?_; rintro e wa ⟨rfl, hba⟩; have HRq := Lib.hid (Frm.below (w := w) (bs := [(w.heap.size, (mpBox m (.slice A cs.length c)))]) (by (repeat (with_reducible first | exact HR.out | apply Frm.drew | apply Frm.alloc | apply Frm.drewN))) hba); clear HR; have HR := HRq; clear HRq hba; have x0 := HR.out.cells (List.mem_cons_self ..)) | (go_at_call 14; refine (rMap_is (HC0.out.below (Frm.b (w := w) (bs := [(w.heap.size, (mpBox m (.slice A cs.length c)))]) (by (repeat (with_reducible first | exact HR.out | apply Frm.drew | apply Frm.alloc | apply Frm.drewN))))) hs).mono ?_; rintro e wa ⟨rfl, hba⟩; have HRq := Lib.hid (Frm.below (w := w) (bs := [(w.heap.size, (mpBox m (.slice A cs.length c)))]) (by (repeat (with_reducible first | exact HR.out | apply Frm.drew | apply Frm.alloc | apply Frm.drewN))) hba); clear HR; have HR := HRq; clear HRq hba; have x0 := HR.out.cells (List.mem_cons_self ..)) | (go_at_call 22; refine (cClash_first (HC0.out.below (Frm.b (w := w) (bs := [(w.heap.size, (mpBox m (.slice A cs.length c)))]) (by (repeat (with_reducible first | exact HR.out | apply Frm.drew | apply Frm.alloc | apply Frm.drewN))))) hsa hf).mono ?_; rintro e wa ⟨rfl, hba⟩; have HRq := Lib.hid (Frm.below (w := w) (bs := [(w.heap.size, (mpBox m (.slice A cs.length c)))]) (by (repeat (with_reducible first | exact HR.out | apply Frm.drew | apply Frm.alloc | apply Frm.drewN))) hba); clear HR; have HR := HRq; clear HRq hba; have x0 := HR.out.cells (List.mem_cons_self ..)) | (go_at_call 27; refine (cDraw_rule (HC0.out.below (Frm.b (w := w) (bs := [(w.heap.size, (mpBox m (.slice A cs.length c)))]) (by (repeat (with_reducible first | exact HR.out | apply Frm.drew | apply Frm.alloc | apply Frm.drewN))))) hsa hf).mono ?_; rintro e wa ⟨rfl, hba⟩; have HRq := Lib.hid (Frm.below (w := w) (bs := [(w.heap.size, (mpBox m (.slice A cs.length c)))]) (by (repeat (with_reducible first | exact HR.out | apply Frm.drew | apply Frm.alloc | apply Frm.drewN))) hba); clear HR; have HR := HRq; clear HRq hba; have x0 := HR.out.cells (List.mem_cons_self ..)))
  have HRq := Lib.hid (HR.out.alloc (.cells #[.int .i64 0, .slice none 0 0] 37))
  clear HR x0
  have HR := HRq
  clear HRq
  have x0 := HR.out.cells (List.mem_cons_self ..)
  go_upto_region 6 with (first | (go_at_call 28; refine (only_any m A c cs i0 k0 x y _ hsa (HC0.out.below (Frm.b (w := w) (bs := [(w.heap.size, (mpBox m (.slice A cs.length c)))]) (by (repeat (with_reducible first | exact HR.out | apply Frm.drew | apply Frm.alloc | apply Frm.drewN))))) Hx.out Hy.out).mono ?_; rintro e wa ⟨P1, rfl, hP1, hba⟩; have HRq := Lib.hid (Frm.below (w := w) (bs := [(w.heap.size, (mpBox m (.slice A cs.length c)))]) (by (repeat (with_reducible first | exact HR.out | apply Frm.drew | apply Frm.alloc | apply Frm.drewN))) hba); have HP1 := Lib.hid hP1; clear HR x0 hba hP1; have HR := HRq; clear HRq; have x0 := HR.out.cells (List.mem_cons_self ..)) | (go_at_call 27; refine (cDraw_ok HP1.out h2s h2a).mono ?_; rintro e wa ⟨g2, cap2, cur2, rfl, hg2, hrow2, hbg2, hc2a, hc2b, hba⟩; have HRq := Lib.hid (Frm.below (w := w) (bs := [(w.heap.size, (mpBox m (.slice A cs.length c)))]) (by (repeat (with_reducible first | exact HR.out | apply Frm.drew | apply Frm.alloc | apply Frm.drewN))) hba); clear HR x0 hba hg2 hrow2; have HR := HRq; clear HRq; have x0 := HR.out.cells (List.mem_cons_self ..)))
  have HRq := Lib.hid (HR.out.alloc (.cells #[.int .i64 m.wd, .slice (some ⟨g2, 0, none⟩) ((m.wd * m.rw).toNat) cap2] 37))
  clear HR x0
  have HR := HRq
  clear HRq
  have x0 := HR.out.cells (List.mem_cons_self ..)
  go_upto_region 11 with (first | (go_at_call 28; refine (only_any m A c cs a b xa xb _ hsa (HC0.out.below (Frm.b (w := w) (bs := [(w.heap.size, (mpBox m (.slice A cs.length c)))]) (by (repeat (with_reducible first | exact HR.out | apply Frm.drew | apply Frm.alloc | apply Frm.drewN))))) Hxa.out Hxb.out).mono ?_; rintro e wa ⟨P2, rfl, hP2, hba⟩; have HRq := Lib.hid (Frm.below (w := w) (bs := [(w.heap.size, (mpBox m (.slice A cs.length c)))]) (by (repeat (with_reducible first | exact HR.out | apply Frm.drew | apply Frm.alloc | apply Frm.drewN))) hba); have HP2 := Lib.hid hP2; clear HR x0 hba hP2; have HR := HRq; clear HRq; have x0 := HR.out.cells (List.mem_cons_self ..)) | (go_at_call 27; refine (cDraw_rule HP2.out h3s h3a).mono ?_; rintro e wa ⟨rfl, hba⟩; have HRq := Lib.hid (Frm.below (w := w) (bs := [(w.heap.size, (mpBox m (.slice A cs.length c)))]) (by (repeat (with_reducible first | exact HR.out | apply Frm.drew | apply Frm.alloc | apply Frm.drewN))) hba); clear HR; have HR := HRq; clear HRq hba; have x0 := HR.out.cells (List.mem_cons_self ..)))
  go_wp2_with (go_at_call 11; refine (GX.known_true _ (HT.out.below (Frm.b (w := w) (bs := [(w.heap.size, (mpBox m (.slice A cs.length c)))]) (by (repeat (with_reducible first | exact HR.out | apply Frm.drew | apply Frm.alloc | apply Frm.drewN)))))).mono ?_; rintro e wa ⟨rfl, hba⟩; have HRq := Lib.hid (Frm.below (w := w) (bs := [(w.heap.size, (mpBox m (.slice A cs.length c)))]) (by (repeat (with_reducible first | exact HR.out | apply Frm.drew | apply Frm.alloc | apply Frm.drewN))) hba); clear HR; have HR := HRq; clear HRq hba; have x0 := HR.out.cells (List.mem_cons_self ..))
  go_ret
  exact ⟨rfl, (Frm.b (w := w) (bs := [(w.heap.size, (mpBox m (.slice A cs.length c)))]) (by (repeat (with_reducible first | exact HR.out | apply Frm.drew | apply Frm.alloc | apply Frm.drewN))))⟩
set_option maxHeartbeats 8000000 in
set_option maxRecDepth 100000 in
theorem ls_a2 {m : Mp} {A : Option Addr} {c : Nat} {cs : List Sta} {i0 k0 : Nat} {x y : Sta} {w : World} (hc : Stas w (.slice A cs.length c) cs) (ht : Tab w) (hb : decide (cs.length ≤ 16) = true) (hs : mapB m cs = true) (hsa : Sane m cs)
    (hik : i0 < k0) (hkl : k0 < cs.length) (hx : cs[i0]? = some x) (hy : cs[k0]? = some y) (h2s : Sane m [x, y]) {a b : Nat} {xa xb : Sta} (hf : First m cs a b) (hab : a < b) (hbl : b < cs.length) (hxa : cs[a]? = some xa) (hxb : cs[b]? = some xb) (h3s : Sane m [xa, xb]) (h3a : First m [xa, xb] 0 1) (h2a : Agreed m [x, y]) (m1 : ¬ ((i0 : Int) < (a : Int))) (m2 : ((i0 : Int) == (a : Int)) = true) (m3 : ¬ ((k0 : Int) < (b : Int)))  :
    Calls Tryz.prog 8 #[mpV m (.slice A cs.length c), .int .i64 (i0 : Int), .int .i64 (k0 : Int)] w fun e w' => e = .returned (.bool true) ∧ Below w.heap.size w w' := by
  have HC0 := Lib.hid hc
  have HT := Lib.hid ht
  have Hx := Lib.hid hx
  have Hy := Lib.hid hy
  clear hc ht hx hy
  have hl12 := hsa.len
  have g1 : ¬ ((i0 : Int) < 0) := by omega
  have g2 : ¬ ((k0 : Int) ≤ (i0 : Int)) := by omega
  have g3 : ¬ ((cs.length : Int) ≤ (k0 : Int)) := by omega
  have HR := Lib.hid ((Frm.nil w).add (mpBox m (.slice A cs.length c)) rfl)
  have x0 := HR.out.cells (List.mem_cons_self ..)
  have n1 : ¬ ((a : Int) < 0) := by omega
  have n2 : ¬ ((b : Int) ≤ (a : Int)) := by omega
  have n3 : ¬ ((cs.length : Int) ≤ (b : Int)) := by omega
  have Hxa := Lib.hid hxa
  have Hxb := Lib.hid hxb
  clear hxa hxb
  go_enter Tryz.func8, Tryz.ntmps8
  go_upto_region 5 with (first | (go_at_call 10; refine (short_is hb _).mono ?_; rintro e wa ⟨rfl, hba⟩; have HRq := Lib.hid (Frm.below (w := w) (bs := [(w.heap.size, (mpBox m (.slice A cs.length c)))]) (by (repeat (with_reducible first | exact HR.out | apply Frm.drew | apply Frm.alloc | apply Frm.drewN))) hba); clear HR; have HR := HRq; clear HRq hba; have x0 := HR.out.cells (List.mem_cons_self ..)) | (go_at_call 14; refine (rMap_is (HC0.out.below (Frm.b (w := w) (bs := [(w.heap.size, (mpBox m (.slice A cs.length c)))]) (by (repeat (with_reducible first | exact HR.out | apply Frm.drew | apply Frm.alloc | apply Frm.drewN))))) hs).mono ?_; rintro e wa ⟨rfl, hba⟩; have HRq := Lib.hid (Frm.below (w := w) (bs := [(w.heap.size, (mpBox m (.slice A cs.length c)))]) (by (repeat (with_reducible first | exact HR.out | apply Frm.drew | apply Frm.alloc | apply Frm.drewN))) hba); clear HR; have HR := HRq; clear HRq hba; have x0 := HR.out.cells (List.mem_cons_self ..)) | (go_at_call 22; refine (cClash_first (HC0.out.below (Frm.b (w := w) (bs := [(w.heap.size, (mpBox m (.slice A cs.length c)))]) (by (repeat (with_reducible first | exact HR.out | apply Frm.drew | apply Frm.alloc | apply Frm.drewN))))) hsa hf).mono ?_; rintro e wa ⟨rfl, hba⟩; have HRq := Lib.hid (Frm.below (w := w) (bs := [(w.heap.size, (mpBox m (.slice A cs.length c)))]) (by (repeat (with_reducible first | exact HR.out | apply Frm.drew | apply Frm.alloc | apply Frm.drewN))) hba); clear HR; have HR := HRq; clear HRq hba; have x0 := HR.out.cells (List.mem_cons_self ..)) | (go_at_call 27; refine (cDraw_rule (HC0.out.below (Frm.b (w := w) (bs := [(w.heap.size, (mpBox m (.slice A cs.length c)))]) (by (repeat (with_reducible first | exact HR.out | apply Frm.drew | apply Frm.alloc | apply Frm.drewN))))) hsa hf).mono ?_; rintro e wa ⟨rfl, hba⟩; have HRq := Lib.hid (Frm.below (w := w) (bs := [(w.heap.size, (mpBox m (.slice A cs.length c)))]) (by (repeat (with_reducible first | exact HR.out | apply Frm.drew | apply Frm.alloc | apply Frm.drewN))) hba); clear HR; have HR := HRq; clear HRq hba; have x0 := HR.out.cells (List.mem_cons_self ..)))
  have HRq := Lib.hid (HR.out.alloc (.cells #[.int .i64 0, .slice none 0 0] 37))
  clear HR x0
  have HR := HRq
  clear HRq
  have x0 := HR.out.cells (List.mem_cons_self ..)
  go_upto_region 6 with (first | (go_at_call 28; refine (only_any m A c cs i0 k0 x y _ hsa (HC0.out.below (Frm.b (w := w) (bs := [(w.heap.size, (mpBox m (.slice A cs.length c)))]) (by (repeat (with_reducible first | exact HR.out | apply Frm.drew | apply Frm.alloc | apply Frm.drewN))))) Hx.out Hy.out).mono ?_; rintro e wa ⟨P1, rfl, hP1, hba⟩; have HRq := Lib.hid (Frm.below (w := w) (bs := [(w.heap.size, (mpBox m (.slice A cs.length c)))]) (by (repeat (with_reducible first | exact HR.out | apply Frm.drew | apply Frm.alloc | apply Frm.drewN))) hba); have HP1 := Lib.hid hP1; clear HR x0 hba hP1; have HR := HRq; clear HRq; have x0 := HR.out.cells (List.mem_cons_self ..)) | (go_at_call 27; refine (cDraw_ok HP1.out h2s h2a).mono ?_; rintro e wa ⟨g2, cap2, cur2, rfl, hg2, hrow2, hbg2, hc2a, hc2b, hba⟩; have HRq := Lib.hid (Frm.below (w := w) (bs := [(w.heap.size, (mpBox m (.slice A cs.length c)))]) (by (repeat (with_reducible first | exact HR.out | apply Frm.drew | apply Frm.alloc | apply Frm.drewN))) hba); clear HR x0 hba hg2 hrow2; have HR := HRq; clear HRq; have x0 := HR.out.cells (List.mem_cons_self ..)))
  have HRq := Lib.hid (HR.out.alloc (.cells #[.int .i64 m.wd, .slice (some ⟨g2, 0, none⟩) ((m.wd * m.rw).toNat) cap2] 37))
  clear HR x0
  have HR := HRq
  clear HRq
  have x0 := HR.out.cells (List.mem_cons_self ..)
  go_upto_region 11 with (first | (go_at_call 28; refine (only_any m A c cs a b xa xb _ hsa (HC0.out.below (Frm.b (w := w) (bs := [(w.heap.size, (mpBox m (.slice A cs.length c)))]) (by (repeat (with_reducible first | exact HR.out | apply Frm.drew | apply Frm.alloc | apply Frm.drewN))))) Hxa.out Hxb.out).mono ?_; rintro e wa ⟨P2, rfl, hP2, hba⟩; have HRq := Lib.hid (Frm.below (w := w) (bs := [(w.heap.size, (mpBox m (.slice A cs.length c)))]) (by (repeat (with_reducible first | exact HR.out | apply Frm.drew | apply Frm.alloc | apply Frm.drewN))) hba); have HP2 := Lib.hid hP2; clear HR x0 hba hP2; have HR := HRq; clear HRq; have x0 := HR.out.cells (List.mem_cons_self ..)) | (go_at_call 27; refine (cDraw_rule HP2.out h3s h3a).mono ?_; rintro e wa ⟨rfl, hba⟩; have HRq := Lib.hid (Frm.below (w := w) (bs := [(w.heap.size, (mpBox m (.slice A cs.length c)))]) (by (repeat (with_reducible first | exact HR.out | apply Frm.drew | apply Frm.alloc | apply Frm.drewN))) hba); clear HR; have HR := HRq; clear HRq hba; have x0 := HR.out.cells (List.mem_cons_self ..)))
  go_wp2_with (go_at_call 11; refine (GX.known_true _ (HT.out.below (Frm.b (w := w) (bs := [(w.heap.size, (mpBox m (.slice A cs.length c)))]) (by (repeat (with_reducible first | exact HR.out | apply Frm.drew | apply Frm.alloc | apply Frm.drewN)))))).mono ?_; rintro e wa ⟨rfl, hba⟩; have HRq := Lib.hid (Frm.below (w := w) (bs := [(w.heap.size, (mpBox m (.slice A cs.length c)))]) (by (repeat (with_reducible first | exact HR.out | apply Frm.drew | apply Frm.alloc | apply Frm.drewN))) hba); clear HR; have HR := HRq; clear HRq hba; have x0 := HR.out.cells (List.mem_cons_self ..))
  go_ret
  exact ⟨rfl, (Frm.b (w := w) (bs := [(w.heap.size, (mpBox m (.slice A cs.length c)))]) (by (repeat (with_reducible first | exact HR.out | apply Frm.drew | apply Frm.alloc | apply Frm.drewN))))⟩
end Go.Proofs.YtbabmiljfcfogaaGreatDoor
