/- The fields of all least and of all greatest values, by the program. -/
import Derived.Test.YtpkmojcppdogkaaGreatDoorCa
import Derived.Deep.RegionHeld3
import Derived.Deep.RegionLaw
set_option linter.unusedVariables false
set_option linter.unusedSimpArgs false
namespace Go.Proofs.YtpkmojcppdogkaaGreatDoor
open Go.RowKit
open Go.Maps

set_option maxHeartbeats 8000000 in
set_option maxRecDepth 100000 in
theorem extreme_low (m : Mp) (A : Option Addr) (c : Nat) (cs : List Sta) (w : World) (hs : Sane m cs) (hc : Stas w (.slice A cs.length c) cs) :
    Calls Tryz.prog 122 #[viewV m.wd m.rw m.sl (.slice A cs.length c), .int .i64 0] w fun e w' => ∃ g cap cur, e = .returned (.agg #[.int .i64 m.wd, .slice (some ⟨g, 0, none⟩) ((m.wd * m.rw).toNat) cap]) ∧ w'.heap[g]? = some (.cells cur 3) ∧ RowI (rowZ (fun p => lowestF m.wd m.sl p cs) ((m.wd * m.rw).toNat)) cur ∧ w.heap.size ≤ g ∧ ((m.wd * m.rw).toNat) ≤ cap ∧ cap ≤ maxLen ∧ Below w.heap.size w w' := by
  have HC0 := Lib.hid hc
  clear hc
  have ok := hs.ok
  have w1 := ok.w1; have w2 := ok.w2; have s0 := ok.s0; have s1 := ok.s1; have a1 := ok.a1; have a2 := ok.a2
  obtain ⟨fF, hfF⟩ : ∃ fF : Nat → Int, fF = fun p : Nat => lowestF m.wd m.sl p cs := ⟨_, rfl⟩
  have HFF := Lib.hid hfF
  rw [← hfF]
  clear hfF
  obtain ⟨N, hN⟩ : ∃ N : Nat, (m.wd * m.rw).toNat = N := ⟨_, rfl⟩
  have hN' : m.wd * m.rw = (N : Int) := by omega
  rw [hN]
  have hN2 : (N : Int) ≤ 30 := by omega
  have e1 : IntKind.i64.wrap (m.wd * m.rw) = (N : Int) := by rw [hN']; exact IntWalk.i64_in _ (by omega)
  have HP : Hid (∀ W, Calls Tryz.prog 89 #[.agg #[.int .i64 m.wd, .int .i64 m.rw]] W fun e w' => e = .returned (.int .i64 (N : Int)) ∧ Below W.heap.size W w') := Lib.hid (fun W => by
    go_enter Tryz.func89, Tryz.ntmps89
    go_wp2
    go_ret
    exact ⟨ret_int (by omega), (Below.refl _ _).alloc (Nat.le_refl _) _⟩)
  clear hN e1
  have ix0 : ∀ (a b : Value) (w : World), (Instr.index 200 (.agg #[a, b]) (.int .i64 0)).run Tryz.prog w = .ok a w := fun _ _ _ => by kernel_rfl
  have HR := Lib.hid (((Frm.nil w).add (.cells #[.int .i64 m.wd, .int .i64 m.rw, .int .i64 m.sl, (.slice A cs.length c), .int .i64 m.wd, .int .i64 m.rw] 87) rfl).add (k := w.heap.size + 1) (.cells #[.int .i64 0, .slice none 0 0] 27) (by simp))
  have x0 := HR.out.cells (List.mem_cons_self ..)
  have x1 := HR.out.cells (List.mem_cons_of_mem _ (List.mem_cons_self ..))
  go_enter Tryz.func122, Tryz.ntmps122
  go_upto_region 3 with fail
  have HRq := Lib.hid (HR.out.add (k := w.heap.size + 1 + 1) (.cells #[.int .i64 m.wd, .slice none 0 0] 27) (by simp))
  clear HR x0 x1
  have HR := HRq
  clear HRq
  have x0 := HR.out.cells (List.mem_cons_self ..)
  have x1 := HR.out.cells (List.mem_cons_of_mem _ (List.mem_cons_self ..))
  have x2 := HR.out.cells (List.mem_cons_of_mem _ (List.mem_cons_of_mem _ (List.mem_cons_self ..)))
  go_wp2_with (go_at_call 89; refine (HP.out _).mono ?_; rintro e wa ⟨rfl, hba⟩; have HRq := Lib.hid (Frm.below (w := w) (bs := [(w.heap.size + 1 + 1, (.cells #[.int .i64 m.wd, .slice none 0 0] 27)), (w.heap.size + 1, (.cells #[.int .i64 0, .slice none 0 0] 27)), (w.heap.size, (.cells #[.int .i64 m.wd, .int .i64 m.rw, .int .i64 m.sl, (.slice A cs.length c), .int .i64 m.wd, .int .i64 m.rw] 87))]) (by (repeat (with_reducible first | exact HR.out | apply Frm.drew | apply Frm.alloc | apply Frm.drewN))) hba); clear HR; have HR := HRq; clear HRq hba; have x0 := HR.out.cells (List.mem_cons_self ..); have x1 := HR.out.cells (List.mem_cons_of_mem _ (List.mem_cons_self ..)); have x2 := HR.out.cells (List.mem_cons_of_mem _ (List.mem_cons_of_mem _ (List.mem_cons_self ..))))
  go_loopw [7, 22] (fun _ i wr => ∃ n E ec, n ≤ N ∧ i = .int .i64 (n : Int) ∧ wr.ownsRow (w.heap.size + 3) 3 1 (.slice E n ec) n (vI (rowZ fF n)) ∧ Frm w [(w.heap.size + 1 + 1, (.cells #[.int .i64 m.wd, .slice E n ec] 27)), (w.heap.size + 1, (.cells #[.int .i64 0, .slice none 0 0] 27)), (w.heap.size, (.cells #[.int .i64 m.wd, .int .i64 m.rw, .int .i64 m.sl, (.slice A cs.length c), .int .i64 m.wd, .int .i64 m.rw] 87))] wr) (fun _ i _ => N - (intOf i).toNat)
  case atStart => exact ⟨0, none, 0, Nat.zero_le _, rfl, World.ownsRow_nil .., HR.out⟩
  case round =>
    obtain ⟨n, E, ec, hn, rfl, hO, hF⟩ := hrel
    clear HR x0 x1 x2
    have HR := Lib.hid hF
    have HO := Lib.hid hO
    clear hF hO
    have x0 := HR.out.cells (List.mem_cons_self ..)
    have x1 := HR.out.cells (List.mem_cons_of_mem _ (List.mem_cons_self ..))
    have x2 := HR.out.cells (List.mem_cons_of_mem _ (List.mem_cons_of_mem _ (List.mem_cons_self ..)))
    have f0 := HR.out.free (List.mem_cons_self ..)
    have l0 := HR.out.lt (List.mem_cons_self ..)
    have f1 := HR.out.free (List.mem_cons_of_mem _ (List.mem_cons_self ..))
    have l1 := HR.out.lt (List.mem_cons_of_mem _ (List.mem_cons_self ..))
    by_cases hnl : n < N
    · have HL : Hid (∀ W, Stas W (.slice A cs.length c) cs → Calls Tryz.prog 152 #[viewV m.wd m.rw m.sl (.slice A cs.length c), .int .i64 (n : Int)] W fun e w' => e = .returned (.int .i64 (fF n)) ∧ Below W.heap.size W w') := Lib.hid (fun W h => by rw [HFF.out]; exact lowest_any m.wd m.rw m.sl n A c cs W w1 (by omega) s0 (by omega) (by omega) (by omega) hs.good h)
      go_upto_region 6 with fail
      go_region_law (first | ((first | refine step_of (by rfl) (wp_bound (by rfl) (f := 152) (b := viewV m.wd m.rw m.sl (.slice A cs.length c)) (val := .int .i64 (n : Int)) (by rfl) (by rfl) (by kernel_rfl) (HL.out _ (HC0.out.below (Frm.b (w := w) (bs := [(w.heap.size + 1 + 1, (.cells #[.int .i64 m.wd, .slice E n ec] 27)), (w.heap.size + 1, (.cells #[.int .i64 0, .slice none 0 0] 27)), (w.heap.size, (.cells #[.int .i64 m.wd, .int .i64 m.rw, .int .i64 m.sl, (.slice A cs.length c), .int .i64 m.wd, .int .i64 m.rw] 87))]) (by (repeat (with_reducible first | exact HR.out | apply Frm.drew | apply Frm.alloc | apply Frm.drewN)))))) ?_) | refine wp_bound (by rfl) (f := 152) (b := viewV m.wd m.rw m.sl (.slice A cs.length c)) (val := .int .i64 (n : Int)) (by rfl) (by rfl) (by kernel_rfl) (HL.out _ (HC0.out.below (Frm.b (w := w) (bs := [(w.heap.size + 1 + 1, (.cells #[.int .i64 m.wd, .slice E n ec] 27)), (w.heap.size + 1, (.cells #[.int .i64 0, .slice none 0 0] 27)), (w.heap.size, (.cells #[.int .i64 m.wd, .int .i64 m.rw, .int .i64 m.sl, (.slice A cs.length c), .int .i64 m.wd, .int .i64 m.rw] 87))]) (by (repeat (with_reducible first | exact HR.out | apply Frm.drew | apply Frm.alloc | apply Frm.drewN)))))) ?_); intro wa hba; have HRq := Lib.hid (Frm.below (w := w) (bs := [(w.heap.size + 1 + 1, (.cells #[.int .i64 m.wd, .slice E n ec] 27)), (w.heap.size + 1, (.cells #[.int .i64 0, .slice none 0 0] 27)), (w.heap.size, (.cells #[.int .i64 m.wd, .int .i64 m.rw, .int .i64 m.sl, (.slice A cs.length c), .int .i64 m.wd, .int .i64 m.rw] 87))]) (by (repeat (with_reducible first | exact HR.out | apply Frm.drew | apply Frm.alloc | apply Frm.drewN))) hba); have HOq := Lib.hid (own_below (by first | exact HO.out | exact own_drew HO.out) hba); clear HR HO; have HR := HRq; have HO := HOq; clear HRq HOq; have x0 := HR.out.cells (List.mem_cons_self ..); have x1 := HR.out.cells (List.mem_cons_of_mem _ (List.mem_cons_self ..)); have x2 := HR.out.cells (List.mem_cons_of_mem _ (List.mem_cons_of_mem _ (List.mem_cons_self ..))); have f0 := HR.out.free (List.mem_cons_self ..); have l0 := HR.out.lt (List.mem_cons_self ..); clear hba) | ((first | refine step_of (by rfl) (wp_int _ _ (by rfl) (base := w.heap.size + 3) (n := n) (zs := rowZ fF n) (y := fF n) (rowZ_len _ _) (by rfl) (World.ownsRow.alloc (by first | exact HO.out | exact own_drew HO.out) _) (by rfl) (heap_new _ _ rfl) (by omega) (by have := HR.out.lts _ (List.mem_cons_self ..); simp at this; simp <;> omega) ?_) | refine wp_int _ _ (by rfl) (base := w.heap.size + 3) (n := n) (zs := rowZ fF n) (y := fF n) (rowZ_len _ _) (by rfl) (World.ownsRow.alloc (by first | exact HO.out | exact own_drew HO.out) _) (by rfl) (heap_new _ _ rfl) (by omega) (by have := HR.out.lts _ (List.mem_cons_self ..); simp at this; simp <;> omega) ?_); intro g cap wb hO3 hg3 hat hlt; have HRq := Lib.hid (after_app (w := w) (bs := [(w.heap.size + 1 + 1, (.cells #[.int .i64 m.wd, .slice E n ec] 27)), (w.heap.size + 1, (.cells #[.int .i64 0, .slice none 0 0] 27)), (w.heap.size, (.cells #[.int .i64 m.wd, .int .i64 m.rw, .int .i64 m.sl, (.slice A cs.length c), .int .i64 m.wd, .int .i64 m.rw] 87))]) (base := w.heap.size + 3) (by (repeat (with_reducible first | exact HR.out | apply Frm.drew | apply Frm.alloc | apply Frm.drewN))) (by omega) (by simp <;> omega) (fun k hk => (HO.out.lt k hk).1) hg3); have HOq := Lib.hid (show wb.ownsRow (w.heap.size + 3) 3 1 (.slice (some ⟨g, 0, none⟩) (n + 1) cap) (n + 1) (vI (rowZ fF (n + 1))) from by rw [rowZ_succ]; exact hO3); have hgb : w.heap.size + 3 ≤ g := (hO3.lt g rfl).1; clear HR HO; have HR := HRq; have HO := HOq; clear HRq HOq hO3 hg3 hat hlt; have x0 := HR.out.cells (List.mem_cons_self ..); have x1 := HR.out.cells (List.mem_cons_of_mem _ (List.mem_cons_self ..)); have x2 := HR.out.cells (List.mem_cons_of_mem _ (List.mem_cons_of_mem _ (List.mem_cons_self ..))); have f0 := HR.out.free (List.mem_cons_self ..); have l0 := HR.out.lt (List.mem_cons_self ..)))
      all_goals
        go_wp2_with fail
        go_roundw
        case rel => exact ⟨n + 1, some ⟨g, 0, none⟩, cap, by omega, by go_num, ownsRow_setCell_other HO.out (by simp [Value.ownBlock]; omega) _, (Frm.put (by (repeat (with_reducible first | exact HR.out | apply Frm.drew | apply Frm.alloc | apply Frm.drewN)) : Frm w [(w.heap.size + 1 + 1, (.cells #[.int .i64 m.wd, .slice E n ec] 27)), (w.heap.size + 1, (.cells #[.int .i64 0, .slice none 0 0] 27)), (w.heap.size, (.cells #[.int .i64 m.wd, .int .i64 m.rw, .int .i64 m.sl, (.slice A cs.length c), .int .i64 m.wd, .int .i64 m.rw] 87))] _) (by omega) (by simp <;> omega) 1 (.slice (some ⟨g, 0, none⟩) (n + 1) cap))⟩
        case measure => simp [intOf]; omega
    · obtain rfl : n = N := by omega
      go_wp2_with fail
      have hF := (Frm.put (Frm.put (Frm.less (bs' := [(w.heap.size + 1, (.cells #[.int .i64 0, .slice none 0 0] 27)), (w.heap.size + 1 + 1, (.cells #[.int .i64 m.wd, .slice E n ec] 27)), (w.heap.size, (.cells #[.int .i64 m.wd, .int .i64 m.rw, .int .i64 m.sl, (.slice A cs.length c), .int .i64 m.wd, .int .i64 m.rw] 87))]) HR.out (fun p hp => by simp only [List.mem_cons, List.not_mem_nil, or_false] at hp ⊢; rcases hp with rfl | rfl | rfl <;> simp)) (by omega) (by simp <;> omega) 0 (.int .i64 m.wd)) (by omega) (by simp <;> omega) 1 (.slice E n ec))
      have u0 := hF.cells (List.mem_cons_self ..)
      have hlt := HO.out.lt
      have hne : (Value.slice E n ec).ownBlock ≠ some (w.heap.size + 1) := fun e => by have := (hlt _ e).1; omega
      obtain ⟨g, cur, rfl, hg, hrow, hbg, hc1, hc2⟩ := int_row (ownsRow_setCell_other (ownsRow_setCell_other HO.out (a := ⟨w.heap.size + 1, 0, none⟩) hne (.int .i64 m.wd)) (a := ⟨w.heap.size + 1, 1, none⟩) hne (.slice E n ec)) (rowZ_len _ _) (by omega)
      exact bodyPost_ret (v := .agg #[.int .i64 m.wd, .slice (some ⟨g, 0, none⟩) n ec]) (by simp [results, Tryz.results122, go_sem, u0]) rfl ⟨g, ec, cur, rfl, hg, hrow, by omega, hc1, hc2, hF.b⟩

set_option maxHeartbeats 8000000 in
set_option maxRecDepth 100000 in
theorem extreme_high (m : Mp) (A : Option Addr) (c : Nat) (cs : List Sta) (w : World) (hs : Sane m cs) (hc : Stas w (.slice A cs.length c) cs) :
    Calls Tryz.prog 122 #[viewV m.wd m.rw m.sl (.slice A cs.length c), .int .i64 1] w fun e w' => ∃ g cap cur, e = .returned (.agg #[.int .i64 m.wd, .slice (some ⟨g, 0, none⟩) ((m.wd * m.rw).toNat) cap]) ∧ w'.heap[g]? = some (.cells cur 3) ∧ RowI (rowZ (fun p => highestF m.wd m.sl p cs) ((m.wd * m.rw).toNat)) cur ∧ w.heap.size ≤ g ∧ ((m.wd * m.rw).toNat) ≤ cap ∧ cap ≤ maxLen ∧ Below w.heap.size w w' := by
  have HC0 := Lib.hid hc
  clear hc
  have ok := hs.ok
  have w1 := ok.w1; have w2 := ok.w2; have s0 := ok.s0; have s1 := ok.s1; have a1 := ok.a1; have a2 := ok.a2
  obtain ⟨fF, hfF⟩ : ∃ fF : Nat → Int, fF = fun p : Nat => highestF m.wd m.sl p cs := ⟨_, rfl⟩
  have HFF := Lib.hid hfF
  rw [← hfF]
  clear hfF
  obtain ⟨N, hN⟩ : ∃ N : Nat, (m.wd * m.rw).toNat = N := ⟨_, rfl⟩
  have hN' : m.wd * m.rw = (N : Int) := by omega
  rw [hN]
  have hN2 : (N : Int) ≤ 30 := by omega
  have e1 : IntKind.i64.wrap (m.wd * m.rw) = (N : Int) := by rw [hN']; exact IntWalk.i64_in _ (by omega)
  have HP : Hid (∀ W, Calls Tryz.prog 89 #[.agg #[.int .i64 m.wd, .int .i64 m.rw]] W fun e w' => e = .returned (.int .i64 (N : Int)) ∧ Below W.heap.size W w') := Lib.hid (fun W => by
    go_enter Tryz.func89, Tryz.ntmps89
    go_wp2
    go_ret
    exact ⟨ret_int (by omega), (Below.refl _ _).alloc (Nat.le_refl _) _⟩)
  clear hN e1
  have ix0 : ∀ (a b : Value) (w : World), (Instr.index 200 (.agg #[a, b]) (.int .i64 1)).run Tryz.prog w = .ok b w := fun _ _ _ => by kernel_rfl
  have HR := Lib.hid (((Frm.nil w).add (.cells #[.int .i64 m.wd, .int .i64 m.rw, .int .i64 m.sl, (.slice A cs.length c), .int .i64 m.wd, .int .i64 m.rw] 87) rfl).add (k := w.heap.size + 1) (.cells #[.int .i64 0, .slice none 0 0] 27) (by simp))
  have x0 := HR.out.cells (List.mem_cons_self ..)
  have x1 := HR.out.cells (List.mem_cons_of_mem _ (List.mem_cons_self ..))
  go_enter Tryz.func122, Tryz.ntmps122
  go_upto_region 3 with fail
  have HRq := Lib.hid (HR.out.add (k := w.heap.size + 1 + 1) (.cells #[.int .i64 m.wd, .slice none 0 0] 27) (by simp))
  clear HR x0 x1
  have HR := HRq
  clear HRq
  have x0 := HR.out.cells (List.mem_cons_self ..)
  have x1 := HR.out.cells (List.mem_cons_of_mem _ (List.mem_cons_self ..))
  have x2 := HR.out.cells (List.mem_cons_of_mem _ (List.mem_cons_of_mem _ (List.mem_cons_self ..)))
  go_wp2_with (go_at_call 89; refine (HP.out _).mono ?_; rintro e wa ⟨rfl, hba⟩; have HRq := Lib.hid (Frm.below (w := w) (bs := [(w.heap.size + 1 + 1, (.cells #[.int .i64 m.wd, .slice none 0 0] 27)), (w.heap.size + 1, (.cells #[.int .i64 0, .slice none 0 0] 27)), (w.heap.size, (.cells #[.int .i64 m.wd, .int .i64 m.rw, .int .i64 m.sl, (.slice A cs.length c), .int .i64 m.wd, .int .i64 m.rw] 87))]) (by (repeat (with_reducible first | exact HR.out | apply Frm.drew | apply Frm.alloc | apply Frm.drewN))) hba); clear HR; have HR := HRq; clear HRq hba; have x0 := HR.out.cells (List.mem_cons_self ..); have x1 := HR.out.cells (List.mem_cons_of_mem _ (List.mem_cons_self ..)); have x2 := HR.out.cells (List.mem_cons_of_mem _ (List.mem_cons_of_mem _ (List.mem_cons_self ..))))
  go_loopw [7, 22] (fun _ i wr => ∃ n E ec, n ≤ N ∧ i = .int .i64 (n : Int) ∧ wr.ownsRow (w.heap.size + 3) 3 1 (.slice E n ec) n (vI (rowZ fF n)) ∧ Frm w [(w.heap.size + 1 + 1, (.cells #[.int .i64 m.wd, .slice E n ec] 27)), (w.heap.size + 1, (.cells #[.int .i64 0, .slice none 0 0] 27)), (w.heap.size, (.cells #[.int .i64 m.wd, .int .i64 m.rw, .int .i64 m.sl, (.slice A cs.length c), .int .i64 m.wd, .int .i64 m.rw] 87))] wr) (fun _ i _ => N - (intOf i).toNat)
  case atStart => exact ⟨0, none, 0, Nat.zero_le _, rfl, World.ownsRow_nil .., HR.out⟩
  case round =>
    obtain ⟨n, E, ec, hn, rfl, hO, hF⟩ := hrel
    clear HR x0 x1 x2
    have HR := Lib.hid hF
    have HO := Lib.hid hO
    clear hF hO
    have x0 := HR.out.cells (List.mem_cons_self ..)
    have x1 := HR.out.cells (List.mem_cons_of_mem _ (List.mem_cons_self ..))
    have x2 := HR.out.cells (List.mem_cons_of_mem _ (List.mem_cons_of_mem _ (List.mem_cons_self ..)))
    have f0 := HR.out.free (List.mem_cons_self ..)
    have l0 := HR.out.lt (List.mem_cons_self ..)
    have f1 := HR.out.free (List.mem_cons_of_mem _ (List.mem_cons_self ..))
    have l1 := HR.out.lt (List.mem_cons_of_mem _ (List.mem_cons_self ..))
    by_cases hnl : n < N
    · have HL : Hid (∀ W, Stas W (.slice A cs.length c) cs → Calls Tryz.prog 153 #[viewV m.wd m.rw m.sl (.slice A cs.length c), .int .i64 (n : Int)] W fun e w' => e = .returned (.int .i64 (fF n)) ∧ Below W.heap.size W w') := Lib.hid (fun W h => by rw [HFF.out]; exact highest_any m.wd m.rw m.sl n A c cs W w1 (by omega) s0 (by omega) (by omega) (by omega) hs.good h)
      go_upto_region 6 with fail
      go_region_law (first | ((first | refine step_of (by rfl) (wp_bound (by rfl) (f := 153) (b := viewV m.wd m.rw m.sl (.slice A cs.length c)) (val := .int .i64 (n : Int)) (by rfl) (by rfl) (by kernel_rfl) (HL.out _ (HC0.out.below (Frm.b (w := w) (bs := [(w.heap.size + 1 + 1, (.cells #[.int .i64 m.wd, .slice E n ec] 27)), (w.heap.size + 1, (.cells #[.int .i64 0, .slice none 0 0] 27)), (w.heap.size, (.cells #[.int .i64 m.wd, .int .i64 m.rw, .int .i64 m.sl, (.slice A cs.length c), .int .i64 m.wd, .int .i64 m.rw] 87))]) (by (repeat (with_reducible first | exact HR.out | apply Frm.drew | apply Frm.alloc | apply Frm.drewN)))))) ?_) | refine wp_bound (by rfl) (f := 153) (b := viewV m.wd m.rw m.sl (.slice A cs.length c)) (val := .int .i64 (n : Int)) (by rfl) (by rfl) (by kernel_rfl) (HL.out _ (HC0.out.below (Frm.b (w := w) (bs := [(w.heap.size + 1 + 1, (.cells #[.int .i64 m.wd, .slice E n ec] 27)), (w.heap.size + 1, (.cells #[.int .i64 0, .slice none 0 0] 27)), (w.heap.size, (.cells #[.int .i64 m.wd, .int .i64 m.rw, .int .i64 m.sl, (.slice A cs.length c), .int .i64 m.wd, .int .i64 m.rw] 87))]) (by (repeat (with_reducible first | exact HR.out | apply Frm.drew | apply Frm.alloc | apply Frm.drewN)))))) ?_); intro wa hba; have HRq := Lib.hid (Frm.below (w := w) (bs := [(w.heap.size + 1 + 1, (.cells #[.int .i64 m.wd, .slice E n ec] 27)), (w.heap.size + 1, (.cells #[.int .i64 0, .slice none 0 0] 27)), (w.heap.size, (.cells #[.int .i64 m.wd, .int .i64 m.rw, .int .i64 m.sl, (.slice A cs.length c), .int .i64 m.wd, .int .i64 m.rw] 87))]) (by (repeat (with_reducible first | exact HR.out | apply Frm.drew | apply Frm.alloc | apply Frm.drewN))) hba); have HOq := Lib.hid (own_below (by first | exact HO.out | exact own_drew HO.out) hba); clear HR HO; have HR := HRq; have HO := HOq; clear HRq HOq; have x0 := HR.out.cells (List.mem_cons_self ..); have x1 := HR.out.cells (List.mem_cons_of_mem _ (List.mem_cons_self ..)); have x2 := HR.out.cells (List.mem_cons_of_mem _ (List.mem_cons_of_mem _ (List.mem_cons_self ..))); have f0 := HR.out.free (List.mem_cons_self ..); have l0 := HR.out.lt (List.mem_cons_self ..); clear hba) | ((first | refine step_of (by rfl) (wp_int _ _ (by rfl) (base := w.heap.size + 3) (n := n) (zs := rowZ fF n) (y := fF n) (rowZ_len _ _) (by rfl) (World.ownsRow.alloc (by first | exact HO.out | exact own_drew HO.out) _) (by rfl) (heap_new _ _ rfl) (by omega) (by have := HR.out.lts _ (List.mem_cons_self ..); simp at this; simp <;> omega) ?_) | refine wp_int _ _ (by rfl) (base := w.heap.size + 3) (n := n) (zs := rowZ fF n) (y := fF n) (rowZ_len _ _) (by rfl) (World.ownsRow.alloc (by first | exact HO.out | exact own_drew HO.out) _) (by rfl) (heap_new _ _ rfl) (by omega) (by have := HR.out.lts _ (List.mem_cons_self ..); simp at this; simp <;> omega) ?_); intro g cap wb hO3 hg3 hat hlt; have HRq := Lib.hid (after_app (w := w) (bs := [(w.heap.size + 1 + 1, (.cells #[.int .i64 m.wd, .slice E n ec] 27)), (w.heap.size + 1, (.cells #[.int .i64 0, .slice none 0 0] 27)), (w.heap.size, (.cells #[.int .i64 m.wd, .int .i64 m.rw, .int .i64 m.sl, (.slice A cs.length c), .int .i64 m.wd, .int .i64 m.rw] 87))]) (base := w.heap.size + 3) (by (repeat (with_reducible first | exact HR.out | apply Frm.drew | apply Frm.alloc | apply Frm.drewN))) (by omega) (by simp <;> omega) (fun k hk => (HO.out.lt k hk).1) hg3); have HOq := Lib.hid (show wb.ownsRow (w.heap.size + 3) 3 1 (.slice (some ⟨g, 0, none⟩) (n + 1) cap) (n + 1) (vI (rowZ fF (n + 1))) from by rw [rowZ_succ]; exact hO3); have hgb : w.heap.size + 3 ≤ g := (hO3.lt g rfl).1; clear HR HO; have HR := HRq; have HO := HOq; clear HRq HOq hO3 hg3 hat hlt; have x0 := HR.out.cells (List.mem_cons_self ..); have x1 := HR.out.cells (List.mem_cons_of_mem _ (List.mem_cons_self ..)); have x2 := HR.out.cells (List.mem_cons_of_mem _ (List.mem_cons_of_mem _ (List.mem_cons_self ..))); have f0 := HR.out.free (List.mem_cons_self ..); have l0 := HR.out.lt (List.mem_cons_self ..)))
      all_goals
        go_wp2_with fail
        go_roundw
        case rel => exact ⟨n + 1, some ⟨g, 0, none⟩, cap, by omega, by go_num, ownsRow_setCell_other HO.out (by simp [Value.ownBlock]; omega) _, (Frm.put (by (repeat (with_reducible first | exact HR.out | apply Frm.drew | apply Frm.alloc | apply Frm.drewN)) : Frm w [(w.heap.size + 1 + 1, (.cells #[.int .i64 m.wd, .slice E n ec] 27)), (w.heap.size + 1, (.cells #[.int .i64 0, .slice none 0 0] 27)), (w.heap.size, (.cells #[.int .i64 m.wd, .int .i64 m.rw, .int .i64 m.sl, (.slice A cs.length c), .int .i64 m.wd, .int .i64 m.rw] 87))] _) (by omega) (by simp <;> omega) 1 (.slice (some ⟨g, 0, none⟩) (n + 1) cap))⟩
        case measure => simp [intOf]; omega
    · obtain rfl : n = N := by omega
      go_wp2_with fail
      have hF := (Frm.put (Frm.put (Frm.less (bs' := [(w.heap.size + 1, (.cells #[.int .i64 0, .slice none 0 0] 27)), (w.heap.size + 1 + 1, (.cells #[.int .i64 m.wd, .slice E n ec] 27)), (w.heap.size, (.cells #[.int .i64 m.wd, .int .i64 m.rw, .int .i64 m.sl, (.slice A cs.length c), .int .i64 m.wd, .int .i64 m.rw] 87))]) HR.out (fun p hp => by simp only [List.mem_cons, List.not_mem_nil, or_false] at hp ⊢; rcases hp with rfl | rfl | rfl <;> simp)) (by omega) (by simp <;> omega) 0 (.int .i64 m.wd)) (by omega) (by simp <;> omega) 1 (.slice E n ec))
      have u0 := hF.cells (List.mem_cons_self ..)
      have hlt := HO.out.lt
      have hne : (Value.slice E n ec).ownBlock ≠ some (w.heap.size + 1) := fun e => by have := (hlt _ e).1; omega
      obtain ⟨g, cur, rfl, hg, hrow, hbg, hc1, hc2⟩ := int_row (ownsRow_setCell_other (ownsRow_setCell_other HO.out (a := ⟨w.heap.size + 1, 0, none⟩) hne (.int .i64 m.wd)) (a := ⟨w.heap.size + 1, 1, none⟩) hne (.slice E n ec)) (rowZ_len _ _) (by omega)
      exact bodyPost_ret (v := .agg #[.int .i64 m.wd, .slice (some ⟨g, 0, none⟩) n ec]) (by simp [results, Tryz.results122, go_sem, u0]) rfl ⟨g, ec, cur, rfl, hg, hrow, by omega, hc1, hc2, hF.b⟩
end Go.Proofs.YtpkmojcppdogkaaGreatDoor
