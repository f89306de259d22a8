/- The law ConeSees. -/
import Derived.Test.YtbepafkenandfaaGreatWw
import Derived.Test.YtbepafkenandfaaGreatWl
import Derived.Test.YtbepafkenandfaaGreatGs
import Derived.Test.YtbepafkenandfaaGreatGt
set_option linter.unusedVariables false
set_option linter.unusedSimpArgs false
namespace Go.Proofs.YtbepafkenandfaaGreat
open Go.RowKit
open Go.Shelf
open Go.Maps
theorem ends_si2 (m : Wn) (rs : List Rep) (ls : List Lnk) (g : Bool) : siL m ls rs (ev (delsL (endD rs g) rs.length)) = siL m ls rs (endD rs g) := soon_congr fun i hi => ev_dels hi
theorem ends_db {m : Wn} {rs : List Rep} {ls : List Lnk} {ps : List Prt} (h : Sane m rs ls ps) (g : Bool) : ∀ i, i < rs.length → 0 ≤ ev (delsL (endD rs g) rs.length) i ∧ ev (delsL (endD rs g) rs.length) i ≤ 100000 := fun i hi => by
  have h2 := ends_bounds h i hi
  rw [ev_dels hi]
  cases g
  · exact h2.1
  · exact h2.2
set_option maxHeartbeats 8000000 in
set_option maxRecDepth 100000 in
theorem lawConeSees {m : Wn} {A1 A2 A3 : Option Addr} {rs : List Rep} {ls : List Lnk} {ps : List Prt} {c1 c2 c3 : Nat}  {w : World} (h1 : Reps w (.slice A1 rs.length c1) rs) (h2 : Lnks w (.slice A2 ls.length c2) ls) (h3 : Prts w (.slice A3 ps.length c3) ps)  :
    Calls Tryz.prog 5 #[wtV m (.slice A1 rs.length c1) (.slice A2 ls.length c2) (.slice A3 ps.length c3)] w fun e w' => e = .returned (.bool true) ∧ Below w.heap.size w w' := by
  have H1 := Lib.hid h1
  have H2 := Lib.hid h2
  have H3 := Lib.hid h3
  clear h1 h2 h3
  have HR := Lib.hid ((Frm.nil w).add (.cells #[.int .i64 m.n, (.slice A1 rs.length c1), (.slice A2 ls.length c2), (.slice A3 ps.length c3), .int .i64 m.fall, .int .i64 m.win, .int .i64 m.hold, .int .i64 m.dawn, .int .i64 m.dusk] 26) rfl)
  have x0 := HR.out.cells (List.mem_cons_self ..)
  cases hsh : (decide (rs.length ≤ 12) && decide (ls.length ≤ 12) && decide (ps.length ≤ 8))
  · go_enter Tryz.func5, Tryz.ntmps5
    go_wp2_with (first | (go_at_call 17; refine (short_is hsh _).mono ?_; rintro e wa ⟨rfl, hbq⟩; have HRq := Lib.hid (Frm.below (w := w) (bs := [(w.heap.size, (.cells #[.int .i64 m.n, (.slice A1 rs.length c1), (.slice A2 ls.length c2), (.slice A3 ps.length c3), .int .i64 m.fall, .int .i64 m.win, .int .i64 m.hold, .int .i64 m.dawn, .int .i64 m.dusk] 26))]) (by (repeat (with_reducible first | exact HR.out | apply Frm.drew | apply Frm.alloc | apply Frm.drewN))) hbq); clear HR x0; have HR := HRq; clear HRq hbq; have x0 := HR.out.cells (List.mem_cons_self ..)) | (go_at_call 18; refine (GX.known_true _).mono ?_; rintro e wa ⟨rfl, hbq⟩; have HRq := Lib.hid (Frm.below (w := w) (bs := [(w.heap.size, (.cells #[.int .i64 m.n, (.slice A1 rs.length c1), (.slice A2 ls.length c2), (.slice A3 ps.length c3), .int .i64 m.fall, .int .i64 m.win, .int .i64 m.hold, .int .i64 m.dawn, .int .i64 m.dusk] 26))]) (by (repeat (with_reducible first | exact HR.out | apply Frm.drew | apply Frm.alloc | apply Frm.drewN))) hbq); clear HR x0; have HR := HRq; clear HRq hbq; have x0 := HR.out.cells (List.mem_cons_self ..)))
    all_goals
      go_ret
      exact ⟨rfl, (Frm.b (w := w) (bs := [(w.heap.size, (.cells #[.int .i64 m.n, (.slice A1 rs.length c1), (.slice A2 ls.length c2), (.slice A3 ps.length c3), .int .i64 m.fall, .int .i64 m.win, .int .i64 m.hold, .int .i64 m.dawn, .int .i64 m.dusk] 26))]) (by (repeat (with_reducible first | exact HR.out | apply Frm.drew | apply Frm.alloc | apply Frm.drewN))))⟩
  obtain ⟨hsr, hsl, hsp⟩ := short_len hsh
  cases hsw : watchB m rs ls ps
  · have HSE := Lib.hid (show seeP m rs ls ps = (0, 0, 2) by simp [seeP, hsw])
    go_enter Tryz.func5, Tryz.ntmps5
    go_wp2_with (first | (go_at_call 17; refine (short_is hsh _).mono ?_; rintro e wa ⟨rfl, hbq⟩; have HRq := Lib.hid (Frm.below (w := w) (bs := [(w.heap.size, (.cells #[.int .i64 m.n, (.slice A1 rs.length c1), (.slice A2 ls.length c2), (.slice A3 ps.length c3), .int .i64 m.fall, .int .i64 m.win, .int .i64 m.hold, .int .i64 m.dawn, .int .i64 m.dusk] 26))]) (by (repeat (with_reducible first | exact HR.out | apply Frm.drew | apply Frm.alloc | apply Frm.drewN))) hbq); clear HR x0; have HR := HRq; clear HRq hbq; have x0 := HR.out.cells (List.mem_cons_self ..)) | (go_at_call 27; refine (see_is (Rws.below H1.out (Frm.b (w := w) (bs := [(w.heap.size, (.cells #[.int .i64 m.n, (.slice A1 rs.length c1), (.slice A2 ls.length c2), (.slice A3 ps.length c3), .int .i64 m.fall, .int .i64 m.win, .int .i64 m.hold, .int .i64 m.dawn, .int .i64 m.dusk] 26))]) (by (repeat (with_reducible first | exact HR.out | apply Frm.drew | apply Frm.alloc | apply Frm.drewN)))) (Nat.le_refl _)) (Rws.below H2.out (Frm.b (w := w) (bs := [(w.heap.size, (.cells #[.int .i64 m.n, (.slice A1 rs.length c1), (.slice A2 ls.length c2), (.slice A3 ps.length c3), .int .i64 m.fall, .int .i64 m.win, .int .i64 m.hold, .int .i64 m.dawn, .int .i64 m.dusk] 26))]) (by (repeat (with_reducible first | exact HR.out | apply Frm.drew | apply Frm.alloc | apply Frm.drewN)))) (Nat.le_refl _)) (Rws.below H3.out (Frm.b (w := w) (bs := [(w.heap.size, (.cells #[.int .i64 m.n, (.slice A1 rs.length c1), (.slice A2 ls.length c2), (.slice A3 ps.length c3), .int .i64 m.fall, .int .i64 m.win, .int .i64 m.hold, .int .i64 m.dawn, .int .i64 m.dusk] 26))]) (by (repeat (with_reducible first | exact HR.out | apply Frm.drew | apply Frm.alloc | apply Frm.drewN)))) (Nat.le_refl _)) HSE.out).mono ?_; rintro e wa ⟨rfl, hbq⟩; have HRq := Lib.hid (Frm.below (w := w) (bs := [(w.heap.size, (.cells #[.int .i64 m.n, (.slice A1 rs.length c1), (.slice A2 ls.length c2), (.slice A3 ps.length c3), .int .i64 m.fall, .int .i64 m.win, .int .i64 m.hold, .int .i64 m.dawn, .int .i64 m.dusk] 26))]) (by (repeat (with_reducible first | exact HR.out | apply Frm.drew | apply Frm.alloc | apply Frm.drewN))) hbq); clear HR x0; have HR := HRq; clear HRq hbq; have x0 := HR.out.cells (List.mem_cons_self ..)) | (go_at_call 21; refine (rWatch_is (Rws.below H1.out (Frm.b (w := w) (bs := [(w.heap.size, (.cells #[.int .i64 m.n, (.slice A1 rs.length c1), (.slice A2 ls.length c2), (.slice A3 ps.length c3), .int .i64 m.fall, .int .i64 m.win, .int .i64 m.hold, .int .i64 m.dawn, .int .i64 m.dusk] 26))]) (by (repeat (with_reducible first | exact HR.out | apply Frm.drew | apply Frm.alloc | apply Frm.drewN)))) (Nat.le_refl _)) (Rws.below H2.out (Frm.b (w := w) (bs := [(w.heap.size, (.cells #[.int .i64 m.n, (.slice A1 rs.length c1), (.slice A2 ls.length c2), (.slice A3 ps.length c3), .int .i64 m.fall, .int .i64 m.win, .int .i64 m.hold, .int .i64 m.dawn, .int .i64 m.dusk] 26))]) (by (repeat (with_reducible first | exact HR.out | apply Frm.drew | apply Frm.alloc | apply Frm.drewN)))) (Nat.le_refl _)) (Rws.below H3.out (Frm.b (w := w) (bs := [(w.heap.size, (.cells #[.int .i64 m.n, (.slice A1 rs.length c1), (.slice A2 ls.length c2), (.slice A3 ps.length c3), .int .i64 m.fall, .int .i64 m.win, .int .i64 m.hold, .int .i64 m.dawn, .int .i64 m.dusk] 26))]) (by (repeat (with_reducible first | exact HR.out | apply Frm.drew | apply Frm.alloc | apply Frm.drewN)))) (Nat.le_refl _)) hsw).mono ?_; rintro e wa ⟨rfl, hbq⟩; have HRq := Lib.hid (Frm.below (w := w) (bs := [(w.heap.size, (.cells #[.int .i64 m.n, (.slice A1 rs.length c1), (.slice A2 ls.length c2), (.slice A3 ps.length c3), .int .i64 m.fall, .int .i64 m.win, .int .i64 m.hold, .int .i64 m.dawn, .int .i64 m.dusk] 26))]) (by (repeat (with_reducible first | exact HR.out | apply Frm.drew | apply Frm.alloc | apply Frm.drewN))) hbq); clear HR x0; have HR := HRq; clear HRq hbq; have x0 := HR.out.cells (List.mem_cons_self ..)) | (go_at_call 18; refine (GX.known_true _).mono ?_; rintro e wa ⟨rfl, hbq⟩; have HRq := Lib.hid (Frm.below (w := w) (bs := [(w.heap.size, (.cells #[.int .i64 m.n, (.slice A1 rs.length c1), (.slice A2 ls.length c2), (.slice A3 ps.length c3), .int .i64 m.fall, .int .i64 m.win, .int .i64 m.hold, .int .i64 m.dawn, .int .i64 m.dusk] 26))]) (by (repeat (with_reducible first | exact HR.out | apply Frm.drew | apply Frm.alloc | apply Frm.drewN))) hbq); clear HR x0; have HR := HRq; clear HRq hbq; have x0 := HR.out.cells (List.mem_cons_self ..)))
    all_goals
      go_ret
      exact ⟨rfl, (Frm.b (w := w) (bs := [(w.heap.size, (.cells #[.int .i64 m.n, (.slice A1 rs.length c1), (.slice A2 ls.length c2), (.slice A3 ps.length c3), .int .i64 m.fall, .int .i64 m.win, .int .i64 m.hold, .int .i64 m.dawn, .int .i64 m.dusk] 26))]) (by (repeat (with_reducible first | exact HR.out | apply Frm.drew | apply Frm.alloc | apply Frm.drewN))))⟩
  have HSN := Lib.hid (sane_of hsw)
  by_cases q0 : siL m ls rs (loD rs) = []
  · have HSE := Lib.hid (show seeP m rs ls ps = (0, 0, 5) by simp [seeP, hsw, q0])
    have HFI0 := Lib.hid (show sightF (siL m ls rs (ev (delsL (endD rs false) rs.length))) = -1 by rw [ends_si2]; exact if_pos q0)
    have HFI1 := Lib.hid (show sightF (siL m ls rs (ev (delsL (endD rs true) rs.length))) = sightF (siL m ls rs (hiD rs)) by rw [ends_si2]; rfl)
    generalize sightF (siL m ls rs (hiD rs)) = b at *
    clear q0
    go_enter Tryz.func5, Tryz.ntmps5
    go_upto_region 6 with (first | (go_at_call 17; refine (short_is hsh _).mono ?_; rintro e wa ⟨rfl, hbq⟩; have HRq := Lib.hid (Frm.below (w := w) (bs := [(w.heap.size, (.cells #[.int .i64 m.n, (.slice A1 rs.length c1), (.slice A2 ls.length c2), (.slice A3 ps.length c3), .int .i64 m.fall, .int .i64 m.win, .int .i64 m.hold, .int .i64 m.dawn, .int .i64 m.dusk] 26))]) (by (repeat (with_reducible first | exact HR.out | apply Frm.drew | apply Frm.alloc | apply Frm.drewN))) hbq); clear HR x0; have HR := HRq; clear HRq hbq; have x0 := HR.out.cells (List.mem_cons_self ..)) | (go_at_call 27; refine (see_is (Rws.below H1.out (Frm.b (w := w) (bs := [(w.heap.size, (.cells #[.int .i64 m.n, (.slice A1 rs.length c1), (.slice A2 ls.length c2), (.slice A3 ps.length c3), .int .i64 m.fall, .int .i64 m.win, .int .i64 m.hold, .int .i64 m.dawn, .int .i64 m.dusk] 26))]) (by (repeat (with_reducible first | exact HR.out | apply Frm.drew | apply Frm.alloc | apply Frm.drewN)))) (Nat.le_refl _)) (Rws.below H2.out (Frm.b (w := w) (bs := [(w.heap.size, (.cells #[.int .i64 m.n, (.slice A1 rs.length c1), (.slice A2 ls.length c2), (.slice A3 ps.length c3), .int .i64 m.fall, .int .i64 m.win, .int .i64 m.hold, .int .i64 m.dawn, .int .i64 m.dusk] 26))]) (by (repeat (with_reducible first | exact HR.out | apply Frm.drew | apply Frm.alloc | apply Frm.drewN)))) (Nat.le_refl _)) (Rws.below H3.out (Frm.b (w := w) (bs := [(w.heap.size, (.cells #[.int .i64 m.n, (.slice A1 rs.length c1), (.slice A2 ls.length c2), (.slice A3 ps.length c3), .int .i64 m.fall, .int .i64 m.win, .int .i64 m.hold, .int .i64 m.dawn, .int .i64 m.dusk] 26))]) (by (repeat (with_reducible first | exact HR.out | apply Frm.drew | apply Frm.alloc | apply Frm.drewN)))) (Nat.le_refl _)) HSE.out).mono ?_; rintro e wa ⟨rfl, hbq⟩; have HRq := Lib.hid (Frm.below (w := w) (bs := [(w.heap.size, (.cells #[.int .i64 m.n, (.slice A1 rs.length c1), (.slice A2 ls.length c2), (.slice A3 ps.length c3), .int .i64 m.fall, .int .i64 m.win, .int .i64 m.hold, .int .i64 m.dawn, .int .i64 m.dusk] 26))]) (by (repeat (with_reducible first | exact HR.out | apply Frm.drew | apply Frm.alloc | apply Frm.drewN))) hbq); clear HR x0; have HR := HRq; clear HRq hbq; have x0 := HR.out.cells (List.mem_cons_self ..)) | (go_at_call 21; refine (rWatch_is (Rws.below H1.out (Frm.b (w := w) (bs := [(w.heap.size, (.cells #[.int .i64 m.n, (.slice A1 rs.length c1), (.slice A2 ls.length c2), (.slice A3 ps.length c3), .int .i64 m.fall, .int .i64 m.win, .int .i64 m.hold, .int .i64 m.dawn, .int .i64 m.dusk] 26))]) (by (repeat (with_reducible first | exact HR.out | apply Frm.drew | apply Frm.alloc | apply Frm.drewN)))) (Nat.le_refl _)) (Rws.below H2.out (Frm.b (w := w) (bs := [(w.heap.size, (.cells #[.int .i64 m.n, (.slice A1 rs.length c1), (.slice A2 ls.length c2), (.slice A3 ps.length c3), .int .i64 m.fall, .int .i64 m.win, .int .i64 m.hold, .int .i64 m.dawn, .int .i64 m.dusk] 26))]) (by (repeat (with_reducible first | exact HR.out | apply Frm.drew | apply Frm.alloc | apply Frm.drewN)))) (Nat.le_refl _)) (Rws.below H3.out (Frm.b (w := w) (bs := [(w.heap.size, (.cells #[.int .i64 m.n, (.slice A1 rs.length c1), (.slice A2 ls.length c2), (.slice A3 ps.length c3), .int .i64 m.fall, .int .i64 m.win, .int .i64 m.hold, .int .i64 m.dawn, .int .i64 m.dusk] 26))]) (by (repeat (with_reducible first | exact HR.out | apply Frm.drew | apply Frm.alloc | apply Frm.drewN)))) (Nat.le_refl _)) hsw).mono ?_; rintro e wa ⟨rfl, hbq⟩; have HRq := Lib.hid (Frm.below (w := w) (bs := [(w.heap.size, (.cells #[.int .i64 m.n, (.slice A1 rs.length c1), (.slice A2 ls.length c2), (.slice A3 ps.length c3), .int .i64 m.fall, .int .i64 m.win, .int .i64 m.hold, .int .i64 m.dawn, .int .i64 m.dusk] 26))]) (by (repeat (with_reducible first | exact HR.out | apply Frm.drew | apply Frm.alloc | apply Frm.drewN))) hbq); clear HR x0; have HR := HRq; clear HRq hbq; have x0 := HR.out.cells (List.mem_cons_self ..)))
    have HRq := Lib.hid (RW.start HR.out)
    clear HR x0
    have HR := HRq
    clear HRq
    refine Code.wp_mono (Q := onlyN fun a1 X1 => ∃ u8 u9 u10 u11 u12 u13 u14 u15 u16 u17 u18 u19 u20 u21 u22 u23 u24 u25 u26 u27 u28 u29 u30 u31 u32 u33 u34 u35 u36 u37 u38 u39 u40 u41 u42 u43 u44 u45 u46 u47 u48 u49 u50 u51 u52 u53 u54 u55 u56 u57 u58 u59 u60 u61 u62 u63 u64 u65 u66 u67 u68 u69 u70 u71, a1 = { tmps := #[wtV m (.slice A1 rs.length c1) (.slice A2 ls.length c2) (.slice A3 ps.length c3), .pointer (some ⟨w.heap.size, 0, none⟩), .bool false, .int .i64 0, .int .i64 0, .int .i64 5, .int .i64 (-1), .int .i64 b, u8, u9, u10, u11, u12, u13, u14, u15, u16, u17, u18, u19, u20, u21, u22, u23, u24, u25, u26, u27, u28, u29, u30, u31, u32, u33, u34, u35, u36, u37, u38, u39, u40, u41, u42, u43, u44, u45, u46, u47, u48, u49, u50, u51, u52, u53, u54, u55, u56, u57, u58, u59, u60, u61, u62, u63, u64, u65, u66, u67, u68, u69, u70, u71], defers := [] } ∧ Frm w [(w.heap.size, (.cells #[.int .i64 m.n, (.slice A1 rs.length c1), (.slice A2 ls.length c2), (.slice A3 ps.length c3), .int .i64 m.fall, .int .i64 m.win, .int .i64 m.hold, .int .i64 m.dawn, .int .i64 m.dusk] 26))] X1) ?aft ?reg
    case reg =>
      refine hw_start [(0, fun w' : World => ∀ o, w'.cell? ⟨w.heap.size, o, none⟩ = #[Value.int .i64 m.n, (.slice A1 rs.length c1), (.slice A2 ls.length c2), (.slice A3 ps.length c3), .int .i64 m.fall, .int .i64 m.win, .int .i64 m.hold, .int .i64 m.dawn, .int .i64 m.dusk][o]?), (1, fun w' : World => ∀ o, w'.cell? ⟨w.heap.size, o, none⟩ = #[Value.int .i64 m.n, (.slice A1 rs.length c1), (.slice A2 ls.length c2), (.slice A3 ps.length c3), .int .i64 m.fall, .int .i64 m.win, .int .i64 m.hold, .int .i64 m.dawn, .int .i64 m.dusk][o]?), (4, fun w' : World => ∀ o, w'.cell? ⟨w.heap.size, o, none⟩ = #[Value.int .i64 m.n, (.slice A1 rs.length c1), (.slice A2 ls.length c2), (.slice A3 ps.length c3), .int .i64 m.fall, .int .i64 m.win, .int .i64 m.hold, .int .i64 m.dawn, .int .i64 m.dusk][o]?), (5, fun w' : World => ∀ o, w'.cell? ⟨w.heap.size, o, none⟩ = #[Value.int .i64 m.n, (.slice A1 rs.length c1), (.slice A2 ls.length c2), (.slice A3 ps.length c3), .int .i64 m.fall, .int .i64 m.win, .int .i64 m.hold, .int .i64 m.dawn, .int .i64 m.dusk][o]?)] (by kernel_rfl) (List.forall_mem_cons.2 ⟨HR.out.drew.frm.cells (List.mem_cons_self ..), List.forall_mem_cons.2 ⟨HR.out.drew.frm.cells (List.mem_cons_self ..), List.forall_mem_cons.2 ⟨HR.out.drew.frm.cells (List.mem_cons_self ..), List.forall_mem_cons.2 ⟨HR.out.drew.frm.cells (List.mem_cons_self ..), (by simp)⟩⟩⟩⟩) ?_
      refine (fun (W1 : World) (hRn : RW w _ [(w.heap.size, (.cells #[.int .i64 m.n, (.slice A1 rs.length c1), (.slice A2 ls.length c2), (.slice A3 ps.length c3), .int .i64 m.fall, .int .i64 m.win, .int .i64 m.hold, .int .i64 m.dawn, .int .i64 m.dusk] 26))] [] W1) (hzW1 : Hid (W1.heap.size = wa.heap.size)) => (?_ : HW _ _ _ _ _ _ _ W1)) _ HR.out.drew (Lib.hid rfl)
      clear HR
      have HR := Lib.hid hRn
      clear hRn
      refine hw_load (i := 0) (oi := ⟨some 34, _, _, _, _, _⟩) (v := ?v2) _ (List.mem_cons_self ..) rfl (by kernel_rfl) (by kernel_rfl) (by kernel_rfl) (by kernel_rfl) (fun _ _ _ h => h) rfl (by kernel_rfl) ?hv2 ?rv2
      case hv2 => (intro w hSw; (try dsimp only at hSw); go_simp) <;> (with_reducible rfl)
      try simp only [Act.put, List.setIfInBounds_toArray, List.set_cons_zero, List.set_cons_succ]
      refine hw_load (i := 1) (oi := ⟨some 35, _, _, _, _, _⟩) (v := ?v3) _ (List.mem_cons_of_mem _ (List.mem_cons_self ..)) rfl (by kernel_rfl) (by kernel_rfl) (by kernel_rfl) (by kernel_rfl) (fun _ _ _ h => h) rfl (by kernel_rfl) ?hv3 ?rv3
      case hv3 => (intro w hSw; (try dsimp only at hSw); go_simp) <;> (with_reducible rfl)
      try simp only [Act.put, List.setIfInBounds_toArray, List.set_cons_zero, List.set_cons_succ]
      refine hw_load (i := 4) (oi := ⟨some 38, _, _, _, _, _⟩) (v := ?v4) _ (List.mem_cons_of_mem _ (List.mem_cons_of_mem _ (List.mem_cons_self ..))) rfl (by kernel_rfl) (by kernel_rfl) (by kernel_rfl) (by kernel_rfl) (fun _ _ _ h => h) rfl (by kernel_rfl) ?hv4 ?rv4
      case hv4 => (intro w hSw; (try dsimp only at hSw); go_simp) <;> (with_reducible rfl)
      try simp only [Act.put, List.setIfInBounds_toArray, List.set_cons_zero, List.set_cons_succ]
      refine hw_load (i := 5) (oi := ⟨some 39, _, _, _, _, _⟩) (v := ?v5) _ (List.mem_cons_of_mem _ (List.mem_cons_of_mem _ (List.mem_cons_of_mem _ (List.mem_cons_self ..)))) rfl (by kernel_rfl) (by kernel_rfl) (by kernel_rfl) (by kernel_rfl) (fun _ _ _ h => h) rfl (by kernel_rfl) ?hv5 ?rv5
      case hv5 => (intro w hSw; (try dsimp only at hSw); go_simp) <;> (with_reducible rfl)
      try simp only [Act.put, List.setIfInBounds_toArray, List.set_cons_zero, List.set_cons_succ]
      refine hw_ready (rs := [2]) (by kernel_rfl) (by simp) ?_
      refine AllHW.cons (i := 2) (o := ⟨some 36, _, _, _, _, _⟩) rfl rfl (by kernel_rfl) (fun K hK => ?s6) ?ms6
      case s6 =>
        (try go_simp)
        go_at_call 28
        refine (rEnds_any m A1 A2 A3 rs ls c1 c2 ps.length c3 false _ (Rws.below H1.out HR.out.frm.b (Nat.le_refl _)) (by omega)).mono ?_
        rintro e W7 ⟨E0, ec0, rfl, hz, hbd1⟩
        have HZ0 := Lib.hid hz
        clear hz
        have hRn := HR.out.below hbd1
        clear HR hbd1
        have HR := Lib.hid hRn
        clear hRn
        (try go_wp2_with fail)
        refine hK.out _ _ (List.forall_mem_cons.2 ⟨.inr (HR.out.frm.cells (List.mem_cons_self ..)), List.forall_mem_cons.2 ⟨.inl (by kernel_rfl), List.forall_mem_cons.2 ⟨.inr (HR.out.frm.cells (List.mem_cons_self ..)), List.forall_mem_cons.2 ⟨.inr (HR.out.frm.cells (List.mem_cons_self ..)), (by simp)⟩⟩⟩⟩) ?_
        refine hw_ready (rs := [3]) (by kernel_rfl) (by simp) ?_
        refine AllHW.cons (i := 3) (o := ⟨some 37, _, _, _, _, _⟩) rfl rfl (by kernel_rfl) (fun K hK => ?s8) ?ms8
        case s8 =>
          (try go_simp)
          go_at_call 26
          refine (rFirst_is (Rws.below H1.out HR.out.frm.b (Nat.le_refl _)) (Rws.below H2.out HR.out.frm.b (Nat.le_refl _)) HZ0.out hsr HSN.out (delsL_len _ _) (ends_db HSN.out false) HFI0.out).mono ?_
          rintro e W9 ⟨rfl, hbd1⟩
          have hRn := HR.out.below hbd1
          clear HR hbd1
          have HR := Lib.hid hRn
          clear hRn
          (try go_wp2_with fail)
          refine hK.out _ _ (List.forall_mem_cons.2 ⟨.inl (by kernel_rfl), List.forall_mem_cons.2 ⟨.inl (by kernel_rfl), List.forall_mem_cons.2 ⟨.inr (HR.out.frm.cells (List.mem_cons_self ..)), List.forall_mem_cons.2 ⟨.inr (HR.out.frm.cells (List.mem_cons_self ..)), (by simp)⟩⟩⟩⟩) ?_
          refine hw_ready (rs := [6]) (by kernel_rfl) (by simp) ?_
          refine AllHW.cons (i := 6) (o := ⟨some 40, _, _, _, _, _⟩) rfl rfl (by kernel_rfl) (fun K hK => ?s10) ?ms10
          case s10 =>
            (try go_simp)
            go_at_call 28
            refine (rEnds_any m A1 A2 A3 rs ls c1 c2 ps.length c3 true _ (Rws.below H1.out HR.out.frm.b (Nat.le_refl _)) (by omega)).mono ?_
            rintro e W11 ⟨E1, ec1, rfl, hz, hbd1⟩
            have HZ1 := Lib.hid hz
            clear hz
            have hRn := HR.out.below hbd1
            clear HR hbd1
            have HR := Lib.hid hRn
            clear hRn
            (try go_wp2_with fail)
            refine hK.out _ _ (List.forall_mem_cons.2 ⟨.inl (by kernel_rfl), List.forall_mem_cons.2 ⟨.inl (by kernel_rfl), List.forall_mem_cons.2 ⟨.inr (HR.out.frm.cells (List.mem_cons_self ..)), List.forall_mem_cons.2 ⟨.inl (by kernel_rfl), (by simp)⟩⟩⟩⟩) ?_
            refine hw_ready (rs := [7]) (by kernel_rfl) (by simp) ?_
            refine AllHW.cons (i := 7) (o := ⟨some 41, _, _, _, _, _⟩) rfl rfl (by kernel_rfl) (fun K hK => ?s12) ?ms12
            case s12 =>
              (try go_simp)
              go_at_call 26
              refine (rFirst_is (Rws.below H1.out HR.out.frm.b (Nat.le_refl _)) (Rws.below H2.out HR.out.frm.b (Nat.le_refl _)) HZ1.out hsr HSN.out (delsL_len _ _) (ends_db HSN.out true) HFI1.out).mono ?_
              rintro e W13 ⟨rfl, hbd1⟩
              have hRn := HR.out.below hbd1
              clear HR hbd1
              have HR := Lib.hid hRn
              clear hRn
              (try go_wp2_with fail)
              refine hK.out _ _ (List.forall_mem_cons.2 ⟨.inl (by kernel_rfl), List.forall_mem_cons.2 ⟨.inl (by kernel_rfl), List.forall_mem_cons.2 ⟨.inl (by kernel_rfl), List.forall_mem_cons.2 ⟨.inl (by kernel_rfl), (by simp)⟩⟩⟩⟩) ?_
              refine hw_pure (i := 8) (oi := ⟨some 6, _, _, _, _, _⟩) (v := ?v14) rfl (by kernel_rfl) (by kernel_rfl) (by kernel_rfl) (by kernel_rfl) (fun _ _ _ h => h) rfl (by kernel_rfl) ?hv14 ?rv14
              case hv14 => (intro w; go_simp) <;> (with_reducible rfl)
              try simp only [Act.put, List.setIfInBounds_toArray, List.set_cons_zero, List.set_cons_succ]
              refine hw_pure (i := 9) (oi := ⟨some 7, _, _, _, _, _⟩) (v := ?v15) rfl (by kernel_rfl) (by kernel_rfl) (by kernel_rfl) (by kernel_rfl) (fun _ _ _ h => h) rfl (by kernel_rfl) ?hv15 ?rv15
              case hv15 => (intro w; go_simp) <;> (with_reducible rfl)
              try simp only [Act.put, List.setIfInBounds_toArray, List.set_cons_zero, List.set_cons_succ]
              refine hw_done (by kernel_rfl) ?_
              exact ⟨_, _, _, _, _, _, _, _, _, _, _, _, _, _, _, _, _, _, _, _, _, _, _, _, _, _, _, _, _, _, _, _, _, _, _, _, _, _, _, _, _, _, _, _, _, _, _, _, _, _, _, _, _, _, _, _, _, _, _, _, _, _, _, _, rfl, HR.out.frm⟩
            exact AllHW.nil
          exact AllHW.nil
        exact AllHW.nil
      exact AllHW.nil
    case aft =>
      rintro e a1 X1 hO
      obtain ⟨rfl, u8, u9, u10, u11, u12, u13, u14, u15, u16, u17, u18, u19, u20, u21, u22, u23, u24, u25, u26, u27, u28, u29, u30, u31, u32, u33, u34, u35, u36, u37, u38, u39, u40, u41, u42, u43, u44, u45, u46, u47, u48, u49, u50, u51, u52, u53, u54, u55, u56, u57, u58, u59, u60, u61, u62, u63, u64, u65, u66, u67, u68, u69, u70, u71, rfl, hF⟩ := onlyN_is hO
      clear HR hO
      have HR := Lib.hid hF
      clear hF
      have x0 := HR.out.cells (List.mem_cons_self ..)
      go_wp2_with (go_at_call 18; refine (GX.known_true _).mono ?_; rintro e wa ⟨rfl, hbq⟩; have HRq := Lib.hid (Frm.below (w := w) (bs := [(w.heap.size, (.cells #[.int .i64 m.n, (.slice A1 rs.length c1), (.slice A2 ls.length c2), (.slice A3 ps.length c3), .int .i64 m.fall, .int .i64 m.win, .int .i64 m.hold, .int .i64 m.dawn, .int .i64 m.dusk] 26))]) (by (repeat (with_reducible first | exact HR.out | apply Frm.drew | apply Frm.alloc | apply Frm.drewN))) hbq); clear HR x0; have HR := HRq; clear HRq hbq; have x0 := HR.out.cells (List.mem_cons_self ..))
      all_goals
        go_ret
        exact ⟨rfl, (Frm.b (w := w) (bs := [(w.heap.size, (.cells #[.int .i64 m.n, (.slice A1 rs.length c1), (.slice A2 ls.length c2), (.slice A3 ps.length c3), .int .i64 m.fall, .int .i64 m.win, .int .i64 m.hold, .int .i64 m.dawn, .int .i64 m.dusk] 26))]) (by (repeat (with_reducible first | exact HR.out | apply Frm.drew | apply Frm.alloc | apply Frm.drewN))))⟩
  have a0 := soon_nonneg (coms_lo HSN.out) q0
  have HFI0 := Lib.hid (show sightF (siL m ls rs (ev (delsL (endD rs false) rs.length))) = soonF (siL m ls rs (loD rs)) by rw [ends_si2]; exact if_neg q0)
  have HFI1 := Lib.hid (show sightF (siL m ls rs (ev (delsL (endD rs true) rs.length))) = sightF (siL m ls rs (hiD rs)) by rw [ends_si2]; rfl)
  have HSE := Lib.hid (show seeP m rs ls ps = (soonF (siL m ls rs (loD rs)), sightF (siL m ls rs (hiD rs)), 0) by simp [seeP, hsw, q0])
  generalize soonF (siL m ls rs (loD rs)) = a at *
  generalize sightF (siL m ls rs (hiD rs)) = b at *
  have a1 : ¬ a < 0 := by omega
  clear q0
  go_enter Tryz.func5, Tryz.ntmps5
  go_upto_region 6 with (first | (go_at_call 17; refine (short_is hsh _).mono ?_; rintro e wa ⟨rfl, hbq⟩; have HRq := Lib.hid (Frm.below (w := w) (bs := [(w.heap.size, (.cells #[.int .i64 m.n, (.slice A1 rs.length c1), (.slice A2 ls.length c2), (.slice A3 ps.length c3), .int .i64 m.fall, .int .i64 m.win, .int .i64 m.hold, .int .i64 m.dawn, .int .i64 m.dusk] 26))]) (by (repeat (with_reducible first | exact HR.out | apply Frm.drew | apply Frm.alloc | apply Frm.drewN))) hbq); clear HR x0; have HR := HRq; clear HRq hbq; have x0 := HR.out.cells (List.mem_cons_self ..)) | (go_at_call 27; refine (see_is (Rws.below H1.out (Frm.b (w := w) (bs := [(w.heap.size, (.cells #[.int .i64 m.n, (.slice A1 rs.length c1), (.slice A2 ls.length c2), (.slice A3 ps.length c3), .int .i64 m.fall, .int .i64 m.win, .int .i64 m.hold, .int .i64 m.dawn, .int .i64 m.dusk] 26))]) (by (repeat (with_reducible first | exact HR.out | apply Frm.drew | apply Frm.alloc | apply Frm.drewN)))) (Nat.le_refl _)) (Rws.below H2.out (Frm.b (w := w) (bs := [(w.heap.size, (.cells #[.int .i64 m.n, (.slice A1 rs.length c1), (.slice A2 ls.length c2), (.slice A3 ps.length c3), .int .i64 m.fall, .int .i64 m.win, .int .i64 m.hold, .int .i64 m.dawn, .int .i64 m.dusk] 26))]) (by (repeat (with_reducible first | exact HR.out | apply Frm.drew | apply Frm.alloc | apply Frm.drewN)))) (Nat.le_refl _)) (Rws.below H3.out (Frm.b (w := w) (bs := [(w.heap.size, (.cells #[.int .i64 m.n, (.slice A1 rs.length c1), (.slice A2 ls.length c2), (.slice A3 ps.length c3), .int .i64 m.fall, .int .i64 m.win, .int .i64 m.hold, .int .i64 m.dawn, .int .i64 m.dusk] 26))]) (by (repeat (with_reducible first | exact HR.out | apply Frm.drew | apply Frm.alloc | apply Frm.drewN)))) (Nat.le_refl _)) HSE.out).mono ?_; rintro e wa ⟨rfl, hbq⟩; have HRq := Lib.hid (Frm.below (w := w) (bs := [(w.heap.size, (.cells #[.int .i64 m.n, (.slice A1 rs.length c1), (.slice A2 ls.length c2), (.slice A3 ps.length c3), .int .i64 m.fall, .int .i64 m.win, .int .i64 m.hold, .int .i64 m.dawn, .int .i64 m.dusk] 26))]) (by (repeat (with_reducible first | exact HR.out | apply Frm.drew | apply Frm.alloc | apply Frm.drewN))) hbq); clear HR x0; have HR := HRq; clear HRq hbq; have x0 := HR.out.cells (List.mem_cons_self ..)) | (go_at_call 21; refine (rWatch_is (Rws.below H1.out (Frm.b (w := w) (bs := [(w.heap.size, (.cells #[.int .i64 m.n, (.slice A1 rs.length c1), (.slice A2 ls.length c2), (.slice A3 ps.length c3), .int .i64 m.fall, .int .i64 m.win, .int .i64 m.hold, .int .i64 m.dawn, .int .i64 m.dusk] 26))]) (by (repeat (with_reducible first | exact HR.out | apply Frm.drew | apply Frm.alloc | apply Frm.drewN)))) (Nat.le_refl _)) (Rws.below H2.out (Frm.b (w := w) (bs := [(w.heap.size, (.cells #[.int .i64 m.n, (.slice A1 rs.length c1), (.slice A2 ls.length c2), (.slice A3 ps.length c3), .int .i64 m.fall, .int .i64 m.win, .int .i64 m.hold, .int .i64 m.dawn, .int .i64 m.dusk] 26))]) (by (repeat (with_reducible first | exact HR.out | apply Frm.drew | apply Frm.alloc | apply Frm.drewN)))) (Nat.le_refl _)) (Rws.below H3.out (Frm.b (w := w) (bs := [(w.heap.size, (.cells #[.int .i64 m.n, (.slice A1 rs.length c1), (.slice A2 ls.length c2), (.slice A3 ps.length c3), .int .i64 m.fall, .int .i64 m.win, .int .i64 m.hold, .int .i64 m.dawn, .int .i64 m.dusk] 26))]) (by (repeat (with_reducible first | exact HR.out | apply Frm.drew | apply Frm.alloc | apply Frm.drewN)))) (Nat.le_refl _)) hsw).mono ?_; rintro e wa ⟨rfl, hbq⟩; have HRq := Lib.hid (Frm.below (w := w) (bs := [(w.heap.size, (.cells #[.int .i64 m.n, (.slice A1 rs.length c1), (.slice A2 ls.length c2), (.slice A3 ps.length c3), .int .i64 m.fall, .int .i64 m.win, .int .i64 m.hold, .int .i64 m.dawn, .int .i64 m.dusk] 26))]) (by (repeat (with_reducible first | exact HR.out | apply Frm.drew | apply Frm.alloc | apply Frm.drewN))) hbq); clear HR x0; have HR := HRq; clear HRq hbq; have x0 := HR.out.cells (List.mem_cons_self ..)))
  have HRq := Lib.hid (RW.start HR.out)
  clear HR x0
  have HR := HRq
  clear HRq
  refine Code.wp_mono (Q := onlyN fun a1 X1 => ∃ u8 u9 u10 u11 u12 u13 u14 u15 u16 u17 u18 u19 u20 u21 u22 u23 u24 u25 u26 u27 u28 u29 u30 u31 u32 u33 u34 u35 u36 u37 u38 u39 u40 u41 u42 u43 u44 u45 u46 u47 u48 u49 u50 u51 u52 u53 u54 u55 u56 u57 u58 u59 u60 u61 u62 u63 u64 u65 u66 u67 u68 u69 u70 u71, a1 = { tmps := #[wtV m (.slice A1 rs.length c1) (.slice A2 ls.length c2) (.slice A3 ps.length c3), .pointer (some ⟨w.heap.size, 0, none⟩), .bool false, .int .i64 a, .int .i64 b, .int .i64 0, .int .i64 a, .int .i64 b, u8, u9, u10, u11, u12, u13, u14, u15, u16, u17, u18, u19, u20, u21, u22, u23, u24, u25, u26, u27, u28, u29, u30, u31, u32, u33, u34, u35, u36, u37, u38, u39, u40, u41, u42, u43, u44, u45, u46, u47, u48, u49, u50, u51, u52, u53, u54, u55, u56, u57, u58, u59, u60, u61, u62, u63, u64, u65, u66, u67, u68, u69, u70, u71], defers := [] } ∧ Frm w [(w.heap.size, (.cells #[.int .i64 m.n, (.slice A1 rs.length c1), (.slice A2 ls.length c2), (.slice A3 ps.length c3), .int .i64 m.fall, .int .i64 m.win, .int .i64 m.hold, .int .i64 m.dawn, .int .i64 m.dusk] 26))] X1) ?aft ?reg
  case reg =>
    refine hw_start [(0, fun w' : World => ∀ o, w'.cell? ⟨w.heap.size, o, none⟩ = #[Value.int .i64 m.n, (.slice A1 rs.length c1), (.slice A2 ls.length c2), (.slice A3 ps.length c3), .int .i64 m.fall, .int .i64 m.win, .int .i64 m.hold, .int .i64 m.dawn, .int .i64 m.dusk][o]?), (1, fun w' : World => ∀ o, w'.cell? ⟨w.heap.size, o, none⟩ = #[Value.int .i64 m.n, (.slice A1 rs.length c1), (.slice A2 ls.length c2), (.slice A3 ps.length c3), .int .i64 m.fall, .int .i64 m.win, .int .i64 m.hold, .int .i64 m.dawn, .int .i64 m.dusk][o]?), (4, fun w' : World => ∀ o, w'.cell? ⟨w.heap.size, o, none⟩ = #[Value.int .i64 m.n, (.slice A1 rs.length c1), (.slice A2 ls.length c2), (.slice A3 ps.length c3), .int .i64 m.fall, .int .i64 m.win, .int .i64 m.hold, .int .i64 m.dawn, .int .i64 m.dusk][o]?), (5, fun w' : World => ∀ o, w'.cell? ⟨w.heap.size, o, none⟩ = #[Value.int .i64 m.n, (.slice A1 rs.length c1), (.slice A2 ls.length c2), (.slice A3 ps.length c3), .int .i64 m.fall, .int .i64 m.win, .int .i64 m.hold, .int .i64 m.dawn, .int .i64 m.dusk][o]?)] (by kernel_rfl) (List.forall_mem_cons.2 ⟨HR.out.drew.frm.cells (List.mem_cons_self ..), List.forall_mem_cons.2 ⟨HR.out.drew.frm.cells (List.mem_cons_self ..), List.forall_mem_cons.2 ⟨HR.out.drew.frm.cells (List.mem_cons_self ..), List.forall_mem_cons.2 ⟨HR.out.drew.frm.cells (List.mem_cons_self ..), (by simp)⟩⟩⟩⟩) ?_
    refine (fun (W16 : World) (hRn : RW w _ [(w.heap.size, (.cells #[.int .i64 m.n, (.slice A1 rs.length c1), (.slice A2 ls.length c2), (.slice A3 ps.length c3), .int .i64 m.fall, .int .i64 m.win, .int .i64 m.hold, .int .i64 m.dawn, .int .i64 m.dusk] 26))] [] W16) (hzW16 : Hid (W16.heap.size = wa.heap.size)) => (?_ : HW _ _ _ _ _ _ _ W16)) _ HR.out.drew (Lib.hid rfl)
    clear HR
    have HR := Lib.hid hRn
    clear hRn
    refine hw_load (i := 0) (oi := ⟨some 34, _, _, _, _, _⟩) (v := ?v17) _ (List.mem_cons_self ..) rfl (by kernel_rfl) (by kernel_rfl) (by kernel_rfl) (by kernel_rfl) (fun _ _ _ h => h) rfl (by kernel_rfl) ?hv17 ?rv17
    case hv17 => (intro w hSw; (try dsimp only at hSw); go_simp) <;> (with_reducible rfl)
    try simp only [Act.put, List.setIfInBounds_toArray, List.set_cons_zero, List.set_cons_succ]
    refine hw_load (i := 1) (oi := ⟨some 35, _, _, _, _, _⟩) (v := ?v18) _ (List.mem_cons_of_mem _ (List.mem_cons_self ..)) rfl (by kernel_rfl) (by kernel_rfl) (by kernel_rfl) (by kernel_rfl) (fun _ _ _ h => h) rfl (by kernel_rfl) ?hv18 ?rv18
    case hv18 => (intro w hSw; (try dsimp only at hSw); go_simp) <;> (with_reducible rfl)
    try simp only [Act.put, List.setIfInBounds_toArray, List.set_cons_zero, List.set_cons_succ]
    refine hw_load (i := 4) (oi := ⟨some 38, _, _, _, _, _⟩) (v := ?v19) _ (List.mem_cons_of_mem _ (List.mem_cons_of_mem _ (List.mem_cons_self ..))) rfl (by kernel_rfl) (by kernel_rfl) (by kernel_rfl) (by kernel_rfl) (fun _ _ _ h => h) rfl (by kernel_rfl) ?hv19 ?rv19
    case hv19 => (intro w hSw; (try dsimp only at hSw); go_simp) <;> (with_reducible rfl)
    try simp only [Act.put, List.setIfInBounds_toArray, List.set_cons_zero, List.set_cons_succ]
    refine hw_load (i := 5) (oi := ⟨some 39, _, _, _, _, _⟩) (v := ?v20) _ (List.mem_cons_of_mem _ (List.mem_cons_of_mem _ (List.mem_cons_of_mem _ (List.mem_cons_self ..)))) rfl (by kernel_rfl) (by kernel_rfl) (by kernel_rfl) (by kernel_rfl) (fun _ _ _ h => h) rfl (by kernel_rfl) ?hv20 ?rv20
    case hv20 => (intro w hSw; (try dsimp only at hSw); go_simp) <;> (with_reducible rfl)
    try simp only [Act.put, List.setIfInBounds_toArray, List.set_cons_zero, List.set_cons_succ]
    refine hw_ready (rs := [2]) (by kernel_rfl) (by simp) ?_
    refine AllHW.cons (i := 2) (o := ⟨some 36, _, _, _, _, _⟩) rfl rfl (by kernel_rfl) (fun K hK => ?s21) ?ms21
    case s21 =>
      (try go_simp)
      go_at_call 28
      refine (rEnds_any m A1 A2 A3 rs ls c1 c2 ps.length c3 false _ (Rws.below H1.out HR.out.frm.b (Nat.le_refl _)) (by omega)).mono ?_
      rintro e W22 ⟨E0, ec0, rfl, hz, hbd1⟩
      have HZ0 := Lib.hid hz
      clear hz
      have hRn := HR.out.below hbd1
      clear HR hbd1
      have HR := Lib.hid hRn
      clear hRn
      (try go_wp2_with fail)
      refine hK.out _ _ (List.forall_mem_cons.2 ⟨.inr (HR.out.frm.cells (List.mem_cons_self ..)), List.forall_mem_cons.2 ⟨.inl (by kernel_rfl), List.forall_mem_cons.2 ⟨.inr (HR.out.frm.cells (List.mem_cons_self ..)), List.forall_mem_cons.2 ⟨.inr (HR.out.frm.cells (List.mem_cons_self ..)), (by simp)⟩⟩⟩⟩) ?_
      refine hw_ready (rs := [3]) (by kernel_rfl) (by simp) ?_
      refine AllHW.cons (i := 3) (o := ⟨some 37, _, _, _, _, _⟩) rfl rfl (by kernel_rfl) (fun K hK => ?s23) ?ms23
      case s23 =>
        (try go_simp)
        go_at_call 26
        refine (rFirst_is (Rws.below H1.out HR.out.frm.b (Nat.le_refl _)) (Rws.below H2.out HR.out.frm.b (Nat.le_refl _)) HZ0.out hsr HSN.out (delsL_len _ _) (ends_db HSN.out false) HFI0.out).mono ?_
        rintro e W24 ⟨rfl, hbd1⟩
        have hRn := HR.out.below hbd1
        clear HR hbd1
        have HR := Lib.hid hRn
        clear hRn
        (try go_wp2_with fail)
        refine hK.out _ _ (List.forall_mem_cons.2 ⟨.inl (by kernel_rfl), List.forall_mem_cons.2 ⟨.inl (by kernel_rfl), List.forall_mem_cons.2 ⟨.inr (HR.out.frm.cells (List.mem_cons_self ..)), List.forall_mem_cons.2 ⟨.inr (HR.out.frm.cells (List.mem_cons_self ..)), (by simp)⟩⟩⟩⟩) ?_
        refine hw_ready (rs := [6]) (by kernel_rfl) (by simp) ?_
        refine AllHW.cons (i := 6) (o := ⟨some 40, _, _, _, _, _⟩) rfl rfl (by kernel_rfl) (fun K hK => ?s25) ?ms25
        case s25 =>
          (try go_simp)
          go_at_call 28
          refine (rEnds_any m A1 A2 A3 rs ls c1 c2 ps.length c3 true _ (Rws.below H1.out HR.out.frm.b (Nat.le_refl _)) (by omega)).mono ?_
          rintro e W26 ⟨E1, ec1, rfl, hz, hbd1⟩
          have HZ1 := Lib.hid hz
          clear hz
          have hRn := HR.out.below hbd1
          clear HR hbd1
          have HR := Lib.hid hRn
          clear hRn
          (try go_wp2_with fail)
          refine hK.out _ _ (List.forall_mem_cons.2 ⟨.inl (by kernel_rfl), List.forall_mem_cons.2 ⟨.inl (by kernel_rfl), List.forall_mem_cons.2 ⟨.inr (HR.out.frm.cells (List.mem_cons_self ..)), List.forall_mem_cons.2 ⟨.inl (by kernel_rfl), (by simp)⟩⟩⟩⟩) ?_
          refine hw_ready (rs := [7]) (by kernel_rfl) (by simp) ?_
          refine AllHW.cons (i := 7) (o := ⟨some 41, _, _, _, _, _⟩) rfl rfl (by kernel_rfl) (fun K hK => ?s27) ?ms27
          case s27 =>
            (try go_simp)
            go_at_call 26
            refine (rFirst_is (Rws.below H1.out HR.out.frm.b (Nat.le_refl _)) (Rws.below H2.out HR.out.frm.b (Nat.le_refl _)) HZ1.out hsr HSN.out (delsL_len _ _) (ends_db HSN.out true) HFI1.out).mono ?_
            rintro e W28 ⟨rfl, hbd1⟩
            have hRn := HR.out.below hbd1
            clear HR hbd1
            have HR := Lib.hid hRn
            clear hRn
            (try go_wp2_with fail)
            refine hK.out _ _ (List.forall_mem_cons.2 ⟨.inl (by kernel_rfl), List.forall_mem_cons.2 ⟨.inl (by kernel_rfl), List.forall_mem_cons.2 ⟨.inl (by kernel_rfl), List.forall_mem_cons.2 ⟨.inl (by kernel_rfl), (by simp)⟩⟩⟩⟩) ?_
            refine hw_pure (i := 8) (oi := ⟨some 6, _, _, _, _, _⟩) (v := ?v29) rfl (by kernel_rfl) (by kernel_rfl) (by kernel_rfl) (by kernel_rfl) (fun _ _ _ h => h) rfl (by kernel_rfl) ?hv29 ?rv29
            case hv29 => (intro w; go_simp) <;> (with_reducible rfl)
            try simp only [Act.put, List.setIfInBounds_toArray, List.set_cons_zero, List.set_cons_succ]
            refine hw_pure (i := 9) (oi := ⟨some 7, _, _, _, _, _⟩) (v := ?v30) rfl (by kernel_rfl) (by kernel_rfl) (by kernel_rfl) (by kernel_rfl) (fun _ _ _ h => h) rfl (by kernel_rfl) ?hv30 ?rv30
            case hv30 => (intro w; go_simp) <;> (with_reducible rfl)
            try simp only [Act.put, List.setIfInBounds_toArray, List.set_cons_zero, List.set_cons_succ]
            refine hw_done (by kernel_rfl) ?_
            exact ⟨_, _, _, _, _, _, _, _, _, _, _, _, _, _, _, _, _, _, _, _, _, _, _, _, _, _, _, _, _, _, _, _, _, _, _, _, _, _, _, _, _, _, _, _, _, _, _, _, _, _, _, _, _, _, _, _, _, _, _, _, _, _, _, _, rfl, HR.out.frm⟩
          exact AllHW.nil
        exact AllHW.nil
      exact AllHW.nil
    exact AllHW.nil
  case aft =>
    rintro e a1 X1 hO
    obtain ⟨rfl, u8, u9, u10, u11, u12, u13, u14, u15, u16, u17, u18, u19, u20, u21, u22, u23, u24, u25, u26, u27, u28, u29, u30, u31, u32, u33, u34, u35, u36, u37, u38, u39, u40, u41, u42, u43, u44, u45, u46, u47, u48, u49, u50, u51, u52, u53, u54, u55, u56, u57, u58, u59, u60, u61, u62, u63, u64, u65, u66, u67, u68, u69, u70, u71, rfl, hF⟩ := onlyN_is hO
    clear HR hO
    have HR := Lib.hid hF
    clear hF
    have x0 := HR.out.cells (List.mem_cons_self ..)
    go_wp2_with (go_at_call 18; refine (GX.known_true _).mono ?_; rintro e wa ⟨rfl, hbq⟩; have HRq := Lib.hid (Frm.below (w := w) (bs := [(w.heap.size, (.cells #[.int .i64 m.n, (.slice A1 rs.length c1), (.slice A2 ls.length c2), (.slice A3 ps.length c3), .int .i64 m.fall, .int .i64 m.win, .int .i64 m.hold, .int .i64 m.dawn, .int .i64 m.dusk] 26))]) (by (repeat (with_reducible first | exact HR.out | apply Frm.drew | apply Frm.alloc | apply Frm.drewN))) hbq); clear HR x0; have HR := HRq; clear HRq hbq; have x0 := HR.out.cells (List.mem_cons_self ..))
    all_goals
      go_ret
      exact ⟨rfl, (Frm.b (w := w) (bs := [(w.heap.size, (.cells #[.int .i64 m.n, (.slice A1 rs.length c1), (.slice A2 ls.length c2), (.slice A3 ps.length c3), .int .i64 m.fall, .int .i64 m.win, .int .i64 m.hold, .int .i64 m.dawn, .int .i64 m.dusk] 26))]) (by (repeat (with_reducible first | exact HR.out | apply Frm.drew | apply Frm.alloc | apply Frm.drewN))))⟩
end Go.Proofs.YtbepafkenandfaaGreat
