/- The law's examples are computed as the document says. -/
import Derived.Test.YtffgcphmakfikaaDoorExn
set_option linter.unusedVariables false
set_option linter.unusedSimpArgs false
namespace Go.Proofs.YtffgcphmakfikaaDoor
open Go.RowKit Go.Maps

theorem rdgs_one {W : World} {g : Nat} (h : W.heap[g]? = some (rdBox exR)) : Rdgs W (.slice (some ⟨g, 0, none⟩) 1 1) [exR] := by
  have hc := (boxCells h).1
  refine ⟨some ⟨g, 0, none⟩, 1, rfl, by decide, by unfold maxLen; omega, .inr ⟨g, 0, rfl, (Array.getElem?_eq_some_iff.1 h).1, ?_⟩⟩
  intro i r hi
  match i, hi with
  | 0, hi => cases hi; exact ⟨hc 0, hc 1, hc 2, hc 3, hc 4, hc 5, hc 6, hc 7, hc 8, hc 9⟩
  | i + 1, hi => simp at hi
theorem spsAt_two {W : World} {g : Nat} {a b c d : Int} {T : TypeId} (h : W.heap[g]? = some (.cells #[.int .i64 a, .int .i64 b, .int .i64 c, .int .i64 d] T)) : SpsAt W g 0 [(a, b), (c, d)] := by
  have hc := (boxCells h).1
  intro i p hi
  match i, hi with
  | 0, hi => cases hi; exact ⟨hc 0, hc 1⟩
  | 1, hi => cases hi; exact ⟨hc 2, hc 3⟩
  | i + 2, hi => simp at hi

theorem lt_of_blk {W : World} {k : Nat} {o : Obj} (h : W.heap[k]? = some o) : k < W.heap.size := (Array.getElem?_eq_some_iff.1 h).1
set_option maxHeartbeats 4000000 in
set_option maxRecDepth 100000 in
theorem known_ex (w : World) (hh : Holds w) (ht : Tab w) :
    Calls Tryd.prog 6 #[] w fun e w' => e = .returned (.bool true) ∧ Below w.heap.size w w' := by
  have HH := Lib.hid hh
  have HT := Lib.hid ht
  clear hh ht
  go_enter Tryd.func6, Tryd.ntmps6
  go_wp2_with fail
  refine (station_ex _).mono ?_
  rintro x w1 ⟨v1, rfl, hc1, hb1⟩
  have H1 := Lib.hid ((Frm.nil w).below hb1)
  have C1 := Lib.hid hc1
  clear hb1 hc1
  go_wp2_with fail
  refine (index_ex C1.out).mono ?_
  rintro x w2 ⟨rfl, hb2⟩
  have H2 := Lib.hid ((H1.out.below hb2).add (spBox 15 40) rfl)
  clear hb2
  go_wp2_with fail
  refine (station_ex _).mono ?_
  rintro x w3 ⟨v3, rfl, hc3, hb3⟩
  have H3 := Lib.hid (H2.out.below hb3)
  have C3 := Lib.hid hc3
  clear hb3 hc3
  go_wp2_with fail
  refine (due_ex C3.out).mono ?_
  rintro x w4 ⟨rfl, hb4⟩
  have H4 := Lib.hid (H3.out.below hb4)
  clear hb4
  go_wp2_with fail
  refine (station_ex _).mono ?_
  rintro x w5 ⟨v5, rfl, hc5, hb5⟩
  have H5 := Lib.hid (H4.out.below hb5)
  have C5 := Lib.hid hc5
  clear hb5 hc5
  go_wp2_with fail
  refine (reading_ex _).mono ?_
  rintro x w6 ⟨rfl, hb6⟩
  have H6 := Lib.hid (H5.out.below hb6)
  have C6 := Lib.hid (C5.out.below hb6)
  clear hb6
  go_wp2_with fail
  refine (play_ex C6.out (HH.out.below H6.out.b)).mono ?_
  rintro x w7 ⟨rfl, hb7⟩
  have H7 := Lib.hid ((H6.out.below hb7).add (.cells #[.int .i64 74779, .int .i64 75710, .int .i64 68] 53) rfl)
  clear hb7
  go_wp2_with fail
  refine (station_ex _).mono ?_
  rintro x w8 ⟨v8, rfl, hc8, hb8⟩
  have H8 := Lib.hid (H7.out.below hb8)
  have C8 := Lib.hid hc8
  clear hb8 hc8
  go_wp2_with fail
  refine (reading_ex _).mono ?_
  rintro x w9 ⟨rfl, hb9⟩
  have H9 := Lib.hid (H8.out.below hb9)
  have C9 := Lib.hid (C8.out.below hb9)
  clear hb9
  go_wp2_with fail
  refine (know_ex C9.out (HH.out.below H9.out.b)).mono ?_
  rintro x w10 ⟨rfl, hb10⟩
  have H10 := Lib.hid ((H9.out.below hb10).add (.cells #[.int .i64 74741, .int .i64 74803, .int .i64 75627, .int .i64 75779, .int .i64 67, .int .i64 70] 37) rfl)
  clear hb10
  go_wp2_with fail
  refine (station_ex _).mono ?_
  rintro x w11 ⟨v11, rfl, hc11, hb11⟩
  have H11 := Lib.hid (H10.out.below hb11)
  have C11 := Lib.hid hc11
  clear hb11 hc11
  go_wp2_with fail
  refine (reading_ex _).mono ?_
  rintro x w12 ⟨rfl, hb12⟩
  have H12 := Lib.hid (H11.out.below hb12)
  have C12 := Lib.hid (C11.out.below hb12)
  clear hb12
  go_wp2_with fail
  refine (later_ex _).mono ?_
  rintro x w13 ⟨rfl, hb13⟩
  have H13 := Lib.hid (H12.out.below hb13)
  have C13 := Lib.hid (C12.out.below hb13)
  clear hb13
  go_wp2_with fail
  refine (rise_ex C13.out).mono ?_
  rintro x w14 ⟨rfl, hb14⟩
  have H14 := Lib.hid ((H13.out.below hb14).add (spBox (-115) (-85)) rfl)
  clear hb14
  go_wp2_with fail
  refine (station_ex _).mono ?_
  rintro x w15 ⟨v15, rfl, hc15, hb15⟩
  have H15 := Lib.hid (H14.out.below hb15)
  have C15 := Lib.hid hc15
  clear hb15 hc15
  go_wp2_with fail
  refine (later_ex _).mono ?_
  rintro x w16 ⟨rfl, hb16⟩
  have H16 := Lib.hid (H15.out.below hb16)
  have C16 := Lib.hid (C15.out.below hb16)
  clear hb16
  go_wp2_with fail
  refine (when_ex C16.out).mono ?_
  rintro x w17 ⟨g, hg, rfl, hgb, hb17⟩
  have H17 := Lib.hid (H16.out.below hb17)
  have G17 := Lib.hid (show w17.heap[g]? = some (.cells #[.int .i64 36448, .int .i64 36452, .int .i64 36478, .int .i64 36482] 23) from hgb)
  have hgl := (Array.getElem?_eq_some_iff.1 hgb).1
  clear hb17 hgb
  go_wp2_with fail
  refine (reading_ex _).mono ?_
  rintro x w18 ⟨rfl, hb18⟩
  have H18 := Lib.hid ((H17.out.below hb18).add (rdBox exR) rfl)
  have G18 := Lib.hid (blk_alloc (blk_below G17.out hb18) (rdBox exR))
  clear hb18
  go_wp2_with fail
  refine (print_ex (rdgs_one (H18.out.h _ (List.mem_cons_self ..))) (HT.out.below H18.out.b)).mono ?_
  rintro x w19 ⟨rfl, hb19⟩
  have H19 := Lib.hid (H18.out.below hb19)
  have G19 := Lib.hid (blk_below G18.out hb19)
  clear hb19
  have HR := H19
  have HG := G19
  have c2 := HR.out.cells (List.mem_cons_of_mem _ (List.mem_cons_of_mem _ (List.mem_cons_of_mem _ (List.mem_cons_of_mem _ (List.mem_cons_self ..)))))
  have c7 := HR.out.cells (List.mem_cons_of_mem _ (List.mem_cons_of_mem _ (List.mem_cons_of_mem _ (List.mem_cons_self ..))))
  have c10 := HR.out.cells (List.mem_cons_of_mem _ (List.mem_cons_of_mem _ (List.mem_cons_self ..)))
  have hgl19 := (Array.getElem?_eq_some_iff.1 HG.out).1
  clear H1 H2 H3 H4 H5 H6 H7 H8 H9 H10 H11 H12 H13 H14 H15 H16 H17 H18 H19 C1 C3 C5 C6 C8 C9 C11 C12 C13 C15 C16 G17 G18 G19
  go_wp2_with fail
  go_region_held3 (fun w' => (∀ o, w'.cell? ⟨w2.heap.size, o, none⟩ = #[Value.int .i64 15, .int .i64 40][o]?) ∧ (∀ o, w'.cell? ⟨w7.heap.size, o, none⟩ = #[Value.int .i64 74779, .int .i64 75710, .int .i64 68][o]?) ∧ (∀ o, w'.cell? ⟨w10.heap.size, o, none⟩ = #[Value.int .i64 74741, .int .i64 74803, .int .i64 75627, .int .i64 75779, .int .i64 67, .int .i64 70][o]?)) ((exact (fun hF : Frm w [(w18.heap.size, rdBox exR), (w14.heap.size, spBox (-115) (-85)), (w10.heap.size, (.cells #[.int .i64 74741, .int .i64 74803, .int .i64 75627, .int .i64 75779, .int .i64 67, .int .i64 70] 37)), (w7.heap.size, (.cells #[.int .i64 74779, .int .i64 75710, .int .i64 68] 53)), (w2.heap.size, spBox 15 40)] _ => ⟨hF.cells (List.mem_cons_of_mem _ (List.mem_cons_of_mem _ (List.mem_cons_of_mem _ (List.mem_cons_of_mem _ (List.mem_cons_self ..))))), hF.cells (List.mem_cons_of_mem _ (List.mem_cons_of_mem _ (List.mem_cons_of_mem _ (List.mem_cons_self ..)))), hF.cells (List.mem_cons_of_mem _ (List.mem_cons_of_mem _ (List.mem_cons_self ..)))⟩) (by (repeat (with_reducible first | exact HR.out | apply Frm.drew | apply Frm.alloc))))) ((go_at_call 25; refine (lspan_any _ _ _).mono ?_; rintro x wz ⟨rfl, hbz⟩; have HGq := Lib.hid (blk_below (by (repeat (with_reducible first | exact HG.out | apply blk_dr | apply blk_alloc))) hbz); have HRq := Lib.hid (Frm.below (w := w) (bs := [(w18.heap.size, rdBox exR), (w14.heap.size, spBox (-115) (-85)), (w10.heap.size, (.cells #[.int .i64 74741, .int .i64 74803, .int .i64 75627, .int .i64 75779, .int .i64 67, .int .i64 70] 37)), (w7.heap.size, (.cells #[.int .i64 74779, .int .i64 75710, .int .i64 68] 53)), (w2.heap.size, spBox 15 40)]) (by (repeat (with_reducible first | exact HR.out | apply Frm.drew | apply Frm.alloc))) hbz); clear HR HG; have HR := HRq; have HG := HGq; clear HRq HGq hbz))
  clear c2 c7 c10
  go_upto_region 12 with fail
  have hlz := (Array.getElem?_eq_some_iff.1 HG.out).1
  go_region_held3 (fun w' => (∀ o, w'.cell? ⟨w14.heap.size, o, none⟩ = #[Value.int .i64 (-115), .int .i64 (-85)][o]?)) ((exact (fun hF : Frm w [(w18.heap.size, rdBox exR), (w14.heap.size, spBox (-115) (-85)), (w10.heap.size, (.cells #[.int .i64 74741, .int .i64 74803, .int .i64 75627, .int .i64 75779, .int .i64 67, .int .i64 70] 37)), (w7.heap.size, (.cells #[.int .i64 74779, .int .i64 75710, .int .i64 68] 53)), (w2.heap.size, spBox 15 40)] _ => hF.cells (List.mem_cons_of_mem _ (List.mem_cons_self ..))) (by (repeat (with_reducible first | exact HR.out | apply Frm.drew | apply Frm.alloc))))) (first | (go_at_call 25; refine (lspan_any _ _ _).mono ?_; rintro x wz ⟨rfl, hbz⟩; have HGq := Lib.hid (blk_below (by (repeat (with_reducible first | exact HG.out | apply blk_dr | apply blk_alloc))) hbz); have HRq := Lib.hid (Frm.below (w := w) (bs := [(w18.heap.size, rdBox exR), (w14.heap.size, spBox (-115) (-85)), (w10.heap.size, (.cells #[.int .i64 74741, .int .i64 74803, .int .i64 75627, .int .i64 75779, .int .i64 67, .int .i64 70] 37)), (w7.heap.size, (.cells #[.int .i64 74779, .int .i64 75710, .int .i64 68] 53)), (w2.heap.size, spBox 15 40)]) (by (repeat (with_reducible first | exact HR.out | apply Frm.drew | apply Frm.alloc))) hbz); clear HR HG; have HR := HRq; have HG := HGq; clear HRq HGq hbz) | (go_at_call 26; go_must (refine (sameSpans_some [(36448, 36452), (36478, 36482)] g 0 2 _ 0 2 _ (by decide) (by unfold maxLen; omega) (lt_of_blk (by (repeat (with_reducible first | exact HG.out | apply blk_dr | apply blk_alloc)))) (lt_of_blk (by first | exact heap_new _ _ rfl | exact blk_dr (heap_new _ _ rfl))) (spsAt_two (by (repeat (with_reducible first | exact HG.out | apply blk_dr | apply blk_alloc)))) (spsAt_two (by first | exact heap_new _ _ rfl | exact blk_dr (heap_new _ _ rfl)))).mono ?_); rintro x wz ⟨rfl, hbz⟩; have HGq := Lib.hid (blk_below (by (repeat (with_reducible first | exact HG.out | apply blk_dr | apply blk_alloc))) hbz); have HRq := Lib.hid (Frm.below (w := w) (bs := [(w18.heap.size, rdBox exR), (w14.heap.size, spBox (-115) (-85)), (w10.heap.size, (.cells #[.int .i64 74741, .int .i64 74803, .int .i64 75627, .int .i64 75779, .int .i64 67, .int .i64 70] 37)), (w7.heap.size, (.cells #[.int .i64 74779, .int .i64 75710, .int .i64 68] 53)), (w2.heap.size, spBox 15 40)]) (by (repeat (with_reducible first | exact HR.out | apply Frm.drew | apply Frm.alloc))) hbz); clear HR HG; have HR := HRq; have HG := HGq; clear HRq HGq hbz))
  all_goals
    go_wp2_with fail
    go_ret
    exact ⟨ret_bool (by decide +kernel), HR.out.b⟩
end Go.Proofs.YtffgcphmakfikaaDoor
