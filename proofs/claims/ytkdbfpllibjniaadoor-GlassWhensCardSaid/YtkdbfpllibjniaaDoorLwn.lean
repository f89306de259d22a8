/- The law GlassWhens, walked. -/
import Derived.Test.YtkdbfpllibjniaaDoorRwn
set_option linter.unusedVariables false
set_option linter.unusedSimpArgs false
namespace Go.Proofs.YtkdbfpllibjniaaDoor
open Go.RowKit Go.Maps

set_option maxHeartbeats 40000000 in
set_option maxRecDepth 100000 in
theorem lawGlassWhens {s : Stn} {v : Value} {cs : List Chk} {r : Rdg} {w : World} (hc : Chks w v cs) (hh : Holds w) (ht : Tab w) :
    Calls Tryd.prog 4 #[stV s v, rdV r] w fun e w' => e = .returned (.bool true) ∧ Below w.heap.size w w' := by
  obtain ⟨A, k, c, rfl⟩ := hc.shape
  have HR : Hid (Frm w [(w.heap.size + 1, (rdBox r)), (w.heap.size, (stBox s (.slice A k c)))] ((w.alloc (stBox s (.slice A k c))).alloc (rdBox r))) := Lib.hid (((Frm.nil w).add _ (by simp)).add _ (by simp))
  have HC := Lib.hid (hc.below HR.out.b)
  have HH := Lib.hid hh
  have HT := Lib.hid ht
  clear hc hh ht
  have x0 := HR.out.cells (List.mem_cons_self ..)
  have x1 := HR.out.cells (List.mem_cons_of_mem _ (List.mem_cons_self ..))
  go_enter Tryd.func4, Tryd.ntmps4
  go_wp2_with fail
  refine (short_any (by first | exact HC.out | exact HC.out.drew | exact HC.out.below (below_al (Below.refl _ _) _) | exact HC.out.drew.below (below_al (Below.refl _ _) _) | exact (HC.out.below (below_al (Below.refl _ _) _)).drew)).mono ?_
  rintro e w1 ⟨rfl, hb⟩
  have HRq := Lib.hid (Frm.below (w := w) (bs := [(w.heap.size + 1, (rdBox r)), (w.heap.size, (stBox s (.slice A k c)))]) (by (repeat (with_reducible first | exact HR.out | apply Frm.drew | apply Frm.alloc))) hb)
  have HCq := Lib.hid (Chks.below (cs := cs) (by first | exact HC.out | exact HC.out.drew | exact HC.out.below (below_al (Below.refl _ _) _) | exact HC.out.drew.below (below_al (Below.refl _ _) _) | exact (HC.out.below (below_al (Below.refl _ _) _)).drew) hb)
  clear HR HC hb x0 x1
  have HR := HRq
  have HC := HCq
  clear HRq HCq
  have x0 := HR.out.cells (List.mem_cons_self ..)
  have x1 := HR.out.cells (List.mem_cons_of_mem _ (List.mem_cons_self ..))
  by_cases h16 : cs.length ≤ 16
  rotate_left
  · go_wp2_with fail
    refine (known_ex _ (HH.out.below (Frm.b (w := w) (bs := [(w.heap.size + 1, (rdBox r)), (w.heap.size, (stBox s (.slice A k c)))]) (by (repeat (with_reducible first | exact HR.out | apply Frm.drew | apply Frm.alloc))))) (HT.out.below (Frm.b (w := w) (bs := [(w.heap.size + 1, (rdBox r)), (w.heap.size, (stBox s (.slice A k c)))]) (by (repeat (with_reducible first | exact HR.out | apply Frm.drew | apply Frm.alloc)))))).mono ?_
    rintro e wz ⟨rfl, hbz⟩
    have HZ := Lib.hid (Frm.below (w := w) (bs := [(w.heap.size + 1, (rdBox r)), (w.heap.size, (stBox s (.slice A k c)))]) (by (repeat (with_reducible first | exact HR.out | apply Frm.drew | apply Frm.alloc))) hbz).b
    clear hbz x0 x1
    go_wp2_with fail
    go_ret
    exact ⟨rfl, HZ.out⟩
  cases hs : soundB s cs
  · have HS := Lib.hid hs
    clear hs
    go_wp2_with fail
    refine (when_bad1 (by first | exact HC.out | exact HC.out.drew | exact HC.out.below (below_al (Below.refl _ _) _) | exact HC.out.drew.below (below_al (Below.refl _ _) _) | exact (HC.out.below (below_al (Below.refl _ _) _)).drew) HS.out).mono ?_
    rintro e w2 ⟨rfl, hb⟩
    have HRq := Lib.hid (Frm.below (w := w) (bs := [(w.heap.size + 1, (rdBox r)), (w.heap.size, (stBox s (.slice A k c)))]) (by (repeat (with_reducible first | exact HR.out | apply Frm.drew | apply Frm.alloc))) hb)
    have HCq := Lib.hid (Chks.below (cs := cs) (by first | exact HC.out | exact HC.out.drew | exact HC.out.below (below_al (Below.refl _ _) _) | exact HC.out.drew.below (below_al (Below.refl _ _) _) | exact (HC.out.below (below_al (Below.refl _ _) _)).drew) hb)
    clear HR HC hb x0 x1
    have HR := HRq
    have HC := HCq
    clear HRq HCq
    have x0 := HR.out.cells (List.mem_cons_self ..)
    have x1 := HR.out.cells (List.mem_cons_of_mem _ (List.mem_cons_self ..))
    go_wp2_with fail
    refine (rStation_is (by first | exact HC.out | exact HC.out.drew | exact HC.out.below (below_al (Below.refl _ _) _) | exact HC.out.drew.below (below_al (Below.refl _ _) _) | exact (HC.out.below (below_al (Below.refl _ _) _)).drew) HS.out).mono ?_
    rintro e w3 ⟨rfl, hb⟩
    have HRq := Lib.hid (Frm.below (w := w) (bs := [(w.heap.size + 1, (rdBox r)), (w.heap.size, (stBox s (.slice A k c)))]) (by (repeat (with_reducible first | exact HR.out | apply Frm.drew | apply Frm.alloc))) hb)
    have HCq := Lib.hid (Chks.below (cs := cs) (by first | exact HC.out | exact HC.out.drew | exact HC.out.below (below_al (Below.refl _ _) _) | exact HC.out.drew.below (below_al (Below.refl _ _) _) | exact (HC.out.below (below_al (Below.refl _ _) _)).drew) hb)
    clear HR HC hb x0 x1
    have HR := HRq
    have HC := HCq
    clear HRq HCq
    have x0 := HR.out.cells (List.mem_cons_self ..)
    have x1 := HR.out.cells (List.mem_cons_of_mem _ (List.mem_cons_self ..))
    go_wp2_with fail
    refine (known_ex _ (HH.out.below (Frm.b (w := w) (bs := [(w.heap.size + 1, (rdBox r)), (w.heap.size, (stBox s (.slice A k c)))]) (by (repeat (with_reducible first | exact HR.out | apply Frm.drew | apply Frm.alloc))))) (HT.out.below (Frm.b (w := w) (bs := [(w.heap.size + 1, (rdBox r)), (w.heap.size, (stBox s (.slice A k c)))]) (by (repeat (with_reducible first | exact HR.out | apply Frm.drew | apply Frm.alloc)))))).mono ?_
    rintro e wz ⟨rfl, hbz⟩
    have HZ := Lib.hid (Frm.below (w := w) (bs := [(w.heap.size + 1, (rdBox r)), (w.heap.size, (stBox s (.slice A k c)))]) (by (repeat (with_reducible first | exact HR.out | apply Frm.drew | apply Frm.alloc))) hbz).b
    clear hbz x0 x1
    go_wp2_with fail
    go_ret
    exact ⟨rfl, HZ.out⟩
  · have HS := Lib.hid hs
    have hg := good_of_soundB hs
    cases hd : readB r
    · have HD := Lib.hid hd
      clear hs hd
      go_wp2_with fail
      refine (when_bad2 (by first | exact HC.out | exact HC.out.drew | exact HC.out.below (below_al (Below.refl _ _) _) | exact HC.out.drew.below (below_al (Below.refl _ _) _) | exact (HC.out.below (below_al (Below.refl _ _) _)).drew) HS.out HD.out).mono ?_
      rintro e w2 ⟨rfl, hb⟩
      have HRq := Lib.hid (Frm.below (w := w) (bs := [(w.heap.size + 1, (rdBox r)), (w.heap.size, (stBox s (.slice A k c)))]) (by (repeat (with_reducible first | exact HR.out | apply Frm.drew | apply Frm.alloc))) hb)
      have HCq := Lib.hid (Chks.below (cs := cs) (by first | exact HC.out | exact HC.out.drew | exact HC.out.below (below_al (Below.refl _ _) _) | exact HC.out.drew.below (below_al (Below.refl _ _) _) | exact (HC.out.below (below_al (Below.refl _ _) _)).drew) hb)
      clear HR HC hb x0 x1
      have HR := HRq
      have HC := HCq
      clear HRq HCq
      have x0 := HR.out.cells (List.mem_cons_self ..)
      have x1 := HR.out.cells (List.mem_cons_of_mem _ (List.mem_cons_self ..))
      go_wp2_with fail
      refine (rStation_is (by first | exact HC.out | exact HC.out.drew | exact HC.out.below (below_al (Below.refl _ _) _) | exact HC.out.drew.below (below_al (Below.refl _ _) _) | exact (HC.out.below (below_al (Below.refl _ _) _)).drew) HS.out).mono ?_
      rintro e w3 ⟨rfl, hb⟩
      have HRq := Lib.hid (Frm.below (w := w) (bs := [(w.heap.size + 1, (rdBox r)), (w.heap.size, (stBox s (.slice A k c)))]) (by (repeat (with_reducible first | exact HR.out | apply Frm.drew | apply Frm.alloc))) hb)
      have HCq := Lib.hid (Chks.below (cs := cs) (by first | exact HC.out | exact HC.out.drew | exact HC.out.below (below_al (Below.refl _ _) _) | exact HC.out.drew.below (below_al (Below.refl _ _) _) | exact (HC.out.below (below_al (Below.refl _ _) _)).drew) hb)
      clear HR HC hb x0 x1
      have HR := HRq
      have HC := HCq
      clear HRq HCq
      have x0 := HR.out.cells (List.mem_cons_self ..)
      have x1 := HR.out.cells (List.mem_cons_of_mem _ (List.mem_cons_self ..))
      go_wp2_with fail
      refine (rReading_is HD.out _).mono ?_
      rintro e w4 ⟨rfl, hb⟩
      have HRq := Lib.hid (Frm.below (w := w) (bs := [(w.heap.size + 1, (rdBox r)), (w.heap.size, (stBox s (.slice A k c)))]) (by (repeat (with_reducible first | exact HR.out | apply Frm.drew | apply Frm.alloc))) hb)
      have HCq := Lib.hid (Chks.below (cs := cs) (by first | exact HC.out | exact HC.out.drew | exact HC.out.below (below_al (Below.refl _ _) _) | exact HC.out.drew.below (below_al (Below.refl _ _) _) | exact (HC.out.below (below_al (Below.refl _ _) _)).drew) hb)
      clear HR HC hb x0 x1
      have HR := HRq
      have HC := HCq
      clear HRq HCq
      have x0 := HR.out.cells (List.mem_cons_self ..)
      have x1 := HR.out.cells (List.mem_cons_of_mem _ (List.mem_cons_self ..))
      go_wp2_with fail
      refine (known_ex _ (HH.out.below (Frm.b (w := w) (bs := [(w.heap.size + 1, (rdBox r)), (w.heap.size, (stBox s (.slice A k c)))]) (by (repeat (with_reducible first | exact HR.out | apply Frm.drew | apply Frm.alloc))))) (HT.out.below (Frm.b (w := w) (bs := [(w.heap.size + 1, (rdBox r)), (w.heap.size, (stBox s (.slice A k c)))]) (by (repeat (with_reducible first | exact HR.out | apply Frm.drew | apply Frm.alloc)))))).mono ?_
      rintro e wz ⟨rfl, hbz⟩
      have HZ := Lib.hid (Frm.below (w := w) (bs := [(w.heap.size + 1, (rdBox r)), (w.heap.size, (stBox s (.slice A k c)))]) (by (repeat (with_reducible first | exact HR.out | apply Frm.drew | apply Frm.alloc))) hbz).b
      clear hbz x0 x1
      go_wp2_with fail
      go_ret
      exact ⟨rfl, HZ.out⟩
    · have HD := Lib.hid hd
      have hr := good_of_readB hd
      have HW : Hid (∀ W, Chks W (.slice A k c) cs → Calls Tryd.prog 17 #[stV s (.slice A k c), rdV r] W fun x w' => OwnSpans2 W w' x (whenL s r)) := Lib.hid (fun W h => when_ok h HS.out HD.out)
      have HRW : Hid (∀ W, Chks W (.slice A k c) cs → Calls Tryd.prog 20 #[stV s (.slice A k c), rdV r] W fun x w' => OwnSpans W w' x (whenL s r)) := Lib.hid (fun W h => rWhen_any h hg hr)
      have hlen : (whenL s r).length ≤ maxLen := by unfold whenL maxLen; split <;> (try split) <;> (try split) <;> simp
      have HLN := Lib.hid hlen
      clear hs hd hlen
      generalize whenL s r = l at *
      go_wp2_with fail
      refine (HW.out _ (by first | exact HC.out | exact HC.out.drew | exact HC.out.below (below_al (Below.refl _ _) _) | exact HC.out.drew.below (below_al (Below.refl _ _) _) | exact (HC.out.below (below_al (Below.refl _ _) _)).drew)).mono ?_
      rintro e w2 ⟨g, hg0, rfl, hg1, hb⟩
      have HRq := Lib.hid (Frm.below (w := w) (bs := [(w.heap.size + 1, (rdBox r)), (w.heap.size, (stBox s (.slice A k c)))]) (by (repeat (with_reducible first | exact HR.out | apply Frm.drew | apply Frm.alloc))) hb)
      have HCq := Lib.hid (Chks.below (cs := cs) (by first | exact HC.out | exact HC.out.drew | exact HC.out.below (below_al (Below.refl _ _) _) | exact HC.out.drew.below (below_al (Below.refl _ _) _) | exact (HC.out.below (below_al (Below.refl _ _) _)).drew) hb)
      have HG := Lib.hid hg1
      clear hg1 hg0
      clear HR HC hb x0 x1
      have HR := HRq
      have HC := HCq
      clear HRq HCq
      have x0 := HR.out.cells (List.mem_cons_self ..)
      have x1 := HR.out.cells (List.mem_cons_of_mem _ (List.mem_cons_self ..))
      go_wp2_with fail
      refine (rStation_is (by first | exact HC.out | exact HC.out.drew | exact HC.out.below (below_al (Below.refl _ _) _) | exact HC.out.drew.below (below_al (Below.refl _ _) _) | exact (HC.out.below (below_al (Below.refl _ _) _)).drew) HS.out).mono ?_
      rintro e w3 ⟨rfl, hb⟩
      have HRq := Lib.hid (Frm.below (w := w) (bs := [(w.heap.size + 1, (rdBox r)), (w.heap.size, (stBox s (.slice A k c)))]) (by (repeat (with_reducible first | exact HR.out | apply Frm.drew | apply Frm.alloc))) hb)
      have HCq := Lib.hid (Chks.below (cs := cs) (by first | exact HC.out | exact HC.out.drew | exact HC.out.below (below_al (Below.refl _ _) _) | exact HC.out.drew.below (below_al (Below.refl _ _) _) | exact (HC.out.below (below_al (Below.refl _ _) _)).drew) hb)
      have HGq := Lib.hid (blk_below HG.out hb)
      clear HG
      have HG := HGq
      clear HGq
      clear HR HC hb x0 x1
      have HR := HRq
      have HC := HCq
      clear HRq HCq
      have x0 := HR.out.cells (List.mem_cons_self ..)
      have x1 := HR.out.cells (List.mem_cons_of_mem _ (List.mem_cons_self ..))
      go_wp2_with fail
      refine (rReading_is HD.out _).mono ?_
      rintro e w4 ⟨rfl, hb⟩
      have HRq := Lib.hid (Frm.below (w := w) (bs := [(w.heap.size + 1, (rdBox r)), (w.heap.size, (stBox s (.slice A k c)))]) (by (repeat (with_reducible first | exact HR.out | apply Frm.drew | apply Frm.alloc))) hb)
      have HCq := Lib.hid (Chks.below (cs := cs) (by first | exact HC.out | exact HC.out.drew | exact HC.out.below (below_al (Below.refl _ _) _) | exact HC.out.drew.below (below_al (Below.refl _ _) _) | exact (HC.out.below (below_al (Below.refl _ _) _)).drew) hb)
      have HGq := Lib.hid (blk_below HG.out hb)
      clear HG
      have HG := HGq
      clear HGq
      clear HR HC hb x0 x1
      have HR := HRq
      have HC := HCq
      clear HRq HCq
      have x0 := HR.out.cells (List.mem_cons_self ..)
      have x1 := HR.out.cells (List.mem_cons_of_mem _ (List.mem_cons_self ..))
      go_wp2_with fail
      refine (HRW.out _ (by first | exact HC.out | exact HC.out.drew | exact HC.out.below (below_al (Below.refl _ _) _) | exact HC.out.drew.below (below_al (Below.refl _ _) _) | exact (HC.out.below (below_al (Below.refl _ _) _)).drew)).mono ?_
      rintro e w5 ⟨g2, hg0, rfl, hg1, hb⟩
      have HRq := Lib.hid (Frm.below (w := w) (bs := [(w.heap.size + 1, (rdBox r)), (w.heap.size, (stBox s (.slice A k c)))]) (by (repeat (with_reducible first | exact HR.out | apply Frm.drew | apply Frm.alloc))) hb)
      have HCq := Lib.hid (Chks.below (cs := cs) (by first | exact HC.out | exact HC.out.drew | exact HC.out.below (below_al (Below.refl _ _) _) | exact HC.out.drew.below (below_al (Below.refl _ _) _) | exact (HC.out.below (below_al (Below.refl _ _) _)).drew) hb)
      have HJ := Lib.hid hg1
      clear hg1 hg0
      have HGq := Lib.hid (blk_below HG.out hb)
      clear HG
      have HG := HGq
      clear HGq
      clear HR HC hb x0 x1
      have HR := HRq
      have HC := HCq
      clear HRq HCq
      have x0 := HR.out.cells (List.mem_cons_self ..)
      have x1 := HR.out.cells (List.mem_cons_of_mem _ (List.mem_cons_self ..))
      go_wp2_with fail
      refine (sameSpans_some l g 0 l.length g2 0 l.length _ (Nat.le_refl _) HLN.out (lt_of_blk HG.out) (lt_of_blk HJ.out) (spsAt_of HG.out) (spsAt_of HJ.out)).mono ?_
      rintro e w6 ⟨rfl, hb⟩
      have HRq := Lib.hid (Frm.below (w := w) (bs := [(w.heap.size + 1, (rdBox r)), (w.heap.size, (stBox s (.slice A k c)))]) (by (repeat (with_reducible first | exact HR.out | apply Frm.drew | apply Frm.alloc))) hb)
      have HCq := Lib.hid (Chks.below (cs := cs) (by first | exact HC.out | exact HC.out.drew | exact HC.out.below (below_al (Below.refl _ _) _) | exact HC.out.drew.below (below_al (Below.refl _ _) _) | exact (HC.out.below (below_al (Below.refl _ _) _)).drew) hb)
      clear HR HC hb x0 x1
      have HR := HRq
      have HC := HCq
      clear HRq HCq
      have x0 := HR.out.cells (List.mem_cons_self ..)
      have x1 := HR.out.cells (List.mem_cons_of_mem _ (List.mem_cons_self ..))
      go_wp2_with fail
      refine (known_ex _ (HH.out.below (Frm.b (w := w) (bs := [(w.heap.size + 1, (rdBox r)), (w.heap.size, (stBox s (.slice A k c)))]) (by (repeat (with_reducible first | exact HR.out | apply Frm.drew | apply Frm.alloc))))) (HT.out.below (Frm.b (w := w) (bs := [(w.heap.size + 1, (rdBox r)), (w.heap.size, (stBox s (.slice A k c)))]) (by (repeat (with_reducible first | exact HR.out | apply Frm.drew | apply Frm.alloc)))))).mono ?_
      rintro e wz ⟨rfl, hbz⟩
      have HZ := Lib.hid (Frm.below (w := w) (bs := [(w.heap.size + 1, (rdBox r)), (w.heap.size, (stBox s (.slice A k c)))]) (by (repeat (with_reducible first | exact HR.out | apply Frm.drew | apply Frm.alloc))) hbz).b
      clear hbz x0 x1
      go_wp2_with fail
      go_ret
      exact ⟨rfl, HZ.out⟩
end Go.Proofs.YtkdbfpllibjniaaDoor
