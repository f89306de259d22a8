/- The law GlassPlays, walked. -/
import Derived.Test.YtipckgojoanokaaDoorAln
import Derived.Test.YtipckgojoanokaaDoorRtr
import Derived.Test.YtipckgojoanokaaDoorRpl
set_option linter.unusedVariables false
set_option linter.unusedSimpArgs false
namespace Go.Proofs.YtipckgojoanokaaDoor
open Go.RowKit Go.Maps

set_option maxHeartbeats 40000000 in
set_option maxRecDepth 100000 in
theorem lawGlassPlays {s : Stn} {v : Value} {cs : List Chk} {r : Rdg} {t : Tru} {w : World} (hc : Chks w v cs) (hh : Holds w) (ht : Tab w) :
    Calls Tryd.prog 10 #[stV s v, rdV r, trV t] w fun e w' => e = .returned (.bool true) ∧ Below w.heap.size w w' := by
  obtain ⟨A, k, c, rfl⟩ := hc.shape
  have HR : Hid (Frm w [(w.heap.size + 1 + 1, (.cells #[.int .i64 t.ix, .int .i64 t.er, .int .i64 t.gr, .int .i64 t.he, .int .i64 t.aT, .int .i64 t.dT, .int .i64 t.wT] 57)), (w.heap.size + 1, (rdBox r)), (w.heap.size, (stBox s (.slice A k c)))] (((w.alloc (stBox s (.slice A k c))).alloc (rdBox r)).alloc (.cells #[.int .i64 t.ix, .int .i64 t.er, .int .i64 t.gr, .int .i64 t.he, .int .i64 t.aT, .int .i64 t.dT, .int .i64 t.wT] 57))) := Lib.hid ((((Frm.nil w).add _ (by simp)).add _ (by simp)).add _ (by simp))
  have HC := Lib.hid (hc.below HR.out.b)
  have HH := Lib.hid hh
  have HT := Lib.hid ht
  clear hc hh ht
  have x0 := HR.out.cells (List.mem_cons_self ..)
  have x1 := HR.out.cells (List.mem_cons_of_mem _ (List.mem_cons_self ..))
  have x2 := HR.out.cells (List.mem_cons_of_mem _ (List.mem_cons_of_mem _ (List.mem_cons_self ..)))
  go_enter Tryd.func10, Tryd.ntmps10
  go_wp2_with fail
  refine (short_any (by first | exact HC.out | exact HC.out.drew | exact HC.out.below (below_al (Below.refl _ _) _) | exact HC.out.drew.below (below_al (Below.refl _ _) _) | exact (HC.out.below (below_al (Below.refl _ _) _)).drew)).mono ?_
  rintro e w1 ⟨rfl, hb⟩
  have HRq := Lib.hid (Frm.below (w := w) (bs := [(w.heap.size + 1 + 1, (.cells #[.int .i64 t.ix, .int .i64 t.er, .int .i64 t.gr, .int .i64 t.he, .int .i64 t.aT, .int .i64 t.dT, .int .i64 t.wT] 57)), (w.heap.size + 1, (rdBox r)), (w.heap.size, (stBox s (.slice A k c)))]) (by (repeat (with_reducible first | exact HR.out | apply Frm.drew | apply Frm.alloc))) hb)
  have HCq := Lib.hid (Chks.below (cs := cs) (by first | exact HC.out | exact HC.out.drew | exact HC.out.below (below_al (Below.refl _ _) _) | exact HC.out.drew.below (below_al (Below.refl _ _) _) | exact (HC.out.below (below_al (Below.refl _ _) _)).drew) hb)
  clear HR HC hb x0 x1 x2
  have HR := HRq
  have HC := HCq
  clear HRq HCq
  have x0 := HR.out.cells (List.mem_cons_self ..)
  have x1 := HR.out.cells (List.mem_cons_of_mem _ (List.mem_cons_self ..))
  have x2 := HR.out.cells (List.mem_cons_of_mem _ (List.mem_cons_of_mem _ (List.mem_cons_self ..)))
  by_cases h16 : cs.length ≤ 16
  rotate_left
  · go_wp2_with fail
    refine (known_ex _ (HH.out.below (Frm.b (w := w) (bs := [(w.heap.size + 1 + 1, (.cells #[.int .i64 t.ix, .int .i64 t.er, .int .i64 t.gr, .int .i64 t.he, .int .i64 t.aT, .int .i64 t.dT, .int .i64 t.wT] 57)), (w.heap.size + 1, (rdBox r)), (w.heap.size, (stBox s (.slice A k c)))]) (by (repeat (with_reducible first | exact HR.out | apply Frm.drew | apply Frm.alloc))))) (HT.out.below (Frm.b (w := w) (bs := [(w.heap.size + 1 + 1, (.cells #[.int .i64 t.ix, .int .i64 t.er, .int .i64 t.gr, .int .i64 t.he, .int .i64 t.aT, .int .i64 t.dT, .int .i64 t.wT] 57)), (w.heap.size + 1, (rdBox r)), (w.heap.size, (stBox s (.slice A k c)))]) (by (repeat (with_reducible first | exact HR.out | apply Frm.drew | apply Frm.alloc)))))).mono ?_
    rintro e wz ⟨rfl, hbz⟩
    have HZ := Lib.hid (Frm.below (w := w) (bs := [(w.heap.size + 1 + 1, (.cells #[.int .i64 t.ix, .int .i64 t.er, .int .i64 t.gr, .int .i64 t.he, .int .i64 t.aT, .int .i64 t.dT, .int .i64 t.wT] 57)), (w.heap.size + 1, (rdBox r)), (w.heap.size, (stBox s (.slice A k c)))]) (by (repeat (with_reducible first | exact HR.out | apply Frm.drew | apply Frm.alloc))) hbz).b
    clear hbz x0 x1 x2
    go_wp2_with fail
    go_ret
    exact ⟨rfl, HZ.out⟩
  cases hs : soundB s cs
  · have HS := Lib.hid hs
    have HQ := Lib.hid (askF_bad (fine := readB r) hs)
    clear hs
    go_wp2_with fail
    refine (play_bad1 (by first | exact HC.out | exact HC.out.drew | exact HC.out.below (below_al (Below.refl _ _) _) | exact HC.out.drew.below (below_al (Below.refl _ _) _) | exact (HC.out.below (below_al (Below.refl _ _) _)).drew) HS.out).mono ?_
    rintro e w2 ⟨rfl, hb⟩
    have HRq := Lib.hid ((Frm.below (w := w) (bs := [(w.heap.size + 1 + 1, (.cells #[.int .i64 t.ix, .int .i64 t.er, .int .i64 t.gr, .int .i64 t.he, .int .i64 t.aT, .int .i64 t.dT, .int .i64 t.wT] 57)), (w.heap.size + 1, (rdBox r)), (w.heap.size, (stBox s (.slice A k c)))]) (by (repeat (with_reducible first | exact HR.out | apply Frm.drew | apply Frm.alloc))) hb).add (.cells #[.int .i64 0, .int .i64 0, .int .i64 0] 59) rfl)
    have HCq := Lib.hid (Chks.below (cs := cs) (by first | exact HC.out | exact HC.out.drew | exact HC.out.below (below_al (Below.refl _ _) _) | exact HC.out.drew.below (below_al (Below.refl _ _) _) | exact (HC.out.below (below_al (Below.refl _ _) _)).drew) hb |>.below (below_al (Below.refl _ _) (.cells #[.int .i64 0, .int .i64 0, .int .i64 0] 59)))
    clear HR HC hb x0 x1 x2
    have HR := HRq
    have HC := HCq
    clear HRq HCq
    have x0 := HR.out.cells (List.mem_cons_self ..)
    have x1 := HR.out.cells (List.mem_cons_of_mem _ (List.mem_cons_self ..))
    have x2 := HR.out.cells (List.mem_cons_of_mem _ (List.mem_cons_of_mem _ (List.mem_cons_self ..)))
    have x3 := HR.out.cells (List.mem_cons_of_mem _ (List.mem_cons_of_mem _ (List.mem_cons_of_mem _ (List.mem_cons_self ..))))
    go_upto_region 4 with fail
    go_region_held3 (fun w' => (∀ o, w'.cell? ⟨w.heap.size + 1, o, none⟩ = #[Value.int .i64 r.day, .int .i64 r.mi, .int .i64 r.cl, .int .i64 r.me, .int .i64 r.al, .int .i64 r.ah, .int .i64 r.dl, .int .i64 r.dh, .int .i64 r.wl, .int .i64 r.wh][o]?) ∧ (∀ o, w'.cell? ⟨w.heap.size, o, none⟩ = #[Value.int .i64 s.hl, .int .i64 s.hh, .int .i64 s.gl, .int .i64 s.gh, .int .i64 s.dr, .int .i64 s.rd, .int .i64 s.ea, .int .i64 s.sl, .slice A k c][o]?)) ((exact (fun hF : Frm w [(w2.heap.size, (.cells #[.int .i64 0, .int .i64 0, .int .i64 0] 59)), (w.heap.size + 1 + 1, (.cells #[.int .i64 t.ix, .int .i64 t.er, .int .i64 t.gr, .int .i64 t.he, .int .i64 t.aT, .int .i64 t.dT, .int .i64 t.wT] 57)), (w.heap.size + 1, (rdBox r)), (w.heap.size, (stBox s (.slice A k c)))] _ => ⟨hF.cells (List.mem_cons_of_mem _ (List.mem_cons_of_mem _ (List.mem_cons_self ..))), hF.cells (List.mem_cons_of_mem _ (List.mem_cons_of_mem _ (List.mem_cons_of_mem _ (List.mem_cons_self ..))))⟩) (by (repeat (with_reducible first | exact HR.out | apply Frm.drew | apply Frm.alloc))))) (first | (go_at_call 33; refine (rReading_any _ _).mono ?_; rintro e wa ⟨rfl, hba⟩; have HCq := Lib.hid (Chks.below (cs := cs) (by first | exact HC.out | exact HC.out.drew | exact HC.out.below (below_al (Below.refl _ _) _) | exact HC.out.drew.below (below_al (Below.refl _ _) _) | exact (HC.out.below (below_al (Below.refl _ _) _)).drew) hba); have HRq := Lib.hid (Frm.below (w := w) (bs := [(w2.heap.size, (.cells #[.int .i64 0, .int .i64 0, .int .i64 0] 59)), (w.heap.size + 1 + 1, (.cells #[.int .i64 t.ix, .int .i64 t.er, .int .i64 t.gr, .int .i64 t.he, .int .i64 t.aT, .int .i64 t.dT, .int .i64 t.wT] 57)), (w.heap.size + 1, (rdBox r)), (w.heap.size, (stBox s (.slice A k c)))]) (by (repeat (with_reducible first | exact HR.out | apply Frm.drew | apply Frm.alloc))) hba); clear HR HC; have HR := HRq; have HC := HCq; clear HRq HCq hba) | (go_at_call 20; refine (asked_is (by first | exact HC.out | exact HC.out.drew | exact HC.out.below (below_al (Below.refl _ _) _) | exact HC.out.drew.below (below_al (Below.refl _ _) _) | exact (HC.out.below (below_al (Below.refl _ _) _)).drew) HQ.out).mono ?_; rintro e wa ⟨rfl, hba⟩; have HCq := Lib.hid (Chks.below (cs := cs) (by first | exact HC.out | exact HC.out.drew | exact HC.out.below (below_al (Below.refl _ _) _) | exact HC.out.drew.below (below_al (Below.refl _ _) _) | exact (HC.out.below (below_al (Below.refl _ _) _)).drew) hba); have HRq := Lib.hid (Frm.below (w := w) (bs := [(w2.heap.size, (.cells #[.int .i64 0, .int .i64 0, .int .i64 0] 59)), (w.heap.size + 1 + 1, (.cells #[.int .i64 t.ix, .int .i64 t.er, .int .i64 t.gr, .int .i64 t.he, .int .i64 t.aT, .int .i64 t.dT, .int .i64 t.wT] 57)), (w.heap.size + 1, (rdBox r)), (w.heap.size, (stBox s (.slice A k c)))]) (by (repeat (with_reducible first | exact HR.out | apply Frm.drew | apply Frm.alloc))) hba); clear HR HC; have HR := HRq; have HC := HCq; clear HRq HCq hba))
    clear x0 x1 x2 x3
    have x0 := HR.out.cells (List.mem_cons_self ..)
    have x1 := HR.out.cells (List.mem_cons_of_mem _ (List.mem_cons_self ..))
    have x2 := HR.out.cells (List.mem_cons_of_mem _ (List.mem_cons_of_mem _ (List.mem_cons_self ..)))
    have x3 := HR.out.cells (List.mem_cons_of_mem _ (List.mem_cons_of_mem _ (List.mem_cons_of_mem _ (List.mem_cons_self ..))))
    go_wp2_with fail
    refine (known_ex _ (HH.out.below (Frm.b (w := w) (bs := [(w2.heap.size, (.cells #[.int .i64 0, .int .i64 0, .int .i64 0] 59)), (w.heap.size + 1 + 1, (.cells #[.int .i64 t.ix, .int .i64 t.er, .int .i64 t.gr, .int .i64 t.he, .int .i64 t.aT, .int .i64 t.dT, .int .i64 t.wT] 57)), (w.heap.size + 1, (rdBox r)), (w.heap.size, (stBox s (.slice A k c)))]) (by (repeat (with_reducible first | exact HR.out | apply Frm.drew | apply Frm.alloc))))) (HT.out.below (Frm.b (w := w) (bs := [(w2.heap.size, (.cells #[.int .i64 0, .int .i64 0, .int .i64 0] 59)), (w.heap.size + 1 + 1, (.cells #[.int .i64 t.ix, .int .i64 t.er, .int .i64 t.gr, .int .i64 t.he, .int .i64 t.aT, .int .i64 t.dT, .int .i64 t.wT] 57)), (w.heap.size + 1, (rdBox r)), (w.heap.size, (stBox s (.slice A k c)))]) (by (repeat (with_reducible first | exact HR.out | apply Frm.drew | apply Frm.alloc)))))).mono ?_
    rintro e wz ⟨rfl, hbz⟩
    have HZ := Lib.hid (Frm.below (w := w) (bs := [(w2.heap.size, (.cells #[.int .i64 0, .int .i64 0, .int .i64 0] 59)), (w.heap.size + 1 + 1, (.cells #[.int .i64 t.ix, .int .i64 t.er, .int .i64 t.gr, .int .i64 t.he, .int .i64 t.aT, .int .i64 t.dT, .int .i64 t.wT] 57)), (w.heap.size + 1, (rdBox r)), (w.heap.size, (stBox s (.slice A k c)))]) (by (repeat (with_reducible first | exact HR.out | apply Frm.drew | apply Frm.alloc))) hbz).b
    clear hbz x0 x1 x2 x3
    go_wp2_with fail
    go_ret
    exact ⟨rfl, HZ.out⟩
  · have hg := good_of_soundB hs
    have HS := Lib.hid hs
    cases hd : readB r
    · have HD := Lib.hid hd
      have HQ := Lib.hid (askF_not (s := s) (cs := cs))
      clear hd hs
      go_wp2_with fail
      refine (play_bad2 (by first | exact HC.out | exact HC.out.drew | exact HC.out.below (below_al (Below.refl _ _) _) | exact HC.out.drew.below (below_al (Below.refl _ _) _) | exact (HC.out.below (below_al (Below.refl _ _) _)).drew) HS.out HD.out).mono ?_
      rintro e w2 ⟨rfl, hb⟩
      have HRq := Lib.hid ((Frm.below (w := w) (bs := [(w.heap.size + 1 + 1, (.cells #[.int .i64 t.ix, .int .i64 t.er, .int .i64 t.gr, .int .i64 t.he, .int .i64 t.aT, .int .i64 t.dT, .int .i64 t.wT] 57)), (w.heap.size + 1, (rdBox r)), (w.heap.size, (stBox s (.slice A k c)))]) (by (repeat (with_reducible first | exact HR.out | apply Frm.drew | apply Frm.alloc))) hb).add (.cells #[.int .i64 0, .int .i64 0, .int .i64 0] 59) rfl)
      have HCq := Lib.hid (Chks.below (cs := cs) (by first | exact HC.out | exact HC.out.drew | exact HC.out.below (below_al (Below.refl _ _) _) | exact HC.out.drew.below (below_al (Below.refl _ _) _) | exact (HC.out.below (below_al (Below.refl _ _) _)).drew) hb |>.below (below_al (Below.refl _ _) (.cells #[.int .i64 0, .int .i64 0, .int .i64 0] 59)))
      clear HR HC hb x0 x1 x2
      have HR := HRq
      have HC := HCq
      clear HRq HCq
      have x0 := HR.out.cells (List.mem_cons_self ..)
      have x1 := HR.out.cells (List.mem_cons_of_mem _ (List.mem_cons_self ..))
      have x2 := HR.out.cells (List.mem_cons_of_mem _ (List.mem_cons_of_mem _ (List.mem_cons_self ..)))
      have x3 := HR.out.cells (List.mem_cons_of_mem _ (List.mem_cons_of_mem _ (List.mem_cons_of_mem _ (List.mem_cons_self ..))))
      go_upto_region 4 with fail
      go_region_held3 (fun w' => (∀ o, w'.cell? ⟨w.heap.size + 1, o, none⟩ = #[Value.int .i64 r.day, .int .i64 r.mi, .int .i64 r.cl, .int .i64 r.me, .int .i64 r.al, .int .i64 r.ah, .int .i64 r.dl, .int .i64 r.dh, .int .i64 r.wl, .int .i64 r.wh][o]?) ∧ (∀ o, w'.cell? ⟨w.heap.size, o, none⟩ = #[Value.int .i64 s.hl, .int .i64 s.hh, .int .i64 s.gl, .int .i64 s.gh, .int .i64 s.dr, .int .i64 s.rd, .int .i64 s.ea, .int .i64 s.sl, .slice A k c][o]?)) ((exact (fun hF : Frm w [(w2.heap.size, (.cells #[.int .i64 0, .int .i64 0, .int .i64 0] 59)), (w.heap.size + 1 + 1, (.cells #[.int .i64 t.ix, .int .i64 t.er, .int .i64 t.gr, .int .i64 t.he, .int .i64 t.aT, .int .i64 t.dT, .int .i64 t.wT] 57)), (w.heap.size + 1, (rdBox r)), (w.heap.size, (stBox s (.slice A k c)))] _ => ⟨hF.cells (List.mem_cons_of_mem _ (List.mem_cons_of_mem _ (List.mem_cons_self ..))), hF.cells (List.mem_cons_of_mem _ (List.mem_cons_of_mem _ (List.mem_cons_of_mem _ (List.mem_cons_self ..))))⟩) (by (repeat (with_reducible first | exact HR.out | apply Frm.drew | apply Frm.alloc))))) (first | (go_at_call 33; refine (rReading_is HD.out _).mono ?_; rintro e wa ⟨rfl, hba⟩; have HCq := Lib.hid (Chks.below (cs := cs) (by first | exact HC.out | exact HC.out.drew | exact HC.out.below (below_al (Below.refl _ _) _) | exact HC.out.drew.below (below_al (Below.refl _ _) _) | exact (HC.out.below (below_al (Below.refl _ _) _)).drew) hba); have HRq := Lib.hid (Frm.below (w := w) (bs := [(w2.heap.size, (.cells #[.int .i64 0, .int .i64 0, .int .i64 0] 59)), (w.heap.size + 1 + 1, (.cells #[.int .i64 t.ix, .int .i64 t.er, .int .i64 t.gr, .int .i64 t.he, .int .i64 t.aT, .int .i64 t.dT, .int .i64 t.wT] 57)), (w.heap.size + 1, (rdBox r)), (w.heap.size, (stBox s (.slice A k c)))]) (by (repeat (with_reducible first | exact HR.out | apply Frm.drew | apply Frm.alloc))) hba); clear HR HC; have HR := HRq; have HC := HCq; clear HRq HCq hba) | (go_at_call 20; refine (asked_is (by first | exact HC.out | exact HC.out.drew | exact HC.out.below (below_al (Below.refl _ _) _) | exact HC.out.drew.below (below_al (Below.refl _ _) _) | exact (HC.out.below (below_al (Below.refl _ _) _)).drew) HQ.out).mono ?_; rintro e wa ⟨rfl, hba⟩; have HCq := Lib.hid (Chks.below (cs := cs) (by first | exact HC.out | exact HC.out.drew | exact HC.out.below (below_al (Below.refl _ _) _) | exact HC.out.drew.below (below_al (Below.refl _ _) _) | exact (HC.out.below (below_al (Below.refl _ _) _)).drew) hba); have HRq := Lib.hid (Frm.below (w := w) (bs := [(w2.heap.size, (.cells #[.int .i64 0, .int .i64 0, .int .i64 0] 59)), (w.heap.size + 1 + 1, (.cells #[.int .i64 t.ix, .int .i64 t.er, .int .i64 t.gr, .int .i64 t.he, .int .i64 t.aT, .int .i64 t.dT, .int .i64 t.wT] 57)), (w.heap.size + 1, (rdBox r)), (w.heap.size, (stBox s (.slice A k c)))]) (by (repeat (with_reducible first | exact HR.out | apply Frm.drew | apply Frm.alloc))) hba); clear HR HC; have HR := HRq; have HC := HCq; clear HRq HCq hba))
      clear x0 x1 x2 x3
      have x0 := HR.out.cells (List.mem_cons_self ..)
      have x1 := HR.out.cells (List.mem_cons_of_mem _ (List.mem_cons_self ..))
      have x2 := HR.out.cells (List.mem_cons_of_mem _ (List.mem_cons_of_mem _ (List.mem_cons_self ..)))
      have x3 := HR.out.cells (List.mem_cons_of_mem _ (List.mem_cons_of_mem _ (List.mem_cons_of_mem _ (List.mem_cons_self ..))))
      go_wp2_with fail
      refine (known_ex _ (HH.out.below (Frm.b (w := w) (bs := [(w2.heap.size, (.cells #[.int .i64 0, .int .i64 0, .int .i64 0] 59)), (w.heap.size + 1 + 1, (.cells #[.int .i64 t.ix, .int .i64 t.er, .int .i64 t.gr, .int .i64 t.he, .int .i64 t.aT, .int .i64 t.dT, .int .i64 t.wT] 57)), (w.heap.size + 1, (rdBox r)), (w.heap.size, (stBox s (.slice A k c)))]) (by (repeat (with_reducible first | exact HR.out | apply Frm.drew | apply Frm.alloc))))) (HT.out.below (Frm.b (w := w) (bs := [(w2.heap.size, (.cells #[.int .i64 0, .int .i64 0, .int .i64 0] 59)), (w.heap.size + 1 + 1, (.cells #[.int .i64 t.ix, .int .i64 t.er, .int .i64 t.gr, .int .i64 t.he, .int .i64 t.aT, .int .i64 t.dT, .int .i64 t.wT] 57)), (w.heap.size + 1, (rdBox r)), (w.heap.size, (stBox s (.slice A k c)))]) (by (repeat (with_reducible first | exact HR.out | apply Frm.drew | apply Frm.alloc)))))).mono ?_
      rintro e wz ⟨rfl, hbz⟩
      have HZ := Lib.hid (Frm.below (w := w) (bs := [(w2.heap.size, (.cells #[.int .i64 0, .int .i64 0, .int .i64 0] 59)), (w.heap.size + 1 + 1, (.cells #[.int .i64 t.ix, .int .i64 t.er, .int .i64 t.gr, .int .i64 t.he, .int .i64 t.aT, .int .i64 t.dT, .int .i64 t.wT] 57)), (w.heap.size + 1, (rdBox r)), (w.heap.size, (stBox s (.slice A k c)))]) (by (repeat (with_reducible first | exact HR.out | apply Frm.drew | apply Frm.alloc))) hbz).b
      clear hbz x0 x1 x2 x3
      go_wp2_with fail
      go_ret
      exact ⟨rfl, HZ.out⟩
    · have HD := Lib.hid hd
      have hr := good_of_readB hd
      rcases agreed_or s cs with hag | ⟨i, j, hf⟩
      · have HA := Lib.hid hag
        have HQ := Lib.hid (askF_ok hs hag)
        cases hal : allowB s cs r t
        · have HL := Lib.hid hal
          clear hd hs hag hal
          go_wp2_with fail
          refine (play_no (by first | exact HC.out | exact HC.out.drew | exact HC.out.below (below_al (Below.refl _ _) _) | exact HC.out.drew.below (below_al (Below.refl _ _) _) | exact (HC.out.below (below_al (Below.refl _ _) _)).drew) HS.out HD.out HA.out HL.out).mono ?_
          rintro e w2 ⟨rfl, hb⟩
          have HRq := Lib.hid ((Frm.below (w := w) (bs := [(w.heap.size + 1 + 1, (.cells #[.int .i64 t.ix, .int .i64 t.er, .int .i64 t.gr, .int .i64 t.he, .int .i64 t.aT, .int .i64 t.dT, .int .i64 t.wT] 57)), (w.heap.size + 1, (rdBox r)), (w.heap.size, (stBox s (.slice A k c)))]) (by (repeat (with_reducible first | exact HR.out | apply Frm.drew | apply Frm.alloc))) hb).add (.cells #[.int .i64 0, .int .i64 0, .int .i64 0] 59) rfl)
          have HCq := Lib.hid (Chks.below (cs := cs) (by first | exact HC.out | exact HC.out.drew | exact HC.out.below (below_al (Below.refl _ _) _) | exact HC.out.drew.below (below_al (Below.refl _ _) _) | exact (HC.out.below (below_al (Below.refl _ _) _)).drew) hb |>.below (below_al (Below.refl _ _) (.cells #[.int .i64 0, .int .i64 0, .int .i64 0] 59)))
          clear HR HC hb x0 x1 x2
          have HR := HRq
          have HC := HCq
          clear HRq HCq
          have x0 := HR.out.cells (List.mem_cons_self ..)
          have x1 := HR.out.cells (List.mem_cons_of_mem _ (List.mem_cons_self ..))
          have x2 := HR.out.cells (List.mem_cons_of_mem _ (List.mem_cons_of_mem _ (List.mem_cons_self ..)))
          have x3 := HR.out.cells (List.mem_cons_of_mem _ (List.mem_cons_of_mem _ (List.mem_cons_of_mem _ (List.mem_cons_self ..))))
          go_upto_region 4 with fail
          go_region_held3 (fun w' => (∀ o, w'.cell? ⟨w.heap.size + 1, o, none⟩ = #[Value.int .i64 r.day, .int .i64 r.mi, .int .i64 r.cl, .int .i64 r.me, .int .i64 r.al, .int .i64 r.ah, .int .i64 r.dl, .int .i64 r.dh, .int .i64 r.wl, .int .i64 r.wh][o]?) ∧ (∀ o, w'.cell? ⟨w.heap.size, o, none⟩ = #[Value.int .i64 s.hl, .int .i64 s.hh, .int .i64 s.gl, .int .i64 s.gh, .int .i64 s.dr, .int .i64 s.rd, .int .i64 s.ea, .int .i64 s.sl, .slice A k c][o]?)) ((exact (fun hF : Frm w [(w2.heap.size, (.cells #[.int .i64 0, .int .i64 0, .int .i64 0] 59)), (w.heap.size + 1 + 1, (.cells #[.int .i64 t.ix, .int .i64 t.er, .int .i64 t.gr, .int .i64 t.he, .int .i64 t.aT, .int .i64 t.dT, .int .i64 t.wT] 57)), (w.heap.size + 1, (rdBox r)), (w.heap.size, (stBox s (.slice A k c)))] _ => ⟨hF.cells (List.mem_cons_of_mem _ (List.mem_cons_of_mem _ (List.mem_cons_self ..))), hF.cells (List.mem_cons_of_mem _ (List.mem_cons_of_mem _ (List.mem_cons_of_mem _ (List.mem_cons_self ..))))⟩) (by (repeat (with_reducible first | exact HR.out | apply Frm.drew | apply Frm.alloc))))) (first | (go_at_call 33; refine (rReading_is HD.out _).mono ?_; rintro e wa ⟨rfl, hba⟩; have HCq := Lib.hid (Chks.below (cs := cs) (by first | exact HC.out | exact HC.out.drew | exact HC.out.below (below_al (Below.refl _ _) _) | exact HC.out.drew.below (below_al (Below.refl _ _) _) | exact (HC.out.below (below_al (Below.refl _ _) _)).drew) hba); have HRq := Lib.hid (Frm.below (w := w) (bs := [(w2.heap.size, (.cells #[.int .i64 0, .int .i64 0, .int .i64 0] 59)), (w.heap.size + 1 + 1, (.cells #[.int .i64 t.ix, .int .i64 t.er, .int .i64 t.gr, .int .i64 t.he, .int .i64 t.aT, .int .i64 t.dT, .int .i64 t.wT] 57)), (w.heap.size + 1, (rdBox r)), (w.heap.size, (stBox s (.slice A k c)))]) (by (repeat (with_reducible first | exact HR.out | apply Frm.drew | apply Frm.alloc))) hba); clear HR HC; have HR := HRq; have HC := HCq; clear HRq HCq hba) | (go_at_call 20; refine (asked_is (by first | exact HC.out | exact HC.out.drew | exact HC.out.below (below_al (Below.refl _ _) _) | exact HC.out.drew.below (below_al (Below.refl _ _) _) | exact (HC.out.below (below_al (Below.refl _ _) _)).drew) HQ.out).mono ?_; rintro e wa ⟨rfl, hba⟩; have HCq := Lib.hid (Chks.below (cs := cs) (by first | exact HC.out | exact HC.out.drew | exact HC.out.below (below_al (Below.refl _ _) _) | exact HC.out.drew.below (below_al (Below.refl _ _) _) | exact (HC.out.below (below_al (Below.refl _ _) _)).drew) hba); have HRq := Lib.hid (Frm.below (w := w) (bs := [(w2.heap.size, (.cells #[.int .i64 0, .int .i64 0, .int .i64 0] 59)), (w.heap.size + 1 + 1, (.cells #[.int .i64 t.ix, .int .i64 t.er, .int .i64 t.gr, .int .i64 t.he, .int .i64 t.aT, .int .i64 t.dT, .int .i64 t.wT] 57)), (w.heap.size + 1, (rdBox r)), (w.heap.size, (stBox s (.slice A k c)))]) (by (repeat (with_reducible first | exact HR.out | apply Frm.drew | apply Frm.alloc))) hba); clear HR HC; have HR := HRq; have HC := HCq; clear HRq HCq hba))
          clear x0 x1 x2 x3
          have x0 := HR.out.cells (List.mem_cons_self ..)
          have x1 := HR.out.cells (List.mem_cons_of_mem _ (List.mem_cons_self ..))
          have x2 := HR.out.cells (List.mem_cons_of_mem _ (List.mem_cons_of_mem _ (List.mem_cons_self ..)))
          have x3 := HR.out.cells (List.mem_cons_of_mem _ (List.mem_cons_of_mem _ (List.mem_cons_of_mem _ (List.mem_cons_self ..))))
          go_wp2_with fail
          refine (rTruth_is (by first | exact HC.out | exact HC.out.drew | exact HC.out.below (below_al (Below.refl _ _) _) | exact HC.out.drew.below (below_al (Below.refl _ _) _) | exact (HC.out.below (below_al (Below.refl _ _) _)).drew) hg hr HL.out).mono ?_
          rintro e w3 ⟨rfl, hb⟩
          have HRq := Lib.hid (Frm.below (w := w) (bs := [(w2.heap.size, (.cells #[.int .i64 0, .int .i64 0, .int .i64 0] 59)), (w.heap.size + 1 + 1, (.cells #[.int .i64 t.ix, .int .i64 t.er, .int .i64 t.gr, .int .i64 t.he, .int .i64 t.aT, .int .i64 t.dT, .int .i64 t.wT] 57)), (w.heap.size + 1, (rdBox r)), (w.heap.size, (stBox s (.slice A k c)))]) (by (repeat (with_reducible first | exact HR.out | apply Frm.drew | apply Frm.alloc))) hb)
          have HCq := Lib.hid (Chks.below (cs := cs) (by first | exact HC.out | exact HC.out.drew | exact HC.out.below (below_al (Below.refl _ _) _) | exact HC.out.drew.below (below_al (Below.refl _ _) _) | exact (HC.out.below (below_al (Below.refl _ _) _)).drew) hb)
          clear HR HC hb x0 x1 x2 x3
          have HR := HRq
          have HC := HCq
          clear HRq HCq
          have x0 := HR.out.cells (List.mem_cons_self ..)
          have x1 := HR.out.cells (List.mem_cons_of_mem _ (List.mem_cons_self ..))
          have x2 := HR.out.cells (List.mem_cons_of_mem _ (List.mem_cons_of_mem _ (List.mem_cons_self ..)))
          have x3 := HR.out.cells (List.mem_cons_of_mem _ (List.mem_cons_of_mem _ (List.mem_cons_of_mem _ (List.mem_cons_self ..))))
          go_wp2_with fail
          refine (known_ex _ (HH.out.below (Frm.b (w := w) (bs := [(w2.heap.size, (.cells #[.int .i64 0, .int .i64 0, .int .i64 0] 59)), (w.heap.size + 1 + 1, (.cells #[.int .i64 t.ix, .int .i64 t.er, .int .i64 t.gr, .int .i64 t.he, .int .i64 t.aT, .int .i64 t.dT, .int .i64 t.wT] 57)), (w.heap.size + 1, (rdBox r)), (w.heap.size, (stBox s (.slice A k c)))]) (by (repeat (with_reducible first | exact HR.out | apply Frm.drew | apply Frm.alloc))))) (HT.out.below (Frm.b (w := w) (bs := [(w2.heap.size, (.cells #[.int .i64 0, .int .i64 0, .int .i64 0] 59)), (w.heap.size + 1 + 1, (.cells #[.int .i64 t.ix, .int .i64 t.er, .int .i64 t.gr, .int .i64 t.he, .int .i64 t.aT, .int .i64 t.dT, .int .i64 t.wT] 57)), (w.heap.size + 1, (rdBox r)), (w.heap.size, (stBox s (.slice A k c)))]) (by (repeat (with_reducible first | exact HR.out | apply Frm.drew | apply Frm.alloc)))))).mono ?_
          rintro e wz ⟨rfl, hbz⟩
          have HZ := Lib.hid (Frm.below (w := w) (bs := [(w2.heap.size, (.cells #[.int .i64 0, .int .i64 0, .int .i64 0] 59)), (w.heap.size + 1 + 1, (.cells #[.int .i64 t.ix, .int .i64 t.er, .int .i64 t.gr, .int .i64 t.he, .int .i64 t.aT, .int .i64 t.dT, .int .i64 t.wT] 57)), (w.heap.size + 1, (rdBox r)), (w.heap.size, (stBox s (.slice A k c)))]) (by (repeat (with_reducible first | exact HR.out | apply Frm.drew | apply Frm.alloc))) hbz).b
          clear hbz x0 x1 x2 x3
          go_wp2_with fail
          go_ret
          exact ⟨rfl, HZ.out⟩
        · have HL := Lib.hid hal
          have HI : Hid (∀ W, Chks W (.slice A k c) cs → Holds W → Calls Tryd.prog 32 #[stV s (.slice A k c), rdV r, trV t] W fun x w' => x = .returned (.tuple #[weV (hereF r.me t) (loweredF (hereF r.me t) t) (humidF (hereF r.me t) t), .int .i64 0]) ∧ Below W.heap.size W w') := Lib.hid (fun W h h' => play_ok h HS.out HD.out h' HA.out HL.out)
          have HX : Hid (∀ W, Calls Tryd.prog 35 #[rdV r, trV t] W fun x w' => x = .returned (weV (hereF r.me t) (loweredF (hereF r.me t) t) (humidF (hereF r.me t) t)) ∧ Below W.heap.size W w') := Lib.hid (fun W => rPlay_any r t W (allowB_sane hg hr HL.out) hr.b0 hr.b1)
          generalize humidF (hereF r.me t) t = u at *
          generalize loweredF (hereF r.me t) t = z at *
          generalize hereF r.me t = p at *
          clear hd hs hag hal
          go_wp2_with fail
          refine (HI.out _ (by first | exact HC.out | exact HC.out.drew | exact HC.out.below (below_al (Below.refl _ _) _) | exact HC.out.drew.below (below_al (Below.refl _ _) _) | exact (HC.out.below (below_al (Below.refl _ _) _)).drew) (HH.out.below (Frm.b (w := w) (bs := [(w.heap.size + 1 + 1, (.cells #[.int .i64 t.ix, .int .i64 t.er, .int .i64 t.gr, .int .i64 t.he, .int .i64 t.aT, .int .i64 t.dT, .int .i64 t.wT] 57)), (w.heap.size + 1, (rdBox r)), (w.heap.size, (stBox s (.slice A k c)))]) (by (repeat (with_reducible first | exact HR.out | apply Frm.drew | apply Frm.alloc)))))).mono ?_
          rintro e w2 ⟨rfl, hb⟩
          have HRq := Lib.hid ((Frm.below (w := w) (bs := [(w.heap.size + 1 + 1, (.cells #[.int .i64 t.ix, .int .i64 t.er, .int .i64 t.gr, .int .i64 t.he, .int .i64 t.aT, .int .i64 t.dT, .int .i64 t.wT] 57)), (w.heap.size + 1, (rdBox r)), (w.heap.size, (stBox s (.slice A k c)))]) (by (repeat (with_reducible first | exact HR.out | apply Frm.drew | apply Frm.alloc))) hb).add (.cells #[.int .i64 p, .int .i64 z, .int .i64 u] 59) rfl)
          have HCq := Lib.hid (Chks.below (cs := cs) (by first | exact HC.out | exact HC.out.drew | exact HC.out.below (below_al (Below.refl _ _) _) | exact HC.out.drew.below (below_al (Below.refl _ _) _) | exact (HC.out.below (below_al (Below.refl _ _) _)).drew) hb |>.below (below_al (Below.refl _ _) (.cells #[.int .i64 p, .int .i64 z, .int .i64 u] 59)))
          clear HR HC hb x0 x1 x2
          have HR := HRq
          have HC := HCq
          clear HRq HCq
          have x0 := HR.out.cells (List.mem_cons_self ..)
          have x1 := HR.out.cells (List.mem_cons_of_mem _ (List.mem_cons_self ..))
          have x2 := HR.out.cells (List.mem_cons_of_mem _ (List.mem_cons_of_mem _ (List.mem_cons_self ..)))
          have x3 := HR.out.cells (List.mem_cons_of_mem _ (List.mem_cons_of_mem _ (List.mem_cons_of_mem _ (List.mem_cons_self ..))))
          go_upto_region 4 with fail
          go_region_held3 (fun w' => (∀ o, w'.cell? ⟨w.heap.size + 1, o, none⟩ = #[Value.int .i64 r.day, .int .i64 r.mi, .int .i64 r.cl, .int .i64 r.me, .int .i64 r.al, .int .i64 r.ah, .int .i64 r.dl, .int .i64 r.dh, .int .i64 r.wl, .int .i64 r.wh][o]?) ∧ (∀ o, w'.cell? ⟨w.heap.size, o, none⟩ = #[Value.int .i64 s.hl, .int .i64 s.hh, .int .i64 s.gl, .int .i64 s.gh, .int .i64 s.dr, .int .i64 s.rd, .int .i64 s.ea, .int .i64 s.sl, .slice A k c][o]?)) ((exact (fun hF : Frm w [(w2.heap.size, (.cells #[.int .i64 p, .int .i64 z, .int .i64 u] 59)), (w.heap.size + 1 + 1, (.cells #[.int .i64 t.ix, .int .i64 t.er, .int .i64 t.gr, .int .i64 t.he, .int .i64 t.aT, .int .i64 t.dT, .int .i64 t.wT] 57)), (w.heap.size + 1, (rdBox r)), (w.heap.size, (stBox s (.slice A k c)))] _ => ⟨hF.cells (List.mem_cons_of_mem _ (List.mem_cons_of_mem _ (List.mem_cons_self ..))), hF.cells (List.mem_cons_of_mem _ (List.mem_cons_of_mem _ (List.mem_cons_of_mem _ (List.mem_cons_self ..))))⟩) (by (repeat (with_reducible first | exact HR.out | apply Frm.drew | apply Frm.alloc))))) (first | (go_at_call 33; refine (rReading_is HD.out _).mono ?_; rintro e wa ⟨rfl, hba⟩; have HCq := Lib.hid (Chks.below (cs := cs) (by first | exact HC.out | exact HC.out.drew | exact HC.out.below (below_al (Below.refl _ _) _) | exact HC.out.drew.below (below_al (Below.refl _ _) _) | exact (HC.out.below (below_al (Below.refl _ _) _)).drew) hba); have HRq := Lib.hid (Frm.below (w := w) (bs := [(w2.heap.size, (.cells #[.int .i64 p, .int .i64 z, .int .i64 u] 59)), (w.heap.size + 1 + 1, (.cells #[.int .i64 t.ix, .int .i64 t.er, .int .i64 t.gr, .int .i64 t.he, .int .i64 t.aT, .int .i64 t.dT, .int .i64 t.wT] 57)), (w.heap.size + 1, (rdBox r)), (w.heap.size, (stBox s (.slice A k c)))]) (by (repeat (with_reducible first | exact HR.out | apply Frm.drew | apply Frm.alloc))) hba); clear HR HC; have HR := HRq; have HC := HCq; clear HRq HCq hba) | (go_at_call 20; refine (asked_is (by first | exact HC.out | exact HC.out.drew | exact HC.out.below (below_al (Below.refl _ _) _) | exact HC.out.drew.below (below_al (Below.refl _ _) _) | exact (HC.out.below (below_al (Below.refl _ _) _)).drew) HQ.out).mono ?_; rintro e wa ⟨rfl, hba⟩; have HCq := Lib.hid (Chks.below (cs := cs) (by first | exact HC.out | exact HC.out.drew | exact HC.out.below (below_al (Below.refl _ _) _) | exact HC.out.drew.below (below_al (Below.refl _ _) _) | exact (HC.out.below (below_al (Below.refl _ _) _)).drew) hba); have HRq := Lib.hid (Frm.below (w := w) (bs := [(w2.heap.size, (.cells #[.int .i64 p, .int .i64 z, .int .i64 u] 59)), (w.heap.size + 1 + 1, (.cells #[.int .i64 t.ix, .int .i64 t.er, .int .i64 t.gr, .int .i64 t.he, .int .i64 t.aT, .int .i64 t.dT, .int .i64 t.wT] 57)), (w.heap.size + 1, (rdBox r)), (w.heap.size, (stBox s (.slice A k c)))]) (by (repeat (with_reducible first | exact HR.out | apply Frm.drew | apply Frm.alloc))) hba); clear HR HC; have HR := HRq; have HC := HCq; clear HRq HCq hba))
          clear x0 x1 x2 x3
          have x0 := HR.out.cells (List.mem_cons_self ..)
          have x1 := HR.out.cells (List.mem_cons_of_mem _ (List.mem_cons_self ..))
          have x2 := HR.out.cells (List.mem_cons_of_mem _ (List.mem_cons_of_mem _ (List.mem_cons_self ..)))
          have x3 := HR.out.cells (List.mem_cons_of_mem _ (List.mem_cons_of_mem _ (List.mem_cons_of_mem _ (List.mem_cons_self ..))))
          go_wp2_with fail
          refine (rTruth_is (by first | exact HC.out | exact HC.out.drew | exact HC.out.below (below_al (Below.refl _ _) _) | exact HC.out.drew.below (below_al (Below.refl _ _) _) | exact (HC.out.below (below_al (Below.refl _ _) _)).drew) hg hr HL.out).mono ?_
          rintro e w3 ⟨rfl, hb⟩
          have HRq := Lib.hid (Frm.below (w := w) (bs := [(w2.heap.size, (.cells #[.int .i64 p, .int .i64 z, .int .i64 u] 59)), (w.heap.size + 1 + 1, (.cells #[.int .i64 t.ix, .int .i64 t.er, .int .i64 t.gr, .int .i64 t.he, .int .i64 t.aT, .int .i64 t.dT, .int .i64 t.wT] 57)), (w.heap.size + 1, (rdBox r)), (w.heap.size, (stBox s (.slice A k c)))]) (by (repeat (with_reducible first | exact HR.out | apply Frm.drew | apply Frm.alloc))) hb)
          have HCq := Lib.hid (Chks.below (cs := cs) (by first | exact HC.out | exact HC.out.drew | exact HC.out.below (below_al (Below.refl _ _) _) | exact HC.out.drew.below (below_al (Below.refl _ _) _) | exact (HC.out.below (below_al (Below.refl _ _) _)).drew) hb)
          clear HR HC hb x0 x1 x2 x3
          have HR := HRq
          have HC := HCq
          clear HRq HCq
          have x0 := HR.out.cells (List.mem_cons_self ..)
          have x1 := HR.out.cells (List.mem_cons_of_mem _ (List.mem_cons_self ..))
          have x2 := HR.out.cells (List.mem_cons_of_mem _ (List.mem_cons_of_mem _ (List.mem_cons_self ..)))
          have x3 := HR.out.cells (List.mem_cons_of_mem _ (List.mem_cons_of_mem _ (List.mem_cons_of_mem _ (List.mem_cons_self ..))))
          go_upto_region 9 with fail
          go_region_held3 (fun w' => (∀ o, w'.cell? ⟨w2.heap.size, o, none⟩ = #[Value.int .i64 p, .int .i64 z, .int .i64 u][o]?) ∧ (∀ o, w'.cell? ⟨w.heap.size + 1 + 1, o, none⟩ = #[Value.int .i64 t.ix, .int .i64 t.er, .int .i64 t.gr, .int .i64 t.he, .int .i64 t.aT, .int .i64 t.dT, .int .i64 t.wT][o]?) ∧ (∀ o, w'.cell? ⟨w.heap.size + 1, o, none⟩ = #[Value.int .i64 r.day, .int .i64 r.mi, .int .i64 r.cl, .int .i64 r.me, .int .i64 r.al, .int .i64 r.ah, .int .i64 r.dl, .int .i64 r.dh, .int .i64 r.wl, .int .i64 r.wh][o]?) ∧ (∀ o, w'.cell? ⟨w.heap.size, o, none⟩ = #[Value.int .i64 s.hl, .int .i64 s.hh, .int .i64 s.gl, .int .i64 s.gh, .int .i64 s.dr, .int .i64 s.rd, .int .i64 s.ea, .int .i64 s.sl, .slice A k c][o]?)) ((exact (fun hF : Frm w [(w2.heap.size, (.cells #[.int .i64 p, .int .i64 z, .int .i64 u] 59)), (w.heap.size + 1 + 1, (.cells #[.int .i64 t.ix, .int .i64 t.er, .int .i64 t.gr, .int .i64 t.he, .int .i64 t.aT, .int .i64 t.dT, .int .i64 t.wT] 57)), (w.heap.size + 1, (rdBox r)), (w.heap.size, (stBox s (.slice A k c)))] _ => ⟨hF.cells (List.mem_cons_self ..), hF.cells (List.mem_cons_of_mem _ (List.mem_cons_self ..)), hF.cells (List.mem_cons_of_mem _ (List.mem_cons_of_mem _ (List.mem_cons_self ..))), hF.cells (List.mem_cons_of_mem _ (List.mem_cons_of_mem _ (List.mem_cons_of_mem _ (List.mem_cons_self ..))))⟩) (by (repeat (with_reducible first | exact HR.out | apply Frm.drew | apply Frm.alloc))))) (first | (go_at_call 35; refine (HX.out _).mono ?_; rintro e wa ⟨rfl, hba⟩; have HCq := Lib.hid (Chks.below (cs := cs) (by first | exact HC.out | exact HC.out.drew | exact HC.out.below (below_al (Below.refl _ _) _) | exact HC.out.drew.below (below_al (Below.refl _ _) _) | exact (HC.out.below (below_al (Below.refl _ _) _)).drew) hba); have HRq := Lib.hid (Frm.below (w := w) (bs := [(w2.heap.size, (.cells #[.int .i64 p, .int .i64 z, .int .i64 u] 59)), (w.heap.size + 1 + 1, (.cells #[.int .i64 t.ix, .int .i64 t.er, .int .i64 t.gr, .int .i64 t.he, .int .i64 t.aT, .int .i64 t.dT, .int .i64 t.wT] 57)), (w.heap.size + 1, (rdBox r)), (w.heap.size, (stBox s (.slice A k c)))]) (by (repeat (with_reducible first | exact HR.out | apply Frm.drew | apply Frm.alloc))) hba); clear HR HC; have HR := HRq; have HC := HCq; clear HRq HCq hba) | (go_at_call 16; refine (known_ex _ (HH.out.below (Frm.b (w := w) (bs := [(w2.heap.size, (.cells #[.int .i64 p, .int .i64 z, .int .i64 u] 59)), (w.heap.size + 1 + 1, (.cells #[.int .i64 t.ix, .int .i64 t.er, .int .i64 t.gr, .int .i64 t.he, .int .i64 t.aT, .int .i64 t.dT, .int .i64 t.wT] 57)), (w.heap.size + 1, (rdBox r)), (w.heap.size, (stBox s (.slice A k c)))]) (by (repeat (with_reducible first | exact HR.out | apply Frm.drew | apply Frm.alloc))))) (HT.out.below (Frm.b (w := w) (bs := [(w2.heap.size, (.cells #[.int .i64 p, .int .i64 z, .int .i64 u] 59)), (w.heap.size + 1 + 1, (.cells #[.int .i64 t.ix, .int .i64 t.er, .int .i64 t.gr, .int .i64 t.he, .int .i64 t.aT, .int .i64 t.dT, .int .i64 t.wT] 57)), (w.heap.size + 1, (rdBox r)), (w.heap.size, (stBox s (.slice A k c)))]) (by (repeat (with_reducible first | exact HR.out | apply Frm.drew | apply Frm.alloc)))))).mono ?_; rintro e wa ⟨rfl, hba⟩; have HCq := Lib.hid (Chks.below (cs := cs) (by first | exact HC.out | exact HC.out.drew | exact HC.out.below (below_al (Below.refl _ _) _) | exact HC.out.drew.below (below_al (Below.refl _ _) _) | exact (HC.out.below (below_al (Below.refl _ _) _)).drew) hba); have HRq := Lib.hid (Frm.below (w := w) (bs := [(w2.heap.size, (.cells #[.int .i64 p, .int .i64 z, .int .i64 u] 59)), (w.heap.size + 1 + 1, (.cells #[.int .i64 t.ix, .int .i64 t.er, .int .i64 t.gr, .int .i64 t.he, .int .i64 t.aT, .int .i64 t.dT, .int .i64 t.wT] 57)), (w.heap.size + 1, (rdBox r)), (w.heap.size, (stBox s (.slice A k c)))]) (by (repeat (with_reducible first | exact HR.out | apply Frm.drew | apply Frm.alloc))) hba); clear HR HC; have HR := HRq; have HC := HCq; clear HRq HCq hba))
          clear x0 x1 x2 x3
          all_goals
            go_wp2_with fail
            go_ret
            exact ⟨rfl, HR.out.b⟩
      · have HF := Lib.hid hf
        have HQ := Lib.hid (askF_rule hs hf)
        clear hd hs hf
        go_wp2_with fail
        refine (play_rule (by first | exact HC.out | exact HC.out.drew | exact HC.out.below (below_al (Below.refl _ _) _) | exact HC.out.drew.below (below_al (Below.refl _ _) _) | exact (HC.out.below (below_al (Below.refl _ _) _)).drew) HS.out HD.out HF.out).mono ?_
        rintro e w2 ⟨rfl, hb⟩
        have HRq := Lib.hid ((Frm.below (w := w) (bs := [(w.heap.size + 1 + 1, (.cells #[.int .i64 t.ix, .int .i64 t.er, .int .i64 t.gr, .int .i64 t.he, .int .i64 t.aT, .int .i64 t.dT, .int .i64 t.wT] 57)), (w.heap.size + 1, (rdBox r)), (w.heap.size, (stBox s (.slice A k c)))]) (by (repeat (with_reducible first | exact HR.out | apply Frm.drew | apply Frm.alloc))) hb).add (.cells #[.int .i64 0, .int .i64 0, .int .i64 0] 59) rfl)
        have HCq := Lib.hid (Chks.below (cs := cs) (by first | exact HC.out | exact HC.out.drew | exact HC.out.below (below_al (Below.refl _ _) _) | exact HC.out.drew.below (below_al (Below.refl _ _) _) | exact (HC.out.below (below_al (Below.refl _ _) _)).drew) hb |>.below (below_al (Below.refl _ _) (.cells #[.int .i64 0, .int .i64 0, .int .i64 0] 59)))
        clear HR HC hb x0 x1 x2
        have HR := HRq
        have HC := HCq
        clear HRq HCq
        have x0 := HR.out.cells (List.mem_cons_self ..)
        have x1 := HR.out.cells (List.mem_cons_of_mem _ (List.mem_cons_self ..))
        have x2 := HR.out.cells (List.mem_cons_of_mem _ (List.mem_cons_of_mem _ (List.mem_cons_self ..)))
        have x3 := HR.out.cells (List.mem_cons_of_mem _ (List.mem_cons_of_mem _ (List.mem_cons_of_mem _ (List.mem_cons_self ..))))
        go_upto_region 4 with fail
        go_region_held3 (fun w' => (∀ o, w'.cell? ⟨w.heap.size + 1, o, none⟩ = #[Value.int .i64 r.day, .int .i64 r.mi, .int .i64 r.cl, .int .i64 r.me, .int .i64 r.al, .int .i64 r.ah, .int .i64 r.dl, .int .i64 r.dh, .int .i64 r.wl, .int .i64 r.wh][o]?) ∧ (∀ o, w'.cell? ⟨w.heap.size, o, none⟩ = #[Value.int .i64 s.hl, .int .i64 s.hh, .int .i64 s.gl, .int .i64 s.gh, .int .i64 s.dr, .int .i64 s.rd, .int .i64 s.ea, .int .i64 s.sl, .slice A k c][o]?)) ((exact (fun hF : Frm w [(w2.heap.size, (.cells #[.int .i64 0, .int .i64 0, .int .i64 0] 59)), (w.heap.size + 1 + 1, (.cells #[.int .i64 t.ix, .int .i64 t.er, .int .i64 t.gr, .int .i64 t.he, .int .i64 t.aT, .int .i64 t.dT, .int .i64 t.wT] 57)), (w.heap.size + 1, (rdBox r)), (w.heap.size, (stBox s (.slice A k c)))] _ => ⟨hF.cells (List.mem_cons_of_mem _ (List.mem_cons_of_mem _ (List.mem_cons_self ..))), hF.cells (List.mem_cons_of_mem _ (List.mem_cons_of_mem _ (List.mem_cons_of_mem _ (List.mem_cons_self ..))))⟩) (by (repeat (with_reducible first | exact HR.out | apply Frm.drew | apply Frm.alloc))))) (first | (go_at_call 33; refine (rReading_is HD.out _).mono ?_; rintro e wa ⟨rfl, hba⟩; have HCq := Lib.hid (Chks.below (cs := cs) (by first | exact HC.out | exact HC.out.drew | exact HC.out.below (below_al (Below.refl _ _) _) | exact HC.out.drew.below (below_al (Below.refl _ _) _) | exact (HC.out.below (below_al (Below.refl _ _) _)).drew) hba); have HRq := Lib.hid (Frm.below (w := w) (bs := [(w2.heap.size, (.cells #[.int .i64 0, .int .i64 0, .int .i64 0] 59)), (w.heap.size + 1 + 1, (.cells #[.int .i64 t.ix, .int .i64 t.er, .int .i64 t.gr, .int .i64 t.he, .int .i64 t.aT, .int .i64 t.dT, .int .i64 t.wT] 57)), (w.heap.size + 1, (rdBox r)), (w.heap.size, (stBox s (.slice A k c)))]) (by (repeat (with_reducible first | exact HR.out | apply Frm.drew | apply Frm.alloc))) hba); clear HR HC; have HR := HRq; have HC := HCq; clear HRq HCq hba) | (go_at_call 20; refine (asked_is (by first | exact HC.out | exact HC.out.drew | exact HC.out.below (below_al (Below.refl _ _) _) | exact HC.out.drew.below (below_al (Below.refl _ _) _) | exact (HC.out.below (below_al (Below.refl _ _) _)).drew) HQ.out).mono ?_; rintro e wa ⟨rfl, hba⟩; have HCq := Lib.hid (Chks.below (cs := cs) (by first | exact HC.out | exact HC.out.drew | exact HC.out.below (below_al (Below.refl _ _) _) | exact HC.out.drew.below (below_al (Below.refl _ _) _) | exact (HC.out.below (below_al (Below.refl _ _) _)).drew) hba); have HRq := Lib.hid (Frm.below (w := w) (bs := [(w2.heap.size, (.cells #[.int .i64 0, .int .i64 0, .int .i64 0] 59)), (w.heap.size + 1 + 1, (.cells #[.int .i64 t.ix, .int .i64 t.er, .int .i64 t.gr, .int .i64 t.he, .int .i64 t.aT, .int .i64 t.dT, .int .i64 t.wT] 57)), (w.heap.size + 1, (rdBox r)), (w.heap.size, (stBox s (.slice A k c)))]) (by (repeat (with_reducible first | exact HR.out | apply Frm.drew | apply Frm.alloc))) hba); clear HR HC; have HR := HRq; have HC := HCq; clear HRq HCq hba))
        clear x0 x1 x2 x3
        have x0 := HR.out.cells (List.mem_cons_self ..)
        have x1 := HR.out.cells (List.mem_cons_of_mem _ (List.mem_cons_self ..))
        have x2 := HR.out.cells (List.mem_cons_of_mem _ (List.mem_cons_of_mem _ (List.mem_cons_self ..)))
        have x3 := HR.out.cells (List.mem_cons_of_mem _ (List.mem_cons_of_mem _ (List.mem_cons_of_mem _ (List.mem_cons_self ..))))
        go_wp2_with fail
        refine (known_ex _ (HH.out.below (Frm.b (w := w) (bs := [(w2.heap.size, (.cells #[.int .i64 0, .int .i64 0, .int .i64 0] 59)), (w.heap.size + 1 + 1, (.cells #[.int .i64 t.ix, .int .i64 t.er, .int .i64 t.gr, .int .i64 t.he, .int .i64 t.aT, .int .i64 t.dT, .int .i64 t.wT] 57)), (w.heap.size + 1, (rdBox r)), (w.heap.size, (stBox s (.slice A k c)))]) (by (repeat (with_reducible first | exact HR.out | apply Frm.drew | apply Frm.alloc))))) (HT.out.below (Frm.b (w := w) (bs := [(w2.heap.size, (.cells #[.int .i64 0, .int .i64 0, .int .i64 0] 59)), (w.heap.size + 1 + 1, (.cells #[.int .i64 t.ix, .int .i64 t.er, .int .i64 t.gr, .int .i64 t.he, .int .i64 t.aT, .int .i64 t.dT, .int .i64 t.wT] 57)), (w.heap.size + 1, (rdBox r)), (w.heap.size, (stBox s (.slice A k c)))]) (by (repeat (with_reducible first | exact HR.out | apply Frm.drew | apply Frm.alloc)))))).mono ?_
        rintro e wz ⟨rfl, hbz⟩
        have HZ := Lib.hid (Frm.below (w := w) (bs := [(w2.heap.size, (.cells #[.int .i64 0, .int .i64 0, .int .i64 0] 59)), (w.heap.size + 1 + 1, (.cells #[.int .i64 t.ix, .int .i64 t.er, .int .i64 t.gr, .int .i64 t.he, .int .i64 t.aT, .int .i64 t.dT, .int .i64 t.wT] 57)), (w.heap.size + 1, (rdBox r)), (w.heap.size, (stBox s (.slice A k c)))]) (by (repeat (with_reducible first | exact HR.out | apply Frm.drew | apply Frm.alloc))) hbz).b
        clear hbz x0 x1 x2 x3
        go_wp2_with fail
        go_ret
        exact ⟨rfl, HZ.out⟩
end Go.Proofs.YtipckgojoanokaaDoor
