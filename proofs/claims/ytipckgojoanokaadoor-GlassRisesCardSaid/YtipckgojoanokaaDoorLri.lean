/- The law GlassRises, walked. -/
import Derived.Test.YtipckgojoanokaaDoorRri
set_option linter.unusedVariables false
set_option linter.unusedSimpArgs false
namespace Go.Proofs.YtipckgojoanokaaDoor
open Go.RowKit Go.Maps

set_option maxHeartbeats 40000000 in
set_option maxRecDepth 100000 in
theorem lawGlassRises {s : Stn} {v : Value} {cs : List Chk} {ra rb : Rdg} {w : World} (hc : Chks w v cs) (hh : Holds w) (ht : Tab w) :
    Calls Tryd.prog 14 #[stV s v, rdV ra, rdV rb] w fun e w' => e = .returned (.bool true) ∧ Below w.heap.size w w' := by
  obtain ⟨A, k, c, rfl⟩ := hc.shape
  have HR : Hid (Frm w [(w.heap.size + 1 + 1, (rdBox rb)), (w.heap.size + 1, (rdBox ra)), (w.heap.size, (stBox s (.slice A k c)))] (((w.alloc (stBox s (.slice A k c))).alloc (rdBox ra)).alloc (rdBox rb))) := Lib.hid ((((Frm.nil w).add _ (by simp)).add _ (by simp)).add _ (by simp))
  have HC := Lib.hid (hc.below HR.out.b)
  have HH := Lib.hid hh
  have HT := Lib.hid ht
  clear hc hh ht
  have x0 := HR.out.cells (List.mem_cons_self ..)
  have x1 := HR.out.cells (List.mem_cons_of_mem _ (List.mem_cons_self ..))
  have x2 := HR.out.cells (List.mem_cons_of_mem _ (List.mem_cons_of_mem _ (List.mem_cons_self ..)))
  go_enter Tryd.func14, Tryd.ntmps14
  go_wp2_with fail
  refine (short_any (by first | exact HC.out | exact HC.out.drew | exact HC.out.below (below_al (Below.refl _ _) _) | exact HC.out.drew.below (below_al (Below.refl _ _) _) | exact (HC.out.below (below_al (Below.refl _ _) _)).drew)).mono ?_
  rintro e w1 ⟨rfl, hb⟩
  have HRq := Lib.hid (Frm.below (w := w) (bs := [(w.heap.size + 1 + 1, (rdBox rb)), (w.heap.size + 1, (rdBox ra)), (w.heap.size, (stBox s (.slice A k c)))]) (by (repeat (with_reducible first | exact HR.out | apply Frm.drew | apply Frm.alloc))) hb)
  have HCq := Lib.hid (Chks.below (cs := cs) (by first | exact HC.out | exact HC.out.drew | exact HC.out.below (below_al (Below.refl _ _) _) | exact HC.out.drew.below (below_al (Below.refl _ _) _) | exact (HC.out.below (below_al (Below.refl _ _) _)).drew) hb)
  clear HR HC hb x0 x1 x2
  have HR := HRq
  have HC := HCq
  clear HRq HCq
  have x0 := HR.out.cells (List.mem_cons_self ..)
  have x1 := HR.out.cells (List.mem_cons_of_mem _ (List.mem_cons_self ..))
  have x2 := HR.out.cells (List.mem_cons_of_mem _ (List.mem_cons_of_mem _ (List.mem_cons_self ..)))
  by_cases h16 : cs.length ≤ 16
  rotate_left
  · go_wp2_with fail
    refine (known_ex _ (HH.out.below (Frm.b (w := w) (bs := [(w.heap.size + 1 + 1, (rdBox rb)), (w.heap.size + 1, (rdBox ra)), (w.heap.size, (stBox s (.slice A k c)))]) (by (repeat (with_reducible first | exact HR.out | apply Frm.drew | apply Frm.alloc))))) (HT.out.below (Frm.b (w := w) (bs := [(w.heap.size + 1 + 1, (rdBox rb)), (w.heap.size + 1, (rdBox ra)), (w.heap.size, (stBox s (.slice A k c)))]) (by (repeat (with_reducible first | exact HR.out | apply Frm.drew | apply Frm.alloc)))))).mono ?_
    rintro e wz ⟨rfl, hbz⟩
    have HZ := Lib.hid (Frm.below (w := w) (bs := [(w.heap.size + 1 + 1, (rdBox rb)), (w.heap.size + 1, (rdBox ra)), (w.heap.size, (stBox s (.slice A k c)))]) (by (repeat (with_reducible first | exact HR.out | apply Frm.drew | apply Frm.alloc))) hbz).b
    clear hbz x0 x1 x2
    go_wp2_with fail
    go_ret
    exact ⟨rfl, HZ.out⟩
  cases ha : readB ra
  · have HA := Lib.hid ha
    cases hs : soundB s cs
    · have HS := Lib.hid hs
      have HQ := Lib.hid (askF_not (s := s) (cs := cs))
      clear hs ha
      go_wp2_with fail
      refine (rise_bad1 (by first | exact HC.out | exact HC.out.drew | exact HC.out.below (below_al (Below.refl _ _) _) | exact HC.out.drew.below (below_al (Below.refl _ _) _) | exact (HC.out.below (below_al (Below.refl _ _) _)).drew) HS.out).mono ?_
      rintro e w2 ⟨rfl, hb⟩
      have HRq := Lib.hid ((Frm.below (w := w) (bs := [(w.heap.size + 1 + 1, (rdBox rb)), (w.heap.size + 1, (rdBox ra)), (w.heap.size, (stBox s (.slice A k c)))]) (by (repeat (with_reducible first | exact HR.out | apply Frm.drew | apply Frm.alloc))) hb).add (spBox 0 0) rfl)
      have HCq := Lib.hid (Chks.below (cs := cs) (by first | exact HC.out | exact HC.out.drew | exact HC.out.below (below_al (Below.refl _ _) _) | exact HC.out.drew.below (below_al (Below.refl _ _) _) | exact (HC.out.below (below_al (Below.refl _ _) _)).drew) hb |>.below (below_al (Below.refl _ _) (spBox 0 0)))
      clear HR HC hb x0 x1 x2
      have HR := HRq
      have HC := HCq
      clear HRq HCq
      have x0 := HR.out.cells (List.mem_cons_self ..)
      have x1 := HR.out.cells (List.mem_cons_of_mem _ (List.mem_cons_self ..))
      have x2 := HR.out.cells (List.mem_cons_of_mem _ (List.mem_cons_of_mem _ (List.mem_cons_self ..)))
      have x3 := HR.out.cells (List.mem_cons_of_mem _ (List.mem_cons_of_mem _ (List.mem_cons_of_mem _ (List.mem_cons_self ..))))
      go_upto_region 4 with fail
      go_cut [9] (fun s9 wx => s9 = .int .i64 2 ∧ Frm w [(w2.heap.size, (spBox 0 0)), (w.heap.size + 1 + 1, (rdBox rb)), (w.heap.size + 1, (rdBox ra)), (w.heap.size, (stBox s (.slice A k c)))] wx ∧ Chks wx (.slice A k c) cs)
      case first =>
        first | (go_region_with (first | (go_at_call 33; refine (rReading_is HA.out _).mono ?_; rintro e wa ⟨rfl, hba⟩; have HCq := Lib.hid (Chks.below (cs := cs) (by first | exact HC.out | exact HC.out.drew | exact HC.out.below (below_al (Below.refl _ _) _) | exact HC.out.drew.below (below_al (Below.refl _ _) _) | exact (HC.out.below (below_al (Below.refl _ _) _)).drew) hba); have HRq := Lib.hid (Frm.below (w := w) (bs := [(w2.heap.size, (spBox 0 0)), (w.heap.size + 1 + 1, (rdBox rb)), (w.heap.size + 1, (rdBox ra)), (w.heap.size, (stBox s (.slice A k c)))]) (by (repeat (with_reducible first | exact HR.out | apply Frm.drew | apply Frm.alloc))) hba); clear HR HC; have HR := HRq; have HC := HCq; clear HRq HCq hba; have x0 := HR.out.cells (List.mem_cons_self ..); have x1 := HR.out.cells (List.mem_cons_of_mem _ (List.mem_cons_self ..)); have x2 := HR.out.cells (List.mem_cons_of_mem _ (List.mem_cons_of_mem _ (List.mem_cons_self ..))); have x3 := HR.out.cells (List.mem_cons_of_mem _ (List.mem_cons_of_mem _ (List.mem_cons_of_mem _ (List.mem_cons_self ..))))) | (go_at_call 20; refine (asked_is (by first | exact HC.out | exact HC.out.drew | exact HC.out.below (below_al (Below.refl _ _) _) | exact HC.out.drew.below (below_al (Below.refl _ _) _) | exact (HC.out.below (below_al (Below.refl _ _) _)).drew) HQ.out).mono ?_; rintro e wa ⟨rfl, hba⟩; have HCq := Lib.hid (Chks.below (cs := cs) (by first | exact HC.out | exact HC.out.drew | exact HC.out.below (below_al (Below.refl _ _) _) | exact HC.out.drew.below (below_al (Below.refl _ _) _) | exact (HC.out.below (below_al (Below.refl _ _) _)).drew) hba); have HRq := Lib.hid (Frm.below (w := w) (bs := [(w2.heap.size, (spBox 0 0)), (w.heap.size + 1 + 1, (rdBox rb)), (w.heap.size + 1, (rdBox ra)), (w.heap.size, (stBox s (.slice A k c)))]) (by (repeat (with_reducible first | exact HR.out | apply Frm.drew | apply Frm.alloc))) hba); clear HR HC; have HR := HRq; have HC := HCq; clear HRq HCq hba; have x0 := HR.out.cells (List.mem_cons_self ..); have x1 := HR.out.cells (List.mem_cons_of_mem _ (List.mem_cons_self ..)); have x2 := HR.out.cells (List.mem_cons_of_mem _ (List.mem_cons_of_mem _ (List.mem_cons_self ..))); have x3 := HR.out.cells (List.mem_cons_of_mem _ (List.mem_cons_of_mem _ (List.mem_cons_of_mem _ (List.mem_cons_self ..))))))) | fail
        all_goals
          go_wp2_with fail
          go_meet
          exact ⟨rfl, (by (repeat (with_reducible first | exact HR.out | apply Frm.drew | apply Frm.alloc))), (by first | exact HC.out | exact HC.out.drew | exact HC.out.below (below_al (Below.refl _ _) _) | exact HC.out.drew.below (below_al (Below.refl _ _) _) | exact (HC.out.below (below_al (Below.refl _ _) _)).drew)⟩
      case rest =>
        obtain ⟨rfl, hF, hC⟩ := hcut
        clear HR HC x0 x1 x2 x3
        have HR := Lib.hid hF
        have HC := Lib.hid hC
        clear hF hC
        have x0 := HR.out.cells (List.mem_cons_self ..)
        have x1 := HR.out.cells (List.mem_cons_of_mem _ (List.mem_cons_self ..))
        have x2 := HR.out.cells (List.mem_cons_of_mem _ (List.mem_cons_of_mem _ (List.mem_cons_self ..)))
        have x3 := HR.out.cells (List.mem_cons_of_mem _ (List.mem_cons_of_mem _ (List.mem_cons_of_mem _ (List.mem_cons_self ..))))
        go_wp2_with fail
        refine (known_ex _ (HH.out.below (Frm.b (w := w) (bs := [(w2.heap.size, (spBox 0 0)), (w.heap.size + 1 + 1, (rdBox rb)), (w.heap.size + 1, (rdBox ra)), (w.heap.size, (stBox s (.slice A k c)))]) (by (repeat (with_reducible first | exact HR.out | apply Frm.drew | apply Frm.alloc))))) (HT.out.below (Frm.b (w := w) (bs := [(w2.heap.size, (spBox 0 0)), (w.heap.size + 1 + 1, (rdBox rb)), (w.heap.size + 1, (rdBox ra)), (w.heap.size, (stBox s (.slice A k c)))]) (by (repeat (with_reducible first | exact HR.out | apply Frm.drew | apply Frm.alloc)))))).mono ?_
        rintro e wz ⟨rfl, hbz⟩
        have HZ := Lib.hid (Frm.below (w := w) (bs := [(w2.heap.size, (spBox 0 0)), (w.heap.size + 1 + 1, (rdBox rb)), (w.heap.size + 1, (rdBox ra)), (w.heap.size, (stBox s (.slice A k c)))]) (by (repeat (with_reducible first | exact HR.out | apply Frm.drew | apply Frm.alloc))) hbz).b
        clear hbz x0 x1 x2 x3
        go_wp2_with fail
        go_ret
        exact ⟨rfl, HZ.out⟩
    · have HS := Lib.hid hs
      have HQ := Lib.hid (askF_not (s := s) (cs := cs))
      clear hs ha
      go_wp2_with fail
      refine (rise_bad2 (by first | exact HC.out | exact HC.out.drew | exact HC.out.below (below_al (Below.refl _ _) _) | exact HC.out.drew.below (below_al (Below.refl _ _) _) | exact (HC.out.below (below_al (Below.refl _ _) _)).drew) HS.out HA.out).mono ?_
      rintro e w2 ⟨rfl, hb⟩
      have HRq := Lib.hid ((Frm.below (w := w) (bs := [(w.heap.size + 1 + 1, (rdBox rb)), (w.heap.size + 1, (rdBox ra)), (w.heap.size, (stBox s (.slice A k c)))]) (by (repeat (with_reducible first | exact HR.out | apply Frm.drew | apply Frm.alloc))) hb).add (spBox 0 0) rfl)
      have HCq := Lib.hid (Chks.below (cs := cs) (by first | exact HC.out | exact HC.out.drew | exact HC.out.below (below_al (Below.refl _ _) _) | exact HC.out.drew.below (below_al (Below.refl _ _) _) | exact (HC.out.below (below_al (Below.refl _ _) _)).drew) hb |>.below (below_al (Below.refl _ _) (spBox 0 0)))
      clear HR HC hb x0 x1 x2
      have HR := HRq
      have HC := HCq
      clear HRq HCq
      have x0 := HR.out.cells (List.mem_cons_self ..)
      have x1 := HR.out.cells (List.mem_cons_of_mem _ (List.mem_cons_self ..))
      have x2 := HR.out.cells (List.mem_cons_of_mem _ (List.mem_cons_of_mem _ (List.mem_cons_self ..)))
      have x3 := HR.out.cells (List.mem_cons_of_mem _ (List.mem_cons_of_mem _ (List.mem_cons_of_mem _ (List.mem_cons_self ..))))
      go_upto_region 4 with fail
      go_cut [9] (fun s9 wx => s9 = .int .i64 2 ∧ Frm w [(w2.heap.size, (spBox 0 0)), (w.heap.size + 1 + 1, (rdBox rb)), (w.heap.size + 1, (rdBox ra)), (w.heap.size, (stBox s (.slice A k c)))] wx ∧ Chks wx (.slice A k c) cs)
      case first =>
        first | (go_region_with (first | (go_at_call 33; refine (rReading_is HA.out _).mono ?_; rintro e wa ⟨rfl, hba⟩; have HCq := Lib.hid (Chks.below (cs := cs) (by first | exact HC.out | exact HC.out.drew | exact HC.out.below (below_al (Below.refl _ _) _) | exact HC.out.drew.below (below_al (Below.refl _ _) _) | exact (HC.out.below (below_al (Below.refl _ _) _)).drew) hba); have HRq := Lib.hid (Frm.below (w := w) (bs := [(w2.heap.size, (spBox 0 0)), (w.heap.size + 1 + 1, (rdBox rb)), (w.heap.size + 1, (rdBox ra)), (w.heap.size, (stBox s (.slice A k c)))]) (by (repeat (with_reducible first | exact HR.out | apply Frm.drew | apply Frm.alloc))) hba); clear HR HC; have HR := HRq; have HC := HCq; clear HRq HCq hba; have x0 := HR.out.cells (List.mem_cons_self ..); have x1 := HR.out.cells (List.mem_cons_of_mem _ (List.mem_cons_self ..)); have x2 := HR.out.cells (List.mem_cons_of_mem _ (List.mem_cons_of_mem _ (List.mem_cons_self ..))); have x3 := HR.out.cells (List.mem_cons_of_mem _ (List.mem_cons_of_mem _ (List.mem_cons_of_mem _ (List.mem_cons_self ..))))) | (go_at_call 20; refine (asked_is (by first | exact HC.out | exact HC.out.drew | exact HC.out.below (below_al (Below.refl _ _) _) | exact HC.out.drew.below (below_al (Below.refl _ _) _) | exact (HC.out.below (below_al (Below.refl _ _) _)).drew) HQ.out).mono ?_; rintro e wa ⟨rfl, hba⟩; have HCq := Lib.hid (Chks.below (cs := cs) (by first | exact HC.out | exact HC.out.drew | exact HC.out.below (below_al (Below.refl _ _) _) | exact HC.out.drew.below (below_al (Below.refl _ _) _) | exact (HC.out.below (below_al (Below.refl _ _) _)).drew) hba); have HRq := Lib.hid (Frm.below (w := w) (bs := [(w2.heap.size, (spBox 0 0)), (w.heap.size + 1 + 1, (rdBox rb)), (w.heap.size + 1, (rdBox ra)), (w.heap.size, (stBox s (.slice A k c)))]) (by (repeat (with_reducible first | exact HR.out | apply Frm.drew | apply Frm.alloc))) hba); clear HR HC; have HR := HRq; have HC := HCq; clear HRq HCq hba; have x0 := HR.out.cells (List.mem_cons_self ..); have x1 := HR.out.cells (List.mem_cons_of_mem _ (List.mem_cons_self ..)); have x2 := HR.out.cells (List.mem_cons_of_mem _ (List.mem_cons_of_mem _ (List.mem_cons_self ..))); have x3 := HR.out.cells (List.mem_cons_of_mem _ (List.mem_cons_of_mem _ (List.mem_cons_of_mem _ (List.mem_cons_self ..))))))) | fail
        all_goals
          go_wp2_with fail
          go_meet
          exact ⟨rfl, (by (repeat (with_reducible first | exact HR.out | apply Frm.drew | apply Frm.alloc))), (by first | exact HC.out | exact HC.out.drew | exact HC.out.below (below_al (Below.refl _ _) _) | exact HC.out.drew.below (below_al (Below.refl _ _) _) | exact (HC.out.below (below_al (Below.refl _ _) _)).drew)⟩
      case rest =>
        obtain ⟨rfl, hF, hC⟩ := hcut
        clear HR HC x0 x1 x2 x3
        have HR := Lib.hid hF
        have HC := Lib.hid hC
        clear hF hC
        have x0 := HR.out.cells (List.mem_cons_self ..)
        have x1 := HR.out.cells (List.mem_cons_of_mem _ (List.mem_cons_self ..))
        have x2 := HR.out.cells (List.mem_cons_of_mem _ (List.mem_cons_of_mem _ (List.mem_cons_self ..)))
        have x3 := HR.out.cells (List.mem_cons_of_mem _ (List.mem_cons_of_mem _ (List.mem_cons_of_mem _ (List.mem_cons_self ..))))
        go_wp2_with fail
        refine (known_ex _ (HH.out.below (Frm.b (w := w) (bs := [(w2.heap.size, (spBox 0 0)), (w.heap.size + 1 + 1, (rdBox rb)), (w.heap.size + 1, (rdBox ra)), (w.heap.size, (stBox s (.slice A k c)))]) (by (repeat (with_reducible first | exact HR.out | apply Frm.drew | apply Frm.alloc))))) (HT.out.below (Frm.b (w := w) (bs := [(w2.heap.size, (spBox 0 0)), (w.heap.size + 1 + 1, (rdBox rb)), (w.heap.size + 1, (rdBox ra)), (w.heap.size, (stBox s (.slice A k c)))]) (by (repeat (with_reducible first | exact HR.out | apply Frm.drew | apply Frm.alloc)))))).mono ?_
        rintro e wz ⟨rfl, hbz⟩
        have HZ := Lib.hid (Frm.below (w := w) (bs := [(w2.heap.size, (spBox 0 0)), (w.heap.size + 1 + 1, (rdBox rb)), (w.heap.size + 1, (rdBox ra)), (w.heap.size, (stBox s (.slice A k c)))]) (by (repeat (with_reducible first | exact HR.out | apply Frm.drew | apply Frm.alloc))) hbz).b
        clear hbz x0 x1 x2 x3
        go_wp2_with fail
        go_ret
        exact ⟨rfl, HZ.out⟩
  · have HA := Lib.hid ha
    cases hb' : readB rb
    · have HB := Lib.hid hb'
      cases hs : soundB s cs
      · have HS := Lib.hid hs
        have HQ := Lib.hid (askF_not (s := s) (cs := cs))
        clear hs ha hb'
        go_wp2_with fail
        refine (rise_bad1 (by first | exact HC.out | exact HC.out.drew | exact HC.out.below (below_al (Below.refl _ _) _) | exact HC.out.drew.below (below_al (Below.refl _ _) _) | exact (HC.out.below (below_al (Below.refl _ _) _)).drew) HS.out).mono ?_
        rintro e w2 ⟨rfl, hb⟩
        have HRq := Lib.hid ((Frm.below (w := w) (bs := [(w.heap.size + 1 + 1, (rdBox rb)), (w.heap.size + 1, (rdBox ra)), (w.heap.size, (stBox s (.slice A k c)))]) (by (repeat (with_reducible first | exact HR.out | apply Frm.drew | apply Frm.alloc))) hb).add (spBox 0 0) rfl)
        have HCq := Lib.hid (Chks.below (cs := cs) (by first | exact HC.out | exact HC.out.drew | exact HC.out.below (below_al (Below.refl _ _) _) | exact HC.out.drew.below (below_al (Below.refl _ _) _) | exact (HC.out.below (below_al (Below.refl _ _) _)).drew) hb |>.below (below_al (Below.refl _ _) (spBox 0 0)))
        clear HR HC hb x0 x1 x2
        have HR := HRq
        have HC := HCq
        clear HRq HCq
        have x0 := HR.out.cells (List.mem_cons_self ..)
        have x1 := HR.out.cells (List.mem_cons_of_mem _ (List.mem_cons_self ..))
        have x2 := HR.out.cells (List.mem_cons_of_mem _ (List.mem_cons_of_mem _ (List.mem_cons_self ..)))
        have x3 := HR.out.cells (List.mem_cons_of_mem _ (List.mem_cons_of_mem _ (List.mem_cons_of_mem _ (List.mem_cons_self ..))))
        go_upto_region 4 with fail
        go_region_held3 (fun w' => (∀ o, w'.cell? ⟨w.heap.size + 1 + 1, o, none⟩ = #[Value.int .i64 rb.day, .int .i64 rb.mi, .int .i64 rb.cl, .int .i64 rb.me, .int .i64 rb.al, .int .i64 rb.ah, .int .i64 rb.dl, .int .i64 rb.dh, .int .i64 rb.wl, .int .i64 rb.wh][o]?) ∧ (∀ o, w'.cell? ⟨w.heap.size + 1, o, none⟩ = #[Value.int .i64 ra.day, .int .i64 ra.mi, .int .i64 ra.cl, .int .i64 ra.me, .int .i64 ra.al, .int .i64 ra.ah, .int .i64 ra.dl, .int .i64 ra.dh, .int .i64 ra.wl, .int .i64 ra.wh][o]?) ∧ (∀ o, w'.cell? ⟨w.heap.size, o, none⟩ = #[Value.int .i64 s.hl, .int .i64 s.hh, .int .i64 s.gl, .int .i64 s.gh, .int .i64 s.dr, .int .i64 s.rd, .int .i64 s.ea, .int .i64 s.sl, .slice A k c][o]?)) ((exact (fun hF : Frm w [(w2.heap.size, (spBox 0 0)), (w.heap.size + 1 + 1, (rdBox rb)), (w.heap.size + 1, (rdBox ra)), (w.heap.size, (stBox s (.slice A k c)))] _ => ⟨hF.cells (List.mem_cons_of_mem _ (List.mem_cons_self ..)), hF.cells (List.mem_cons_of_mem _ (List.mem_cons_of_mem _ (List.mem_cons_self ..))), hF.cells (List.mem_cons_of_mem _ (List.mem_cons_of_mem _ (List.mem_cons_of_mem _ (List.mem_cons_self ..))))⟩) (by (repeat (with_reducible first | exact HR.out | apply Frm.drew | apply Frm.alloc))))) (first | (go_at_call 33; (first | (with_reducible refine (rReading_is HA.out _).mono ?_) | (with_reducible refine (rReading_is HB.out _).mono ?_)); rintro e wa ⟨rfl, hba⟩; have HCq := Lib.hid (Chks.below (cs := cs) (by first | exact HC.out | exact HC.out.drew | exact HC.out.below (below_al (Below.refl _ _) _) | exact HC.out.drew.below (below_al (Below.refl _ _) _) | exact (HC.out.below (below_al (Below.refl _ _) _)).drew) hba); have HRq := Lib.hid (Frm.below (w := w) (bs := [(w2.heap.size, (spBox 0 0)), (w.heap.size + 1 + 1, (rdBox rb)), (w.heap.size + 1, (rdBox ra)), (w.heap.size, (stBox s (.slice A k c)))]) (by (repeat (with_reducible first | exact HR.out | apply Frm.drew | apply Frm.alloc))) hba); clear HR HC; have HR := HRq; have HC := HCq; clear HRq HCq hba) | (go_at_call 20; refine (asked_is (by first | exact HC.out | exact HC.out.drew | exact HC.out.below (below_al (Below.refl _ _) _) | exact HC.out.drew.below (below_al (Below.refl _ _) _) | exact (HC.out.below (below_al (Below.refl _ _) _)).drew) HQ.out).mono ?_; rintro e wa ⟨rfl, hba⟩; have HCq := Lib.hid (Chks.below (cs := cs) (by first | exact HC.out | exact HC.out.drew | exact HC.out.below (below_al (Below.refl _ _) _) | exact HC.out.drew.below (below_al (Below.refl _ _) _) | exact (HC.out.below (below_al (Below.refl _ _) _)).drew) hba); have HRq := Lib.hid (Frm.below (w := w) (bs := [(w2.heap.size, (spBox 0 0)), (w.heap.size + 1 + 1, (rdBox rb)), (w.heap.size + 1, (rdBox ra)), (w.heap.size, (stBox s (.slice A k c)))]) (by (repeat (with_reducible first | exact HR.out | apply Frm.drew | apply Frm.alloc))) hba); clear HR HC; have HR := HRq; have HC := HCq; clear HRq HCq hba))
        clear x0 x1 x2 x3
        have x0 := HR.out.cells (List.mem_cons_self ..)
        have x1 := HR.out.cells (List.mem_cons_of_mem _ (List.mem_cons_self ..))
        have x2 := HR.out.cells (List.mem_cons_of_mem _ (List.mem_cons_of_mem _ (List.mem_cons_self ..)))
        have x3 := HR.out.cells (List.mem_cons_of_mem _ (List.mem_cons_of_mem _ (List.mem_cons_of_mem _ (List.mem_cons_self ..))))
        go_wp2_with fail
        refine (known_ex _ (HH.out.below (Frm.b (w := w) (bs := [(w2.heap.size, (spBox 0 0)), (w.heap.size + 1 + 1, (rdBox rb)), (w.heap.size + 1, (rdBox ra)), (w.heap.size, (stBox s (.slice A k c)))]) (by (repeat (with_reducible first | exact HR.out | apply Frm.drew | apply Frm.alloc))))) (HT.out.below (Frm.b (w := w) (bs := [(w2.heap.size, (spBox 0 0)), (w.heap.size + 1 + 1, (rdBox rb)), (w.heap.size + 1, (rdBox ra)), (w.heap.size, (stBox s (.slice A k c)))]) (by (repeat (with_reducible first | exact HR.out | apply Frm.drew | apply Frm.alloc)))))).mono ?_
        rintro e wz ⟨rfl, hbz⟩
        have HZ := Lib.hid (Frm.below (w := w) (bs := [(w2.heap.size, (spBox 0 0)), (w.heap.size + 1 + 1, (rdBox rb)), (w.heap.size + 1, (rdBox ra)), (w.heap.size, (stBox s (.slice A k c)))]) (by (repeat (with_reducible first | exact HR.out | apply Frm.drew | apply Frm.alloc))) hbz).b
        clear hbz x0 x1 x2 x3
        go_wp2_with fail
        go_ret
        exact ⟨rfl, HZ.out⟩
      · have HS := Lib.hid hs
        have HQ := Lib.hid (askF_not (s := s) (cs := cs))
        clear hs ha hb'
        go_wp2_with fail
        refine (rise_bad3 (by first | exact HC.out | exact HC.out.drew | exact HC.out.below (below_al (Below.refl _ _) _) | exact HC.out.drew.below (below_al (Below.refl _ _) _) | exact (HC.out.below (below_al (Below.refl _ _) _)).drew) HS.out HA.out HB.out).mono ?_
        rintro e w2 ⟨rfl, hb⟩
        have HRq := Lib.hid ((Frm.below (w := w) (bs := [(w.heap.size + 1 + 1, (rdBox rb)), (w.heap.size + 1, (rdBox ra)), (w.heap.size, (stBox s (.slice A k c)))]) (by (repeat (with_reducible first | exact HR.out | apply Frm.drew | apply Frm.alloc))) hb).add (spBox 0 0) rfl)
        have HCq := Lib.hid (Chks.below (cs := cs) (by first | exact HC.out | exact HC.out.drew | exact HC.out.below (below_al (Below.refl _ _) _) | exact HC.out.drew.below (below_al (Below.refl _ _) _) | exact (HC.out.below (below_al (Below.refl _ _) _)).drew) hb |>.below (below_al (Below.refl _ _) (spBox 0 0)))
        clear HR HC hb x0 x1 x2
        have HR := HRq
        have HC := HCq
        clear HRq HCq
        have x0 := HR.out.cells (List.mem_cons_self ..)
        have x1 := HR.out.cells (List.mem_cons_of_mem _ (List.mem_cons_self ..))
        have x2 := HR.out.cells (List.mem_cons_of_mem _ (List.mem_cons_of_mem _ (List.mem_cons_self ..)))
        have x3 := HR.out.cells (List.mem_cons_of_mem _ (List.mem_cons_of_mem _ (List.mem_cons_of_mem _ (List.mem_cons_self ..))))
        go_upto_region 4 with fail
        go_region_held3 (fun w' => (∀ o, w'.cell? ⟨w.heap.size + 1 + 1, o, none⟩ = #[Value.int .i64 rb.day, .int .i64 rb.mi, .int .i64 rb.cl, .int .i64 rb.me, .int .i64 rb.al, .int .i64 rb.ah, .int .i64 rb.dl, .int .i64 rb.dh, .int .i64 rb.wl, .int .i64 rb.wh][o]?) ∧ (∀ o, w'.cell? ⟨w.heap.size + 1, o, none⟩ = #[Value.int .i64 ra.day, .int .i64 ra.mi, .int .i64 ra.cl, .int .i64 ra.me, .int .i64 ra.al, .int .i64 ra.ah, .int .i64 ra.dl, .int .i64 ra.dh, .int .i64 ra.wl, .int .i64 ra.wh][o]?) ∧ (∀ o, w'.cell? ⟨w.heap.size, o, none⟩ = #[Value.int .i64 s.hl, .int .i64 s.hh, .int .i64 s.gl, .int .i64 s.gh, .int .i64 s.dr, .int .i64 s.rd, .int .i64 s.ea, .int .i64 s.sl, .slice A k c][o]?)) ((exact (fun hF : Frm w [(w2.heap.size, (spBox 0 0)), (w.heap.size + 1 + 1, (rdBox rb)), (w.heap.size + 1, (rdBox ra)), (w.heap.size, (stBox s (.slice A k c)))] _ => ⟨hF.cells (List.mem_cons_of_mem _ (List.mem_cons_self ..)), hF.cells (List.mem_cons_of_mem _ (List.mem_cons_of_mem _ (List.mem_cons_self ..))), hF.cells (List.mem_cons_of_mem _ (List.mem_cons_of_mem _ (List.mem_cons_of_mem _ (List.mem_cons_self ..))))⟩) (by (repeat (with_reducible first | exact HR.out | apply Frm.drew | apply Frm.alloc))))) (first | (go_at_call 33; (first | (with_reducible refine (rReading_is HA.out _).mono ?_) | (with_reducible refine (rReading_is HB.out _).mono ?_)); rintro e wa ⟨rfl, hba⟩; have HCq := Lib.hid (Chks.below (cs := cs) (by first | exact HC.out | exact HC.out.drew | exact HC.out.below (below_al (Below.refl _ _) _) | exact HC.out.drew.below (below_al (Below.refl _ _) _) | exact (HC.out.below (below_al (Below.refl _ _) _)).drew) hba); have HRq := Lib.hid (Frm.below (w := w) (bs := [(w2.heap.size, (spBox 0 0)), (w.heap.size + 1 + 1, (rdBox rb)), (w.heap.size + 1, (rdBox ra)), (w.heap.size, (stBox s (.slice A k c)))]) (by (repeat (with_reducible first | exact HR.out | apply Frm.drew | apply Frm.alloc))) hba); clear HR HC; have HR := HRq; have HC := HCq; clear HRq HCq hba) | (go_at_call 20; refine (asked_is (by first | exact HC.out | exact HC.out.drew | exact HC.out.below (below_al (Below.refl _ _) _) | exact HC.out.drew.below (below_al (Below.refl _ _) _) | exact (HC.out.below (below_al (Below.refl _ _) _)).drew) HQ.out).mono ?_; rintro e wa ⟨rfl, hba⟩; have HCq := Lib.hid (Chks.below (cs := cs) (by first | exact HC.out | exact HC.out.drew | exact HC.out.below (below_al (Below.refl _ _) _) | exact HC.out.drew.below (below_al (Below.refl _ _) _) | exact (HC.out.below (below_al (Below.refl _ _) _)).drew) hba); have HRq := Lib.hid (Frm.below (w := w) (bs := [(w2.heap.size, (spBox 0 0)), (w.heap.size + 1 + 1, (rdBox rb)), (w.heap.size + 1, (rdBox ra)), (w.heap.size, (stBox s (.slice A k c)))]) (by (repeat (with_reducible first | exact HR.out | apply Frm.drew | apply Frm.alloc))) hba); clear HR HC; have HR := HRq; have HC := HCq; clear HRq HCq hba))
        clear x0 x1 x2 x3
        have x0 := HR.out.cells (List.mem_cons_self ..)
        have x1 := HR.out.cells (List.mem_cons_of_mem _ (List.mem_cons_self ..))
        have x2 := HR.out.cells (List.mem_cons_of_mem _ (List.mem_cons_of_mem _ (List.mem_cons_self ..)))
        have x3 := HR.out.cells (List.mem_cons_of_mem _ (List.mem_cons_of_mem _ (List.mem_cons_of_mem _ (List.mem_cons_self ..))))
        go_wp2_with fail
        refine (known_ex _ (HH.out.below (Frm.b (w := w) (bs := [(w2.heap.size, (spBox 0 0)), (w.heap.size + 1 + 1, (rdBox rb)), (w.heap.size + 1, (rdBox ra)), (w.heap.size, (stBox s (.slice A k c)))]) (by (repeat (with_reducible first | exact HR.out | apply Frm.drew | apply Frm.alloc))))) (HT.out.below (Frm.b (w := w) (bs := [(w2.heap.size, (spBox 0 0)), (w.heap.size + 1 + 1, (rdBox rb)), (w.heap.size + 1, (rdBox ra)), (w.heap.size, (stBox s (.slice A k c)))]) (by (repeat (with_reducible first | exact HR.out | apply Frm.drew | apply Frm.alloc)))))).mono ?_
        rintro e wz ⟨rfl, hbz⟩
        have HZ := Lib.hid (Frm.below (w := w) (bs := [(w2.heap.size, (spBox 0 0)), (w.heap.size + 1 + 1, (rdBox rb)), (w.heap.size + 1, (rdBox ra)), (w.heap.size, (stBox s (.slice A k c)))]) (by (repeat (with_reducible first | exact HR.out | apply Frm.drew | apply Frm.alloc))) hbz).b
        clear hbz x0 x1 x2 x3
        go_wp2_with fail
        go_ret
        exact ⟨rfl, HZ.out⟩
    · have HB := Lib.hid hb'
      cases hs : soundB s cs
      · have HS := Lib.hid hs
        have HQ := Lib.hid (askF_bad (fine := true) hs)
        clear hs ha hb'
        go_wp2_with fail
        refine (rise_bad1 (by first | exact HC.out | exact HC.out.drew | exact HC.out.below (below_al (Below.refl _ _) _) | exact HC.out.drew.below (below_al (Below.refl _ _) _) | exact (HC.out.below (below_al (Below.refl _ _) _)).drew) HS.out).mono ?_
        rintro e w2 ⟨rfl, hb⟩
        have HRq := Lib.hid ((Frm.below (w := w) (bs := [(w.heap.size + 1 + 1, (rdBox rb)), (w.heap.size + 1, (rdBox ra)), (w.heap.size, (stBox s (.slice A k c)))]) (by (repeat (with_reducible first | exact HR.out | apply Frm.drew | apply Frm.alloc))) hb).add (spBox 0 0) rfl)
        have HCq := Lib.hid (Chks.below (cs := cs) (by first | exact HC.out | exact HC.out.drew | exact HC.out.below (below_al (Below.refl _ _) _) | exact HC.out.drew.below (below_al (Below.refl _ _) _) | exact (HC.out.below (below_al (Below.refl _ _) _)).drew) hb |>.below (below_al (Below.refl _ _) (spBox 0 0)))
        clear HR HC hb x0 x1 x2
        have HR := HRq
        have HC := HCq
        clear HRq HCq
        have x0 := HR.out.cells (List.mem_cons_self ..)
        have x1 := HR.out.cells (List.mem_cons_of_mem _ (List.mem_cons_self ..))
        have x2 := HR.out.cells (List.mem_cons_of_mem _ (List.mem_cons_of_mem _ (List.mem_cons_self ..)))
        have x3 := HR.out.cells (List.mem_cons_of_mem _ (List.mem_cons_of_mem _ (List.mem_cons_of_mem _ (List.mem_cons_self ..))))
        go_upto_region 4 with fail
        go_region_held3 (fun w' => (∀ o, w'.cell? ⟨w.heap.size + 1 + 1, o, none⟩ = #[Value.int .i64 rb.day, .int .i64 rb.mi, .int .i64 rb.cl, .int .i64 rb.me, .int .i64 rb.al, .int .i64 rb.ah, .int .i64 rb.dl, .int .i64 rb.dh, .int .i64 rb.wl, .int .i64 rb.wh][o]?) ∧ (∀ o, w'.cell? ⟨w.heap.size + 1, o, none⟩ = #[Value.int .i64 ra.day, .int .i64 ra.mi, .int .i64 ra.cl, .int .i64 ra.me, .int .i64 ra.al, .int .i64 ra.ah, .int .i64 ra.dl, .int .i64 ra.dh, .int .i64 ra.wl, .int .i64 ra.wh][o]?) ∧ (∀ o, w'.cell? ⟨w.heap.size, o, none⟩ = #[Value.int .i64 s.hl, .int .i64 s.hh, .int .i64 s.gl, .int .i64 s.gh, .int .i64 s.dr, .int .i64 s.rd, .int .i64 s.ea, .int .i64 s.sl, .slice A k c][o]?)) ((exact (fun hF : Frm w [(w2.heap.size, (spBox 0 0)), (w.heap.size + 1 + 1, (rdBox rb)), (w.heap.size + 1, (rdBox ra)), (w.heap.size, (stBox s (.slice A k c)))] _ => ⟨hF.cells (List.mem_cons_of_mem _ (List.mem_cons_self ..)), hF.cells (List.mem_cons_of_mem _ (List.mem_cons_of_mem _ (List.mem_cons_self ..))), hF.cells (List.mem_cons_of_mem _ (List.mem_cons_of_mem _ (List.mem_cons_of_mem _ (List.mem_cons_self ..))))⟩) (by (repeat (with_reducible first | exact HR.out | apply Frm.drew | apply Frm.alloc))))) (first | (go_at_call 33; (first | (with_reducible refine (rReading_is HA.out _).mono ?_) | (with_reducible refine (rReading_is HB.out _).mono ?_)); rintro e wa ⟨rfl, hba⟩; have HCq := Lib.hid (Chks.below (cs := cs) (by first | exact HC.out | exact HC.out.drew | exact HC.out.below (below_al (Below.refl _ _) _) | exact HC.out.drew.below (below_al (Below.refl _ _) _) | exact (HC.out.below (below_al (Below.refl _ _) _)).drew) hba); have HRq := Lib.hid (Frm.below (w := w) (bs := [(w2.heap.size, (spBox 0 0)), (w.heap.size + 1 + 1, (rdBox rb)), (w.heap.size + 1, (rdBox ra)), (w.heap.size, (stBox s (.slice A k c)))]) (by (repeat (with_reducible first | exact HR.out | apply Frm.drew | apply Frm.alloc))) hba); clear HR HC; have HR := HRq; have HC := HCq; clear HRq HCq hba) | (go_at_call 20; refine (asked_is (by first | exact HC.out | exact HC.out.drew | exact HC.out.below (below_al (Below.refl _ _) _) | exact HC.out.drew.below (below_al (Below.refl _ _) _) | exact (HC.out.below (below_al (Below.refl _ _) _)).drew) HQ.out).mono ?_; rintro e wa ⟨rfl, hba⟩; have HCq := Lib.hid (Chks.below (cs := cs) (by first | exact HC.out | exact HC.out.drew | exact HC.out.below (below_al (Below.refl _ _) _) | exact HC.out.drew.below (below_al (Below.refl _ _) _) | exact (HC.out.below (below_al (Below.refl _ _) _)).drew) hba); have HRq := Lib.hid (Frm.below (w := w) (bs := [(w2.heap.size, (spBox 0 0)), (w.heap.size + 1 + 1, (rdBox rb)), (w.heap.size + 1, (rdBox ra)), (w.heap.size, (stBox s (.slice A k c)))]) (by (repeat (with_reducible first | exact HR.out | apply Frm.drew | apply Frm.alloc))) hba); clear HR HC; have HR := HRq; have HC := HCq; clear HRq HCq hba))
        clear x0 x1 x2 x3
        have x0 := HR.out.cells (List.mem_cons_self ..)
        have x1 := HR.out.cells (List.mem_cons_of_mem _ (List.mem_cons_self ..))
        have x2 := HR.out.cells (List.mem_cons_of_mem _ (List.mem_cons_of_mem _ (List.mem_cons_self ..)))
        have x3 := HR.out.cells (List.mem_cons_of_mem _ (List.mem_cons_of_mem _ (List.mem_cons_of_mem _ (List.mem_cons_self ..))))
        go_wp2_with fail
        refine (known_ex _ (HH.out.below (Frm.b (w := w) (bs := [(w2.heap.size, (spBox 0 0)), (w.heap.size + 1 + 1, (rdBox rb)), (w.heap.size + 1, (rdBox ra)), (w.heap.size, (stBox s (.slice A k c)))]) (by (repeat (with_reducible first | exact HR.out | apply Frm.drew | apply Frm.alloc))))) (HT.out.below (Frm.b (w := w) (bs := [(w2.heap.size, (spBox 0 0)), (w.heap.size + 1 + 1, (rdBox rb)), (w.heap.size + 1, (rdBox ra)), (w.heap.size, (stBox s (.slice A k c)))]) (by (repeat (with_reducible first | exact HR.out | apply Frm.drew | apply Frm.alloc)))))).mono ?_
        rintro e wz ⟨rfl, hbz⟩
        have HZ := Lib.hid (Frm.below (w := w) (bs := [(w2.heap.size, (spBox 0 0)), (w.heap.size + 1 + 1, (rdBox rb)), (w.heap.size + 1, (rdBox ra)), (w.heap.size, (stBox s (.slice A k c)))]) (by (repeat (with_reducible first | exact HR.out | apply Frm.drew | apply Frm.alloc))) hbz).b
        clear hbz x0 x1 x2 x3
        go_wp2_with fail
        go_ret
        exact ⟨rfl, HZ.out⟩
      · have HS := Lib.hid hs
        have hg := good_of_soundB hs
        have hra := good_of_readB ha
        have hrb := good_of_readB hb'
        rcases agreed_or s cs with hag | ⟨i, j, hf⟩
        · have HAG := Lib.hid hag
          have HQ := Lib.hid (askF_ok hs hag)
          have HI : Hid (∀ W, Chks W (.slice A k c) cs → Calls Tryd.prog 40 #[stV s (.slice A k c), rdV ra, rdV rb] W fun x w' => x = .returned (.tuple #[spV (riseF ra rb (fallLo s cs ra.day rb.day) (fallHi s cs ra.day rb.day) (-2 * s.rd) (2 * s.rd) 0) (riseF ra rb (fallLo s cs ra.day rb.day) (fallHi s cs ra.day rb.day) (-2 * s.rd) (2 * s.rd) 1), .int .i64 0]) ∧ Below W.heap.size W w') := Lib.hid (fun W h => rise_ok h HS.out HA.out HB.out HAG.out)
          have HX : Hid (∀ W, Chks W (.slice A k c) cs → Calls Tryd.prog 41 #[stV s (.slice A k c), rdV ra, rdV rb] W fun x w' => x = .returned (spV (riseF ra rb (fallLo s cs ra.day rb.day) (fallHi s cs ra.day rb.day) (-2 * s.rd) (2 * s.rd) 0) (riseF ra rb (fallLo s cs ra.day rb.day) (fallHi s cs ra.day rb.day) (-2 * s.rd) (2 * s.rd) 1)) ∧ Below W.heap.size W w') := Lib.hid (fun W h => rRise_any h hg hra hrb)
          clear hs ha hb' hag
          generalize riseF ra rb (fallLo s cs ra.day rb.day) (fallHi s cs ra.day rb.day) (-2 * s.rd) (2 * s.rd) 0 = lo at *
          generalize riseF ra rb (fallLo s cs ra.day rb.day) (fallHi s cs ra.day rb.day) (-2 * s.rd) (2 * s.rd) 1 = hi at *
          go_wp2_with fail
          refine (HI.out _ (by first | exact HC.out | exact HC.out.drew | exact HC.out.below (below_al (Below.refl _ _) _) | exact HC.out.drew.below (below_al (Below.refl _ _) _) | exact (HC.out.below (below_al (Below.refl _ _) _)).drew)).mono ?_
          rintro e w2 ⟨rfl, hb⟩
          have HRq := Lib.hid ((Frm.below (w := w) (bs := [(w.heap.size + 1 + 1, (rdBox rb)), (w.heap.size + 1, (rdBox ra)), (w.heap.size, (stBox s (.slice A k c)))]) (by (repeat (with_reducible first | exact HR.out | apply Frm.drew | apply Frm.alloc))) hb).add (spBox lo hi) rfl)
          have HCq := Lib.hid (Chks.below (cs := cs) (by first | exact HC.out | exact HC.out.drew | exact HC.out.below (below_al (Below.refl _ _) _) | exact HC.out.drew.below (below_al (Below.refl _ _) _) | exact (HC.out.below (below_al (Below.refl _ _) _)).drew) hb |>.below (below_al (Below.refl _ _) (spBox lo hi)))
          clear HR HC hb x0 x1 x2
          have HR := HRq
          have HC := HCq
          clear HRq HCq
          have x0 := HR.out.cells (List.mem_cons_self ..)
          have x1 := HR.out.cells (List.mem_cons_of_mem _ (List.mem_cons_self ..))
          have x2 := HR.out.cells (List.mem_cons_of_mem _ (List.mem_cons_of_mem _ (List.mem_cons_self ..)))
          have x3 := HR.out.cells (List.mem_cons_of_mem _ (List.mem_cons_of_mem _ (List.mem_cons_of_mem _ (List.mem_cons_self ..))))
          go_upto_region 4 with fail
          go_region_held3 (fun w' => (∀ o, w'.cell? ⟨w.heap.size + 1 + 1, o, none⟩ = #[Value.int .i64 rb.day, .int .i64 rb.mi, .int .i64 rb.cl, .int .i64 rb.me, .int .i64 rb.al, .int .i64 rb.ah, .int .i64 rb.dl, .int .i64 rb.dh, .int .i64 rb.wl, .int .i64 rb.wh][o]?) ∧ (∀ o, w'.cell? ⟨w.heap.size + 1, o, none⟩ = #[Value.int .i64 ra.day, .int .i64 ra.mi, .int .i64 ra.cl, .int .i64 ra.me, .int .i64 ra.al, .int .i64 ra.ah, .int .i64 ra.dl, .int .i64 ra.dh, .int .i64 ra.wl, .int .i64 ra.wh][o]?) ∧ (∀ o, w'.cell? ⟨w.heap.size, o, none⟩ = #[Value.int .i64 s.hl, .int .i64 s.hh, .int .i64 s.gl, .int .i64 s.gh, .int .i64 s.dr, .int .i64 s.rd, .int .i64 s.ea, .int .i64 s.sl, .slice A k c][o]?)) ((exact (fun hF : Frm w [(w2.heap.size, (spBox lo hi)), (w.heap.size + 1 + 1, (rdBox rb)), (w.heap.size + 1, (rdBox ra)), (w.heap.size, (stBox s (.slice A k c)))] _ => ⟨hF.cells (List.mem_cons_of_mem _ (List.mem_cons_self ..)), hF.cells (List.mem_cons_of_mem _ (List.mem_cons_of_mem _ (List.mem_cons_self ..))), hF.cells (List.mem_cons_of_mem _ (List.mem_cons_of_mem _ (List.mem_cons_of_mem _ (List.mem_cons_self ..))))⟩) (by (repeat (with_reducible first | exact HR.out | apply Frm.drew | apply Frm.alloc))))) (first | (go_at_call 33; (first | (with_reducible refine (rReading_is HA.out _).mono ?_) | (with_reducible refine (rReading_is HB.out _).mono ?_)); rintro e wa ⟨rfl, hba⟩; have HCq := Lib.hid (Chks.below (cs := cs) (by first | exact HC.out | exact HC.out.drew | exact HC.out.below (below_al (Below.refl _ _) _) | exact HC.out.drew.below (below_al (Below.refl _ _) _) | exact (HC.out.below (below_al (Below.refl _ _) _)).drew) hba); have HRq := Lib.hid (Frm.below (w := w) (bs := [(w2.heap.size, (spBox lo hi)), (w.heap.size + 1 + 1, (rdBox rb)), (w.heap.size + 1, (rdBox ra)), (w.heap.size, (stBox s (.slice A k c)))]) (by (repeat (with_reducible first | exact HR.out | apply Frm.drew | apply Frm.alloc))) hba); clear HR HC; have HR := HRq; have HC := HCq; clear HRq HCq hba) | (go_at_call 20; refine (asked_is (by first | exact HC.out | exact HC.out.drew | exact HC.out.below (below_al (Below.refl _ _) _) | exact HC.out.drew.below (below_al (Below.refl _ _) _) | exact (HC.out.below (below_al (Below.refl _ _) _)).drew) HQ.out).mono ?_; rintro e wa ⟨rfl, hba⟩; have HCq := Lib.hid (Chks.below (cs := cs) (by first | exact HC.out | exact HC.out.drew | exact HC.out.below (below_al (Below.refl _ _) _) | exact HC.out.drew.below (below_al (Below.refl _ _) _) | exact (HC.out.below (below_al (Below.refl _ _) _)).drew) hba); have HRq := Lib.hid (Frm.below (w := w) (bs := [(w2.heap.size, (spBox lo hi)), (w.heap.size + 1 + 1, (rdBox rb)), (w.heap.size + 1, (rdBox ra)), (w.heap.size, (stBox s (.slice A k c)))]) (by (repeat (with_reducible first | exact HR.out | apply Frm.drew | apply Frm.alloc))) hba); clear HR HC; have HR := HRq; have HC := HCq; clear HRq HCq hba))
          clear x0 x1 x2 x3
          have x0 := HR.out.cells (List.mem_cons_self ..)
          have x1 := HR.out.cells (List.mem_cons_of_mem _ (List.mem_cons_self ..))
          have x2 := HR.out.cells (List.mem_cons_of_mem _ (List.mem_cons_of_mem _ (List.mem_cons_self ..)))
          have x3 := HR.out.cells (List.mem_cons_of_mem _ (List.mem_cons_of_mem _ (List.mem_cons_of_mem _ (List.mem_cons_self ..))))
          go_upto_region 7 with fail
          go_region_held3 (fun w' => (∀ o, w'.cell? ⟨w2.heap.size, o, none⟩ = #[Value.int .i64 lo, .int .i64 hi][o]?) ∧ (∀ o, w'.cell? ⟨w.heap.size + 1 + 1, o, none⟩ = #[Value.int .i64 rb.day, .int .i64 rb.mi, .int .i64 rb.cl, .int .i64 rb.me, .int .i64 rb.al, .int .i64 rb.ah, .int .i64 rb.dl, .int .i64 rb.dh, .int .i64 rb.wl, .int .i64 rb.wh][o]?) ∧ (∀ o, w'.cell? ⟨w.heap.size + 1, o, none⟩ = #[Value.int .i64 ra.day, .int .i64 ra.mi, .int .i64 ra.cl, .int .i64 ra.me, .int .i64 ra.al, .int .i64 ra.ah, .int .i64 ra.dl, .int .i64 ra.dh, .int .i64 ra.wl, .int .i64 ra.wh][o]?) ∧ (∀ o, w'.cell? ⟨w.heap.size, o, none⟩ = #[Value.int .i64 s.hl, .int .i64 s.hh, .int .i64 s.gl, .int .i64 s.gh, .int .i64 s.dr, .int .i64 s.rd, .int .i64 s.ea, .int .i64 s.sl, .slice A k c][o]?)) ((exact (fun hF : Frm w [(w2.heap.size, (spBox lo hi)), (w.heap.size + 1 + 1, (rdBox rb)), (w.heap.size + 1, (rdBox ra)), (w.heap.size, (stBox s (.slice A k c)))] _ => ⟨hF.cells (List.mem_cons_self ..), hF.cells (List.mem_cons_of_mem _ (List.mem_cons_self ..)), hF.cells (List.mem_cons_of_mem _ (List.mem_cons_of_mem _ (List.mem_cons_self ..))), hF.cells (List.mem_cons_of_mem _ (List.mem_cons_of_mem _ (List.mem_cons_of_mem _ (List.mem_cons_self ..))))⟩) (by (repeat (with_reducible first | exact HR.out | apply Frm.drew | apply Frm.alloc))))) (first | (go_at_call 41; refine (HX.out _ (by first | exact HC.out | exact HC.out.drew | exact HC.out.below (below_al (Below.refl _ _) _) | exact HC.out.drew.below (below_al (Below.refl _ _) _) | exact (HC.out.below (below_al (Below.refl _ _) _)).drew)).mono ?_; rintro e wa ⟨rfl, hba⟩; have HCq := Lib.hid (Chks.below (cs := cs) (by first | exact HC.out | exact HC.out.drew | exact HC.out.below (below_al (Below.refl _ _) _) | exact HC.out.drew.below (below_al (Below.refl _ _) _) | exact (HC.out.below (below_al (Below.refl _ _) _)).drew) hba); have HRq := Lib.hid (Frm.below (w := w) (bs := [(w2.heap.size, (spBox lo hi)), (w.heap.size + 1 + 1, (rdBox rb)), (w.heap.size + 1, (rdBox ra)), (w.heap.size, (stBox s (.slice A k c)))]) (by (repeat (with_reducible first | exact HR.out | apply Frm.drew | apply Frm.alloc))) hba); clear HR HC; have HR := HRq; have HC := HCq; clear HRq HCq hba) | (go_at_call 16; refine (known_ex _ (HH.out.below (Frm.b (w := w) (bs := [(w2.heap.size, (spBox lo hi)), (w.heap.size + 1 + 1, (rdBox rb)), (w.heap.size + 1, (rdBox ra)), (w.heap.size, (stBox s (.slice A k c)))]) (by (repeat (with_reducible first | exact HR.out | apply Frm.drew | apply Frm.alloc))))) (HT.out.below (Frm.b (w := w) (bs := [(w2.heap.size, (spBox lo hi)), (w.heap.size + 1 + 1, (rdBox rb)), (w.heap.size + 1, (rdBox ra)), (w.heap.size, (stBox s (.slice A k c)))]) (by (repeat (with_reducible first | exact HR.out | apply Frm.drew | apply Frm.alloc)))))).mono ?_; rintro e wa ⟨rfl, hba⟩; have HCq := Lib.hid (Chks.below (cs := cs) (by first | exact HC.out | exact HC.out.drew | exact HC.out.below (below_al (Below.refl _ _) _) | exact HC.out.drew.below (below_al (Below.refl _ _) _) | exact (HC.out.below (below_al (Below.refl _ _) _)).drew) hba); have HRq := Lib.hid (Frm.below (w := w) (bs := [(w2.heap.size, (spBox lo hi)), (w.heap.size + 1 + 1, (rdBox rb)), (w.heap.size + 1, (rdBox ra)), (w.heap.size, (stBox s (.slice A k c)))]) (by (repeat (with_reducible first | exact HR.out | apply Frm.drew | apply Frm.alloc))) hba); clear HR HC; have HR := HRq; have HC := HCq; clear HRq HCq hba))
          clear x0 x1 x2 x3
          all_goals
            go_wp2_with fail
            go_ret
            exact ⟨rfl, HR.out.b⟩
        · have HF := Lib.hid hf
          have HQ := Lib.hid (askF_rule hs hf)
          clear hs ha hb' hf
          go_wp2_with fail
          refine (rise_rule (by first | exact HC.out | exact HC.out.drew | exact HC.out.below (below_al (Below.refl _ _) _) | exact HC.out.drew.below (below_al (Below.refl _ _) _) | exact (HC.out.below (below_al (Below.refl _ _) _)).drew) HS.out HA.out HB.out HF.out).mono ?_
          rintro e w2 ⟨rfl, hb⟩
          have HRq := Lib.hid ((Frm.below (w := w) (bs := [(w.heap.size + 1 + 1, (rdBox rb)), (w.heap.size + 1, (rdBox ra)), (w.heap.size, (stBox s (.slice A k c)))]) (by (repeat (with_reducible first | exact HR.out | apply Frm.drew | apply Frm.alloc))) hb).add (spBox 0 0) rfl)
          have HCq := Lib.hid (Chks.below (cs := cs) (by first | exact HC.out | exact HC.out.drew | exact HC.out.below (below_al (Below.refl _ _) _) | exact HC.out.drew.below (below_al (Below.refl _ _) _) | exact (HC.out.below (below_al (Below.refl _ _) _)).drew) hb |>.below (below_al (Below.refl _ _) (spBox 0 0)))
          clear HR HC hb x0 x1 x2
          have HR := HRq
          have HC := HCq
          clear HRq HCq
          have x0 := HR.out.cells (List.mem_cons_self ..)
          have x1 := HR.out.cells (List.mem_cons_of_mem _ (List.mem_cons_self ..))
          have x2 := HR.out.cells (List.mem_cons_of_mem _ (List.mem_cons_of_mem _ (List.mem_cons_self ..)))
          have x3 := HR.out.cells (List.mem_cons_of_mem _ (List.mem_cons_of_mem _ (List.mem_cons_of_mem _ (List.mem_cons_self ..))))
          go_upto_region 4 with fail
          go_region_held3 (fun w' => (∀ o, w'.cell? ⟨w.heap.size + 1 + 1, o, none⟩ = #[Value.int .i64 rb.day, .int .i64 rb.mi, .int .i64 rb.cl, .int .i64 rb.me, .int .i64 rb.al, .int .i64 rb.ah, .int .i64 rb.dl, .int .i64 rb.dh, .int .i64 rb.wl, .int .i64 rb.wh][o]?) ∧ (∀ o, w'.cell? ⟨w.heap.size + 1, o, none⟩ = #[Value.int .i64 ra.day, .int .i64 ra.mi, .int .i64 ra.cl, .int .i64 ra.me, .int .i64 ra.al, .int .i64 ra.ah, .int .i64 ra.dl, .int .i64 ra.dh, .int .i64 ra.wl, .int .i64 ra.wh][o]?) ∧ (∀ o, w'.cell? ⟨w.heap.size, o, none⟩ = #[Value.int .i64 s.hl, .int .i64 s.hh, .int .i64 s.gl, .int .i64 s.gh, .int .i64 s.dr, .int .i64 s.rd, .int .i64 s.ea, .int .i64 s.sl, .slice A k c][o]?)) ((exact (fun hF : Frm w [(w2.heap.size, (spBox 0 0)), (w.heap.size + 1 + 1, (rdBox rb)), (w.heap.size + 1, (rdBox ra)), (w.heap.size, (stBox s (.slice A k c)))] _ => ⟨hF.cells (List.mem_cons_of_mem _ (List.mem_cons_self ..)), hF.cells (List.mem_cons_of_mem _ (List.mem_cons_of_mem _ (List.mem_cons_self ..))), hF.cells (List.mem_cons_of_mem _ (List.mem_cons_of_mem _ (List.mem_cons_of_mem _ (List.mem_cons_self ..))))⟩) (by (repeat (with_reducible first | exact HR.out | apply Frm.drew | apply Frm.alloc))))) (first | (go_at_call 33; (first | (with_reducible refine (rReading_is HA.out _).mono ?_) | (with_reducible refine (rReading_is HB.out _).mono ?_)); rintro e wa ⟨rfl, hba⟩; have HCq := Lib.hid (Chks.below (cs := cs) (by first | exact HC.out | exact HC.out.drew | exact HC.out.below (below_al (Below.refl _ _) _) | exact HC.out.drew.below (below_al (Below.refl _ _) _) | exact (HC.out.below (below_al (Below.refl _ _) _)).drew) hba); have HRq := Lib.hid (Frm.below (w := w) (bs := [(w2.heap.size, (spBox 0 0)), (w.heap.size + 1 + 1, (rdBox rb)), (w.heap.size + 1, (rdBox ra)), (w.heap.size, (stBox s (.slice A k c)))]) (by (repeat (with_reducible first | exact HR.out | apply Frm.drew | apply Frm.alloc))) hba); clear HR HC; have HR := HRq; have HC := HCq; clear HRq HCq hba) | (go_at_call 20; refine (asked_is (by first | exact HC.out | exact HC.out.drew | exact HC.out.below (below_al (Below.refl _ _) _) | exact HC.out.drew.below (below_al (Below.refl _ _) _) | exact (HC.out.below (below_al (Below.refl _ _) _)).drew) HQ.out).mono ?_; rintro e wa ⟨rfl, hba⟩; have HCq := Lib.hid (Chks.below (cs := cs) (by first | exact HC.out | exact HC.out.drew | exact HC.out.below (below_al (Below.refl _ _) _) | exact HC.out.drew.below (below_al (Below.refl _ _) _) | exact (HC.out.below (below_al (Below.refl _ _) _)).drew) hba); have HRq := Lib.hid (Frm.below (w := w) (bs := [(w2.heap.size, (spBox 0 0)), (w.heap.size + 1 + 1, (rdBox rb)), (w.heap.size + 1, (rdBox ra)), (w.heap.size, (stBox s (.slice A k c)))]) (by (repeat (with_reducible first | exact HR.out | apply Frm.drew | apply Frm.alloc))) hba); clear HR HC; have HR := HRq; have HC := HCq; clear HRq HCq hba))
          clear x0 x1 x2 x3
          have x0 := HR.out.cells (List.mem_cons_self ..)
          have x1 := HR.out.cells (List.mem_cons_of_mem _ (List.mem_cons_self ..))
          have x2 := HR.out.cells (List.mem_cons_of_mem _ (List.mem_cons_of_mem _ (List.mem_cons_self ..)))
          have x3 := HR.out.cells (List.mem_cons_of_mem _ (List.mem_cons_of_mem _ (List.mem_cons_of_mem _ (List.mem_cons_self ..))))
          go_wp2_with fail
          refine (known_ex _ (HH.out.below (Frm.b (w := w) (bs := [(w2.heap.size, (spBox 0 0)), (w.heap.size + 1 + 1, (rdBox rb)), (w.heap.size + 1, (rdBox ra)), (w.heap.size, (stBox s (.slice A k c)))]) (by (repeat (with_reducible first | exact HR.out | apply Frm.drew | apply Frm.alloc))))) (HT.out.below (Frm.b (w := w) (bs := [(w2.heap.size, (spBox 0 0)), (w.heap.size + 1 + 1, (rdBox rb)), (w.heap.size + 1, (rdBox ra)), (w.heap.size, (stBox s (.slice A k c)))]) (by (repeat (with_reducible first | exact HR.out | apply Frm.drew | apply Frm.alloc)))))).mono ?_
          rintro e wz ⟨rfl, hbz⟩
          have HZ := Lib.hid (Frm.below (w := w) (bs := [(w2.heap.size, (spBox 0 0)), (w.heap.size + 1 + 1, (rdBox rb)), (w.heap.size + 1, (rdBox ra)), (w.heap.size, (stBox s (.slice A k c)))]) (by (repeat (with_reducible first | exact HR.out | apply Frm.drew | apply Frm.alloc))) hbz).b
          clear hbz x0 x1 x2 x3
          go_wp2_with fail
          go_ret
          exact ⟨rfl, HZ.out⟩
end Go.Proofs.YtipckgojoanokaaDoor
