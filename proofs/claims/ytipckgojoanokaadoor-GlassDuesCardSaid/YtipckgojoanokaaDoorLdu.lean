/- The law GlassDues, walked. -/
import Derived.Test.YtipckgojoanokaaDoorRdu
set_option linter.unusedVariables false
set_option linter.unusedSimpArgs false
namespace Go.Proofs.YtipckgojoanokaaDoor
open Go.RowKit Go.Maps

theorem DueAt.uniq {s : Stn} {cs : List Chk} {f width d d' : Int} (h : DueAt s cs f width d) (h' : DueAt s cs f width d') : d = d' := by
  rcases Int.lt_trichotomy d d' with hlt | heq | hlt
  · exact absurd (h'.first d h.ge hlt) (by have := h.wide; omega)
  · exact heq
  · exact absurd (h.first d' h'.ge hlt) (by have := h'.wide; omega)

set_option maxHeartbeats 2000000 in
set_option maxRecDepth 100000 in
theorem lawGlassDues {s : Stn} {v : Value} {cs : List Chk} {fr width : Int} {w : World} (hc : Chks w v cs) (hh : Holds w) (ht : Tab w) :
    Calls Tryd.prog 8 #[stV s v, .int .i64 fr, .int .i64 width] w fun e w' => e = .returned (.bool true) ∧ Below w.heap.size w w' := by
  obtain ⟨A, k, c, rfl⟩ := hc.shape
  have HR : Hid (Frm w [(w.heap.size, (stBox s (.slice A k c)))] (w.alloc (stBox s (.slice A k c)))) := Lib.hid ((Frm.nil w).add _ (by simp))
  have HC := Lib.hid (hc.below HR.out.b)
  have HH := Lib.hid hh
  have HT := Lib.hid ht
  clear hc hh ht
  have x0 := HR.out.cells (List.mem_cons_self ..)
  go_enter Tryd.func8, Tryd.ntmps8
  go_wp2_with fail
  refine (short_any (by first | exact HC.out | exact HC.out.drew | exact HC.out.below (below_al (Below.refl _ _) _) | exact HC.out.drew.below (below_al (Below.refl _ _) _) | exact (HC.out.below (below_al (Below.refl _ _) _)).drew)).mono ?_
  rintro e w1 ⟨rfl, hb⟩
  have HRq := Lib.hid (Frm.below (w := w) (bs := [(w.heap.size, (stBox s (.slice A k c)))]) (by (repeat (with_reducible first | exact HR.out | apply Frm.drew | apply Frm.alloc))) hb)
  have HCq := Lib.hid (Chks.below (cs := cs) (by first | exact HC.out | exact HC.out.drew | exact HC.out.below (below_al (Below.refl _ _) _) | exact HC.out.drew.below (below_al (Below.refl _ _) _) | exact (HC.out.below (below_al (Below.refl _ _) _)).drew) hb)
  clear HR HC hb x0
  have HR := HRq
  have HC := HCq
  clear HRq HCq
  have x0 := HR.out.cells (List.mem_cons_self ..)
  by_cases h16 : cs.length ≤ 16
  rotate_left
  · go_wp2_with fail
    refine (known_ex _ (HH.out.below (Frm.b (w := w) (bs := [(w.heap.size, (stBox s (.slice A k c)))]) (by (repeat (with_reducible first | exact HR.out | apply Frm.drew | apply Frm.alloc))))) (HT.out.below (Frm.b (w := w) (bs := [(w.heap.size, (stBox s (.slice A k c)))]) (by (repeat (with_reducible first | exact HR.out | apply Frm.drew | apply Frm.alloc)))))).mono ?_
    rintro e wz ⟨rfl, hbz⟩
    have HZ := Lib.hid (Frm.below (w := w) (bs := [(w.heap.size, (stBox s (.slice A k c)))]) (by (repeat (with_reducible first | exact HR.out | apply Frm.drew | apply Frm.alloc))) hbz).b
    clear hbz x0
    go_wp2_with fail
    go_ret
    exact ⟨rfl, HZ.out⟩
  cases hd : betw fr 0 400
  · have HD := Lib.hid hd
    cases hs : soundB s cs
    · have HS := Lib.hid hs
      have HQ := Lib.hid (askF_not (s := s) (cs := cs))
      clear hs hd
      go_wp2_with fail
      refine (due_bad1 (by first | exact HC.out | exact HC.out.drew | exact HC.out.below (below_al (Below.refl _ _) _) | exact HC.out.drew.below (below_al (Below.refl _ _) _) | exact (HC.out.below (below_al (Below.refl _ _) _)).drew) HS.out).mono ?_
      rintro e w2 ⟨rfl, hb⟩
      have HRq := Lib.hid (Frm.below (w := w) (bs := [(w.heap.size, (stBox s (.slice A k c)))]) (by (repeat (with_reducible first | exact HR.out | apply Frm.drew | apply Frm.alloc))) hb)
      have HCq := Lib.hid (Chks.below (cs := cs) (by first | exact HC.out | exact HC.out.drew | exact HC.out.below (below_al (Below.refl _ _) _) | exact HC.out.drew.below (below_al (Below.refl _ _) _) | exact (HC.out.below (below_al (Below.refl _ _) _)).drew) hb)
      clear HR HC hb x0
      have HR := HRq
      have HC := HCq
      clear HRq HCq
      have x0 := HR.out.cells (List.mem_cons_self ..)
      go_upto_region 4 with fail
      go_cut [9] (fun s9 wx => s9 = .int .i64 2 ∧ Frm w [(w.heap.size, (stBox s (.slice A k c)))] wx ∧ Chks wx (.slice A k c) cs)
      case first =>
        first | (go_region_with (first | (go_at_call 21; refine (rDay_is HD.out _).mono ?_; rintro e wq ⟨rfl, rfl⟩) | (go_at_call 20; refine (asked_is (by first | exact HC.out | exact HC.out.drew | exact HC.out.below (below_al (Below.refl _ _) _) | exact HC.out.drew.below (below_al (Below.refl _ _) _) | exact (HC.out.below (below_al (Below.refl _ _) _)).drew) HQ.out).mono ?_; rintro e wa ⟨rfl, hba⟩; have HCq := Lib.hid (Chks.below (cs := cs) (by first | exact HC.out | exact HC.out.drew | exact HC.out.below (below_al (Below.refl _ _) _) | exact HC.out.drew.below (below_al (Below.refl _ _) _) | exact (HC.out.below (below_al (Below.refl _ _) _)).drew) hba); have HRq := Lib.hid (Frm.below (w := w) (bs := [(w.heap.size, (stBox s (.slice A k c)))]) (by (repeat (with_reducible first | exact HR.out | apply Frm.drew | apply Frm.alloc))) hba); clear HR HC; have HR := HRq; have HC := HCq; clear HRq HCq hba; have x0 := HR.out.cells (List.mem_cons_self ..)))) | fail
        all_goals
          go_wp2_with fail
          go_meet
          exact ⟨rfl, (by (repeat (with_reducible first | exact HR.out | apply Frm.drew | apply Frm.alloc))), (by first | exact HC.out | exact HC.out.drew | exact HC.out.below (below_al (Below.refl _ _) _) | exact HC.out.drew.below (below_al (Below.refl _ _) _) | exact (HC.out.below (below_al (Below.refl _ _) _)).drew)⟩
      case rest =>
        obtain ⟨rfl, hF, hC⟩ := hcut
        clear HR HC x0
        have HR := Lib.hid hF
        have HC := Lib.hid hC
        clear hF hC
        have x0 := HR.out.cells (List.mem_cons_self ..)
        go_wp2_with fail
        refine (known_ex _ (HH.out.below (Frm.b (w := w) (bs := [(w.heap.size, (stBox s (.slice A k c)))]) (by (repeat (with_reducible first | exact HR.out | apply Frm.drew | apply Frm.alloc))))) (HT.out.below (Frm.b (w := w) (bs := [(w.heap.size, (stBox s (.slice A k c)))]) (by (repeat (with_reducible first | exact HR.out | apply Frm.drew | apply Frm.alloc)))))).mono ?_
        rintro e wz ⟨rfl, hbz⟩
        have HZ := Lib.hid (Frm.below (w := w) (bs := [(w.heap.size, (stBox s (.slice A k c)))]) (by (repeat (with_reducible first | exact HR.out | apply Frm.drew | apply Frm.alloc))) hbz).b
        clear hbz x0
        go_wp2_with fail
        go_ret
        exact ⟨rfl, HZ.out⟩
    · have HS := Lib.hid hs
      have HQ := Lib.hid (askF_not (s := s) (cs := cs))
      clear hs hd
      go_wp2_with fail
      refine (due_bad2 (by first | exact HC.out | exact HC.out.drew | exact HC.out.below (below_al (Below.refl _ _) _) | exact HC.out.drew.below (below_al (Below.refl _ _) _) | exact (HC.out.below (below_al (Below.refl _ _) _)).drew) HS.out HD.out).mono ?_
      rintro e w2 ⟨rfl, hb⟩
      have HRq := Lib.hid (Frm.below (w := w) (bs := [(w.heap.size, (stBox s (.slice A k c)))]) (by (repeat (with_reducible first | exact HR.out | apply Frm.drew | apply Frm.alloc))) hb)
      have HCq := Lib.hid (Chks.below (cs := cs) (by first | exact HC.out | exact HC.out.drew | exact HC.out.below (below_al (Below.refl _ _) _) | exact HC.out.drew.below (below_al (Below.refl _ _) _) | exact (HC.out.below (below_al (Below.refl _ _) _)).drew) hb)
      clear HR HC hb x0
      have HR := HRq
      have HC := HCq
      clear HRq HCq
      have x0 := HR.out.cells (List.mem_cons_self ..)
      go_upto_region 4 with fail
      go_cut [9] (fun s9 wx => s9 = .int .i64 2 ∧ Frm w [(w.heap.size, (stBox s (.slice A k c)))] wx ∧ Chks wx (.slice A k c) cs)
      case first =>
        first | (go_region_with (first | (go_at_call 21; refine (rDay_is HD.out _).mono ?_; rintro e wq ⟨rfl, rfl⟩) | (go_at_call 20; refine (asked_is (by first | exact HC.out | exact HC.out.drew | exact HC.out.below (below_al (Below.refl _ _) _) | exact HC.out.drew.below (below_al (Below.refl _ _) _) | exact (HC.out.below (below_al (Below.refl _ _) _)).drew) HQ.out).mono ?_; rintro e wa ⟨rfl, hba⟩; have HCq := Lib.hid (Chks.below (cs := cs) (by first | exact HC.out | exact HC.out.drew | exact HC.out.below (below_al (Below.refl _ _) _) | exact HC.out.drew.below (below_al (Below.refl _ _) _) | exact (HC.out.below (below_al (Below.refl _ _) _)).drew) hba); have HRq := Lib.hid (Frm.below (w := w) (bs := [(w.heap.size, (stBox s (.slice A k c)))]) (by (repeat (with_reducible first | exact HR.out | apply Frm.drew | apply Frm.alloc))) hba); clear HR HC; have HR := HRq; have HC := HCq; clear HRq HCq hba; have x0 := HR.out.cells (List.mem_cons_self ..)))) | fail
        all_goals
          go_wp2_with fail
          go_meet
          exact ⟨rfl, (by (repeat (with_reducible first | exact HR.out | apply Frm.drew | apply Frm.alloc))), (by first | exact HC.out | exact HC.out.drew | exact HC.out.below (below_al (Below.refl _ _) _) | exact HC.out.drew.below (below_al (Below.refl _ _) _) | exact (HC.out.below (below_al (Below.refl _ _) _)).drew)⟩
      case rest =>
        obtain ⟨rfl, hF, hC⟩ := hcut
        clear HR HC x0
        have HR := Lib.hid hF
        have HC := Lib.hid hC
        clear hF hC
        have x0 := HR.out.cells (List.mem_cons_self ..)
        go_wp2_with fail
        refine (known_ex _ (HH.out.below (Frm.b (w := w) (bs := [(w.heap.size, (stBox s (.slice A k c)))]) (by (repeat (with_reducible first | exact HR.out | apply Frm.drew | apply Frm.alloc))))) (HT.out.below (Frm.b (w := w) (bs := [(w.heap.size, (stBox s (.slice A k c)))]) (by (repeat (with_reducible first | exact HR.out | apply Frm.drew | apply Frm.alloc)))))).mono ?_
        rintro e wz ⟨rfl, hbz⟩
        have HZ := Lib.hid (Frm.below (w := w) (bs := [(w.heap.size, (stBox s (.slice A k c)))]) (by (repeat (with_reducible first | exact HR.out | apply Frm.drew | apply Frm.alloc))) hbz).b
        clear hbz x0
        go_wp2_with fail
        go_ret
        exact ⟨rfl, HZ.out⟩
  · have HD := Lib.hid hd
    have hfd := betw_iff.1 hd
    cases hw : betw width 0 4000
    · have HW := Lib.hid hw
      cases hs : soundB s cs
      · have HS := Lib.hid hs
        have HQ := Lib.hid (askF_not (s := s) (cs := cs))
        clear hs hd hw
        go_wp2_with fail
        refine (due_bad1 (by first | exact HC.out | exact HC.out.drew | exact HC.out.below (below_al (Below.refl _ _) _) | exact HC.out.drew.below (below_al (Below.refl _ _) _) | exact (HC.out.below (below_al (Below.refl _ _) _)).drew) HS.out).mono ?_
        rintro e w2 ⟨rfl, hb⟩
        have HRq := Lib.hid (Frm.below (w := w) (bs := [(w.heap.size, (stBox s (.slice A k c)))]) (by (repeat (with_reducible first | exact HR.out | apply Frm.drew | apply Frm.alloc))) hb)
        have HCq := Lib.hid (Chks.below (cs := cs) (by first | exact HC.out | exact HC.out.drew | exact HC.out.below (below_al (Below.refl _ _) _) | exact HC.out.drew.below (below_al (Below.refl _ _) _) | exact (HC.out.below (below_al (Below.refl _ _) _)).drew) hb)
        clear HR HC hb x0
        have HR := HRq
        have HC := HCq
        clear HRq HCq
        have x0 := HR.out.cells (List.mem_cons_self ..)
        go_upto_region 4 with fail
        go_region_held3 (fun w' => (∀ o, w'.cell? ⟨w.heap.size, o, none⟩ = #[Value.int .i64 s.hl, .int .i64 s.hh, .int .i64 s.gl, .int .i64 s.gh, .int .i64 s.dr, .int .i64 s.rd, .int .i64 s.ea, .int .i64 s.sl, .slice A k c][o]?)) ((exact (fun hF : Frm w [(w.heap.size, (stBox s (.slice A k c)))] _ => hF.cells (List.mem_cons_self ..)) (by (repeat (with_reducible first | exact HR.out | apply Frm.drew | apply Frm.alloc))))) (first | (go_at_call 21; refine (rDay_is HD.out _).mono ?_; rintro e wq ⟨rfl, rfl⟩) | (go_at_call 29; refine (rWidth_is HW.out _).mono ?_; rintro e wq ⟨rfl, rfl⟩) | (go_at_call 20; refine (asked_is (by first | exact HC.out | exact HC.out.drew | exact HC.out.below (below_al (Below.refl _ _) _) | exact HC.out.drew.below (below_al (Below.refl _ _) _) | exact (HC.out.below (below_al (Below.refl _ _) _)).drew) HQ.out).mono ?_; rintro e wa ⟨rfl, hba⟩; have HCq := Lib.hid (Chks.below (cs := cs) (by first | exact HC.out | exact HC.out.drew | exact HC.out.below (below_al (Below.refl _ _) _) | exact HC.out.drew.below (below_al (Below.refl _ _) _) | exact (HC.out.below (below_al (Below.refl _ _) _)).drew) hba); have HRq := Lib.hid (Frm.below (w := w) (bs := [(w.heap.size, (stBox s (.slice A k c)))]) (by (repeat (with_reducible first | exact HR.out | apply Frm.drew | apply Frm.alloc))) hba); clear HR HC; have HR := HRq; have HC := HCq; clear HRq HCq hba))
        clear x0
        have x0 := HR.out.cells (List.mem_cons_self ..)
        go_wp2_with fail
        refine (known_ex _ (HH.out.below (Frm.b (w := w) (bs := [(w.heap.size, (stBox s (.slice A k c)))]) (by (repeat (with_reducible first | exact HR.out | apply Frm.drew | apply Frm.alloc))))) (HT.out.below (Frm.b (w := w) (bs := [(w.heap.size, (stBox s (.slice A k c)))]) (by (repeat (with_reducible first | exact HR.out | apply Frm.drew | apply Frm.alloc)))))).mono ?_
        rintro e wz ⟨rfl, hbz⟩
        have HZ := Lib.hid (Frm.below (w := w) (bs := [(w.heap.size, (stBox s (.slice A k c)))]) (by (repeat (with_reducible first | exact HR.out | apply Frm.drew | apply Frm.alloc))) hbz).b
        clear hbz x0
        go_wp2_with fail
        go_ret
        exact ⟨rfl, HZ.out⟩
      · have HS := Lib.hid hs
        have HQ := Lib.hid (askF_not (s := s) (cs := cs))
        clear hs hd hw
        go_wp2_with fail
        refine (due_bad3 (by first | exact HC.out | exact HC.out.drew | exact HC.out.below (below_al (Below.refl _ _) _) | exact HC.out.drew.below (below_al (Below.refl _ _) _) | exact (HC.out.below (below_al (Below.refl _ _) _)).drew) HS.out HD.out HW.out).mono ?_
        rintro e w2 ⟨rfl, hb⟩
        have HRq := Lib.hid (Frm.below (w := w) (bs := [(w.heap.size, (stBox s (.slice A k c)))]) (by (repeat (with_reducible first | exact HR.out | apply Frm.drew | apply Frm.alloc))) hb)
        have HCq := Lib.hid (Chks.below (cs := cs) (by first | exact HC.out | exact HC.out.drew | exact HC.out.below (below_al (Below.refl _ _) _) | exact HC.out.drew.below (below_al (Below.refl _ _) _) | exact (HC.out.below (below_al (Below.refl _ _) _)).drew) hb)
        clear HR HC hb x0
        have HR := HRq
        have HC := HCq
        clear HRq HCq
        have x0 := HR.out.cells (List.mem_cons_self ..)
        go_upto_region 4 with fail
        go_region_held3 (fun w' => (∀ o, w'.cell? ⟨w.heap.size, o, none⟩ = #[Value.int .i64 s.hl, .int .i64 s.hh, .int .i64 s.gl, .int .i64 s.gh, .int .i64 s.dr, .int .i64 s.rd, .int .i64 s.ea, .int .i64 s.sl, .slice A k c][o]?)) ((exact (fun hF : Frm w [(w.heap.size, (stBox s (.slice A k c)))] _ => hF.cells (List.mem_cons_self ..)) (by (repeat (with_reducible first | exact HR.out | apply Frm.drew | apply Frm.alloc))))) (first | (go_at_call 21; refine (rDay_is HD.out _).mono ?_; rintro e wq ⟨rfl, rfl⟩) | (go_at_call 29; refine (rWidth_is HW.out _).mono ?_; rintro e wq ⟨rfl, rfl⟩) | (go_at_call 20; refine (asked_is (by first | exact HC.out | exact HC.out.drew | exact HC.out.below (below_al (Below.refl _ _) _) | exact HC.out.drew.below (below_al (Below.refl _ _) _) | exact (HC.out.below (below_al (Below.refl _ _) _)).drew) HQ.out).mono ?_; rintro e wa ⟨rfl, hba⟩; have HCq := Lib.hid (Chks.below (cs := cs) (by first | exact HC.out | exact HC.out.drew | exact HC.out.below (below_al (Below.refl _ _) _) | exact HC.out.drew.below (below_al (Below.refl _ _) _) | exact (HC.out.below (below_al (Below.refl _ _) _)).drew) hba); have HRq := Lib.hid (Frm.below (w := w) (bs := [(w.heap.size, (stBox s (.slice A k c)))]) (by (repeat (with_reducible first | exact HR.out | apply Frm.drew | apply Frm.alloc))) hba); clear HR HC; have HR := HRq; have HC := HCq; clear HRq HCq hba))
        clear x0
        have x0 := HR.out.cells (List.mem_cons_self ..)
        go_wp2_with fail
        refine (known_ex _ (HH.out.below (Frm.b (w := w) (bs := [(w.heap.size, (stBox s (.slice A k c)))]) (by (repeat (with_reducible first | exact HR.out | apply Frm.drew | apply Frm.alloc))))) (HT.out.below (Frm.b (w := w) (bs := [(w.heap.size, (stBox s (.slice A k c)))]) (by (repeat (with_reducible first | exact HR.out | apply Frm.drew | apply Frm.alloc)))))).mono ?_
        rintro e wz ⟨rfl, hbz⟩
        have HZ := Lib.hid (Frm.below (w := w) (bs := [(w.heap.size, (stBox s (.slice A k c)))]) (by (repeat (with_reducible first | exact HR.out | apply Frm.drew | apply Frm.alloc))) hbz).b
        clear hbz x0
        go_wp2_with fail
        go_ret
        exact ⟨rfl, HZ.out⟩
    · have HW := Lib.hid hw
      cases hs : soundB s cs
      · have HS := Lib.hid hs
        have HQ := Lib.hid (askF_bad (fine := true) hs)
        clear hs hd hw
        go_wp2_with fail
        refine (due_bad1 (by first | exact HC.out | exact HC.out.drew | exact HC.out.below (below_al (Below.refl _ _) _) | exact HC.out.drew.below (below_al (Below.refl _ _) _) | exact (HC.out.below (below_al (Below.refl _ _) _)).drew) HS.out).mono ?_
        rintro e w2 ⟨rfl, hb⟩
        have HRq := Lib.hid (Frm.below (w := w) (bs := [(w.heap.size, (stBox s (.slice A k c)))]) (by (repeat (with_reducible first | exact HR.out | apply Frm.drew | apply Frm.alloc))) hb)
        have HCq := Lib.hid (Chks.below (cs := cs) (by first | exact HC.out | exact HC.out.drew | exact HC.out.below (below_al (Below.refl _ _) _) | exact HC.out.drew.below (below_al (Below.refl _ _) _) | exact (HC.out.below (below_al (Below.refl _ _) _)).drew) hb)
        clear HR HC hb x0
        have HR := HRq
        have HC := HCq
        clear HRq HCq
        have x0 := HR.out.cells (List.mem_cons_self ..)
        go_upto_region 4 with fail
        go_region_held3 (fun w' => (∀ o, w'.cell? ⟨w.heap.size, o, none⟩ = #[Value.int .i64 s.hl, .int .i64 s.hh, .int .i64 s.gl, .int .i64 s.gh, .int .i64 s.dr, .int .i64 s.rd, .int .i64 s.ea, .int .i64 s.sl, .slice A k c][o]?)) ((exact (fun hF : Frm w [(w.heap.size, (stBox s (.slice A k c)))] _ => hF.cells (List.mem_cons_self ..)) (by (repeat (with_reducible first | exact HR.out | apply Frm.drew | apply Frm.alloc))))) (first | (go_at_call 21; refine (rDay_is HD.out _).mono ?_; rintro e wq ⟨rfl, rfl⟩) | (go_at_call 29; refine (rWidth_is HW.out _).mono ?_; rintro e wq ⟨rfl, rfl⟩) | (go_at_call 20; refine (asked_is (by first | exact HC.out | exact HC.out.drew | exact HC.out.below (below_al (Below.refl _ _) _) | exact HC.out.drew.below (below_al (Below.refl _ _) _) | exact (HC.out.below (below_al (Below.refl _ _) _)).drew) HQ.out).mono ?_; rintro e wa ⟨rfl, hba⟩; have HCq := Lib.hid (Chks.below (cs := cs) (by first | exact HC.out | exact HC.out.drew | exact HC.out.below (below_al (Below.refl _ _) _) | exact HC.out.drew.below (below_al (Below.refl _ _) _) | exact (HC.out.below (below_al (Below.refl _ _) _)).drew) hba); have HRq := Lib.hid (Frm.below (w := w) (bs := [(w.heap.size, (stBox s (.slice A k c)))]) (by (repeat (with_reducible first | exact HR.out | apply Frm.drew | apply Frm.alloc))) hba); clear HR HC; have HR := HRq; have HC := HCq; clear HRq HCq hba))
        clear x0
        have x0 := HR.out.cells (List.mem_cons_self ..)
        go_wp2_with fail
        refine (known_ex _ (HH.out.below (Frm.b (w := w) (bs := [(w.heap.size, (stBox s (.slice A k c)))]) (by (repeat (with_reducible first | exact HR.out | apply Frm.drew | apply Frm.alloc))))) (HT.out.below (Frm.b (w := w) (bs := [(w.heap.size, (stBox s (.slice A k c)))]) (by (repeat (with_reducible first | exact HR.out | apply Frm.drew | apply Frm.alloc)))))).mono ?_
        rintro e wz ⟨rfl, hbz⟩
        have HZ := Lib.hid (Frm.below (w := w) (bs := [(w.heap.size, (stBox s (.slice A k c)))]) (by (repeat (with_reducible first | exact HR.out | apply Frm.drew | apply Frm.alloc))) hbz).b
        clear hbz x0
        go_wp2_with fail
        go_ret
        exact ⟨rfl, HZ.out⟩
      · have HS := Lib.hid hs
        have hg := good_of_soundB hs
        rcases agreed_or s cs with hag | ⟨i, j, hf⟩
        · have HAG := Lib.hid hag
          have HQ := Lib.hid (askF_ok hs hag)
          rcases due_or s cs fr width with hno | ⟨d, hda⟩
          · have HN := Lib.hid hno
            clear hs hd hw hag hno
            go_wp2_with fail
            refine (due_none (by first | exact HC.out | exact HC.out.drew | exact HC.out.below (below_al (Below.refl _ _) _) | exact HC.out.drew.below (below_al (Below.refl _ _) _) | exact (HC.out.below (below_al (Below.refl _ _) _)).drew) HS.out HD.out HW.out HAG.out HN.out).mono ?_
            rintro e w2 ⟨rfl, hb⟩
            have HRq := Lib.hid (Frm.below (w := w) (bs := [(w.heap.size, (stBox s (.slice A k c)))]) (by (repeat (with_reducible first | exact HR.out | apply Frm.drew | apply Frm.alloc))) hb)
            have HCq := Lib.hid (Chks.below (cs := cs) (by first | exact HC.out | exact HC.out.drew | exact HC.out.below (below_al (Below.refl _ _) _) | exact HC.out.drew.below (below_al (Below.refl _ _) _) | exact (HC.out.below (below_al (Below.refl _ _) _)).drew) hb)
            clear HR HC hb x0
            have HR := HRq
            have HC := HCq
            clear HRq HCq
            have x0 := HR.out.cells (List.mem_cons_self ..)
            go_upto_region 4 with fail
            go_region_held3 (fun w' => (∀ o, w'.cell? ⟨w.heap.size, o, none⟩ = #[Value.int .i64 s.hl, .int .i64 s.hh, .int .i64 s.gl, .int .i64 s.gh, .int .i64 s.dr, .int .i64 s.rd, .int .i64 s.ea, .int .i64 s.sl, .slice A k c][o]?)) ((exact (fun hF : Frm w [(w.heap.size, (stBox s (.slice A k c)))] _ => hF.cells (List.mem_cons_self ..)) (by (repeat (with_reducible first | exact HR.out | apply Frm.drew | apply Frm.alloc))))) (first | (go_at_call 21; refine (rDay_is HD.out _).mono ?_; rintro e wq ⟨rfl, rfl⟩) | (go_at_call 29; refine (rWidth_is HW.out _).mono ?_; rintro e wq ⟨rfl, rfl⟩) | (go_at_call 20; refine (asked_is (by first | exact HC.out | exact HC.out.drew | exact HC.out.below (below_al (Below.refl _ _) _) | exact HC.out.drew.below (below_al (Below.refl _ _) _) | exact (HC.out.below (below_al (Below.refl _ _) _)).drew) HQ.out).mono ?_; rintro e wa ⟨rfl, hba⟩; have HCq := Lib.hid (Chks.below (cs := cs) (by first | exact HC.out | exact HC.out.drew | exact HC.out.below (below_al (Below.refl _ _) _) | exact HC.out.drew.below (below_al (Below.refl _ _) _) | exact (HC.out.below (below_al (Below.refl _ _) _)).drew) hba); have HRq := Lib.hid (Frm.below (w := w) (bs := [(w.heap.size, (stBox s (.slice A k c)))]) (by (repeat (with_reducible first | exact HR.out | apply Frm.drew | apply Frm.alloc))) hba); clear HR HC; have HR := HRq; have HC := HCq; clear HRq HCq hba))
            clear x0
            have x0 := HR.out.cells (List.mem_cons_self ..)
            go_wp2_with fail
            refine (rDue_any (by first | exact HC.out | exact HC.out.drew | exact HC.out.below (below_al (Below.refl _ _) _) | exact HC.out.drew.below (below_al (Below.refl _ _) _) | exact (HC.out.below (below_al (Below.refl _ _) _)).drew) hg.sane hfd.1 hfd.2).mono ?_
            rintro e w3 ⟨hb, hdr⟩
            have HRq := Lib.hid (Frm.below (w := w) (bs := [(w.heap.size, (stBox s (.slice A k c)))]) (by (repeat (with_reducible first | exact HR.out | apply Frm.drew | apply Frm.alloc))) hb)
            clear HR HC hb x0
            have HR := HRq
            clear HRq
            rcases hdr with ⟨_, rfl⟩ | ⟨d, hda, rfl⟩
            rotate_left
            · exact absurd (HN.out d hda.ge hda.le) (by have := hda.wide; omega)
            have x0 := HR.out.cells (List.mem_cons_self ..)
            go_wp2_with fail
            refine (known_ex _ (HH.out.below (Frm.b (w := w) (bs := [(w.heap.size, (stBox s (.slice A k c)))]) (by (repeat (with_reducible first | exact HR.out | apply Frm.drew | apply Frm.alloc))))) (HT.out.below (Frm.b (w := w) (bs := [(w.heap.size, (stBox s (.slice A k c)))]) (by (repeat (with_reducible first | exact HR.out | apply Frm.drew | apply Frm.alloc)))))).mono ?_
            rintro e wz ⟨rfl, hbz⟩
            have HZ := Lib.hid (Frm.below (w := w) (bs := [(w.heap.size, (stBox s (.slice A k c)))]) (by (repeat (with_reducible first | exact HR.out | apply Frm.drew | apply Frm.alloc))) hbz).b
            clear hbz x0
            go_wp2_with fail
            go_ret
            exact ⟨rfl, HZ.out⟩
          · have HN := Lib.hid hda
            have hd0 : 0 ≤ d := by have := hda.ge; omega
            clear hs hd hw hag hda
            go_wp2_with fail
            refine (due_some (by first | exact HC.out | exact HC.out.drew | exact HC.out.below (below_al (Below.refl _ _) _) | exact HC.out.drew.below (below_al (Below.refl _ _) _) | exact (HC.out.below (below_al (Below.refl _ _) _)).drew) HS.out HD.out HW.out HAG.out d HN.out).mono ?_
            rintro e w2 ⟨rfl, hb⟩
            have HRq := Lib.hid (Frm.below (w := w) (bs := [(w.heap.size, (stBox s (.slice A k c)))]) (by (repeat (with_reducible first | exact HR.out | apply Frm.drew | apply Frm.alloc))) hb)
            have HCq := Lib.hid (Chks.below (cs := cs) (by first | exact HC.out | exact HC.out.drew | exact HC.out.below (below_al (Below.refl _ _) _) | exact HC.out.drew.below (below_al (Below.refl _ _) _) | exact (HC.out.below (below_al (Below.refl _ _) _)).drew) hb)
            clear HR HC hb x0
            have HR := HRq
            have HC := HCq
            clear HRq HCq
            have x0 := HR.out.cells (List.mem_cons_self ..)
            go_upto_region 4 with fail
            go_region_held3 (fun w' => (∀ o, w'.cell? ⟨w.heap.size, o, none⟩ = #[Value.int .i64 s.hl, .int .i64 s.hh, .int .i64 s.gl, .int .i64 s.gh, .int .i64 s.dr, .int .i64 s.rd, .int .i64 s.ea, .int .i64 s.sl, .slice A k c][o]?)) ((exact (fun hF : Frm w [(w.heap.size, (stBox s (.slice A k c)))] _ => hF.cells (List.mem_cons_self ..)) (by (repeat (with_reducible first | exact HR.out | apply Frm.drew | apply Frm.alloc))))) (first | (go_at_call 21; refine (rDay_is HD.out _).mono ?_; rintro e wq ⟨rfl, rfl⟩) | (go_at_call 29; refine (rWidth_is HW.out _).mono ?_; rintro e wq ⟨rfl, rfl⟩) | (go_at_call 20; refine (asked_is (by first | exact HC.out | exact HC.out.drew | exact HC.out.below (below_al (Below.refl _ _) _) | exact HC.out.drew.below (below_al (Below.refl _ _) _) | exact (HC.out.below (below_al (Below.refl _ _) _)).drew) HQ.out).mono ?_; rintro e wa ⟨rfl, hba⟩; have HCq := Lib.hid (Chks.below (cs := cs) (by first | exact HC.out | exact HC.out.drew | exact HC.out.below (below_al (Below.refl _ _) _) | exact HC.out.drew.below (below_al (Below.refl _ _) _) | exact (HC.out.below (below_al (Below.refl _ _) _)).drew) hba); have HRq := Lib.hid (Frm.below (w := w) (bs := [(w.heap.size, (stBox s (.slice A k c)))]) (by (repeat (with_reducible first | exact HR.out | apply Frm.drew | apply Frm.alloc))) hba); clear HR HC; have HR := HRq; have HC := HCq; clear HRq HCq hba))
            clear x0
            have x0 := HR.out.cells (List.mem_cons_self ..)
            go_wp2_with fail
            refine (rDue_any (by first | exact HC.out | exact HC.out.drew | exact HC.out.below (below_al (Below.refl _ _) _) | exact HC.out.drew.below (below_al (Below.refl _ _) _) | exact (HC.out.below (below_al (Below.refl _ _) _)).drew) hg.sane hfd.1 hfd.2).mono ?_
            rintro e w3 ⟨hb, hdr⟩
            have HRq := Lib.hid (Frm.below (w := w) (bs := [(w.heap.size, (stBox s (.slice A k c)))]) (by (repeat (with_reducible first | exact HR.out | apply Frm.drew | apply Frm.alloc))) hb)
            clear HR HC hb x0
            have HR := HRq
            clear HRq
            rcases hdr with ⟨hno, rfl⟩ | ⟨d', hda', rfl⟩
            · exact absurd (hno d HN.out.ge HN.out.le) (by have := HN.out.wide; omega)
            obtain rfl : d = d' := HN.out.uniq hda'
            clear hda'
            have x0 := HR.out.cells (List.mem_cons_self ..)
            go_wp2_with fail
            refine (known_ex _ (HH.out.below (Frm.b (w := w) (bs := [(w.heap.size, (stBox s (.slice A k c)))]) (by (repeat (with_reducible first | exact HR.out | apply Frm.drew | apply Frm.alloc))))) (HT.out.below (Frm.b (w := w) (bs := [(w.heap.size, (stBox s (.slice A k c)))]) (by (repeat (with_reducible first | exact HR.out | apply Frm.drew | apply Frm.alloc)))))).mono ?_
            rintro e wz ⟨rfl, hbz⟩
            have HZ := Lib.hid (Frm.below (w := w) (bs := [(w.heap.size, (stBox s (.slice A k c)))]) (by (repeat (with_reducible first | exact HR.out | apply Frm.drew | apply Frm.alloc))) hbz).b
            clear hbz x0
            go_wp2_with fail
            go_ret
            exact ⟨rfl, HZ.out⟩
        · have HF := Lib.hid hf
          have HQ := Lib.hid (askF_rule hs hf)
          clear hs hd hw hf
          go_wp2_with fail
          refine (due_rule (by first | exact HC.out | exact HC.out.drew | exact HC.out.below (below_al (Below.refl _ _) _) | exact HC.out.drew.below (below_al (Below.refl _ _) _) | exact (HC.out.below (below_al (Below.refl _ _) _)).drew) HS.out HD.out HW.out HF.out).mono ?_
          rintro e w2 ⟨rfl, hb⟩
          have HRq := Lib.hid (Frm.below (w := w) (bs := [(w.heap.size, (stBox s (.slice A k c)))]) (by (repeat (with_reducible first | exact HR.out | apply Frm.drew | apply Frm.alloc))) hb)
          have HCq := Lib.hid (Chks.below (cs := cs) (by first | exact HC.out | exact HC.out.drew | exact HC.out.below (below_al (Below.refl _ _) _) | exact HC.out.drew.below (below_al (Below.refl _ _) _) | exact (HC.out.below (below_al (Below.refl _ _) _)).drew) hb)
          clear HR HC hb x0
          have HR := HRq
          have HC := HCq
          clear HRq HCq
          have x0 := HR.out.cells (List.mem_cons_self ..)
          go_upto_region 4 with fail
          go_region_held3 (fun w' => (∀ o, w'.cell? ⟨w.heap.size, o, none⟩ = #[Value.int .i64 s.hl, .int .i64 s.hh, .int .i64 s.gl, .int .i64 s.gh, .int .i64 s.dr, .int .i64 s.rd, .int .i64 s.ea, .int .i64 s.sl, .slice A k c][o]?)) ((exact (fun hF : Frm w [(w.heap.size, (stBox s (.slice A k c)))] _ => hF.cells (List.mem_cons_self ..)) (by (repeat (with_reducible first | exact HR.out | apply Frm.drew | apply Frm.alloc))))) (first | (go_at_call 21; refine (rDay_is HD.out _).mono ?_; rintro e wq ⟨rfl, rfl⟩) | (go_at_call 29; refine (rWidth_is HW.out _).mono ?_; rintro e wq ⟨rfl, rfl⟩) | (go_at_call 20; refine (asked_is (by first | exact HC.out | exact HC.out.drew | exact HC.out.below (below_al (Below.refl _ _) _) | exact HC.out.drew.below (below_al (Below.refl _ _) _) | exact (HC.out.below (below_al (Below.refl _ _) _)).drew) HQ.out).mono ?_; rintro e wa ⟨rfl, hba⟩; have HCq := Lib.hid (Chks.below (cs := cs) (by first | exact HC.out | exact HC.out.drew | exact HC.out.below (below_al (Below.refl _ _) _) | exact HC.out.drew.below (below_al (Below.refl _ _) _) | exact (HC.out.below (below_al (Below.refl _ _) _)).drew) hba); have HRq := Lib.hid (Frm.below (w := w) (bs := [(w.heap.size, (stBox s (.slice A k c)))]) (by (repeat (with_reducible first | exact HR.out | apply Frm.drew | apply Frm.alloc))) hba); clear HR HC; have HR := HRq; have HC := HCq; clear HRq HCq hba))
          clear x0
          have x0 := HR.out.cells (List.mem_cons_self ..)
          go_wp2_with fail
          refine (known_ex _ (HH.out.below (Frm.b (w := w) (bs := [(w.heap.size, (stBox s (.slice A k c)))]) (by (repeat (with_reducible first | exact HR.out | apply Frm.drew | apply Frm.alloc))))) (HT.out.below (Frm.b (w := w) (bs := [(w.heap.size, (stBox s (.slice A k c)))]) (by (repeat (with_reducible first | exact HR.out | apply Frm.drew | apply Frm.alloc)))))).mono ?_
          rintro e wz ⟨rfl, hbz⟩
          have HZ := Lib.hid (Frm.below (w := w) (bs := [(w.heap.size, (stBox s (.slice A k c)))]) (by (repeat (with_reducible first | exact HR.out | apply Frm.drew | apply Frm.alloc))) hbz).b
          clear hbz x0
          go_wp2_with fail
          go_ret
          exact ⟨rfl, HZ.out⟩
end Go.Proofs.YtipckgojoanokaaDoor
