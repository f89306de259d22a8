/- The law GlassIndexes, walked. -/
import Derived.Test.YtipckgojoanokaaDoorRag
set_option linter.unusedVariables false
set_option linter.unusedSimpArgs false
namespace Go.Proofs.YtipckgojoanokaaDoor
open Go.RowKit Go.Maps

set_option maxHeartbeats 1000000 in
set_option maxRecDepth 100000 in
theorem lawGlassIndexes {s : Stn} {v : Value} {cs : List Chk} {day : Int} {w : World} (hc : Chks w v cs) (hh : Holds w) (ht : Tab w) :
    Calls Tryd.prog 3 #[stV s v, .int .i64 day] w fun e w' => e = .returned (.bool true) ∧ Below w.heap.size w w' := by
  obtain ⟨A, k, c, rfl⟩ := hc.shape
  have HR : Hid (Frm w [(w.heap.size, (stBox s (.slice A k c)))] (w.alloc (stBox s (.slice A k c)))) := Lib.hid ((Frm.nil w).add _ rfl)
  have HC := Lib.hid (hc.below HR.out.b)
  have HH := Lib.hid hh
  have HT := Lib.hid ht
  clear hc hh ht
  have x_0 := HR.out.cells (List.mem_cons_self ..)
  go_enter Tryd.func3, Tryd.ntmps3
  go_wp2_with fail
  refine (short_any HC.out).mono ?_
  rintro e w1 ⟨rfl, hb⟩
  have HR1 := Lib.hid (HR.out.below hb)
  have HC1 := Lib.hid (HC.out.below hb)
  clear hb x_0
  have x1_0 := HR1.out.cells (List.mem_cons_self ..)
  by_cases h16 : cs.length ≤ 16
  · cases hs : soundB s cs
    · have HS := Lib.hid hs
      have HD := Lib.hid (rfl : betw day 0 400 = betw day 0 400)
      have HQ := Lib.hid (askF_bad (fine := betw day 0 400) hs)
      clear hs
      go_wp2_with fail
      refine (check_bad HC1.out HS.out).mono ?_
      rintro e w2 ⟨rfl, hb⟩
      have HR2 := Lib.hid (HR1.out.below hb)
      have HC2 := Lib.hid (HC1.out.below hb)
      clear hb x1_0
      have x2_0 := HR2.out.cells (List.mem_cons_self ..)
      go_wp2_with fail
      refine (index_bad HC2.out (.inl HS.out)).mono ?_
      rintro e w3 ⟨rfl, hb⟩
      have HR3 := Lib.hid ((HR2.out.below hb).add (spBox 0 0) rfl)
      have HC3 := Lib.hid (HC2.out.below (below_al hb (spBox 0 0)))
      clear hb x2_0
      have x3_0 := HR3.out.cells (List.mem_cons_self ..)
      have x3_1 := HR3.out.cells (List.mem_cons_of_mem _ (List.mem_cons_self ..))
      go_wp2_with fail
      refine (rStation_is HC3.out HS.out).mono ?_
      rintro e w4 ⟨rfl, hb⟩
      have HR4 := Lib.hid (HR3.out.below hb)
      have HC4 := Lib.hid (HC3.out.below hb)
      clear hb x3_0 x3_1
      have x4_0 := HR4.out.cells (List.mem_cons_self ..)
      have x4_1 := HR4.out.cells (List.mem_cons_of_mem _ (List.mem_cons_self ..))
      go_upto_region 8 with fail
      have HR := HR4
      have HC := HC4
      go_region_held3 (fun w' => (∀ o, w'.cell? ⟨w.heap.size, o, none⟩ = #[Value.int .i64 s.hl, .int .i64 s.hh, .int .i64 s.gl, .int .i64 s.gh, .int .i64 s.dr, .int .i64 s.rd, .int .i64 s.ea, .int .i64 s.sl, .slice A k c][o]?)) ((exact (fun hF : Frm w [(w3.heap.size, (spBox 0 0)), (w.heap.size, (stBox s (.slice A k c)))] _ => hF.cells (List.mem_cons_of_mem _ (List.mem_cons_self ..))) (by (repeat (with_reducible first | exact HR.out | apply Frm.drew | apply Frm.alloc))))) (first | (go_at_call 21; refine (rDay_any _ _).mono ?_; rintro e wq ⟨rfl, rfl⟩) | (go_at_call 20; refine (asked_is (by first | exact HC.out | exact HC.out.drew | exact HC.out.alloc _ | exact (HC.out.alloc _).drew : Chks _ _ cs) HQ.out).mono ?_; rintro e wa ⟨rfl, hba⟩; have HCq := Lib.hid (Chks.below ((by first | exact HC.out | exact HC.out.drew | exact HC.out.alloc _ | exact (HC.out.alloc _).drew | exact HC.out.drew.drew : Chks _ _ cs)) hba); have HRq := Lib.hid (Frm.below (w := w) (bs := [(w3.heap.size, (spBox 0 0)), (w.heap.size, (stBox s (.slice A k c)))]) (by (repeat (with_reducible first | exact HR.out | apply Frm.drew | apply Frm.alloc))) hba); clear HR HC; have HR := HRq; have HC := HCq; clear HRq HCq hba))
      clear x4_0 x4_1
      have y0 := HR.out.cells (List.mem_cons_self ..)
      have y1 := HR.out.cells (List.mem_cons_of_mem _ (List.mem_cons_self ..))
      go_wp2_with fail
      refine (known_ex _ (HH.out.below HR.out.b) (HT.out.below HR.out.b)).mono ?_
      rintro e wz ⟨rfl, hbz⟩
      go_wp2_with fail
      go_ret
      exact ⟨rfl, (HR.out.below hbz).b⟩
    · have hg := good_of_soundB hs
      have HS := Lib.hid hs
      cases hd : betw day 0 400
      · have HD := Lib.hid hd
        have HQ := Lib.hid (askF_not (s := s) (cs := cs))
        clear hd hs
        go_wp2_with fail
        refine (check_ok HC1.out HS.out).mono ?_
        rintro e w2 ⟨rfl, hb⟩
        have HR2 := Lib.hid (HR1.out.below hb)
        have HC2 := Lib.hid (HC1.out.below hb)
        clear hb x1_0
        have x2_0 := HR2.out.cells (List.mem_cons_self ..)
        go_wp2_with fail
        refine (index_bad HC2.out (.inr HD.out)).mono ?_
        rintro e w3 ⟨rfl, hb⟩
        have HR3 := Lib.hid ((HR2.out.below hb).add (spBox 0 0) rfl)
        have HC3 := Lib.hid (HC2.out.below (below_al hb (spBox 0 0)))
        clear hb x2_0
        have x3_0 := HR3.out.cells (List.mem_cons_self ..)
        have x3_1 := HR3.out.cells (List.mem_cons_of_mem _ (List.mem_cons_self ..))
        go_wp2_with fail
        refine (rStation_is HC3.out HS.out).mono ?_
        rintro e w4 ⟨rfl, hb⟩
        have HR4 := Lib.hid (HR3.out.below hb)
        have HC4 := Lib.hid (HC3.out.below hb)
        clear hb x3_0 x3_1
        have x4_0 := HR4.out.cells (List.mem_cons_self ..)
        have x4_1 := HR4.out.cells (List.mem_cons_of_mem _ (List.mem_cons_self ..))
        go_upto_region 8 with fail
        have HR := HR4
        have HC := HC4
        go_region_held3 (fun w' => (∀ o, w'.cell? ⟨w.heap.size, o, none⟩ = #[Value.int .i64 s.hl, .int .i64 s.hh, .int .i64 s.gl, .int .i64 s.gh, .int .i64 s.dr, .int .i64 s.rd, .int .i64 s.ea, .int .i64 s.sl, .slice A k c][o]?)) ((exact (fun hF : Frm w [(w3.heap.size, (spBox 0 0)), (w.heap.size, (stBox s (.slice A k c)))] _ => hF.cells (List.mem_cons_of_mem _ (List.mem_cons_self ..))) (by (repeat (with_reducible first | exact HR.out | apply Frm.drew | apply Frm.alloc))))) (first | (go_at_call 21; refine (rDay_is HD.out _).mono ?_; rintro e wq ⟨rfl, rfl⟩) | (go_at_call 20; refine (asked_is (by first | exact HC.out | exact HC.out.drew | exact HC.out.alloc _ | exact (HC.out.alloc _).drew : Chks _ _ cs) HQ.out).mono ?_; rintro e wa ⟨rfl, hba⟩; have HCq := Lib.hid (Chks.below ((by first | exact HC.out | exact HC.out.drew | exact HC.out.alloc _ | exact (HC.out.alloc _).drew | exact HC.out.drew.drew : Chks _ _ cs)) hba); have HRq := Lib.hid (Frm.below (w := w) (bs := [(w3.heap.size, (spBox 0 0)), (w.heap.size, (stBox s (.slice A k c)))]) (by (repeat (with_reducible first | exact HR.out | apply Frm.drew | apply Frm.alloc))) hba); clear HR HC; have HR := HRq; have HC := HCq; clear HRq HCq hba))
        clear x4_0 x4_1
        have y0 := HR.out.cells (List.mem_cons_self ..)
        have y1 := HR.out.cells (List.mem_cons_of_mem _ (List.mem_cons_self ..))
        go_wp2_with fail
        refine (known_ex _ (HH.out.below HR.out.b) (HT.out.below HR.out.b)).mono ?_
        rintro e wz ⟨rfl, hbz⟩
        go_wp2_with fail
        go_ret
        exact ⟨rfl, (HR.out.below hbz).b⟩
      · have HD := Lib.hid hd
        rcases agreed_or s cs with hag | ⟨i, j, hf⟩
        · have HA := Lib.hid hag
          have HQ := Lib.hid (askF_ok hs hag)
          have HI : Hid (∀ W, Chks W (.slice A k c) cs → Calls Tryd.prog 18 #[stV s (.slice A k c), .int .i64 day] W fun x w' => x = .returned (.tuple #[spV (lowF s day cs) (highF s day cs), .int .i64 0]) ∧ Below W.heap.size W w') := Lib.hid (fun W h => index_ok h HS.out HD.out HA.out)
          have HX : Hid (∀ W, Chks W (.slice A k c) cs → Calls Tryd.prog 22 #[stV s (.slice A k c), .int .i64 day] W fun x w' => x = .returned (spV (lowF s day cs) (highF s day cs)) ∧ Below W.heap.size W w') := Lib.hid (fun W h => rIndex_any h hg.sane (betw_iff.1 HD.out).1 (betw_iff.1 HD.out).2)
          clear hd hs hag
          generalize lowF s day cs = lo at *
          generalize highF s day cs = hi at *
          go_wp2_with fail
          refine (check_ok HC1.out HS.out).mono ?_
          rintro e w2 ⟨rfl, hb⟩
          have HR2 := Lib.hid (HR1.out.below hb)
          have HC2 := Lib.hid (HC1.out.below hb)
          clear hb x1_0
          have x2_0 := HR2.out.cells (List.mem_cons_self ..)
          go_wp2_with fail
          refine (HI.out _ HC2.out).mono ?_
          rintro e w3 ⟨rfl, hb⟩
          have HR3 := Lib.hid ((HR2.out.below hb).add (spBox lo hi) rfl)
          have HC3 := Lib.hid (HC2.out.below (below_al hb (spBox lo hi)))
          clear hb x2_0
          have x3_0 := HR3.out.cells (List.mem_cons_self ..)
          have x3_1 := HR3.out.cells (List.mem_cons_of_mem _ (List.mem_cons_self ..))
          go_wp2_with fail
          refine (rStation_is HC3.out HS.out).mono ?_
          rintro e w4 ⟨rfl, hb⟩
          have HR4 := Lib.hid (HR3.out.below hb)
          have HC4 := Lib.hid (HC3.out.below hb)
          clear hb x3_0 x3_1
          have x4_0 := HR4.out.cells (List.mem_cons_self ..)
          have x4_1 := HR4.out.cells (List.mem_cons_of_mem _ (List.mem_cons_self ..))
          go_upto_region 8 with fail
          have HR := HR4
          have HC := HC4
          go_region_held3 (fun w' => (∀ o, w'.cell? ⟨w.heap.size, o, none⟩ = #[Value.int .i64 s.hl, .int .i64 s.hh, .int .i64 s.gl, .int .i64 s.gh, .int .i64 s.dr, .int .i64 s.rd, .int .i64 s.ea, .int .i64 s.sl, .slice A k c][o]?)) ((exact (fun hF : Frm w [(w3.heap.size, (spBox lo hi)), (w.heap.size, (stBox s (.slice A k c)))] _ => hF.cells (List.mem_cons_of_mem _ (List.mem_cons_self ..))) (by (repeat (with_reducible first | exact HR.out | apply Frm.drew | apply Frm.alloc))))) (first | (go_at_call 21; refine (rDay_is HD.out _).mono ?_; rintro e wq ⟨rfl, rfl⟩) | (go_at_call 20; refine (asked_is (by first | exact HC.out | exact HC.out.drew | exact HC.out.alloc _ | exact (HC.out.alloc _).drew : Chks _ _ cs) HQ.out).mono ?_; rintro e wa ⟨rfl, hba⟩; have HCq := Lib.hid (Chks.below ((by first | exact HC.out | exact HC.out.drew | exact HC.out.alloc _ | exact (HC.out.alloc _).drew | exact HC.out.drew.drew : Chks _ _ cs)) hba); have HRq := Lib.hid (Frm.below (w := w) (bs := [(w3.heap.size, (spBox lo hi)), (w.heap.size, (stBox s (.slice A k c)))]) (by (repeat (with_reducible first | exact HR.out | apply Frm.drew | apply Frm.alloc))) hba); clear HR HC; have HR := HRq; have HC := HCq; clear HRq HCq hba))
          clear x4_0 x4_1
          have y0 := HR.out.cells (List.mem_cons_self ..)
          have y1 := HR.out.cells (List.mem_cons_of_mem _ (List.mem_cons_self ..))
          go_upto_region 11 with fail
          go_region_held3 (fun w' => (∀ o, w'.cell? ⟨w3.heap.size, o, none⟩ = #[Value.int .i64 lo, .int .i64 hi][o]?) ∧ (∀ o, w'.cell? ⟨w.heap.size, o, none⟩ = #[Value.int .i64 s.hl, .int .i64 s.hh, .int .i64 s.gl, .int .i64 s.gh, .int .i64 s.dr, .int .i64 s.rd, .int .i64 s.ea, .int .i64 s.sl, .slice A k c][o]?)) ((exact (fun hF : Frm w [(w3.heap.size, (spBox lo hi)), (w.heap.size, (stBox s (.slice A k c)))] _ => ⟨hF.cells (List.mem_cons_self ..), hF.cells (List.mem_cons_of_mem _ (List.mem_cons_self ..))⟩) (by (repeat (with_reducible first | exact HR.out | apply Frm.drew | apply Frm.alloc))))) (first | (go_at_call 22; refine (HX.out _ (by first | exact HC.out | exact HC.out.drew | exact HC.out.alloc _ | exact (HC.out.alloc _).drew : Chks _ _ cs)).mono ?_; rintro e wa ⟨rfl, hba⟩; have HCq := Lib.hid (Chks.below ((by first | exact HC.out | exact HC.out.drew | exact HC.out.alloc _ | exact (HC.out.alloc _).drew | exact HC.out.drew.drew : Chks _ _ cs)) hba); have HRq := Lib.hid (Frm.below (w := w) (bs := [(w3.heap.size, (spBox lo hi)), (w.heap.size, (stBox s (.slice A k c)))]) (by (repeat (with_reducible first | exact HR.out | apply Frm.drew | apply Frm.alloc))) hba); clear HR HC; have HR := HRq; have HC := HCq; clear HRq HCq hba) | (go_at_call 16; refine (known_ex _ (HH.out.below (Frm.b (w := w) (bs := [(w3.heap.size, (spBox lo hi)), (w.heap.size, (stBox s (.slice A k c)))]) (by (repeat (with_reducible first | exact HR.out | apply Frm.drew | apply Frm.alloc))))) (HT.out.below (Frm.b (w := w) (bs := [(w3.heap.size, (spBox lo hi)), (w.heap.size, (stBox s (.slice A k c)))]) (by (repeat (with_reducible first | exact HR.out | apply Frm.drew | apply Frm.alloc)))))).mono ?_; rintro e wa ⟨rfl, hba⟩; have HCq := Lib.hid (Chks.below ((by first | exact HC.out | exact HC.out.drew | exact HC.out.alloc _ | exact (HC.out.alloc _).drew | exact HC.out.drew.drew : Chks _ _ cs)) hba); have HRq := Lib.hid (Frm.below (w := w) (bs := [(w3.heap.size, (spBox lo hi)), (w.heap.size, (stBox s (.slice A k c)))]) (by (repeat (with_reducible first | exact HR.out | apply Frm.drew | apply Frm.alloc))) hba); clear HR HC; have HR := HRq; have HC := HCq; clear HRq HCq hba))
          all_goals
            go_wp2_with fail
            go_ret
            exact ⟨rfl, HR.out.b⟩
        · have HF := Lib.hid hf
          have HQ := Lib.hid (askF_rule hs hf)
          clear hd hs hf
          go_wp2_with fail
          refine (check_ok HC1.out HS.out).mono ?_
          rintro e w2 ⟨rfl, hb⟩
          have HR2 := Lib.hid (HR1.out.below hb)
          have HC2 := Lib.hid (HC1.out.below hb)
          clear hb x1_0
          have x2_0 := HR2.out.cells (List.mem_cons_self ..)
          go_wp2_with fail
          refine (index_rule HC2.out HS.out HD.out HF.out).mono ?_
          rintro e w3 ⟨rfl, hb⟩
          have HR3 := Lib.hid ((HR2.out.below hb).add (spBox 0 0) rfl)
          have HC3 := Lib.hid (HC2.out.below (below_al hb (spBox 0 0)))
          clear hb x2_0
          have x3_0 := HR3.out.cells (List.mem_cons_self ..)
          have x3_1 := HR3.out.cells (List.mem_cons_of_mem _ (List.mem_cons_self ..))
          go_wp2_with fail
          refine (rStation_is HC3.out HS.out).mono ?_
          rintro e w4 ⟨rfl, hb⟩
          have HR4 := Lib.hid (HR3.out.below hb)
          have HC4 := Lib.hid (HC3.out.below hb)
          clear hb x3_0 x3_1
          have x4_0 := HR4.out.cells (List.mem_cons_self ..)
          have x4_1 := HR4.out.cells (List.mem_cons_of_mem _ (List.mem_cons_self ..))
          go_upto_region 8 with fail
          have HR := HR4
          have HC := HC4
          go_region_held3 (fun w' => (∀ o, w'.cell? ⟨w.heap.size, o, none⟩ = #[Value.int .i64 s.hl, .int .i64 s.hh, .int .i64 s.gl, .int .i64 s.gh, .int .i64 s.dr, .int .i64 s.rd, .int .i64 s.ea, .int .i64 s.sl, .slice A k c][o]?)) ((exact (fun hF : Frm w [(w3.heap.size, (spBox 0 0)), (w.heap.size, (stBox s (.slice A k c)))] _ => hF.cells (List.mem_cons_of_mem _ (List.mem_cons_self ..))) (by (repeat (with_reducible first | exact HR.out | apply Frm.drew | apply Frm.alloc))))) (first | (go_at_call 21; refine (rDay_is HD.out _).mono ?_; rintro e wq ⟨rfl, rfl⟩) | (go_at_call 20; refine (asked_is (by first | exact HC.out | exact HC.out.drew | exact HC.out.alloc _ | exact (HC.out.alloc _).drew : Chks _ _ cs) HQ.out).mono ?_; rintro e wa ⟨rfl, hba⟩; have HCq := Lib.hid (Chks.below ((by first | exact HC.out | exact HC.out.drew | exact HC.out.alloc _ | exact (HC.out.alloc _).drew | exact HC.out.drew.drew : Chks _ _ cs)) hba); have HRq := Lib.hid (Frm.below (w := w) (bs := [(w3.heap.size, (spBox 0 0)), (w.heap.size, (stBox s (.slice A k c)))]) (by (repeat (with_reducible first | exact HR.out | apply Frm.drew | apply Frm.alloc))) hba); clear HR HC; have HR := HRq; have HC := HCq; clear HRq HCq hba))
          clear x4_0 x4_1
          have y0 := HR.out.cells (List.mem_cons_self ..)
          have y1 := HR.out.cells (List.mem_cons_of_mem _ (List.mem_cons_self ..))
          go_wp2_with fail
          refine (known_ex _ (HH.out.below HR.out.b) (HT.out.below HR.out.b)).mono ?_
          rintro e wz ⟨rfl, hbz⟩
          go_wp2_with fail
          go_ret
          exact ⟨rfl, (HR.out.below hbz).b⟩
  · go_wp2_with fail
    refine (known_ex _ (HH.out.below HR1.out.b) (HT.out.below HR1.out.b)).mono ?_
    rintro e wz ⟨rfl, hbz⟩
    go_wp2_with fail
    go_ret
    exact ⟨rfl, (HR1.out.below hbz).b⟩
end Go.Proofs.YtipckgojoanokaaDoor
