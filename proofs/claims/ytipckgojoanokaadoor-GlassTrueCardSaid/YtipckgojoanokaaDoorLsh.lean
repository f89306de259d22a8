/- The law GlassSharp, walked. -/
import Derived.Test.YtipckgojoanokaaDoorRtr
import Derived.Test.YtipckgojoanokaaDoorIdm
import Derived.Test.YtipckgojoanokaaDoorLcl
set_option linter.unusedVariables false
set_option linter.unusedSimpArgs false
namespace Go.Proofs.YtipckgojoanokaaDoor
open Go.RowKit Go.Maps

theorem Chks.shape2 {w : World} {v : Value} {cs : List Chk} (h : Chks w v cs) : ∃ A c, v = .slice A cs.length c := h.elim fun A h => h.elim fun c h => ⟨A, c, h.1⟩
/-- The cells of one comparison. -/
theorem chk_cells {w : World} {A : Option Addr} {c : Nat} {cs : List Chk} {j : Nat} {x : Chk} (h : Chks w (.slice A cs.length c) cs) (hx : cs[j]? = some x) :
    ∃ b off, A = some ⟨b, off, none⟩ ∧ cs.length ≤ c ∧ c ≤ maxLen ∧ w.cell? ⟨b, off + j * 3, none⟩ = some (.int .i64 x.day) ∧ w.cell? ⟨b, off + j * 3 + 1, none⟩ = some (.int .i64 x.lo) ∧ w.cell? ⟨b, off + j * 3 + 2, none⟩ = some (.int .i64 x.hi) := by
  obtain ⟨A', cap, hv, hl, hm, h⟩ := h
  obtain ⟨rfl, -, rfl⟩ : A = A' ∧ cs.length = cs.length ∧ c = cap := by simpa using hv
  rcases h with rfl | ⟨b, off, hA, hlt, hc⟩
  · simp at hx
  · exact ⟨b, off, hA, hl, hm, hc j x hx⟩
theorem rSpan_is {a b lo hi : Int} {x : Bool} (h : withinB a b lo hi = x) (w : World) :
    Calls Tryd.prog 25 #[.agg #[.int .i64 a, .int .i64 b], .int .i64 lo, .int .i64 hi] w fun e w' => e = .returned (.bool x) ∧ Below w.heap.size w w' := by
  rw [← h]; exact rSpan_any a b lo hi w
theorem far_next (d : Int) : farI d (d + 1) = 1 ∧ farI (d + 1) d = 1 := by unfold farI; omega

set_option maxHeartbeats 40000000 in
set_option maxRecDepth 100000 in
theorem lawGlassSharp {s : Stn} {v : Value} {cs : List Chk} {day : Int} {w : World} (hc : Chks w v cs) (hh : Holds w) (ht : Tab w) :
    Calls Tryd.prog 5 #[stV s v, .int .i64 day] w fun e w' => e = .returned (.bool true) ∧ Below w.heap.size w w' := by
  obtain ⟨A, c, rfl⟩ := hc.shape2
  have HR : Hid (Frm w [(w.heap.size, (stBox s (.slice A cs.length c)))] (w.alloc (stBox s (.slice A cs.length c)))) := Lib.hid ((Frm.nil w).add _ (by simp))
  have HC := Lib.hid (hc.below HR.out.b)
  have HH := Lib.hid hh
  have HT := Lib.hid ht
  have HC0 := Lib.hid hc
  clear hc hh ht
  have x0 := HR.out.cells (List.mem_cons_self ..)
  go_enter Tryd.func5, Tryd.ntmps5
  cases hag : (soundB s cs && agB s cs)
  · have HAG := Lib.hid hag
    clear hag
    go_wp2_with fail
    refine (agreed_is (by first | exact HC.out | exact HC.out.drew | exact HC.out.below (below_al (Below.refl _ _) _) | exact HC.out.drew.below (below_al (Below.refl _ _) _) | exact (HC.out.below (below_al (Below.refl _ _) _)).drew) HAG.out).mono ?_
    rintro e w1 ⟨rfl, hb⟩
    have HRq := Lib.hid (Frm.below (w := w) (bs := [(w.heap.size, (stBox s (.slice A cs.length c)))]) (by (repeat (with_reducible first | exact HR.out | apply Frm.drew | apply Frm.alloc))) hb)
    have HCq := Lib.hid (Chks.below (cs := cs) (by first | exact HC.out | exact HC.out.drew | exact HC.out.below (below_al (Below.refl _ _) _) | exact HC.out.drew.below (below_al (Below.refl _ _) _) | exact (HC.out.below (below_al (Below.refl _ _) _)).drew) hb)
    clear HR HC hb x0
    have HR := HRq
    have HC := HCq
    clear HRq HCq
    have x0 := HR.out.cells (List.mem_cons_self ..)
    go_wp2_with fail
    refine (known_ex _ (HH.out.below (Frm.b (w := w) (bs := [(w.heap.size, (stBox s (.slice A cs.length c)))]) (by (repeat (with_reducible first | exact HR.out | apply Frm.drew | apply Frm.alloc))))) (HT.out.below (Frm.b (w := w) (bs := [(w.heap.size, (stBox s (.slice A cs.length c)))]) (by (repeat (with_reducible first | exact HR.out | apply Frm.drew | apply Frm.alloc)))))).mono ?_
    rintro e wz ⟨rfl, hbz⟩
    have HZ := Lib.hid (Frm.below (w := w) (bs := [(w.heap.size, (stBox s (.slice A cs.length c)))]) (by (repeat (with_reducible first | exact HR.out | apply Frm.drew | apply Frm.alloc))) hbz).b
    clear hbz x0
    go_wp2_with fail
    go_ret
    exact ⟨rfl, HZ.out⟩
  have HAG := Lib.hid hag
  obtain ⟨hs, ha⟩ : soundB s cs = true ∧ Agreed s cs := by
    rw [Bool.and_eq_true] at hag
    exact ⟨hag.1, agB_iff.1 hag.2⟩
  have hg := good_of_soundB hs
  have HS := Lib.hid hs
  have HA := Lib.hid ha
  clear hag hs ha
  go_wp2_with fail
  refine (agreed_is (by first | exact HC.out | exact HC.out.drew | exact HC.out.below (below_al (Below.refl _ _) _) | exact HC.out.drew.below (below_al (Below.refl _ _) _) | exact (HC.out.below (below_al (Below.refl _ _) _)).drew) HAG.out).mono ?_
  rintro e w1 ⟨rfl, hb⟩
  have HRq := Lib.hid (Frm.below (w := w) (bs := [(w.heap.size, (stBox s (.slice A cs.length c)))]) (by (repeat (with_reducible first | exact HR.out | apply Frm.drew | apply Frm.alloc))) hb)
  have HCq := Lib.hid (Chks.below (cs := cs) (by first | exact HC.out | exact HC.out.drew | exact HC.out.below (below_al (Below.refl _ _) _) | exact HC.out.drew.below (below_al (Below.refl _ _) _) | exact (HC.out.below (below_al (Below.refl _ _) _)).drew) hb)
  clear HR HC hb x0
  have HR := HRq
  have HC := HCq
  clear HRq HCq
  have x0 := HR.out.cells (List.mem_cons_self ..)
  cases hd : betw day 0 400
  · have HD := Lib.hid hd
    clear hd
    go_wp2_with fail
    refine (rDay_is HD.out _).mono ?_
    rintro e w' ⟨rfl, rfl⟩
    go_wp2_with fail
    refine (known_ex _ (HH.out.below (Frm.b (w := w) (bs := [(w.heap.size, (stBox s (.slice A cs.length c)))]) (by (repeat (with_reducible first | exact HR.out | apply Frm.drew | apply Frm.alloc))))) (HT.out.below (Frm.b (w := w) (bs := [(w.heap.size, (stBox s (.slice A cs.length c)))]) (by (repeat (with_reducible first | exact HR.out | apply Frm.drew | apply Frm.alloc)))))).mono ?_
    rintro e wz ⟨rfl, hbz⟩
    have HZ := Lib.hid (Frm.below (w := w) (bs := [(w.heap.size, (stBox s (.slice A cs.length c)))]) (by (repeat (with_reducible first | exact HR.out | apply Frm.drew | apply Frm.alloc))) hbz).b
    clear hbz x0
    go_wp2_with fail
    go_ret
    exact ⟨rfl, HZ.out⟩
  have HD := Lib.hid hd
  have hdb := betw_iff.1 hd
  clear hd
  go_wp2_with fail
  refine (rDay_is HD.out _).mono ?_
  rintro e w' ⟨rfl, rfl⟩
  by_cases n4 : day = 400
  · subst n4
    go_wp2_with fail
    refine (known_ex _ (HH.out.below (Frm.b (w := w) (bs := [(w.heap.size, (stBox s (.slice A cs.length c)))]) (by (repeat (with_reducible first | exact HR.out | apply Frm.drew | apply Frm.alloc))))) (HT.out.below (Frm.b (w := w) (bs := [(w.heap.size, (stBox s (.slice A cs.length c)))]) (by (repeat (with_reducible first | exact HR.out | apply Frm.drew | apply Frm.alloc)))))).mono ?_
    rintro e wz ⟨rfl, hbz⟩
    have HZ := Lib.hid (Frm.below (w := w) (bs := [(w.heap.size, (stBox s (.slice A cs.length c)))]) (by (repeat (with_reducible first | exact HR.out | apply Frm.drew | apply Frm.alloc))) hbz).b
    clear hbz x0
    go_wp2_with fail
    go_ret
    exact ⟨rfl, HZ.out⟩
  have h12 := hg.sane.len
  have d0 := hg.sane.d0
  have d1 := hg.sane.d1
  have a1 := (lowF_ge s day cs).1
  have a2 := (highF_le s day cs).1
  have a3 := low_le_high hg.sane HA.out day
  have b1 := (lowF_ge s (day + 1) cs).1
  have b2 := (highF_le s (day + 1) cs).1
  have b3 := low_le_high hg.sane HA.out (day + 1)
  have p1 := low_lip (s := s) (cs := cs) d0 (day + 1) day
  have p2 := low_lip (s := s) (cs := cs) d0 day (day + 1)
  have p3 := high_lip (s := s) (cs := cs) d0 (day + 1) day
  have p4 := high_lip (s := s) (cs := cs) d0 day (day + 1)
  rw [(far_next day).1, Int.mul_one] at p2 p4
  rw [(far_next day).2, Int.mul_one] at p1 p3
  have HI : Hid (∀ W d, Chks W (.slice A cs.length c) cs → betw d 0 400 = true → Calls Tryd.prog 18 #[stV s (.slice A cs.length c), .int .i64 d] W fun x w' => x = .returned (.tuple #[spV (lowF s d cs) (highF s d cs), .int .i64 0]) ∧ Below W.heap.size W w') := Lib.hid (fun W d h h' => index_ok h HS.out h' HA.out)
  have HI1 : Hid (∀ W, Chks W (.slice A cs.length c) cs → Calls Tryd.prog 18 #[stV s (.slice A cs.length c), .int .i64 day] W fun x w' => x = .returned (.tuple #[spV (lowF s day cs) (highF s day cs), .int .i64 0]) ∧ Below W.heap.size W w') := Lib.hid (fun W h => HI.out W day h HD.out)
  have HI2 : Hid (∀ W, Chks W (.slice A cs.length c) cs → Calls Tryd.prog 18 #[stV s (.slice A cs.length c), .int .i64 (day + 1)] W fun x w' => x = .returned (.tuple #[spV (lowF s (day + 1) cs) (highF s (day + 1) cs), .int .i64 0]) ∧ Below W.heap.size W w') := Lib.hid (fun W h => HI.out W (day + 1) h (betw_iff.2 (by omega)))
  generalize lowF s day cs = lo0 at *
  generalize highF s day cs = hi0 at *
  generalize lowF s (day + 1) cs = lo1 at *
  generalize highF s (day + 1) cs = hi1 at *
  have HW1 := Lib.hid (show withinB lo0 hi0 (-2000) 2000 = true by simp [withinB]; omega)
  have HW2 := Lib.hid (show withinB lo1 hi1 (-2000) 2000 = true by simp [withinB]; omega)
  go_wp2_with fail
  refine (HI1.out _ (by first | exact HC.out | exact HC.out.drew | exact HC.out.below (below_al (Below.refl _ _) _) | exact HC.out.drew.below (below_al (Below.refl _ _) _) | exact (HC.out.below (below_al (Below.refl _ _) _)).drew)).mono ?_
  rintro e w2 ⟨rfl, hb⟩
  have HRq := Lib.hid ((Frm.below (w := w) (bs := [(w.heap.size, (stBox s (.slice A cs.length c)))]) (by (repeat (with_reducible first | exact HR.out | apply Frm.drew | apply Frm.alloc))) hb).add (spBox lo0 hi0) rfl)
  have HCq := Lib.hid (Chks.below (cs := cs) (by first | exact HC.out | exact HC.out.drew | exact HC.out.below (below_al (Below.refl _ _) _) | exact HC.out.drew.below (below_al (Below.refl _ _) _) | exact (HC.out.below (below_al (Below.refl _ _) _)).drew) hb |>.below (below_al (Below.refl _ _) (spBox lo0 hi0)))
  clear HR HC hb x0
  have HR := HRq
  have HC := HCq
  clear HRq HCq
  have x0 := HR.out.cells (List.mem_cons_self ..)
  have x1 := HR.out.cells (List.mem_cons_of_mem _ (List.mem_cons_self ..))
  go_wp2_with fail
  refine (HI2.out _ (by first | exact HC.out | exact HC.out.drew | exact HC.out.below (below_al (Below.refl _ _) _) | exact HC.out.drew.below (below_al (Below.refl _ _) _) | exact (HC.out.below (below_al (Below.refl _ _) _)).drew)).mono ?_
  rintro e w3 ⟨rfl, hb⟩
  have HRq := Lib.hid ((Frm.below (w := w) (bs := [(w2.heap.size, (spBox lo0 hi0)), (w.heap.size, (stBox s (.slice A cs.length c)))]) (by (repeat (with_reducible first | exact HR.out | apply Frm.drew | apply Frm.alloc))) hb).add (spBox lo1 hi1) rfl)
  have HCq := Lib.hid (Chks.below (cs := cs) (by first | exact HC.out | exact HC.out.drew | exact HC.out.below (below_al (Below.refl _ _) _) | exact HC.out.drew.below (below_al (Below.refl _ _) _) | exact (HC.out.below (below_al (Below.refl _ _) _)).drew) hb |>.below (below_al (Below.refl _ _) (spBox lo1 hi1)))
  clear HR HC hb x0 x1
  have HR := HRq
  have HC := HCq
  clear HRq HCq
  have x0 := HR.out.cells (List.mem_cons_self ..)
  have x1 := HR.out.cells (List.mem_cons_of_mem _ (List.mem_cons_self ..))
  have x2 := HR.out.cells (List.mem_cons_of_mem _ (List.mem_cons_of_mem _ (List.mem_cons_self ..)))
  go_wp2_with fail
  refine (rSpan_is HW1.out _).mono ?_
  rintro e w4 ⟨rfl, hb⟩
  have HRq := Lib.hid (Frm.below (w := w) (bs := [(w3.heap.size, (spBox lo1 hi1)), (w2.heap.size, (spBox lo0 hi0)), (w.heap.size, (stBox s (.slice A cs.length c)))]) (by (repeat (with_reducible first | exact HR.out | apply Frm.drew | apply Frm.alloc))) hb)
  have HCq := Lib.hid (Chks.below (cs := cs) (by first | exact HC.out | exact HC.out.drew | exact HC.out.below (below_al (Below.refl _ _) _) | exact HC.out.drew.below (below_al (Below.refl _ _) _) | exact (HC.out.below (below_al (Below.refl _ _) _)).drew) hb)
  clear HR HC hb x0 x1 x2
  have HR := HRq
  have HC := HCq
  clear HRq HCq
  have x0 := HR.out.cells (List.mem_cons_self ..)
  have x1 := HR.out.cells (List.mem_cons_of_mem _ (List.mem_cons_self ..))
  have x2 := HR.out.cells (List.mem_cons_of_mem _ (List.mem_cons_of_mem _ (List.mem_cons_self ..)))
  go_wp2_with fail
  refine (rSpan_is HW2.out _).mono ?_
  rintro e w5 ⟨rfl, hb⟩
  have HRq := Lib.hid (Frm.below (w := w) (bs := [(w3.heap.size, (spBox lo1 hi1)), (w2.heap.size, (spBox lo0 hi0)), (w.heap.size, (stBox s (.slice A cs.length c)))]) (by (repeat (with_reducible first | exact HR.out | apply Frm.drew | apply Frm.alloc))) hb)
  have HCq := Lib.hid (Chks.below (cs := cs) (by first | exact HC.out | exact HC.out.drew | exact HC.out.below (below_al (Below.refl _ _) _) | exact HC.out.drew.below (below_al (Below.refl _ _) _) | exact (HC.out.below (below_al (Below.refl _ _) _)).drew) hb)
  clear HR HC hb x0 x1 x2
  have HR := HRq
  have HC := HCq
  clear HRq HCq
  have x0 := HR.out.cells (List.mem_cons_self ..)
  have x1 := HR.out.cells (List.mem_cons_of_mem _ (List.mem_cons_self ..))
  have x2 := HR.out.cells (List.mem_cons_of_mem _ (List.mem_cons_of_mem _ (List.mem_cons_self ..)))
  go_wp2_with fail
  go_loopw [9] (fun i wr => ∃ j : Nat, j ≤ cs.length ∧ i = .int .i64 j ∧ Frm w [(w.heap.size, (stBox s (.slice A cs.length c)))] wr) (fun i _ => cs.length - (intOf i).toNat)
  case atStart => exact ⟨0, Nat.zero_le _, rfl, Frm.less (bs := [(w3.heap.size, (spBox lo1 hi1)), (w2.heap.size, (spBox lo0 hi0)), (w.heap.size, (stBox s (.slice A cs.length c)))]) (by (repeat (with_reducible first | exact HR.out | apply Frm.drew | apply Frm.alloc))) (fun p hp => by simp only [List.mem_cons, List.not_mem_nil, or_false] at hp; subst hp; simp)⟩
  case round =>
    obtain ⟨j, hj, rfl, hF⟩ := hrel
    clear HR HC x0 x1 x2
    have HR := Lib.hid hF
    have HC := Lib.hid (HC0.out.below HR.out.b)
    clear hF
    have x0 := HR.out.cells (List.mem_cons_self ..)
    by_cases hjl : j < cs.length
    · obtain ⟨x, hx⟩ : ∃ x, cs[j]? = some x := ⟨_, List.getElem?_eq_getElem hjl⟩
      obtain ⟨b, off, hA, hcap, hm, c0, c1, c2⟩ := chk_cells HC.out hx
      unfold maxLen at hm
      subst hA
      have hxm := List.mem_of_getElem? hx
      obtain ⟨g0, g1, g2, g3, g4⟩ := hg.sane.all x hxm
      have h1 := low_own (s := s) hxm
      have h2 := high_own (s := s) hxm
      have h3 := low_le_high hg.sane HA.out x.day
      have h4 := (lowF_ge s x.day cs).1
      have h5 := (highF_le s x.day cs).1
      have HX : Hid (∀ W, Chks W (.slice (some ⟨b, off, none⟩) cs.length c) cs → Calls Tryd.prog 18 #[stV s (.slice (some ⟨b, off, none⟩) cs.length c), .int .i64 x.day] W fun y w' => y = .returned (.tuple #[spV (lowF s x.day cs) (highF s x.day cs), .int .i64 0]) ∧ Below W.heap.size W w') := Lib.hid (fun W h => HI.out W x.day h (betw_iff.2 (by omega)))
      generalize lowF s x.day cs = lo2 at *
      generalize highF s x.day cs = hi2 at *
      clear hx hxm
      go_upto_region 13 with fail
      have HRq := Lib.hid (HR.out.add (ckBox x) rfl)
      have HCq := Lib.hid (HC0.out.below HRq.out.b)
      clear HR HC x0 c0 c1 c2
      have HR := HRq
      have HC := HCq
      clear HRq HCq
      have x0 := HR.out.cells (List.mem_cons_self ..)
      have x1 := HR.out.cells (List.mem_cons_of_mem _ (List.mem_cons_self ..))
      go_wp2_with fail
      refine (HX.out _ (by first | exact HC.out | exact HC.out.drew | exact HC.out.below (below_al (Below.refl _ _) _) | exact HC.out.drew.below (below_al (Below.refl _ _) _) | exact (HC.out.below (below_al (Below.refl _ _) _)).drew)).mono ?_
      rintro e w6 ⟨rfl, hb⟩
      have HRq := Lib.hid ((Frm.below (w := w) (bs := [(wr.heap.size, (ckBox x)), (w.heap.size, (stBox s (.slice (some ⟨b, off, none⟩) cs.length c)))]) (by (repeat (with_reducible first | exact HR.out | apply Frm.drew | apply Frm.alloc))) hb).add (spBox lo2 hi2) rfl)
      have HCq := Lib.hid (Chks.below (cs := cs) (by first | exact HC.out | exact HC.out.drew | exact HC.out.below (below_al (Below.refl _ _) _) | exact HC.out.drew.below (below_al (Below.refl _ _) _) | exact (HC.out.below (below_al (Below.refl _ _) _)).drew) hb |>.below (below_al (Below.refl _ _) (spBox lo2 hi2)))
      clear HR HC hb x0 x1
      have HR := HRq
      have HC := HCq
      clear HRq HCq
      have x0 := HR.out.cells (List.mem_cons_self ..)
      have x1 := HR.out.cells (List.mem_cons_of_mem _ (List.mem_cons_self ..))
      have x2 := HR.out.cells (List.mem_cons_of_mem _ (List.mem_cons_of_mem _ (List.mem_cons_self ..)))
      go_wp2_with fail
      go_roundw
      case rel => exact ⟨j + 1, by omega, by go_num, Frm.less (bs := [(w6.heap.size, (spBox lo2 hi2)), (wr.heap.size, (ckBox x)), (w.heap.size, (stBox s (.slice (some ⟨b, off, none⟩) cs.length c)))]) (by (repeat (with_reducible first | exact HR.out | apply Frm.drew | apply Frm.alloc))) (fun p hp => by simp only [List.mem_cons, List.not_mem_nil, or_false] at hp; subst hp; simp)⟩
      case measure => simp [intOf]; omega
    · obtain rfl : j = cs.length := by omega
      go_wp2_with fail
      refine (known_ex _ (HH.out.below (Frm.b (w := w) (bs := [(w.heap.size, (stBox s (.slice A cs.length c)))]) (by (repeat (with_reducible first | exact HR.out | apply Frm.drew | apply Frm.alloc))))) (HT.out.below (Frm.b (w := w) (bs := [(w.heap.size, (stBox s (.slice A cs.length c)))]) (by (repeat (with_reducible first | exact HR.out | apply Frm.drew | apply Frm.alloc)))))).mono ?_
      rintro e wz ⟨rfl, hbz⟩
      have HZ := Lib.hid (Frm.below (w := w) (bs := [(w.heap.size, (stBox s (.slice A cs.length c)))]) (by (repeat (with_reducible first | exact HR.out | apply Frm.drew | apply Frm.alloc))) hbz).b
      clear hbz x0
      go_wp2_with fail
      go_ret
      exact ⟨rfl, HZ.out⟩
end Go.Proofs.YtipckgojoanokaaDoor
