/- The law GlassRose, walked. -/
import Derived.Test.YtbpkkphmmengnaaDoorFnd
import Derived.Test.YtbpkkphmmengnaaDoorSnc
import Derived.Test.YtbpkkphmmengnaaDoorRri
import Derived.Test.YtbpkkphmmengnaaDoorRse
set_option linter.unusedVariables false
set_option linter.unusedSimpArgs false
namespace Go.Proofs.YtbpkkphmmengnaaDoor
open Go.RowKit Go.Maps

theorem cons_two (cs : List Chk) (p q : Chk) : cs ++ [p, q] = (cs ++ [p]) ++ [q] := by simp
theorem two_sound {s : Stn} {cs : List Chk} {a b x y : Int} (hs : soundB s cs = true) (hl : cs.length ≤ 10) (ha : 0 ≤ a ∧ a ≤ 400) (hb : 0 ≤ b ∧ b ≤ 400) (hx : -2000 ≤ x ∧ x ≤ 2000) (hy : -2000 ≤ y ∧ y ≤ 2000) : soundB s (cs ++ [⟨a, x, x⟩, ⟨b, y, y⟩]) = true := by
  rw [cons_two]
  exact snoc_sound (snoc_sound hs (by omega) (by simp [chkB, betw, withinB]; omega)) (by simp; omega) (by simp [chkB, betw, withinB]; omega)
/-- Two numbers between the bounds of their days, no further apart than the index can drift: the comparisons agree. -/
theorem two_agreed {s : Stn} {cs : List Chk} {a b x y : Int} (hs : soundB s cs = true) (hl : cs.length ≤ 10) (ha : Agreed s cs) (hda : 0 ≤ a ∧ a ≤ 400) (h1 : lowF s a cs ≤ x) (h2 : x ≤ highF s a cs) (h3 : lowF s b cs ≤ y) (h4 : y ≤ highF s b cs) (h5 : x - y ≤ s.dr * farI a b) (h6 : y - x ≤ s.dr * farI a b) : Agreed s (cs ++ [⟨a, x, x⟩, ⟨b, y, y⟩]) := by
  have hg := good_of_soundB hs
  have q1 := (lowF_ge s a cs).1
  have q2 := (highF_le s a cs).1
  rw [cons_two]
  have hs1 := good_of_soundB (snoc_sound (c := ⟨a, x, x⟩) hs (by omega) (by simp [chkB, betw, withinB]; omega))
  refine snoc_agreed hs1.sane (snoc_agreed hg.sane ha h1 (Int.le_refl _) h2) ?_ (Int.le_refl _) ?_
  · rw [lowF_snoc]
    simp only
    rw [farI_comm b a]
    omega
  · rw [highF_snoc]
    simp only
    rw [farI_comm b a]
    omega
theorem two_within {s : Stn} {cs : List Chk} {a b x y : Int} (hs : soundB s (cs ++ [⟨a, x, x⟩, ⟨b, y, y⟩]) = true) (ha : Agreed s (cs ++ [⟨a, x, x⟩, ⟨b, y, y⟩])) (hx : -2000 ≤ x ∧ x ≤ 2000) (hy : -2000 ≤ y ∧ y ≤ 2000) : x - y ≤ fallHi s cs a b ∧ y - x ≤ fallHi s cs b a := by
  have hg := (good_of_soundB hs).sane
  have m1 : (⟨a, x, x⟩ : Chk) ∈ cs ++ [⟨a, x, x⟩, ⟨b, y, y⟩] := by simp
  have m2 : (⟨b, y, y⟩ : Chk) ∈ cs ++ [⟨a, x, x⟩, ⟨b, y, y⟩] := by simp
  have p1 := agreed_pair hg ha m1 m2
  have p2 := agreed_pair hg ha m2 m1
  simp only at p1 p2
  have mm : ∀ c ∈ cs, c ∈ cs ++ [⟨a, x, x⟩, ⟨b, y, y⟩] := fun c hc => List.mem_append.2 (.inl hc)
  have l1 : lowF s a cs ≤ x := lowF_le (by omega) fun c hc => by have q := agreed_pair hg ha (mm c hc) m1; simp only at q; rw [farI_comm] at q; omega
  have u1 : x ≤ highF s a cs := highF_ge (by omega) fun c hc => by have q := agreed_pair hg ha m1 (mm c hc); simp only at q; omega
  have l2 : lowF s b cs ≤ y := lowF_le (by omega) fun c hc => by have q := agreed_pair hg ha (mm c hc) m2; simp only at q; rw [farI_comm] at q; omega
  have u2 : y ≤ highF s b cs := highF_ge (by omega) fun c hc => by have q := agreed_pair hg ha m2 (mm c hc); simp only at q; omega
  unfold fallHi
  omega

set_option maxHeartbeats 40000000 in
set_option maxRecDepth 100000 in
theorem lawGlassRose {s : Stn} {v : Value} {cs : List Chk} {ra rb : Rdg} {one oth fir sec : Int} {w : World} (hc : Chks w v cs) (hh : Holds w) (ht : Tab w) :
    Calls Tryd.prog 3 #[stV s v, rdV ra, rdV rb, .int .i64 one, .int .i64 oth, .int .i64 fir, .int .i64 sec] w fun e w' => e = .returned (.bool true) ∧ Below w.heap.size w w' := by
  obtain ⟨A, c, rfl⟩ := hc.shape2
  have HR : Hid (Frm w [(w.heap.size + 1 + 1, (rdBox rb)), (w.heap.size + 1, (rdBox ra)), (w.heap.size, (stBox s (.slice A cs.length c)))] (((w.alloc (stBox s (.slice A cs.length c))).alloc (rdBox ra)).alloc (rdBox rb))) := Lib.hid ((((Frm.nil w).add _ (by simp)).add _ (by simp)).add _ (by simp))
  have HC := Lib.hid (hc.below HR.out.b)
  have HH := Lib.hid hh
  have HT := Lib.hid ht
  have HC0 := Lib.hid hc
  clear hc hh ht
  have x0 := HR.out.cells (List.mem_cons_self ..)
  have x1 := HR.out.cells (List.mem_cons_of_mem _ (List.mem_cons_self ..))
  have x2 := HR.out.cells (List.mem_cons_of_mem _ (List.mem_cons_of_mem _ (List.mem_cons_self ..)))
  go_enter Tryd.func3, Tryd.ntmps3
  cases hag : (soundB s cs && agB s cs)
  · have HAG := Lib.hid hag
    clear hag
    go_wp2_with fail
    refine (agreed_is (by first | exact HC.out | exact HC.out.drew | exact HC.out.below (below_al (Below.refl _ _) _) | exact HC.out.drew.below (below_al (Below.refl _ _) _) | exact (HC.out.below (below_al (Below.refl _ _) _)).drew) HAG.out).mono ?_
    rintro e w1 ⟨rfl, hb⟩
    have HRq := Lib.hid (Frm.below (w := w) (bs := [(w.heap.size + 1 + 1, (rdBox rb)), (w.heap.size + 1, (rdBox ra)), (w.heap.size, (stBox s (.slice A cs.length c)))]) (by (repeat (with_reducible first | exact HR.out | apply Frm.drew | apply Frm.alloc | apply Frm.drewN))) hb)
    have HCq := Lib.hid (Chks.below (cs := cs) (by first | exact HC.out | exact HC.out.drew | exact HC.out.below (below_al (Below.refl _ _) _) | exact HC.out.drew.below (below_al (Below.refl _ _) _) | exact (HC.out.below (below_al (Below.refl _ _) _)).drew) hb)
    clear HR HC hb x0 x1 x2
    have HR := HRq
    have HC := HCq
    clear HRq HCq
    have x0 := HR.out.cells (List.mem_cons_self ..)
    have x1 := HR.out.cells (List.mem_cons_of_mem _ (List.mem_cons_self ..))
    have x2 := HR.out.cells (List.mem_cons_of_mem _ (List.mem_cons_of_mem _ (List.mem_cons_self ..)))
    go_wp2_with fail
    refine (known_ex _ (HH.out.below (Frm.b (w := w) (bs := [(w.heap.size + 1 + 1, (rdBox rb)), (w.heap.size + 1, (rdBox ra)), (w.heap.size, (stBox s (.slice A cs.length c)))]) (by (repeat (with_reducible first | exact HR.out | apply Frm.drew | apply Frm.alloc | apply Frm.drewN))))) (HT.out.below (Frm.b (w := w) (bs := [(w.heap.size + 1 + 1, (rdBox rb)), (w.heap.size + 1, (rdBox ra)), (w.heap.size, (stBox s (.slice A cs.length c)))]) (by (repeat (with_reducible first | exact HR.out | apply Frm.drew | apply Frm.alloc | apply Frm.drewN)))))).mono ?_
    rintro e wz ⟨rfl, hbz⟩
    have HZ := Lib.hid (Frm.below (w := w) (bs := [(w.heap.size + 1 + 1, (rdBox rb)), (w.heap.size + 1, (rdBox ra)), (w.heap.size, (stBox s (.slice A cs.length c)))]) (by (repeat (with_reducible first | exact HR.out | apply Frm.drew | apply Frm.alloc | apply Frm.drewN))) hbz).b
    clear hbz x0 x1 x2
    go_wp2_with fail
    go_ret
    exact ⟨rfl, HZ.out⟩
  have HAG := Lib.hid hag
  obtain ⟨hs, ha⟩ : soundB s cs = true ∧ Agreed s cs := by
    rw [Bool.and_eq_true] at hag
    exact ⟨hag.1, agB_iff.1 hag.2⟩
  have hg := good_of_soundB hs
  have HS := Lib.hid hs
  have HA := Lib.hid ha
  have h12 := hg.sane.len
  have r0 := hg.r0
  have r1 := hg.r1
  clear hag hs ha
  go_wp2_with fail
  refine (agreed_is (by first | exact HC.out | exact HC.out.drew | exact HC.out.below (below_al (Below.refl _ _) _) | exact HC.out.drew.below (below_al (Below.refl _ _) _) | exact (HC.out.below (below_al (Below.refl _ _) _)).drew) HAG.out).mono ?_
  rintro e w1 ⟨rfl, hb⟩
  have HRq := Lib.hid (Frm.below (w := w) (bs := [(w.heap.size + 1 + 1, (rdBox rb)), (w.heap.size + 1, (rdBox ra)), (w.heap.size, (stBox s (.slice A cs.length c)))]) (by (repeat (with_reducible first | exact HR.out | apply Frm.drew | apply Frm.alloc | apply Frm.drewN))) hb)
  have HCq := Lib.hid (Chks.below (cs := cs) (by first | exact HC.out | exact HC.out.drew | exact HC.out.below (below_al (Below.refl _ _) _) | exact HC.out.drew.below (below_al (Below.refl _ _) _) | exact (HC.out.below (below_al (Below.refl _ _) _)).drew) hb)
  clear HR HC hb x0 x1 x2
  have HR := HRq
  have HC := HCq
  clear HRq HCq
  have x0 := HR.out.cells (List.mem_cons_self ..)
  have x1 := HR.out.cells (List.mem_cons_of_mem _ (List.mem_cons_self ..))
  have x2 := HR.out.cells (List.mem_cons_of_mem _ (List.mem_cons_of_mem _ (List.mem_cons_self ..)))
  by_cases n0 : 10 < cs.length
  · go_wp2_with fail
    refine (known_ex _ (HH.out.below (Frm.b (w := w) (bs := [(w.heap.size + 1 + 1, (rdBox rb)), (w.heap.size + 1, (rdBox ra)), (w.heap.size, (stBox s (.slice A cs.length c)))]) (by (repeat (with_reducible first | exact HR.out | apply Frm.drew | apply Frm.alloc | apply Frm.drewN))))) (HT.out.below (Frm.b (w := w) (bs := [(w.heap.size + 1 + 1, (rdBox rb)), (w.heap.size + 1, (rdBox ra)), (w.heap.size, (stBox s (.slice A cs.length c)))]) (by (repeat (with_reducible first | exact HR.out | apply Frm.drew | apply Frm.alloc | apply Frm.drewN)))))).mono ?_
    rintro e wz ⟨rfl, hbz⟩
    have HZ := Lib.hid (Frm.below (w := w) (bs := [(w.heap.size + 1 + 1, (rdBox rb)), (w.heap.size + 1, (rdBox ra)), (w.heap.size, (stBox s (.slice A cs.length c)))]) (by (repeat (with_reducible first | exact HR.out | apply Frm.drew | apply Frm.alloc | apply Frm.drewN))) hbz).b
    clear hbz x0 x1 x2
    go_wp2_with fail
    go_ret
    exact ⟨rfl, HZ.out⟩
  cases hra : readB ra
  · have HX := Lib.hid hra
    clear hra
    go_wp2_with fail
    refine (rReading_is HX.out _).mono ?_
    rintro e w2 ⟨rfl, hb⟩
    have HRq := Lib.hid (Frm.below (w := w) (bs := [(w.heap.size + 1 + 1, (rdBox rb)), (w.heap.size + 1, (rdBox ra)), (w.heap.size, (stBox s (.slice A cs.length c)))]) (by (repeat (with_reducible first | exact HR.out | apply Frm.drew | apply Frm.alloc | apply Frm.drewN))) hb)
    have HCq := Lib.hid (Chks.below (cs := cs) (by first | exact HC.out | exact HC.out.drew | exact HC.out.below (below_al (Below.refl _ _) _) | exact HC.out.drew.below (below_al (Below.refl _ _) _) | exact (HC.out.below (below_al (Below.refl _ _) _)).drew) hb)
    clear HR HC hb x0 x1 x2
    have HR := HRq
    have HC := HCq
    clear HRq HCq
    have x0 := HR.out.cells (List.mem_cons_self ..)
    have x1 := HR.out.cells (List.mem_cons_of_mem _ (List.mem_cons_self ..))
    have x2 := HR.out.cells (List.mem_cons_of_mem _ (List.mem_cons_of_mem _ (List.mem_cons_self ..)))
    go_wp2_with fail
    refine (known_ex _ (HH.out.below (Frm.b (w := w) (bs := [(w.heap.size + 1 + 1, (rdBox rb)), (w.heap.size + 1, (rdBox ra)), (w.heap.size, (stBox s (.slice A cs.length c)))]) (by (repeat (with_reducible first | exact HR.out | apply Frm.drew | apply Frm.alloc | apply Frm.drewN))))) (HT.out.below (Frm.b (w := w) (bs := [(w.heap.size + 1 + 1, (rdBox rb)), (w.heap.size + 1, (rdBox ra)), (w.heap.size, (stBox s (.slice A cs.length c)))]) (by (repeat (with_reducible first | exact HR.out | apply Frm.drew | apply Frm.alloc | apply Frm.drewN)))))).mono ?_
    rintro e wz ⟨rfl, hbz⟩
    have HZ := Lib.hid (Frm.below (w := w) (bs := [(w.heap.size + 1 + 1, (rdBox rb)), (w.heap.size + 1, (rdBox ra)), (w.heap.size, (stBox s (.slice A cs.length c)))]) (by (repeat (with_reducible first | exact HR.out | apply Frm.drew | apply Frm.alloc | apply Frm.drewN))) hbz).b
    clear hbz x0 x1 x2
    go_wp2_with fail
    go_ret
    exact ⟨rfl, HZ.out⟩
  have Gra := good_of_readB hra
  have Hra := Lib.hid hra
  clear hra
  go_wp2_with fail
  refine (rReading_is Hra.out _).mono ?_
  rintro e w2 ⟨rfl, hb⟩
  have HRq := Lib.hid (Frm.below (w := w) (bs := [(w.heap.size + 1 + 1, (rdBox rb)), (w.heap.size + 1, (rdBox ra)), (w.heap.size, (stBox s (.slice A cs.length c)))]) (by (repeat (with_reducible first | exact HR.out | apply Frm.drew | apply Frm.alloc | apply Frm.drewN))) hb)
  have HCq := Lib.hid (Chks.below (cs := cs) (by first | exact HC.out | exact HC.out.drew | exact HC.out.below (below_al (Below.refl _ _) _) | exact HC.out.drew.below (below_al (Below.refl _ _) _) | exact (HC.out.below (below_al (Below.refl _ _) _)).drew) hb)
  clear HR HC hb x0 x1 x2
  have HR := HRq
  have HC := HCq
  clear HRq HCq
  have x0 := HR.out.cells (List.mem_cons_self ..)
  have x1 := HR.out.cells (List.mem_cons_of_mem _ (List.mem_cons_self ..))
  have x2 := HR.out.cells (List.mem_cons_of_mem _ (List.mem_cons_of_mem _ (List.mem_cons_self ..)))
  cases hrb : readB rb
  · have HX := Lib.hid hrb
    clear hrb
    go_wp2_with fail
    refine (rReading_is HX.out _).mono ?_
    rintro e w3 ⟨rfl, hb⟩
    have HRq := Lib.hid (Frm.below (w := w) (bs := [(w.heap.size + 1 + 1, (rdBox rb)), (w.heap.size + 1, (rdBox ra)), (w.heap.size, (stBox s (.slice A cs.length c)))]) (by (repeat (with_reducible first | exact HR.out | apply Frm.drew | apply Frm.alloc | apply Frm.drewN))) hb)
    have HCq := Lib.hid (Chks.below (cs := cs) (by first | exact HC.out | exact HC.out.drew | exact HC.out.below (below_al (Below.refl _ _) _) | exact HC.out.drew.below (below_al (Below.refl _ _) _) | exact (HC.out.below (below_al (Below.refl _ _) _)).drew) hb)
    clear HR HC hb x0 x1 x2
    have HR := HRq
    have HC := HCq
    clear HRq HCq
    have x0 := HR.out.cells (List.mem_cons_self ..)
    have x1 := HR.out.cells (List.mem_cons_of_mem _ (List.mem_cons_self ..))
    have x2 := HR.out.cells (List.mem_cons_of_mem _ (List.mem_cons_of_mem _ (List.mem_cons_self ..)))
    go_wp2_with fail
    refine (known_ex _ (HH.out.below (Frm.b (w := w) (bs := [(w.heap.size + 1 + 1, (rdBox rb)), (w.heap.size + 1, (rdBox ra)), (w.heap.size, (stBox s (.slice A cs.length c)))]) (by (repeat (with_reducible first | exact HR.out | apply Frm.drew | apply Frm.alloc | apply Frm.drewN))))) (HT.out.below (Frm.b (w := w) (bs := [(w.heap.size + 1 + 1, (rdBox rb)), (w.heap.size + 1, (rdBox ra)), (w.heap.size, (stBox s (.slice A cs.length c)))]) (by (repeat (with_reducible first | exact HR.out | apply Frm.drew | apply Frm.alloc | apply Frm.drewN)))))).mono ?_
    rintro e wz ⟨rfl, hbz⟩
    have HZ := Lib.hid (Frm.below (w := w) (bs := [(w.heap.size + 1 + 1, (rdBox rb)), (w.heap.size + 1, (rdBox ra)), (w.heap.size, (stBox s (.slice A cs.length c)))]) (by (repeat (with_reducible first | exact HR.out | apply Frm.drew | apply Frm.alloc | apply Frm.drewN))) hbz).b
    clear hbz x0 x1 x2
    go_wp2_with fail
    go_ret
    exact ⟨rfl, HZ.out⟩
  have Grb := good_of_readB hrb
  have Hrb := Lib.hid hrb
  clear hrb
  go_wp2_with fail
  refine (rReading_is Hrb.out _).mono ?_
  rintro e w3 ⟨rfl, hb⟩
  have HRq := Lib.hid (Frm.below (w := w) (bs := [(w.heap.size + 1 + 1, (rdBox rb)), (w.heap.size + 1, (rdBox ra)), (w.heap.size, (stBox s (.slice A cs.length c)))]) (by (repeat (with_reducible first | exact HR.out | apply Frm.drew | apply Frm.alloc | apply Frm.drewN))) hb)
  have HCq := Lib.hid (Chks.below (cs := cs) (by first | exact HC.out | exact HC.out.drew | exact HC.out.below (below_al (Below.refl _ _) _) | exact HC.out.drew.below (below_al (Below.refl _ _) _) | exact (HC.out.below (below_al (Below.refl _ _) _)).drew) hb)
  clear HR HC hb x0 x1 x2
  have HR := HRq
  have HC := HCq
  clear HRq HCq
  have x0 := HR.out.cells (List.mem_cons_self ..)
  have x1 := HR.out.cells (List.mem_cons_of_mem _ (List.mem_cons_self ..))
  have x2 := HR.out.cells (List.mem_cons_of_mem _ (List.mem_cons_of_mem _ (List.mem_cons_self ..)))
  by_cases e0 : fir < -s.rd
  · go_wp2_with fail
    refine (known_ex _ (HH.out.below (Frm.b (w := w) (bs := [(w.heap.size + 1 + 1, (rdBox rb)), (w.heap.size + 1, (rdBox ra)), (w.heap.size, (stBox s (.slice A cs.length c)))]) (by (repeat (with_reducible first | exact HR.out | apply Frm.drew | apply Frm.alloc | apply Frm.drewN))))) (HT.out.below (Frm.b (w := w) (bs := [(w.heap.size + 1 + 1, (rdBox rb)), (w.heap.size + 1, (rdBox ra)), (w.heap.size, (stBox s (.slice A cs.length c)))]) (by (repeat (with_reducible first | exact HR.out | apply Frm.drew | apply Frm.alloc | apply Frm.drewN)))))).mono ?_
    rintro e wz ⟨rfl, hbz⟩
    have HZ := Lib.hid (Frm.below (w := w) (bs := [(w.heap.size + 1 + 1, (rdBox rb)), (w.heap.size + 1, (rdBox ra)), (w.heap.size, (stBox s (.slice A cs.length c)))]) (by (repeat (with_reducible first | exact HR.out | apply Frm.drew | apply Frm.alloc | apply Frm.drewN))) hbz).b
    clear hbz x0 x1 x2
    go_wp2_with fail
    go_ret
    exact ⟨rfl, HZ.out⟩
  by_cases e1 : s.rd < fir
  · go_wp2_with fail
    refine (known_ex _ (HH.out.below (Frm.b (w := w) (bs := [(w.heap.size + 1 + 1, (rdBox rb)), (w.heap.size + 1, (rdBox ra)), (w.heap.size, (stBox s (.slice A cs.length c)))]) (by (repeat (with_reducible first | exact HR.out | apply Frm.drew | apply Frm.alloc | apply Frm.drewN))))) (HT.out.below (Frm.b (w := w) (bs := [(w.heap.size + 1 + 1, (rdBox rb)), (w.heap.size + 1, (rdBox ra)), (w.heap.size, (stBox s (.slice A cs.length c)))]) (by (repeat (with_reducible first | exact HR.out | apply Frm.drew | apply Frm.alloc | apply Frm.drewN)))))).mono ?_
    rintro e wz ⟨rfl, hbz⟩
    have HZ := Lib.hid (Frm.below (w := w) (bs := [(w.heap.size + 1 + 1, (rdBox rb)), (w.heap.size + 1, (rdBox ra)), (w.heap.size, (stBox s (.slice A cs.length c)))]) (by (repeat (with_reducible first | exact HR.out | apply Frm.drew | apply Frm.alloc | apply Frm.drewN))) hbz).b
    clear hbz x0 x1 x2
    go_wp2_with fail
    go_ret
    exact ⟨rfl, HZ.out⟩
  by_cases e2 : sec < -s.rd
  · go_wp2_with fail
    refine (known_ex _ (HH.out.below (Frm.b (w := w) (bs := [(w.heap.size + 1 + 1, (rdBox rb)), (w.heap.size + 1, (rdBox ra)), (w.heap.size, (stBox s (.slice A cs.length c)))]) (by (repeat (with_reducible first | exact HR.out | apply Frm.drew | apply Frm.alloc | apply Frm.drewN))))) (HT.out.below (Frm.b (w := w) (bs := [(w.heap.size + 1 + 1, (rdBox rb)), (w.heap.size + 1, (rdBox ra)), (w.heap.size, (stBox s (.slice A cs.length c)))]) (by (repeat (with_reducible first | exact HR.out | apply Frm.drew | apply Frm.alloc | apply Frm.drewN)))))).mono ?_
    rintro e wz ⟨rfl, hbz⟩
    have HZ := Lib.hid (Frm.below (w := w) (bs := [(w.heap.size + 1 + 1, (rdBox rb)), (w.heap.size + 1, (rdBox ra)), (w.heap.size, (stBox s (.slice A cs.length c)))]) (by (repeat (with_reducible first | exact HR.out | apply Frm.drew | apply Frm.alloc | apply Frm.drewN))) hbz).b
    clear hbz x0 x1 x2
    go_wp2_with fail
    go_ret
    exact ⟨rfl, HZ.out⟩
  by_cases e3 : s.rd < sec
  · go_wp2_with fail
    refine (known_ex _ (HH.out.below (Frm.b (w := w) (bs := [(w.heap.size + 1 + 1, (rdBox rb)), (w.heap.size + 1, (rdBox ra)), (w.heap.size, (stBox s (.slice A cs.length c)))]) (by (repeat (with_reducible first | exact HR.out | apply Frm.drew | apply Frm.alloc | apply Frm.drewN))))) (HT.out.below (Frm.b (w := w) (bs := [(w.heap.size + 1 + 1, (rdBox rb)), (w.heap.size + 1, (rdBox ra)), (w.heap.size, (stBox s (.slice A cs.length c)))]) (by (repeat (with_reducible first | exact HR.out | apply Frm.drew | apply Frm.alloc | apply Frm.drewN)))))).mono ?_
    rintro e wz ⟨rfl, hbz⟩
    have HZ := Lib.hid (Frm.below (w := w) (bs := [(w.heap.size + 1 + 1, (rdBox rb)), (w.heap.size + 1, (rdBox ra)), (w.heap.size, (stBox s (.slice A cs.length c)))]) (by (repeat (with_reducible first | exact HR.out | apply Frm.drew | apply Frm.alloc | apply Frm.drewN))) hbz).b
    clear hbz x0 x1 x2
    go_wp2_with fail
    go_ret
    exact ⟨rfl, HZ.out⟩
  have da0 := Gra.d0; have da1 := Gra.d1; have db0 := Grb.d0; have db1 := Grb.d1; have ma0 := Gra.b0; have ma1 := Gra.b1; have mb0 := Grb.b0; have mb1 := Grb.b1
  have sd0 := hg.sane.d0
  have sd1 := hg.sane.d1
  have fd := change_bounds sd0 sd1 da0 (show ra.day ≤ 10000 by omega) db0 (show rb.day ≤ 10000 by omega)
  have la := (lowF_ge s ra.day cs).1
  have ua := (highF_le s ra.day cs).1
  have lua := low_le_high hg.sane HA.out ra.day
  have lb := (lowF_ge s rb.day cs).1
  have ub := (highF_le s rb.day cs).1
  have lub := low_le_high hg.sane HA.out rb.day
  have p1 := low_lip (s := s) (cs := cs) sd0 ra.day rb.day
  have p2 := low_lip (s := s) (cs := cs) sd0 rb.day ra.day
  have p3 := high_lip (s := s) (cs := cs) sd0 ra.day rb.day
  have p4 := high_lip (s := s) (cs := cs) sd0 rb.day ra.day
  rw [farI_comm rb.day ra.day] at p2 p4
  have x0 : (riseF ra rb (fallLo s cs ra.day rb.day) (fallHi s cs ra.day rb.day) (-2 * s.rd) (2 * s.rd) 0) = rb.me - ra.me - fallHi s cs rb.day ra.day - 2 * s.rd := by rw [fallLo_eq]; simp only [riseF, ofF, if_true]; omega
  have x1 : (riseF ra rb (fallLo s cs ra.day rb.day) (fallHi s cs ra.day rb.day) (-2 * s.rd) (2 * s.rd) 1) = rb.me - ra.me + fallHi s cs ra.day rb.day + 2 * s.rd := by simp [riseF, ofF]
  have y0 : (riseF rb ra (fallLo s cs rb.day ra.day) (fallHi s cs rb.day ra.day) (-2 * s.rd) (2 * s.rd) 0) = -(rb.me - ra.me + fallHi s cs ra.day rb.day + 2 * s.rd) := by rw [fallLo_eq]; simp only [riseF, ofF, if_true]; omega
  have y1 : (riseF rb ra (fallLo s cs rb.day ra.day) (fallHi s cs rb.day ra.day) (-2 * s.rd) (2 * s.rd) 1) = -(rb.me - ra.me - fallHi s cs rb.day ra.day - 2 * s.rd) := by simp only [riseF, ofF]; simp; omega
  have HX : Hid (∀ W, Chks W (.slice A cs.length c) cs → Calls Tryd.prog 8 #[stV s (.slice A cs.length c), rdV ra, rdV rb] W fun z w' => z = .returned (.tuple #[spV (rb.me - ra.me - fallHi s cs rb.day ra.day - 2 * s.rd) (rb.me - ra.me + fallHi s cs ra.day rb.day + 2 * s.rd), .int .i64 0]) ∧ Below W.heap.size W w') := Lib.hid (fun W h => by have q := rise_ok h HS.out Hra.out Hrb.out HA.out; rw [x0, x1] at q; exact q)
  have HY : Hid (∀ W, Chks W (.slice A cs.length c) cs → Calls Tryd.prog 8 #[stV s (.slice A cs.length c), rdV rb, rdV ra] W fun z w' => z = .returned (.tuple #[spV (-(rb.me - ra.me + fallHi s cs ra.day rb.day + 2 * s.rd)) (-(rb.me - ra.me - fallHi s cs rb.day ra.day - 2 * s.rd)), .int .i64 0]) ∧ Below W.heap.size W w') := Lib.hid (fun W h => by have q := rise_ok h HS.out Hrb.out Hra.out HA.out; rw [y0, y1] at q; exact q)
  have f1 : fallHi s cs ra.day rb.day = min (highF s ra.day cs - lowF s rb.day cs) (s.dr * farI ra.day rb.day) := rfl
  have f2 : fallHi s cs rb.day ra.day = min (highF s rb.day cs - lowF s ra.day cs) (s.dr * farI ra.day rb.day) := by unfold fallHi; rw [farI_comm]
  have HTA : Hid (∀ x y, lowF s ra.day cs ≤ x → x ≤ highF s ra.day cs → lowF s rb.day cs ≤ y → y ≤ highF s rb.day cs → x - y ≤ s.dr * farI ra.day rb.day → y - x ≤ s.dr * farI ra.day rb.day → soundB s (cs ++ [⟨ra.day, x, x⟩, ⟨rb.day, y, y⟩]) = true ∧ Agreed s (cs ++ [⟨ra.day, x, x⟩, ⟨rb.day, y, y⟩])) := Lib.hid (fun x y h1 h2 h3 h4 h5 h6 => ⟨two_sound HS.out (by omega) ⟨da0, da1⟩ ⟨db0, db1⟩ (by omega) (by omega), two_agreed HS.out (by omega) HA.out ⟨da0, da1⟩ h1 h2 h3 h4 h5 h6⟩)
  have HTW : Hid (∀ x y, -2000 ≤ x ∧ x ≤ 2000 → -2000 ≤ y ∧ y ≤ 2000 → soundB s (cs ++ [⟨ra.day, x, x⟩, ⟨rb.day, y, y⟩]) = true ∧ (Agreed s (cs ++ [⟨ra.day, x, x⟩, ⟨rb.day, y, y⟩]) → x - y ≤ fallHi s cs ra.day rb.day ∧ y - x ≤ fallHi s cs rb.day ra.day)) := Lib.hid (fun x y h1 h2 => ⟨two_sound HS.out (by omega) ⟨da0, da1⟩ ⟨db0, db1⟩ h1 h2, fun h => two_within (two_sound HS.out (by omega) ⟨da0, da1⟩ ⟨db0, db1⟩ h1 h2) h h1 h2⟩)
  have HIA : Hid (∀ W, Chks W (.slice A cs.length c) cs → Calls Tryd.prog 11 #[stV s (.slice A cs.length c), .int .i64 ra.day] W fun z w' => z = .returned (.tuple #[spV (lowF s ra.day cs) (highF s ra.day cs), .int .i64 0]) ∧ Below W.heap.size W w') := Lib.hid (fun W h => index_ok h HS.out (betw_iff.2 ⟨da0, da1⟩) HA.out)
  have HIB : Hid (∀ W, Chks W (.slice A cs.length c) cs → Calls Tryd.prog 11 #[stV s (.slice A cs.length c), .int .i64 rb.day] W fun z w' => z = .returned (.tuple #[spV (lowF s rb.day cs) (highF s rb.day cs), .int .i64 0]) ∧ Below W.heap.size W w') := Lib.hid (fun W h => index_ok h HS.out (betw_iff.2 ⟨db0, db1⟩) HA.out)
  clear x0 x1 y0 y1 Gra Grb
  generalize lowF s ra.day cs = loa at *
  generalize highF s ra.day cs = hia at *
  generalize lowF s rb.day cs = lob at *
  generalize highF s rb.day cs = hib at *
  generalize fallHi s cs ra.day rb.day = F1 at *
  generalize fallHi s cs rb.day ra.day = F2 at *
  unfold farI at *
  obtain ⟨fd0, fd1⟩ := fd
  have HFD := Lib.hid (show s.dr * max (ra.day - rb.day) (rb.day - ra.day) = s.dr * max (ra.day - rb.day) (rb.day - ra.day) from rfl)
  have F1a : F1 ≤ hia - lob := by omega
  have F1b : F1 ≤ s.dr * max (ra.day - rb.day) (rb.day - ra.day) := by omega
  have F1c : hia - lob ≤ F1 ∨ s.dr * max (ra.day - rb.day) (rb.day - ra.day) ≤ F1 := by omega
  have F2a : F2 ≤ hib - loa := by omega
  have F2b : F2 ≤ s.dr * max (ra.day - rb.day) (rb.day - ra.day) := by omega
  have F2c : hib - loa ≤ F2 ∨ s.dr * max (ra.day - rb.day) (rb.day - ra.day) ≤ F2 := by omega
  clear f1 f2 HFD
  obtain ⟨X0, hX0⟩ : ∃ t, rb.me - ra.me - F2 - 2 * s.rd = t := ⟨_, rfl⟩
  obtain ⟨X1, hX1⟩ : ∃ t, rb.me - ra.me + F1 + 2 * s.rd = t := ⟨_, rfl⟩
  rw [hX0, hX1] at HX HY
  have xa : rb.me - ra.me - F2 - 2 * s.rd ≤ X0 := by omega
  have xb : X0 ≤ rb.me - ra.me - F2 - 2 * s.rd := by omega
  have xc : rb.me - ra.me + F1 + 2 * s.rd ≤ X1 := by omega
  have xd : X1 ≤ rb.me - ra.me + F1 + 2 * s.rd := by omega
  clear hX0 hX1
  have HW0 := Lib.hid (show withinB X0 X1 (-200000) 200000 = true by simp [withinB]; omega)
  have HWa := Lib.hid (show withinB loa hia (-2000) 2000 = true by simp [withinB]; omega)
  have HWb := Lib.hid (show withinB lob hib (-2000) 2000 = true by simp [withinB]; omega)
  have z0 : -200000 ≤ X0 := by omega
  have z1 : X1 ≤ 200000 := by omega
  have z2 : X0 ≤ X1 := by omega
  go_wp2_with fail
  refine (HX.out _ (by first | exact HC.out | exact HC.out.drew | exact HC.out.below (below_al (Below.refl _ _) _) | exact HC.out.drew.below (below_al (Below.refl _ _) _) | exact (HC.out.below (below_al (Below.refl _ _) _)).drew)).mono ?_
  rintro e w4 ⟨rfl, hb⟩
  have HRq := Lib.hid ((Frm.below (w := w) (bs := [(w.heap.size + 1 + 1, (rdBox rb)), (w.heap.size + 1, (rdBox ra)), (w.heap.size, (stBox s (.slice A cs.length c)))]) (by (repeat (with_reducible first | exact HR.out | apply Frm.drew | apply Frm.alloc | apply Frm.drewN))) hb).add (spBox X0 X1) rfl)
  have HCq := Lib.hid (Chks.below (cs := cs) (by first | exact HC.out | exact HC.out.drew | exact HC.out.below (below_al (Below.refl _ _) _) | exact HC.out.drew.below (below_al (Below.refl _ _) _) | exact (HC.out.below (below_al (Below.refl _ _) _)).drew) hb |>.below (below_al (Below.refl _ _) (spBox X0 X1)))
  clear HR HC hb x0 x1 x2
  have HR := HRq
  have HC := HCq
  clear HRq HCq
  have x0 := HR.out.cells (List.mem_cons_self ..)
  have x1 := HR.out.cells (List.mem_cons_of_mem _ (List.mem_cons_self ..))
  have x2 := HR.out.cells (List.mem_cons_of_mem _ (List.mem_cons_of_mem _ (List.mem_cons_self ..)))
  have x3 := HR.out.cells (List.mem_cons_of_mem _ (List.mem_cons_of_mem _ (List.mem_cons_of_mem _ (List.mem_cons_self ..))))
  go_wp2_with fail
  refine (HY.out _ (by first | exact HC.out | exact HC.out.drew | exact HC.out.below (below_al (Below.refl _ _) _) | exact HC.out.drew.below (below_al (Below.refl _ _) _) | exact (HC.out.below (below_al (Below.refl _ _) _)).drew)).mono ?_
  rintro e w5 ⟨rfl, hb⟩
  have HRq := Lib.hid ((Frm.below (w := w) (bs := [(w4.heap.size, (spBox X0 X1)), (w.heap.size + 1 + 1, (rdBox rb)), (w.heap.size + 1, (rdBox ra)), (w.heap.size, (stBox s (.slice A cs.length c)))]) (by (repeat (with_reducible first | exact HR.out | apply Frm.drew | apply Frm.alloc | apply Frm.drewN))) hb).add (spBox (-X1) (-X0)) rfl)
  have HCq := Lib.hid (Chks.below (cs := cs) (by first | exact HC.out | exact HC.out.drew | exact HC.out.below (below_al (Below.refl _ _) _) | exact HC.out.drew.below (below_al (Below.refl _ _) _) | exact (HC.out.below (below_al (Below.refl _ _) _)).drew) hb |>.below (below_al (Below.refl _ _) (spBox (-X1) (-X0))))
  clear HR HC hb x0 x1 x2 x3
  have HR := HRq
  have HC := HCq
  clear HRq HCq
  have x0 := HR.out.cells (List.mem_cons_self ..)
  have x1 := HR.out.cells (List.mem_cons_of_mem _ (List.mem_cons_self ..))
  have x2 := HR.out.cells (List.mem_cons_of_mem _ (List.mem_cons_of_mem _ (List.mem_cons_self ..)))
  have x3 := HR.out.cells (List.mem_cons_of_mem _ (List.mem_cons_of_mem _ (List.mem_cons_of_mem _ (List.mem_cons_self ..))))
  have x4 := HR.out.cells (List.mem_cons_of_mem _ (List.mem_cons_of_mem _ (List.mem_cons_of_mem _ (List.mem_cons_of_mem _ (List.mem_cons_self ..)))))
  go_upto_region 5 with fail
  have e1 : IntKind.i64.wrap (-X1) = -X1 := IntWalk.i64_in _ (by omega)
  have e2 : IntKind.i64.wrap (-X0) = -X0 := IntWalk.i64_in _ (by omega)
  go_cut [115] (fun s115 wx => s115 = .bool false ∧ Frm w [(w5.heap.size, (spBox (-X1) (-X0))), (w4.heap.size, (spBox X0 X1)), (w.heap.size + 1 + 1, (rdBox rb)), (w.heap.size + 1, (rdBox ra)), (w.heap.size, (stBox s (.slice A cs.length c)))] wx ∧ Chks wx (.slice A cs.length c) cs)
  case first =>
    go_region_held3 (fun w' => (∀ o, w'.cell? ⟨w5.heap.size, o, none⟩ = #[Value.int .i64 (-X1), .int .i64 (-X0)][o]?) ∧ (∀ o, w'.cell? ⟨w4.heap.size, o, none⟩ = #[Value.int .i64 X0, .int .i64 X1][o]?)) ((exact (fun hF : Frm w [(w5.heap.size, (spBox (-X1) (-X0))), (w4.heap.size, (spBox X0 X1)), (w.heap.size + 1 + 1, (rdBox rb)), (w.heap.size + 1, (rdBox ra)), (w.heap.size, (stBox s (.slice A cs.length c)))] _ => ⟨hF.cells (List.mem_cons_self ..), hF.cells (List.mem_cons_of_mem _ (List.mem_cons_self ..))⟩) (by (repeat (with_reducible first | exact HR.out | apply Frm.drew | apply Frm.alloc | apply Frm.drewN))))) (first | (go_at_call 9; refine (rSpan_is HW0.out _).mono ?_; rintro e wa ⟨rfl, hba⟩; have HCq := Lib.hid (Chks.below (cs := cs) (by first | exact HC.out | exact HC.out.drew | exact HC.out.below (below_al (Below.refl _ _) _) | exact HC.out.drew.below (below_al (Below.refl _ _) _) | exact (HC.out.below (below_al (Below.refl _ _) _)).drew) hba); have HRq := Lib.hid (Frm.below (w := w) (bs := [(w5.heap.size, (spBox (-X1) (-X0))), (w4.heap.size, (spBox X0 X1)), (w.heap.size + 1 + 1, (rdBox rb)), (w.heap.size + 1, (rdBox ra)), (w.heap.size, (stBox s (.slice A cs.length c)))]) (by (repeat (with_reducible first | exact HR.out | apply Frm.drew | apply Frm.alloc | apply Frm.drewN))) hba); clear HR HC; have HR := HRq; have HC := HCq; clear HRq HCq hba) | (go_at_call 10; refine (lspan_any _ _ _).mono ?_; rintro e wa ⟨rfl, hba⟩; have HCq := Lib.hid (Chks.below (cs := cs) (by first | exact HC.out | exact HC.out.drew | exact HC.out.below (below_al (Below.refl _ _) _) | exact HC.out.drew.below (below_al (Below.refl _ _) _) | exact (HC.out.below (below_al (Below.refl _ _) _)).drew) hba); have HRq := Lib.hid (Frm.below (w := w) (bs := [(w5.heap.size, (spBox (-X1) (-X0))), (w4.heap.size, (spBox X0 X1)), (w.heap.size + 1 + 1, (rdBox rb)), (w.heap.size + 1, (rdBox ra)), (w.heap.size, (stBox s (.slice A cs.length c)))]) (by (repeat (with_reducible first | exact HR.out | apply Frm.drew | apply Frm.alloc | apply Frm.drewN))) hba); clear HR HC; have HR := HRq; have HC := HCq; clear HRq HCq hba))
    all_goals
      go_wp2_with fail
      go_meet
      exact ⟨rfl, (by (repeat (with_reducible first | exact HR.out | apply Frm.drew | apply Frm.alloc | apply Frm.drewN))), (by first | exact HC.out | exact HC.out.drew | exact HC.out.below (below_al (Below.refl _ _) _) | exact HC.out.drew.below (below_al (Below.refl _ _) _) | exact (HC.out.below (below_al (Below.refl _ _) _)).drew)⟩
  case rest =>
    obtain ⟨rfl, hF, hC⟩ := hcut
    clear HR HC x0 x1 x2 x3 x4
    have HR := Lib.hid hF
    have HC := Lib.hid hC
    clear hF hC
    clear e1 e2
    have x0 := HR.out.cells (List.mem_cons_self ..)
    have x1 := HR.out.cells (List.mem_cons_of_mem _ (List.mem_cons_self ..))
    have x2 := HR.out.cells (List.mem_cons_of_mem _ (List.mem_cons_of_mem _ (List.mem_cons_self ..)))
    have x3 := HR.out.cells (List.mem_cons_of_mem _ (List.mem_cons_of_mem _ (List.mem_cons_of_mem _ (List.mem_cons_self ..))))
    have x4 := HR.out.cells (List.mem_cons_of_mem _ (List.mem_cons_of_mem _ (List.mem_cons_of_mem _ (List.mem_cons_of_mem _ (List.mem_cons_self ..)))))
    go_wp2_with fail
    go_loopw [19] (fun e wr => (e = .int .i64 0 ∨ e = .int .i64 1 ∨ e = .int .i64 2) ∧ Frm w [(w4.heap.size, (spBox X0 X1)), (w.heap.size + 1 + 1, (rdBox rb)), (w.heap.size + 1, (rdBox ra)), (w.heap.size, (stBox s (.slice A cs.length c)))] wr) (fun e _ => (2 - intOf e).toNat)
    case atStart => exact ⟨.inl rfl, Frm.less (bs := [(w5.heap.size, (spBox (-X1) (-X0))), (w4.heap.size, (spBox X0 X1)), (w.heap.size + 1 + 1, (rdBox rb)), (w.heap.size + 1, (rdBox ra)), (w.heap.size, (stBox s (.slice A cs.length c)))]) (by (repeat (with_reducible first | exact HR.out | apply Frm.drew | apply Frm.alloc | apply Frm.drewN))) (fun p hp => List.mem_cons_of_mem _ hp)⟩
    case round =>
      obtain ⟨he, hF⟩ := hrel
      clear HR HC x0 x1 x2 x3 x4
      have HR := Lib.hid hF
      have HC := Lib.hid (HC0.out.below HR.out.b)
      clear hF
      have x0 := HR.out.cells (List.mem_cons_self ..)
      have x1 := HR.out.cells (List.mem_cons_of_mem _ (List.mem_cons_self ..))
      have x2 := HR.out.cells (List.mem_cons_of_mem _ (List.mem_cons_of_mem _ (List.mem_cons_self ..)))
      have x3 := HR.out.cells (List.mem_cons_of_mem _ (List.mem_cons_of_mem _ (List.mem_cons_of_mem _ (List.mem_cons_self ..))))
      rcases he with rfl | rfl | rfl
      · as_aux_lemma =>
          obtain ⟨tq, hto⟩ : ∃ t, min hib (loa + s.dr * max (ra.day - rb.day) (rb.day - ra.day)) = t := ⟨_, rfl⟩
          have t1 : lob ≤ tq := by omega
          have t2 : tq ≤ hib := by omega
          have t3 : loa - tq ≤ s.dr * max (ra.day - rb.day) (rb.day - ra.day) := by omega
          have t4 : tq - loa ≤ s.dr * max (ra.day - rb.day) (rb.day - ra.day) := by omega
          have t5 : rb.me - tq - ra.me + loa ≤ X0 + 2 * s.rd := by omega
          have t6 : X0 + 2 * s.rd ≤ rb.me - tq - ra.me + loa := by omega
          obtain ⟨hso, hao⟩ := HTA.out loa tq (by omega) (by omega) t1 t2 t3 t4
          have HSO := Lib.hid hso
          have HAO := Lib.hid hao
          have HTO := Lib.hid hto
          have HJ : Hid (∀ W v, Chks W v (cs ++ [⟨ra.day, loa, loa⟩, ⟨rb.day, tq, tq⟩]) → Calls Tryd.prog 11 #[stV s v, .int .i64 0] W fun z w' => z = .returned (.tuple #[spV (lowF s 0 (cs ++ [⟨ra.day, loa, loa⟩, ⟨rb.day, tq, tq⟩])) (highF s 0 (cs ++ [⟨ra.day, loa, loa⟩, ⟨rb.day, tq, tq⟩])), .int .i64 0]) ∧ Below W.heap.size W w') := Lib.hid (fun W v h => index_ok h HSO.out rfl HAO.out)
          generalize lowF s 0 (cs ++ [⟨ra.day, loa, loa⟩, ⟨rb.day, tq, tq⟩]) = l2 at *
          generalize highF s 0 (cs ++ [⟨ra.day, loa, loa⟩, ⟨rb.day, tq, tq⟩]) = h2 at *
          clear hso hao hto
          go_wp2_with fail
          refine (HIA.out _ (by first | exact HC.out | exact HC.out.drew | exact HC.out.below (below_al (Below.refl _ _) _) | exact HC.out.drew.below (below_al (Below.refl _ _) _) | exact (HC.out.below (below_al (Below.refl _ _) _)).drew)).mono ?_
          rintro e w6 ⟨rfl, hb⟩
          have HRq := Lib.hid ((Frm.below (w := w) (bs := [(w4.heap.size, (spBox X0 X1)), (w.heap.size + 1 + 1, (rdBox rb)), (w.heap.size + 1, (rdBox ra)), (w.heap.size, (stBox s (.slice A cs.length c)))]) (by (repeat (with_reducible first | exact HR.out | apply Frm.drew | apply Frm.alloc | apply Frm.drewN))) hb).add (spBox loa hia) rfl)
          have HCq := Lib.hid (Chks.below (cs := cs) (by first | exact HC.out | exact HC.out.drew | exact HC.out.below (below_al (Below.refl _ _) _) | exact HC.out.drew.below (below_al (Below.refl _ _) _) | exact (HC.out.below (below_al (Below.refl _ _) _)).drew) hb |>.below (below_al (Below.refl _ _) (spBox loa hia)))
          clear HR HC hb x0 x1 x2 x3
          have HR := HRq
          have HC := HCq
          clear HRq HCq
          have x0 := HR.out.cells (List.mem_cons_self ..)
          have x1 := HR.out.cells (List.mem_cons_of_mem _ (List.mem_cons_self ..))
          have x2 := HR.out.cells (List.mem_cons_of_mem _ (List.mem_cons_of_mem _ (List.mem_cons_self ..)))
          have x3 := HR.out.cells (List.mem_cons_of_mem _ (List.mem_cons_of_mem _ (List.mem_cons_of_mem _ (List.mem_cons_self ..))))
          have x4 := HR.out.cells (List.mem_cons_of_mem _ (List.mem_cons_of_mem _ (List.mem_cons_of_mem _ (List.mem_cons_of_mem _ (List.mem_cons_self ..)))))
          go_wp2_with fail
          refine (HIB.out _ (by first | exact HC.out | exact HC.out.drew | exact HC.out.below (below_al (Below.refl _ _) _) | exact HC.out.drew.below (below_al (Below.refl _ _) _) | exact (HC.out.below (below_al (Below.refl _ _) _)).drew)).mono ?_
          rintro e w7 ⟨rfl, hb⟩
          have HRq := Lib.hid ((Frm.below (w := w) (bs := [(w6.heap.size, (spBox loa hia)), (w4.heap.size, (spBox X0 X1)), (w.heap.size + 1 + 1, (rdBox rb)), (w.heap.size + 1, (rdBox ra)), (w.heap.size, (stBox s (.slice A cs.length c)))]) (by (repeat (with_reducible first | exact HR.out | apply Frm.drew | apply Frm.alloc | apply Frm.drewN))) hb).add (spBox lob hib) rfl)
          have HCq := Lib.hid (Chks.below (cs := cs) (by first | exact HC.out | exact HC.out.drew | exact HC.out.below (below_al (Below.refl _ _) _) | exact HC.out.drew.below (below_al (Below.refl _ _) _) | exact (HC.out.below (below_al (Below.refl _ _) _)).drew) hb |>.below (below_al (Below.refl _ _) (spBox lob hib)))
          clear HR HC hb x0 x1 x2 x3 x4
          have HR := HRq
          have HC := HCq
          clear HRq HCq
          have x0 := HR.out.cells (List.mem_cons_self ..)
          have x1 := HR.out.cells (List.mem_cons_of_mem _ (List.mem_cons_self ..))
          have x2 := HR.out.cells (List.mem_cons_of_mem _ (List.mem_cons_of_mem _ (List.mem_cons_self ..)))
          have x3 := HR.out.cells (List.mem_cons_of_mem _ (List.mem_cons_of_mem _ (List.mem_cons_of_mem _ (List.mem_cons_self ..))))
          have x4 := HR.out.cells (List.mem_cons_of_mem _ (List.mem_cons_of_mem _ (List.mem_cons_of_mem _ (List.mem_cons_of_mem _ (List.mem_cons_self ..)))))
          have x5 := HR.out.cells (List.mem_cons_of_mem _ (List.mem_cons_of_mem _ (List.mem_cons_of_mem _ (List.mem_cons_of_mem _ (List.mem_cons_of_mem _ (List.mem_cons_self ..))))))
          go_wp2_with fail
          refine (rSpan_is HWa.out _).mono ?_
          rintro e w8 ⟨rfl, hb⟩
          have HRq := Lib.hid (Frm.below (w := w) (bs := [(w7.heap.size, (spBox lob hib)), (w6.heap.size, (spBox loa hia)), (w4.heap.size, (spBox X0 X1)), (w.heap.size + 1 + 1, (rdBox rb)), (w.heap.size + 1, (rdBox ra)), (w.heap.size, (stBox s (.slice A cs.length c)))]) (by (repeat (with_reducible first | exact HR.out | apply Frm.drew | apply Frm.alloc | apply Frm.drewN))) hb)
          have HCq := Lib.hid (Chks.below (cs := cs) (by first | exact HC.out | exact HC.out.drew | exact HC.out.below (below_al (Below.refl _ _) _) | exact HC.out.drew.below (below_al (Below.refl _ _) _) | exact (HC.out.below (below_al (Below.refl _ _) _)).drew) hb)
          clear HR HC hb x0 x1 x2 x3 x4 x5
          have HR := HRq
          have HC := HCq
          clear HRq HCq
          have x0 := HR.out.cells (List.mem_cons_self ..)
          have x1 := HR.out.cells (List.mem_cons_of_mem _ (List.mem_cons_self ..))
          have x2 := HR.out.cells (List.mem_cons_of_mem _ (List.mem_cons_of_mem _ (List.mem_cons_self ..)))
          have x3 := HR.out.cells (List.mem_cons_of_mem _ (List.mem_cons_of_mem _ (List.mem_cons_of_mem _ (List.mem_cons_self ..))))
          have x4 := HR.out.cells (List.mem_cons_of_mem _ (List.mem_cons_of_mem _ (List.mem_cons_of_mem _ (List.mem_cons_of_mem _ (List.mem_cons_self ..)))))
          have x5 := HR.out.cells (List.mem_cons_of_mem _ (List.mem_cons_of_mem _ (List.mem_cons_of_mem _ (List.mem_cons_of_mem _ (List.mem_cons_of_mem _ (List.mem_cons_self ..))))))
          go_wp2_with fail
          refine (rSpan_is HWb.out _).mono ?_
          rintro e w9 ⟨rfl, hb⟩
          have HRq := Lib.hid (Frm.below (w := w) (bs := [(w7.heap.size, (spBox lob hib)), (w6.heap.size, (spBox loa hia)), (w4.heap.size, (spBox X0 X1)), (w.heap.size + 1 + 1, (rdBox rb)), (w.heap.size + 1, (rdBox ra)), (w.heap.size, (stBox s (.slice A cs.length c)))]) (by (repeat (with_reducible first | exact HR.out | apply Frm.drew | apply Frm.alloc | apply Frm.drewN))) hb)
          have HCq := Lib.hid (Chks.below (cs := cs) (by first | exact HC.out | exact HC.out.drew | exact HC.out.below (below_al (Below.refl _ _) _) | exact HC.out.drew.below (below_al (Below.refl _ _) _) | exact (HC.out.below (below_al (Below.refl _ _) _)).drew) hb)
          clear HR HC hb x0 x1 x2 x3 x4 x5
          have HR := HRq
          have HC := HCq
          clear HRq HCq
          have x0 := HR.out.cells (List.mem_cons_self ..)
          have x1 := HR.out.cells (List.mem_cons_of_mem _ (List.mem_cons_self ..))
          have x2 := HR.out.cells (List.mem_cons_of_mem _ (List.mem_cons_of_mem _ (List.mem_cons_self ..)))
          have x3 := HR.out.cells (List.mem_cons_of_mem _ (List.mem_cons_of_mem _ (List.mem_cons_of_mem _ (List.mem_cons_self ..))))
          have x4 := HR.out.cells (List.mem_cons_of_mem _ (List.mem_cons_of_mem _ (List.mem_cons_of_mem _ (List.mem_cons_of_mem _ (List.mem_cons_self ..)))))
          have x5 := HR.out.cells (List.mem_cons_of_mem _ (List.mem_cons_of_mem _ (List.mem_cons_of_mem _ (List.mem_cons_of_mem _ (List.mem_cons_of_mem _ (List.mem_cons_self ..))))))
          go_upto_region 15 with fail
          generalize s.dr * max (ra.day - rb.day) (rb.day - ra.day) = fd at *
          have e1 : IntKind.i64.wrap (hia - fd) = hia - fd := IntWalk.i64_in _ (by omega)
          have e2 : IntKind.i64.wrap (2 * s.rd) = 2 * s.rd := IntWalk.i64_in _ (by omega)
          have e3 : IntKind.i64.wrap (X1 - 2 * s.rd) = X1 - 2 * s.rd := IntWalk.i64_in _ (by omega)
          have e4 : IntKind.i64.wrap (loa + fd) = loa + fd := IntWalk.i64_in _ (by omega)
          have e5 : IntKind.i64.wrap (X0 + 2 * s.rd) = X0 + 2 * s.rd := IntWalk.i64_in _ (by omega)
          go_cut [25, 26, 27] (fun s25 s26 s27 wx => s25 = .int .i64 hia ∧ s26 = .int .i64 (max lob (hia - fd)) ∧ s27 = .int .i64 (X1 - 2 * s.rd) ∧ Frm w [(w7.heap.size, (spBox lob hib)), (w6.heap.size, (spBox loa hia)), (w4.heap.size, (spBox X0 X1)), (w.heap.size + 1 + 1, (rdBox rb)), (w.heap.size + 1, (rdBox ra)), (w.heap.size, (stBox s (.slice A cs.length c)))] wx ∧ Chks wx (.slice A cs.length c) cs)
          case first =>
            go_region_held3 (fun w' => (∀ o, w'.cell? ⟨w7.heap.size, o, none⟩ = #[Value.int .i64 lob, .int .i64 hib][o]?) ∧ (∀ o, w'.cell? ⟨w6.heap.size, o, none⟩ = #[Value.int .i64 loa, .int .i64 hia][o]?) ∧ (∀ o, w'.cell? ⟨w4.heap.size, o, none⟩ = #[Value.int .i64 X0, .int .i64 X1][o]?) ∧ (∀ o, w'.cell? ⟨w.heap.size, o, none⟩ = #[Value.int .i64 s.hl, .int .i64 s.hh, .int .i64 s.gl, .int .i64 s.gh, .int .i64 s.dr, .int .i64 s.rd, .int .i64 s.ea, .int .i64 s.sl, .slice A cs.length c][o]?)) ((exact (fun hF : Frm w [(w7.heap.size, (spBox lob hib)), (w6.heap.size, (spBox loa hia)), (w4.heap.size, (spBox X0 X1)), (w.heap.size + 1 + 1, (rdBox rb)), (w.heap.size + 1, (rdBox ra)), (w.heap.size, (stBox s (.slice A cs.length c)))] _ => ⟨hF.cells (List.mem_cons_self ..), hF.cells (List.mem_cons_of_mem _ (List.mem_cons_self ..)), hF.cells (List.mem_cons_of_mem _ (List.mem_cons_of_mem _ (List.mem_cons_self ..))), hF.cells (List.mem_cons_of_mem _ (List.mem_cons_of_mem _ (List.mem_cons_of_mem _ (List.mem_cons_of_mem _ (List.mem_cons_of_mem _ (List.mem_cons_self ..))))))⟩) (by (repeat (with_reducible first | exact HR.out | apply Frm.drew | apply Frm.alloc | apply Frm.drewN))))) (fail)
            all_goals
              go_wp2_with fail
              go_meet
              exact ⟨rfl, rfl, rfl, (by (repeat (with_reducible first | exact HR.out | apply Frm.drew | apply Frm.alloc | apply Frm.drewN))), (by first | exact HC.out | exact HC.out.drew | exact HC.out.below (below_al (Below.refl _ _) _) | exact HC.out.drew.below (below_al (Below.refl _ _) _) | exact (HC.out.below (below_al (Below.refl _ _) _)).drew)⟩
          case rest =>
            obtain ⟨rfl, rfl, rfl, hF, hC⟩ := hcut
            clear HR HC x0 x1 x2 x3 x4 x5
            have HR := Lib.hid hF
            have HC := Lib.hid hC
            clear hF hC
            have x0 := HR.out.cells (List.mem_cons_self ..)
            have x1 := HR.out.cells (List.mem_cons_of_mem _ (List.mem_cons_self ..))
            have x2 := HR.out.cells (List.mem_cons_of_mem _ (List.mem_cons_of_mem _ (List.mem_cons_self ..)))
            have x3 := HR.out.cells (List.mem_cons_of_mem _ (List.mem_cons_of_mem _ (List.mem_cons_of_mem _ (List.mem_cons_self ..))))
            have x4 := HR.out.cells (List.mem_cons_of_mem _ (List.mem_cons_of_mem _ (List.mem_cons_of_mem _ (List.mem_cons_of_mem _ (List.mem_cons_self ..)))))
            have x5 := HR.out.cells (List.mem_cons_of_mem _ (List.mem_cons_of_mem _ (List.mem_cons_of_mem _ (List.mem_cons_of_mem _ (List.mem_cons_of_mem _ (List.mem_cons_self ..))))))
            go_upto_region 17 with fail
            go_cut [25, 26, 27] (fun s25 s26 s27 wx => s25 = .int .i64 loa ∧ s26 = .int .i64 tq ∧ s27 = .int .i64 (X0 + 2 * s.rd) ∧ Frm w [(w7.heap.size, (spBox lob hib)), (w6.heap.size, (spBox loa hia)), (w4.heap.size, (spBox X0 X1)), (w.heap.size + 1 + 1, (rdBox rb)), (w.heap.size + 1, (rdBox ra)), (w.heap.size, (stBox s (.slice A cs.length c)))] wx ∧ Chks wx (.slice A cs.length c) cs)
            case first =>
              go_region_held3 (fun w' => (∀ o, w'.cell? ⟨w7.heap.size, o, none⟩ = #[Value.int .i64 lob, .int .i64 hib][o]?) ∧ (∀ o, w'.cell? ⟨w6.heap.size, o, none⟩ = #[Value.int .i64 loa, .int .i64 hia][o]?) ∧ (∀ o, w'.cell? ⟨w4.heap.size, o, none⟩ = #[Value.int .i64 X0, .int .i64 X1][o]?) ∧ (∀ o, w'.cell? ⟨w.heap.size, o, none⟩ = #[Value.int .i64 s.hl, .int .i64 s.hh, .int .i64 s.gl, .int .i64 s.gh, .int .i64 s.dr, .int .i64 s.rd, .int .i64 s.ea, .int .i64 s.sl, .slice A cs.length c][o]?)) ((exact (fun hF : Frm w [(w7.heap.size, (spBox lob hib)), (w6.heap.size, (spBox loa hia)), (w4.heap.size, (spBox X0 X1)), (w.heap.size + 1 + 1, (rdBox rb)), (w.heap.size + 1, (rdBox ra)), (w.heap.size, (stBox s (.slice A cs.length c)))] _ => ⟨hF.cells (List.mem_cons_self ..), hF.cells (List.mem_cons_of_mem _ (List.mem_cons_self ..)), hF.cells (List.mem_cons_of_mem _ (List.mem_cons_of_mem _ (List.mem_cons_self ..))), hF.cells (List.mem_cons_of_mem _ (List.mem_cons_of_mem _ (List.mem_cons_of_mem _ (List.mem_cons_of_mem _ (List.mem_cons_of_mem _ (List.mem_cons_self ..))))))⟩) (by (repeat (with_reducible first | exact HR.out | apply Frm.drew | apply Frm.alloc | apply Frm.drewN))))) (fail)
              all_goals
                go_wp2_with fail
                go_meet
                exact ⟨rfl, congrArg (Value.int .i64) HTO.out, rfl, (by (repeat (with_reducible first | exact HR.out | apply Frm.drew | apply Frm.alloc | apply Frm.drewN))), (by first | exact HC.out | exact HC.out.drew | exact HC.out.below (below_al (Below.refl _ _) _) | exact HC.out.drew.below (below_al (Below.refl _ _) _) | exact (HC.out.below (below_al (Below.refl _ _) _)).drew)⟩
            case rest =>
              obtain ⟨rfl, rfl, rfl, hF, hC⟩ := hcut
              clear HR HC x0 x1 x2 x3 x4 x5
              have HR := Lib.hid hF
              have HC := Lib.hid hC
              clear hF hC
              have x0 := HR.out.cells (List.mem_cons_self ..)
              have x1 := HR.out.cells (List.mem_cons_of_mem _ (List.mem_cons_self ..))
              have x2 := HR.out.cells (List.mem_cons_of_mem _ (List.mem_cons_of_mem _ (List.mem_cons_self ..)))
              have x3 := HR.out.cells (List.mem_cons_of_mem _ (List.mem_cons_of_mem _ (List.mem_cons_of_mem _ (List.mem_cons_self ..))))
              have x4 := HR.out.cells (List.mem_cons_of_mem _ (List.mem_cons_of_mem _ (List.mem_cons_of_mem _ (List.mem_cons_of_mem _ (List.mem_cons_self ..)))))
              have x5 := HR.out.cells (List.mem_cons_of_mem _ (List.mem_cons_of_mem _ (List.mem_cons_of_mem _ (List.mem_cons_of_mem _ (List.mem_cons_of_mem _ (List.mem_cons_self ..))))))
              clear e1 e2 e3 e4 e5
              go_wp2_with fail
              refine (rFound (by first | exact HC.out | exact HC.out.drew | exact HC.out.below (below_al (Below.refl _ _) _) | exact HC.out.drew.below (below_al (Below.refl _ _) _) | exact (HC.out.below (below_al (Below.refl _ _) _)).drew) h12).mono ?_
              rintro e w10 ⟨v2, rfl, hC2, hb⟩
              have HRq := Lib.hid (Frm.below (w := w) (bs := [(w7.heap.size, (spBox lob hib)), (w6.heap.size, (spBox loa hia)), (w4.heap.size, (spBox X0 X1)), (w.heap.size + 1 + 1, (rdBox rb)), (w.heap.size + 1, (rdBox ra)), (w.heap.size, (stBox s (.slice A cs.length c)))]) (by (repeat (with_reducible first | exact HR.out | apply Frm.drew | apply Frm.alloc | apply Frm.drewN))) hb)
              have HCq := Lib.hid (Chks.below (cs := cs) (by first | exact HC.out | exact HC.out.drew | exact HC.out.below (below_al (Below.refl _ _) _) | exact HC.out.drew.below (below_al (Below.refl _ _) _) | exact (HC.out.below (below_al (Below.refl _ _) _)).drew) hb)
              have HV2 := Lib.hid hC2
              clear hC2
              clear HR HC hb x0 x1 x2 x3 x4 x5
              have HR := HRq
              have HC := HCq
              clear HRq HCq
              have x0 := HR.out.cells (List.mem_cons_self ..)
              have x1 := HR.out.cells (List.mem_cons_of_mem _ (List.mem_cons_self ..))
              have x2 := HR.out.cells (List.mem_cons_of_mem _ (List.mem_cons_of_mem _ (List.mem_cons_self ..)))
              have x3 := HR.out.cells (List.mem_cons_of_mem _ (List.mem_cons_of_mem _ (List.mem_cons_of_mem _ (List.mem_cons_self ..))))
              have x4 := HR.out.cells (List.mem_cons_of_mem _ (List.mem_cons_of_mem _ (List.mem_cons_of_mem _ (List.mem_cons_of_mem _ (List.mem_cons_self ..)))))
              have x5 := HR.out.cells (List.mem_cons_of_mem _ (List.mem_cons_of_mem _ (List.mem_cons_of_mem _ (List.mem_cons_of_mem _ (List.mem_cons_of_mem _ (List.mem_cons_self ..))))))
              go_wp2_with fail
              refine (HJ.out _ _ HV2.out).mono ?_
              rintro e w11 ⟨rfl, hb⟩
              have HRq := Lib.hid ((Frm.below (w := w) (bs := [(w7.heap.size, (spBox lob hib)), (w6.heap.size, (spBox loa hia)), (w4.heap.size, (spBox X0 X1)), (w.heap.size + 1 + 1, (rdBox rb)), (w.heap.size + 1, (rdBox ra)), (w.heap.size, (stBox s (.slice A cs.length c)))]) (by (repeat (with_reducible first | exact HR.out | apply Frm.drew | apply Frm.alloc | apply Frm.drewN))) hb).add (spBox l2 h2) rfl)
              have HCq := Lib.hid (Chks.below (cs := cs) (by first | exact HC.out | exact HC.out.drew | exact HC.out.below (below_al (Below.refl _ _) _) | exact HC.out.drew.below (below_al (Below.refl _ _) _) | exact (HC.out.below (below_al (Below.refl _ _) _)).drew) hb |>.below (below_al (Below.refl _ _) (spBox l2 h2)))
              clear HR HC hb x0 x1 x2 x3 x4 x5
              have HR := HRq
              have HC := HCq
              clear HRq HCq
              have x0 := HR.out.cells (List.mem_cons_self ..)
              have x1 := HR.out.cells (List.mem_cons_of_mem _ (List.mem_cons_self ..))
              have x2 := HR.out.cells (List.mem_cons_of_mem _ (List.mem_cons_of_mem _ (List.mem_cons_self ..)))
              have x3 := HR.out.cells (List.mem_cons_of_mem _ (List.mem_cons_of_mem _ (List.mem_cons_of_mem _ (List.mem_cons_self ..))))
              have x4 := HR.out.cells (List.mem_cons_of_mem _ (List.mem_cons_of_mem _ (List.mem_cons_of_mem _ (List.mem_cons_of_mem _ (List.mem_cons_self ..)))))
              have x5 := HR.out.cells (List.mem_cons_of_mem _ (List.mem_cons_of_mem _ (List.mem_cons_of_mem _ (List.mem_cons_of_mem _ (List.mem_cons_of_mem _ (List.mem_cons_self ..))))))
              have x6 := HR.out.cells (List.mem_cons_of_mem _ (List.mem_cons_of_mem _ (List.mem_cons_of_mem _ (List.mem_cons_of_mem _ (List.mem_cons_of_mem _ (List.mem_cons_of_mem _ (List.mem_cons_self ..)))))))
              go_wp2_with fail
              go_roundw
              case rel => exact ⟨.inr (.inl rfl), Frm.less (bs := [(w11.heap.size, (spBox l2 h2)), (w7.heap.size, (spBox lob hib)), (w6.heap.size, (spBox loa hia)), (w4.heap.size, (spBox X0 X1)), (w.heap.size + 1 + 1, (rdBox rb)), (w.heap.size + 1, (rdBox ra)), (w.heap.size, (stBox s (.slice A cs.length c)))]) (by (repeat (with_reducible first | exact HR.out | apply Frm.drew | apply Frm.alloc | apply Frm.drewN))) (fun p hp => by simp only [List.mem_cons, List.not_mem_nil, or_false] at hp; rcases hp with rfl | rfl | rfl | rfl <;> simp)⟩
              case measure => simp [intOf]
      · as_aux_lemma =>
          obtain ⟨tq, hto⟩ : ∃ t, max lob (hia - s.dr * max (ra.day - rb.day) (rb.day - ra.day)) = t := ⟨_, rfl⟩
          have t1 : lob ≤ tq := by omega
          have t2 : tq ≤ hib := by omega
          have t3 : hia - tq ≤ s.dr * max (ra.day - rb.day) (rb.day - ra.day) := by omega
          have t4 : tq - hia ≤ s.dr * max (ra.day - rb.day) (rb.day - ra.day) := by omega
          have t5 : rb.me - tq - ra.me + hia ≤ X1 - 2 * s.rd := by omega
          have t6 : X1 - 2 * s.rd ≤ rb.me - tq - ra.me + hia := by omega
          obtain ⟨hso, hao⟩ := HTA.out hia tq (by omega) (by omega) t1 t2 t3 t4
          have HSO := Lib.hid hso
          have HAO := Lib.hid hao
          have HTO := Lib.hid hto
          have HJ : Hid (∀ W v, Chks W v (cs ++ [⟨ra.day, hia, hia⟩, ⟨rb.day, tq, tq⟩]) → Calls Tryd.prog 11 #[stV s v, .int .i64 0] W fun z w' => z = .returned (.tuple #[spV (lowF s 0 (cs ++ [⟨ra.day, hia, hia⟩, ⟨rb.day, tq, tq⟩])) (highF s 0 (cs ++ [⟨ra.day, hia, hia⟩, ⟨rb.day, tq, tq⟩])), .int .i64 0]) ∧ Below W.heap.size W w') := Lib.hid (fun W v h => index_ok h HSO.out rfl HAO.out)
          generalize lowF s 0 (cs ++ [⟨ra.day, hia, hia⟩, ⟨rb.day, tq, tq⟩]) = l2 at *
          generalize highF s 0 (cs ++ [⟨ra.day, hia, hia⟩, ⟨rb.day, tq, tq⟩]) = h2 at *
          clear hso hao hto
          go_wp2_with fail
          refine (HIA.out _ (by first | exact HC.out | exact HC.out.drew | exact HC.out.below (below_al (Below.refl _ _) _) | exact HC.out.drew.below (below_al (Below.refl _ _) _) | exact (HC.out.below (below_al (Below.refl _ _) _)).drew)).mono ?_
          rintro e w6 ⟨rfl, hb⟩
          have HRq := Lib.hid ((Frm.below (w := w) (bs := [(w4.heap.size, (spBox X0 X1)), (w.heap.size + 1 + 1, (rdBox rb)), (w.heap.size + 1, (rdBox ra)), (w.heap.size, (stBox s (.slice A cs.length c)))]) (by (repeat (with_reducible first | exact HR.out | apply Frm.drew | apply Frm.alloc | apply Frm.drewN))) hb).add (spBox loa hia) rfl)
          have HCq := Lib.hid (Chks.below (cs := cs) (by first | exact HC.out | exact HC.out.drew | exact HC.out.below (below_al (Below.refl _ _) _) | exact HC.out.drew.below (below_al (Below.refl _ _) _) | exact (HC.out.below (below_al (Below.refl _ _) _)).drew) hb |>.below (below_al (Below.refl _ _) (spBox loa hia)))
          clear HR HC hb x0 x1 x2 x3
          have HR := HRq
          have HC := HCq
          clear HRq HCq
          have x0 := HR.out.cells (List.mem_cons_self ..)
          have x1 := HR.out.cells (List.mem_cons_of_mem _ (List.mem_cons_self ..))
          have x2 := HR.out.cells (List.mem_cons_of_mem _ (List.mem_cons_of_mem _ (List.mem_cons_self ..)))
          have x3 := HR.out.cells (List.mem_cons_of_mem _ (List.mem_cons_of_mem _ (List.mem_cons_of_mem _ (List.mem_cons_self ..))))
          have x4 := HR.out.cells (List.mem_cons_of_mem _ (List.mem_cons_of_mem _ (List.mem_cons_of_mem _ (List.mem_cons_of_mem _ (List.mem_cons_self ..)))))
          go_wp2_with fail
          refine (HIB.out _ (by first | exact HC.out | exact HC.out.drew | exact HC.out.below (below_al (Below.refl _ _) _) | exact HC.out.drew.below (below_al (Below.refl _ _) _) | exact (HC.out.below (below_al (Below.refl _ _) _)).drew)).mono ?_
          rintro e w7 ⟨rfl, hb⟩
          have HRq := Lib.hid ((Frm.below (w := w) (bs := [(w6.heap.size, (spBox loa hia)), (w4.heap.size, (spBox X0 X1)), (w.heap.size + 1 + 1, (rdBox rb)), (w.heap.size + 1, (rdBox ra)), (w.heap.size, (stBox s (.slice A cs.length c)))]) (by (repeat (with_reducible first | exact HR.out | apply Frm.drew | apply Frm.alloc | apply Frm.drewN))) hb).add (spBox lob hib) rfl)
          have HCq := Lib.hid (Chks.below (cs := cs) (by first | exact HC.out | exact HC.out.drew | exact HC.out.below (below_al (Below.refl _ _) _) | exact HC.out.drew.below (below_al (Below.refl _ _) _) | exact (HC.out.below (below_al (Below.refl _ _) _)).drew) hb |>.below (below_al (Below.refl _ _) (spBox lob hib)))
          clear HR HC hb x0 x1 x2 x3 x4
          have HR := HRq
          have HC := HCq
          clear HRq HCq
          have x0 := HR.out.cells (List.mem_cons_self ..)
          have x1 := HR.out.cells (List.mem_cons_of_mem _ (List.mem_cons_self ..))
          have x2 := HR.out.cells (List.mem_cons_of_mem _ (List.mem_cons_of_mem _ (List.mem_cons_self ..)))
          have x3 := HR.out.cells (List.mem_cons_of_mem _ (List.mem_cons_of_mem _ (List.mem_cons_of_mem _ (List.mem_cons_self ..))))
          have x4 := HR.out.cells (List.mem_cons_of_mem _ (List.mem_cons_of_mem _ (List.mem_cons_of_mem _ (List.mem_cons_of_mem _ (List.mem_cons_self ..)))))
          have x5 := HR.out.cells (List.mem_cons_of_mem _ (List.mem_cons_of_mem _ (List.mem_cons_of_mem _ (List.mem_cons_of_mem _ (List.mem_cons_of_mem _ (List.mem_cons_self ..))))))
          go_wp2_with fail
          refine (rSpan_is HWa.out _).mono ?_
          rintro e w8 ⟨rfl, hb⟩
          have HRq := Lib.hid (Frm.below (w := w) (bs := [(w7.heap.size, (spBox lob hib)), (w6.heap.size, (spBox loa hia)), (w4.heap.size, (spBox X0 X1)), (w.heap.size + 1 + 1, (rdBox rb)), (w.heap.size + 1, (rdBox ra)), (w.heap.size, (stBox s (.slice A cs.length c)))]) (by (repeat (with_reducible first | exact HR.out | apply Frm.drew | apply Frm.alloc | apply Frm.drewN))) hb)
          have HCq := Lib.hid (Chks.below (cs := cs) (by first | exact HC.out | exact HC.out.drew | exact HC.out.below (below_al (Below.refl _ _) _) | exact HC.out.drew.below (below_al (Below.refl _ _) _) | exact (HC.out.below (below_al (Below.refl _ _) _)).drew) hb)
          clear HR HC hb x0 x1 x2 x3 x4 x5
          have HR := HRq
          have HC := HCq
          clear HRq HCq
          have x0 := HR.out.cells (List.mem_cons_self ..)
          have x1 := HR.out.cells (List.mem_cons_of_mem _ (List.mem_cons_self ..))
          have x2 := HR.out.cells (List.mem_cons_of_mem _ (List.mem_cons_of_mem _ (List.mem_cons_self ..)))
          have x3 := HR.out.cells (List.mem_cons_of_mem _ (List.mem_cons_of_mem _ (List.mem_cons_of_mem _ (List.mem_cons_self ..))))
          have x4 := HR.out.cells (List.mem_cons_of_mem _ (List.mem_cons_of_mem _ (List.mem_cons_of_mem _ (List.mem_cons_of_mem _ (List.mem_cons_self ..)))))
          have x5 := HR.out.cells (List.mem_cons_of_mem _ (List.mem_cons_of_mem _ (List.mem_cons_of_mem _ (List.mem_cons_of_mem _ (List.mem_cons_of_mem _ (List.mem_cons_self ..))))))
          go_wp2_with fail
          refine (rSpan_is HWb.out _).mono ?_
          rintro e w9 ⟨rfl, hb⟩
          have HRq := Lib.hid (Frm.below (w := w) (bs := [(w7.heap.size, (spBox lob hib)), (w6.heap.size, (spBox loa hia)), (w4.heap.size, (spBox X0 X1)), (w.heap.size + 1 + 1, (rdBox rb)), (w.heap.size + 1, (rdBox ra)), (w.heap.size, (stBox s (.slice A cs.length c)))]) (by (repeat (with_reducible first | exact HR.out | apply Frm.drew | apply Frm.alloc | apply Frm.drewN))) hb)
          have HCq := Lib.hid (Chks.below (cs := cs) (by first | exact HC.out | exact HC.out.drew | exact HC.out.below (below_al (Below.refl _ _) _) | exact HC.out.drew.below (below_al (Below.refl _ _) _) | exact (HC.out.below (below_al (Below.refl _ _) _)).drew) hb)
          clear HR HC hb x0 x1 x2 x3 x4 x5
          have HR := HRq
          have HC := HCq
          clear HRq HCq
          have x0 := HR.out.cells (List.mem_cons_self ..)
          have x1 := HR.out.cells (List.mem_cons_of_mem _ (List.mem_cons_self ..))
          have x2 := HR.out.cells (List.mem_cons_of_mem _ (List.mem_cons_of_mem _ (List.mem_cons_self ..)))
          have x3 := HR.out.cells (List.mem_cons_of_mem _ (List.mem_cons_of_mem _ (List.mem_cons_of_mem _ (List.mem_cons_self ..))))
          have x4 := HR.out.cells (List.mem_cons_of_mem _ (List.mem_cons_of_mem _ (List.mem_cons_of_mem _ (List.mem_cons_of_mem _ (List.mem_cons_self ..)))))
          have x5 := HR.out.cells (List.mem_cons_of_mem _ (List.mem_cons_of_mem _ (List.mem_cons_of_mem _ (List.mem_cons_of_mem _ (List.mem_cons_of_mem _ (List.mem_cons_self ..))))))
          go_upto_region 15 with fail
          generalize s.dr * max (ra.day - rb.day) (rb.day - ra.day) = fd at *
          have e1 : IntKind.i64.wrap (hia - fd) = hia - fd := IntWalk.i64_in _ (by omega)
          have e2 : IntKind.i64.wrap (2 * s.rd) = 2 * s.rd := IntWalk.i64_in _ (by omega)
          have e3 : IntKind.i64.wrap (X1 - 2 * s.rd) = X1 - 2 * s.rd := IntWalk.i64_in _ (by omega)
          have e4 : IntKind.i64.wrap (loa + fd) = loa + fd := IntWalk.i64_in _ (by omega)
          have e5 : IntKind.i64.wrap (X0 + 2 * s.rd) = X0 + 2 * s.rd := IntWalk.i64_in _ (by omega)
          go_cut [25, 26, 27] (fun s25 s26 s27 wx => s25 = .int .i64 hia ∧ s26 = .int .i64 tq ∧ s27 = .int .i64 (X1 - 2 * s.rd) ∧ Frm w [(w7.heap.size, (spBox lob hib)), (w6.heap.size, (spBox loa hia)), (w4.heap.size, (spBox X0 X1)), (w.heap.size + 1 + 1, (rdBox rb)), (w.heap.size + 1, (rdBox ra)), (w.heap.size, (stBox s (.slice A cs.length c)))] wx ∧ Chks wx (.slice A cs.length c) cs)
          case first =>
            go_region_held3 (fun w' => (∀ o, w'.cell? ⟨w7.heap.size, o, none⟩ = #[Value.int .i64 lob, .int .i64 hib][o]?) ∧ (∀ o, w'.cell? ⟨w6.heap.size, o, none⟩ = #[Value.int .i64 loa, .int .i64 hia][o]?) ∧ (∀ o, w'.cell? ⟨w4.heap.size, o, none⟩ = #[Value.int .i64 X0, .int .i64 X1][o]?) ∧ (∀ o, w'.cell? ⟨w.heap.size, o, none⟩ = #[Value.int .i64 s.hl, .int .i64 s.hh, .int .i64 s.gl, .int .i64 s.gh, .int .i64 s.dr, .int .i64 s.rd, .int .i64 s.ea, .int .i64 s.sl, .slice A cs.length c][o]?)) ((exact (fun hF : Frm w [(w7.heap.size, (spBox lob hib)), (w6.heap.size, (spBox loa hia)), (w4.heap.size, (spBox X0 X1)), (w.heap.size + 1 + 1, (rdBox rb)), (w.heap.size + 1, (rdBox ra)), (w.heap.size, (stBox s (.slice A cs.length c)))] _ => ⟨hF.cells (List.mem_cons_self ..), hF.cells (List.mem_cons_of_mem _ (List.mem_cons_self ..)), hF.cells (List.mem_cons_of_mem _ (List.mem_cons_of_mem _ (List.mem_cons_self ..))), hF.cells (List.mem_cons_of_mem _ (List.mem_cons_of_mem _ (List.mem_cons_of_mem _ (List.mem_cons_of_mem _ (List.mem_cons_of_mem _ (List.mem_cons_self ..))))))⟩) (by (repeat (with_reducible first | exact HR.out | apply Frm.drew | apply Frm.alloc | apply Frm.drewN))))) (fail)
            all_goals
              go_wp2_with fail
              go_meet
              exact ⟨rfl, congrArg (Value.int .i64) HTO.out, rfl, (by (repeat (with_reducible first | exact HR.out | apply Frm.drew | apply Frm.alloc | apply Frm.drewN))), (by first | exact HC.out | exact HC.out.drew | exact HC.out.below (below_al (Below.refl _ _) _) | exact HC.out.drew.below (below_al (Below.refl _ _) _) | exact (HC.out.below (below_al (Below.refl _ _) _)).drew)⟩
          case rest =>
            obtain ⟨rfl, rfl, rfl, hF, hC⟩ := hcut
            clear HR HC x0 x1 x2 x3 x4 x5
            have HR := Lib.hid hF
            have HC := Lib.hid hC
            clear hF hC
            have x0 := HR.out.cells (List.mem_cons_self ..)
            have x1 := HR.out.cells (List.mem_cons_of_mem _ (List.mem_cons_self ..))
            have x2 := HR.out.cells (List.mem_cons_of_mem _ (List.mem_cons_of_mem _ (List.mem_cons_self ..)))
            have x3 := HR.out.cells (List.mem_cons_of_mem _ (List.mem_cons_of_mem _ (List.mem_cons_of_mem _ (List.mem_cons_self ..))))
            have x4 := HR.out.cells (List.mem_cons_of_mem _ (List.mem_cons_of_mem _ (List.mem_cons_of_mem _ (List.mem_cons_of_mem _ (List.mem_cons_self ..)))))
            have x5 := HR.out.cells (List.mem_cons_of_mem _ (List.mem_cons_of_mem _ (List.mem_cons_of_mem _ (List.mem_cons_of_mem _ (List.mem_cons_of_mem _ (List.mem_cons_self ..))))))
            clear e1 e2 e3 e4 e5
            go_wp2_with fail
            refine (rFound (by first | exact HC.out | exact HC.out.drew | exact HC.out.below (below_al (Below.refl _ _) _) | exact HC.out.drew.below (below_al (Below.refl _ _) _) | exact (HC.out.below (below_al (Below.refl _ _) _)).drew) h12).mono ?_
            rintro e w10 ⟨v2, rfl, hC2, hb⟩
            have HRq := Lib.hid (Frm.below (w := w) (bs := [(w7.heap.size, (spBox lob hib)), (w6.heap.size, (spBox loa hia)), (w4.heap.size, (spBox X0 X1)), (w.heap.size + 1 + 1, (rdBox rb)), (w.heap.size + 1, (rdBox ra)), (w.heap.size, (stBox s (.slice A cs.length c)))]) (by (repeat (with_reducible first | exact HR.out | apply Frm.drew | apply Frm.alloc | apply Frm.drewN))) hb)
            have HCq := Lib.hid (Chks.below (cs := cs) (by first | exact HC.out | exact HC.out.drew | exact HC.out.below (below_al (Below.refl _ _) _) | exact HC.out.drew.below (below_al (Below.refl _ _) _) | exact (HC.out.below (below_al (Below.refl _ _) _)).drew) hb)
            have HV2 := Lib.hid hC2
            clear hC2
            clear HR HC hb x0 x1 x2 x3 x4 x5
            have HR := HRq
            have HC := HCq
            clear HRq HCq
            have x0 := HR.out.cells (List.mem_cons_self ..)
            have x1 := HR.out.cells (List.mem_cons_of_mem _ (List.mem_cons_self ..))
            have x2 := HR.out.cells (List.mem_cons_of_mem _ (List.mem_cons_of_mem _ (List.mem_cons_self ..)))
            have x3 := HR.out.cells (List.mem_cons_of_mem _ (List.mem_cons_of_mem _ (List.mem_cons_of_mem _ (List.mem_cons_self ..))))
            have x4 := HR.out.cells (List.mem_cons_of_mem _ (List.mem_cons_of_mem _ (List.mem_cons_of_mem _ (List.mem_cons_of_mem _ (List.mem_cons_self ..)))))
            have x5 := HR.out.cells (List.mem_cons_of_mem _ (List.mem_cons_of_mem _ (List.mem_cons_of_mem _ (List.mem_cons_of_mem _ (List.mem_cons_of_mem _ (List.mem_cons_self ..))))))
            go_wp2_with fail
            refine (HJ.out _ _ HV2.out).mono ?_
            rintro e w11 ⟨rfl, hb⟩
            have HRq := Lib.hid ((Frm.below (w := w) (bs := [(w7.heap.size, (spBox lob hib)), (w6.heap.size, (spBox loa hia)), (w4.heap.size, (spBox X0 X1)), (w.heap.size + 1 + 1, (rdBox rb)), (w.heap.size + 1, (rdBox ra)), (w.heap.size, (stBox s (.slice A cs.length c)))]) (by (repeat (with_reducible first | exact HR.out | apply Frm.drew | apply Frm.alloc | apply Frm.drewN))) hb).add (spBox l2 h2) rfl)
            have HCq := Lib.hid (Chks.below (cs := cs) (by first | exact HC.out | exact HC.out.drew | exact HC.out.below (below_al (Below.refl _ _) _) | exact HC.out.drew.below (below_al (Below.refl _ _) _) | exact (HC.out.below (below_al (Below.refl _ _) _)).drew) hb |>.below (below_al (Below.refl _ _) (spBox l2 h2)))
            clear HR HC hb x0 x1 x2 x3 x4 x5
            have HR := HRq
            have HC := HCq
            clear HRq HCq
            have x0 := HR.out.cells (List.mem_cons_self ..)
            have x1 := HR.out.cells (List.mem_cons_of_mem _ (List.mem_cons_self ..))
            have x2 := HR.out.cells (List.mem_cons_of_mem _ (List.mem_cons_of_mem _ (List.mem_cons_self ..)))
            have x3 := HR.out.cells (List.mem_cons_of_mem _ (List.mem_cons_of_mem _ (List.mem_cons_of_mem _ (List.mem_cons_self ..))))
            have x4 := HR.out.cells (List.mem_cons_of_mem _ (List.mem_cons_of_mem _ (List.mem_cons_of_mem _ (List.mem_cons_of_mem _ (List.mem_cons_self ..)))))
            have x5 := HR.out.cells (List.mem_cons_of_mem _ (List.mem_cons_of_mem _ (List.mem_cons_of_mem _ (List.mem_cons_of_mem _ (List.mem_cons_of_mem _ (List.mem_cons_self ..))))))
            have x6 := HR.out.cells (List.mem_cons_of_mem _ (List.mem_cons_of_mem _ (List.mem_cons_of_mem _ (List.mem_cons_of_mem _ (List.mem_cons_of_mem _ (List.mem_cons_of_mem _ (List.mem_cons_self ..)))))))
            go_wp2_with fail
            go_roundw
            case rel => exact ⟨.inr (.inr rfl), Frm.less (bs := [(w11.heap.size, (spBox l2 h2)), (w7.heap.size, (spBox lob hib)), (w6.heap.size, (spBox loa hia)), (w4.heap.size, (spBox X0 X1)), (w.heap.size + 1 + 1, (rdBox rb)), (w.heap.size + 1, (rdBox ra)), (w.heap.size, (stBox s (.slice A cs.length c)))]) (by (repeat (with_reducible first | exact HR.out | apply Frm.drew | apply Frm.alloc | apply Frm.drewN))) (fun p hp => by simp only [List.mem_cons, List.not_mem_nil, or_false] at hp; rcases hp with rfl | rfl | rfl | rfl <;> simp)⟩
            case measure => simp [intOf]
      · as_aux_lemma =>
          by_cases m0 : one < -2000
          · go_wp2_with fail
            refine (known_ex _ (HH.out.below (Frm.b (w := w) (bs := [(w4.heap.size, (spBox X0 X1)), (w.heap.size + 1 + 1, (rdBox rb)), (w.heap.size + 1, (rdBox ra)), (w.heap.size, (stBox s (.slice A cs.length c)))]) (by (repeat (with_reducible first | exact HR.out | apply Frm.drew | apply Frm.alloc | apply Frm.drewN))))) (HT.out.below (Frm.b (w := w) (bs := [(w4.heap.size, (spBox X0 X1)), (w.heap.size + 1 + 1, (rdBox rb)), (w.heap.size + 1, (rdBox ra)), (w.heap.size, (stBox s (.slice A cs.length c)))]) (by (repeat (with_reducible first | exact HR.out | apply Frm.drew | apply Frm.alloc | apply Frm.drewN)))))).mono ?_
            rintro e wz ⟨rfl, hbz⟩
            have HZ := Lib.hid (Frm.below (w := w) (bs := [(w4.heap.size, (spBox X0 X1)), (w.heap.size + 1 + 1, (rdBox rb)), (w.heap.size + 1, (rdBox ra)), (w.heap.size, (stBox s (.slice A cs.length c)))]) (by (repeat (with_reducible first | exact HR.out | apply Frm.drew | apply Frm.alloc | apply Frm.drewN))) hbz).b
            clear hbz x0 x1 x2 x3
            go_wp2_with fail
            go_ret
            exact ⟨rfl, HZ.out⟩
          by_cases m1 : 2000 < one
          · go_wp2_with fail
            refine (known_ex _ (HH.out.below (Frm.b (w := w) (bs := [(w4.heap.size, (spBox X0 X1)), (w.heap.size + 1 + 1, (rdBox rb)), (w.heap.size + 1, (rdBox ra)), (w.heap.size, (stBox s (.slice A cs.length c)))]) (by (repeat (with_reducible first | exact HR.out | apply Frm.drew | apply Frm.alloc | apply Frm.drewN))))) (HT.out.below (Frm.b (w := w) (bs := [(w4.heap.size, (spBox X0 X1)), (w.heap.size + 1 + 1, (rdBox rb)), (w.heap.size + 1, (rdBox ra)), (w.heap.size, (stBox s (.slice A cs.length c)))]) (by (repeat (with_reducible first | exact HR.out | apply Frm.drew | apply Frm.alloc | apply Frm.drewN)))))).mono ?_
            rintro e wz ⟨rfl, hbz⟩
            have HZ := Lib.hid (Frm.below (w := w) (bs := [(w4.heap.size, (spBox X0 X1)), (w.heap.size + 1 + 1, (rdBox rb)), (w.heap.size + 1, (rdBox ra)), (w.heap.size, (stBox s (.slice A cs.length c)))]) (by (repeat (with_reducible first | exact HR.out | apply Frm.drew | apply Frm.alloc | apply Frm.drewN))) hbz).b
            clear hbz x0 x1 x2 x3
            go_wp2_with fail
            go_ret
            exact ⟨rfl, HZ.out⟩
          by_cases m2 : oth < -2000
          · go_wp2_with fail
            refine (known_ex _ (HH.out.below (Frm.b (w := w) (bs := [(w4.heap.size, (spBox X0 X1)), (w.heap.size + 1 + 1, (rdBox rb)), (w.heap.size + 1, (rdBox ra)), (w.heap.size, (stBox s (.slice A cs.length c)))]) (by (repeat (with_reducible first | exact HR.out | apply Frm.drew | apply Frm.alloc | apply Frm.drewN))))) (HT.out.below (Frm.b (w := w) (bs := [(w4.heap.size, (spBox X0 X1)), (w.heap.size + 1 + 1, (rdBox rb)), (w.heap.size + 1, (rdBox ra)), (w.heap.size, (stBox s (.slice A cs.length c)))]) (by (repeat (with_reducible first | exact HR.out | apply Frm.drew | apply Frm.alloc | apply Frm.drewN)))))).mono ?_
            rintro e wz ⟨rfl, hbz⟩
            have HZ := Lib.hid (Frm.below (w := w) (bs := [(w4.heap.size, (spBox X0 X1)), (w.heap.size + 1 + 1, (rdBox rb)), (w.heap.size + 1, (rdBox ra)), (w.heap.size, (stBox s (.slice A cs.length c)))]) (by (repeat (with_reducible first | exact HR.out | apply Frm.drew | apply Frm.alloc | apply Frm.drewN))) hbz).b
            clear hbz x0 x1 x2 x3
            go_wp2_with fail
            go_ret
            exact ⟨rfl, HZ.out⟩
          by_cases m3 : 2000 < oth
          · go_wp2_with fail
            refine (known_ex _ (HH.out.below (Frm.b (w := w) (bs := [(w4.heap.size, (spBox X0 X1)), (w.heap.size + 1 + 1, (rdBox rb)), (w.heap.size + 1, (rdBox ra)), (w.heap.size, (stBox s (.slice A cs.length c)))]) (by (repeat (with_reducible first | exact HR.out | apply Frm.drew | apply Frm.alloc | apply Frm.drewN))))) (HT.out.below (Frm.b (w := w) (bs := [(w4.heap.size, (spBox X0 X1)), (w.heap.size + 1 + 1, (rdBox rb)), (w.heap.size + 1, (rdBox ra)), (w.heap.size, (stBox s (.slice A cs.length c)))]) (by (repeat (with_reducible first | exact HR.out | apply Frm.drew | apply Frm.alloc | apply Frm.drewN)))))).mono ?_
            rintro e wz ⟨rfl, hbz⟩
            have HZ := Lib.hid (Frm.below (w := w) (bs := [(w4.heap.size, (spBox X0 X1)), (w.heap.size + 1 + 1, (rdBox rb)), (w.heap.size + 1, (rdBox ra)), (w.heap.size, (stBox s (.slice A cs.length c)))]) (by (repeat (with_reducible first | exact HR.out | apply Frm.drew | apply Frm.alloc | apply Frm.drewN))) hbz).b
            clear hbz x0 x1 x2 x3
            go_wp2_with fail
            go_ret
            exact ⟨rfl, HZ.out⟩
          obtain ⟨hso, hin⟩ := HTW.out one oth (by omega) (by omega)
          have HSO := Lib.hid hso
          have HIN := Lib.hid hin
          clear hso hin
          rcases agreed_or s (cs ++ [⟨ra.day, one, one⟩, ⟨rb.day, oth, oth⟩]) with hag2 | ⟨i, j, hf⟩
          · obtain ⟨v1, v2⟩ := HIN.out hag2
            have HAO := Lib.hid hag2
            have v3 : X0 ≤ rb.me - oth - sec - (ra.me - one - fir) := by omega
            have v4 : rb.me - oth - sec - (ra.me - one - fir) ≤ X1 := by omega
            have HJ : Hid (∀ W v, Chks W v (cs ++ [⟨ra.day, one, one⟩, ⟨rb.day, oth, oth⟩]) → Calls Tryd.prog 11 #[stV s v, .int .i64 0] W fun z w' => z = .returned (.tuple #[spV (lowF s 0 (cs ++ [⟨ra.day, one, one⟩, ⟨rb.day, oth, oth⟩])) (highF s 0 (cs ++ [⟨ra.day, one, one⟩, ⟨rb.day, oth, oth⟩])), .int .i64 0]) ∧ Below W.heap.size W w') := Lib.hid (fun W v h => index_ok h HSO.out rfl HAO.out)
            generalize lowF s 0 (cs ++ [⟨ra.day, one, one⟩, ⟨rb.day, oth, oth⟩]) = l2 at *
            generalize highF s 0 (cs ++ [⟨ra.day, one, one⟩, ⟨rb.day, oth, oth⟩]) = h2 at *
            clear hag2 v1 v2
            go_wp2_with fail
            refine (rFound (by first | exact HC.out | exact HC.out.drew | exact HC.out.below (below_al (Below.refl _ _) _) | exact HC.out.drew.below (below_al (Below.refl _ _) _) | exact (HC.out.below (below_al (Below.refl _ _) _)).drew) h12).mono ?_
            rintro e w6 ⟨v2, rfl, hC2, hb⟩
            have HRq := Lib.hid (Frm.below (w := w) (bs := [(w4.heap.size, (spBox X0 X1)), (w.heap.size + 1 + 1, (rdBox rb)), (w.heap.size + 1, (rdBox ra)), (w.heap.size, (stBox s (.slice A cs.length c)))]) (by (repeat (with_reducible first | exact HR.out | apply Frm.drew | apply Frm.alloc | apply Frm.drewN))) hb)
            have HCq := Lib.hid (Chks.below (cs := cs) (by first | exact HC.out | exact HC.out.drew | exact HC.out.below (below_al (Below.refl _ _) _) | exact HC.out.drew.below (below_al (Below.refl _ _) _) | exact (HC.out.below (below_al (Below.refl _ _) _)).drew) hb)
            have HV2 := Lib.hid hC2
            clear hC2
            clear HR HC hb x0 x1 x2 x3
            have HR := HRq
            have HC := HCq
            clear HRq HCq
            have x0 := HR.out.cells (List.mem_cons_self ..)
            have x1 := HR.out.cells (List.mem_cons_of_mem _ (List.mem_cons_self ..))
            have x2 := HR.out.cells (List.mem_cons_of_mem _ (List.mem_cons_of_mem _ (List.mem_cons_self ..)))
            have x3 := HR.out.cells (List.mem_cons_of_mem _ (List.mem_cons_of_mem _ (List.mem_cons_of_mem _ (List.mem_cons_self ..))))
            go_wp2_with fail
            refine (HJ.out _ _ HV2.out).mono ?_
            rintro e w7 ⟨rfl, hb⟩
            have HRq := Lib.hid ((Frm.below (w := w) (bs := [(w4.heap.size, (spBox X0 X1)), (w.heap.size + 1 + 1, (rdBox rb)), (w.heap.size + 1, (rdBox ra)), (w.heap.size, (stBox s (.slice A cs.length c)))]) (by (repeat (with_reducible first | exact HR.out | apply Frm.drew | apply Frm.alloc | apply Frm.drewN))) hb).add (spBox l2 h2) rfl)
            have HCq := Lib.hid (Chks.below (cs := cs) (by first | exact HC.out | exact HC.out.drew | exact HC.out.below (below_al (Below.refl _ _) _) | exact HC.out.drew.below (below_al (Below.refl _ _) _) | exact (HC.out.below (below_al (Below.refl _ _) _)).drew) hb |>.below (below_al (Below.refl _ _) (spBox l2 h2)))
            clear HR HC hb x0 x1 x2 x3
            have HR := HRq
            have HC := HCq
            clear HRq HCq
            have x0 := HR.out.cells (List.mem_cons_self ..)
            have x1 := HR.out.cells (List.mem_cons_of_mem _ (List.mem_cons_self ..))
            have x2 := HR.out.cells (List.mem_cons_of_mem _ (List.mem_cons_of_mem _ (List.mem_cons_self ..)))
            have x3 := HR.out.cells (List.mem_cons_of_mem _ (List.mem_cons_of_mem _ (List.mem_cons_of_mem _ (List.mem_cons_self ..))))
            have x4 := HR.out.cells (List.mem_cons_of_mem _ (List.mem_cons_of_mem _ (List.mem_cons_of_mem _ (List.mem_cons_of_mem _ (List.mem_cons_self ..)))))
            go_wp2_with fail
            refine (lwithin_yes v3 v4 _).mono ?_
            rintro e w8 ⟨rfl, hb⟩
            have HRq := Lib.hid (Frm.below (w := w) (bs := [(w7.heap.size, (spBox l2 h2)), (w4.heap.size, (spBox X0 X1)), (w.heap.size + 1 + 1, (rdBox rb)), (w.heap.size + 1, (rdBox ra)), (w.heap.size, (stBox s (.slice A cs.length c)))]) (by (repeat (with_reducible first | exact HR.out | apply Frm.drew | apply Frm.alloc | apply Frm.drewN))) hb)
            have HCq := Lib.hid (Chks.below (cs := cs) (by first | exact HC.out | exact HC.out.drew | exact HC.out.below (below_al (Below.refl _ _) _) | exact HC.out.drew.below (below_al (Below.refl _ _) _) | exact (HC.out.below (below_al (Below.refl _ _) _)).drew) hb)
            clear HR HC hb x0 x1 x2 x3 x4
            have HR := HRq
            have HC := HCq
            clear HRq HCq
            have x0 := HR.out.cells (List.mem_cons_self ..)
            have x1 := HR.out.cells (List.mem_cons_of_mem _ (List.mem_cons_self ..))
            have x2 := HR.out.cells (List.mem_cons_of_mem _ (List.mem_cons_of_mem _ (List.mem_cons_self ..)))
            have x3 := HR.out.cells (List.mem_cons_of_mem _ (List.mem_cons_of_mem _ (List.mem_cons_of_mem _ (List.mem_cons_self ..))))
            have x4 := HR.out.cells (List.mem_cons_of_mem _ (List.mem_cons_of_mem _ (List.mem_cons_of_mem _ (List.mem_cons_of_mem _ (List.mem_cons_self ..)))))
            go_wp2_with fail
            refine (known_ex _ (HH.out.below (Frm.b (w := w) (bs := [(w7.heap.size, (spBox l2 h2)), (w4.heap.size, (spBox X0 X1)), (w.heap.size + 1 + 1, (rdBox rb)), (w.heap.size + 1, (rdBox ra)), (w.heap.size, (stBox s (.slice A cs.length c)))]) (by (repeat (with_reducible first | exact HR.out | apply Frm.drew | apply Frm.alloc | apply Frm.drewN))))) (HT.out.below (Frm.b (w := w) (bs := [(w7.heap.size, (spBox l2 h2)), (w4.heap.size, (spBox X0 X1)), (w.heap.size + 1 + 1, (rdBox rb)), (w.heap.size + 1, (rdBox ra)), (w.heap.size, (stBox s (.slice A cs.length c)))]) (by (repeat (with_reducible first | exact HR.out | apply Frm.drew | apply Frm.alloc | apply Frm.drewN)))))).mono ?_
            rintro e wz ⟨rfl, hbz⟩
            have HZ := Lib.hid (Frm.below (w := w) (bs := [(w7.heap.size, (spBox l2 h2)), (w4.heap.size, (spBox X0 X1)), (w.heap.size + 1 + 1, (rdBox rb)), (w.heap.size + 1, (rdBox ra)), (w.heap.size, (stBox s (.slice A cs.length c)))]) (by (repeat (with_reducible first | exact HR.out | apply Frm.drew | apply Frm.alloc | apply Frm.drewN))) hbz).b
            clear hbz x0 x1 x2 x3 x4
            go_wp2_with fail
            go_ret
            exact ⟨rfl, HZ.out⟩
          · have HFO := Lib.hid hf
            clear hf
            go_wp2_with fail
            refine (rFound (by first | exact HC.out | exact HC.out.drew | exact HC.out.below (below_al (Below.refl _ _) _) | exact HC.out.drew.below (below_al (Below.refl _ _) _) | exact (HC.out.below (below_al (Below.refl _ _) _)).drew) h12).mono ?_
            rintro e w6 ⟨v2, rfl, hC2, hb⟩
            have HRq := Lib.hid (Frm.below (w := w) (bs := [(w4.heap.size, (spBox X0 X1)), (w.heap.size + 1 + 1, (rdBox rb)), (w.heap.size + 1, (rdBox ra)), (w.heap.size, (stBox s (.slice A cs.length c)))]) (by (repeat (with_reducible first | exact HR.out | apply Frm.drew | apply Frm.alloc | apply Frm.drewN))) hb)
            have HCq := Lib.hid (Chks.below (cs := cs) (by first | exact HC.out | exact HC.out.drew | exact HC.out.below (below_al (Below.refl _ _) _) | exact HC.out.drew.below (below_al (Below.refl _ _) _) | exact (HC.out.below (below_al (Below.refl _ _) _)).drew) hb)
            have HV2 := Lib.hid hC2
            clear hC2
            clear HR HC hb x0 x1 x2 x3
            have HR := HRq
            have HC := HCq
            clear HRq HCq
            have x0 := HR.out.cells (List.mem_cons_self ..)
            have x1 := HR.out.cells (List.mem_cons_of_mem _ (List.mem_cons_self ..))
            have x2 := HR.out.cells (List.mem_cons_of_mem _ (List.mem_cons_of_mem _ (List.mem_cons_self ..)))
            have x3 := HR.out.cells (List.mem_cons_of_mem _ (List.mem_cons_of_mem _ (List.mem_cons_of_mem _ (List.mem_cons_self ..))))
            go_wp2_with fail
            refine (index_rule HV2.out HSO.out rfl HFO.out).mono ?_
            rintro e w7 ⟨rfl, hb⟩
            have HRq := Lib.hid ((Frm.below (w := w) (bs := [(w4.heap.size, (spBox X0 X1)), (w.heap.size + 1 + 1, (rdBox rb)), (w.heap.size + 1, (rdBox ra)), (w.heap.size, (stBox s (.slice A cs.length c)))]) (by (repeat (with_reducible first | exact HR.out | apply Frm.drew | apply Frm.alloc | apply Frm.drewN))) hb).add (spBox 0 0) rfl)
            have HCq := Lib.hid (Chks.below (cs := cs) (by first | exact HC.out | exact HC.out.drew | exact HC.out.below (below_al (Below.refl _ _) _) | exact HC.out.drew.below (below_al (Below.refl _ _) _) | exact (HC.out.below (below_al (Below.refl _ _) _)).drew) hb |>.below (below_al (Below.refl _ _) (spBox 0 0)))
            clear HR HC hb x0 x1 x2 x3
            have HR := HRq
            have HC := HCq
            clear HRq HCq
            have x0 := HR.out.cells (List.mem_cons_self ..)
            have x1 := HR.out.cells (List.mem_cons_of_mem _ (List.mem_cons_self ..))
            have x2 := HR.out.cells (List.mem_cons_of_mem _ (List.mem_cons_of_mem _ (List.mem_cons_self ..)))
            have x3 := HR.out.cells (List.mem_cons_of_mem _ (List.mem_cons_of_mem _ (List.mem_cons_of_mem _ (List.mem_cons_self ..))))
            have x4 := HR.out.cells (List.mem_cons_of_mem _ (List.mem_cons_of_mem _ (List.mem_cons_of_mem _ (List.mem_cons_of_mem _ (List.mem_cons_self ..)))))
            go_wp2_with fail
            refine (known_ex _ (HH.out.below (Frm.b (w := w) (bs := [(w7.heap.size, (spBox 0 0)), (w4.heap.size, (spBox X0 X1)), (w.heap.size + 1 + 1, (rdBox rb)), (w.heap.size + 1, (rdBox ra)), (w.heap.size, (stBox s (.slice A cs.length c)))]) (by (repeat (with_reducible first | exact HR.out | apply Frm.drew | apply Frm.alloc | apply Frm.drewN))))) (HT.out.below (Frm.b (w := w) (bs := [(w7.heap.size, (spBox 0 0)), (w4.heap.size, (spBox X0 X1)), (w.heap.size + 1 + 1, (rdBox rb)), (w.heap.size + 1, (rdBox ra)), (w.heap.size, (stBox s (.slice A cs.length c)))]) (by (repeat (with_reducible first | exact HR.out | apply Frm.drew | apply Frm.alloc | apply Frm.drewN)))))).mono ?_
            rintro e wz ⟨rfl, hbz⟩
            have HZ := Lib.hid (Frm.below (w := w) (bs := [(w7.heap.size, (spBox 0 0)), (w4.heap.size, (spBox X0 X1)), (w.heap.size + 1 + 1, (rdBox rb)), (w.heap.size + 1, (rdBox ra)), (w.heap.size, (stBox s (.slice A cs.length c)))]) (by (repeat (with_reducible first | exact HR.out | apply Frm.drew | apply Frm.alloc | apply Frm.drewN))) hbz).b
            clear hbz x0 x1 x2 x3 x4
            go_wp2_with fail
            go_ret
            exact ⟨rfl, HZ.out⟩
end Go.Proofs.YtbpkkphmmengnaaDoor
