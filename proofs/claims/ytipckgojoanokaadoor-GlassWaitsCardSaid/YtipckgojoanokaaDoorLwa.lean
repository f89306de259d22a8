/- The law GlassWaits, walked. -/
import Derived.Test.YtipckgojoanokaaDoorApp
import Derived.Test.YtipckgojoanokaaDoorRtr
import Derived.Test.YtipckgojoanokaaDoorRdu
set_option linter.unusedVariables false
set_option linter.unusedSimpArgs false
namespace Go.Proofs.YtipckgojoanokaaDoor
open Go.RowKit Go.Maps

theorem lowF_snoc (s : Stn) (d : Int) (cs : List Chk) (c : Chk) : lowF s d (cs ++ [c]) = max (lowF s d cs) (c.lo - s.dr * farI d c.day) := by simp [lowF, List.foldl_append]
theorem highF_snoc (s : Stn) (d : Int) (cs : List Chk) (c : Chk) : highF s d (cs ++ [c]) = min (highF s d cs) (c.hi + s.dr * farI d c.day) := by simp [highF, List.foldl_append]
theorem snoc_sound {s : Stn} {cs : List Chk} {c : Chk} (hs : soundB s cs = true) (hl : cs.length < 12) (hc : chkB c = true) : soundB s (cs ++ [c]) = true := by
  simp only [soundB, Bool.and_eq_true, List.all_eq_true] at hs ⊢
  obtain ⟨⟨⟨⟨⟨⟨⟨_, ha⟩, hb⟩, hc'⟩, hd⟩, he⟩, hf⟩, hg⟩ := hs
  refine ⟨⟨⟨⟨⟨⟨⟨by simp; omega, fun z hz => ?_⟩, hb⟩, hc'⟩, hd⟩, he⟩, hf⟩, hg⟩
  rcases List.mem_append.1 hz with hz | hz
  · exact ha z hz
  · obtain rfl : z = c := by simpa using hz
    exact hc
/-- A comparison between the bounds of its day contradicts none. -/
theorem snoc_agreed {s : Stn} {cs : List Chk} {c : Chk} (hs : Sane s cs) (ha : Agreed s cs) (h1 : lowF s c.day cs ≤ c.lo) (h2 : c.lo ≤ c.hi) (h3 : c.hi ≤ highF s c.day cs) : Agreed s (cs ++ [c]) := by
  refine agreed_mk fun a ha' b hb' => ?_
  have hd := hs.d0
  rcases List.mem_append.1 ha' with hx | hx
  · rcases List.mem_append.1 hb' with hy | hy
    · exact agreed_pair hs ha hx hy
    · obtain rfl : b = c := by simpa using hy
      have q := (lowF_ge s b.day cs).2 a hx
      rw [farI_comm] at q
      omega
  · obtain rfl : a = c := by simpa using hx
    rcases List.mem_append.1 hb' with hy | hy
    · have q := (highF_le s a.day cs).2 b hy
      omega
    · obtain rfl : b = a := by simpa using hy
      rw [farI_self]
      simp only [Int.mul_zero]
      omega
/-- With the new comparison the index is due later, if at all. -/
theorem waits_after {s : Stn} {cs : List Chk} {f width d : Int} {c : Chk} (hd : DueAt s cs f width d) (hc : c.day = d) (hw : c.hi - c.lo ≤ width) : ∀ y, f ≤ y → y ≤ d → wideF s (cs ++ [c]) y ≤ width := fun y h1 h2 => by
  rcases Int.lt_or_le y d with h | h
  · have := hd.first y h1 h
    unfold wideF at this ⊢
    rw [lowF_snoc, highF_snoc]
    omega
  · obtain rfl : y = d := by omega
    unfold wideF
    rw [lowF_snoc, highF_snoc, hc, farI_self]
    simp only [Int.mul_zero]
    omega
theorem part_bd {n p : Int} (hn : 0 ≤ n) (p0 : 0 ≤ p) (p1 : p ≤ 100) : 0 ≤ n * p ∧ n * p ≤ n * 100 := ⟨Int.mul_nonneg hn p0, Int.mul_le_mul_of_nonneg_left p1 hn⟩

set_option maxHeartbeats 40000000 in
set_option maxRecDepth 100000 in
theorem lawGlassWaits {s : Stn} {v : Value} {cs : List Chk} {fr wi day pc : Int} {w : World} (hc : Chks w v cs) (hh : Holds w) (ht : Tab w) :
    Calls Tryd.prog 9 #[stV s v, .int .i64 fr, .int .i64 wi, .int .i64 day, .int .i64 pc] w fun e w' => e = .returned (.bool true) ∧ Below w.heap.size w w' := by
  obtain ⟨A, c, rfl⟩ := hc.shape2
  have HR : Hid (Frm w [(w.heap.size, (stBox s (.slice A cs.length c)))] (w.alloc (stBox s (.slice A cs.length c)))) := Lib.hid ((Frm.nil w).add _ (by simp))
  have HC := Lib.hid (hc.below HR.out.b)
  have HH := Lib.hid hh
  have HT := Lib.hid ht
  have HC0 := Lib.hid hc
  clear hc hh ht
  have x0 := HR.out.cells (List.mem_cons_self ..)
  go_enter Tryd.func9, Tryd.ntmps9
  cases hag : (soundB s cs && agB s cs)
  · have HAG := Lib.hid hag
    clear hag
    go_wp2_with fail
    refine (agreed_is (by first | exact HC.out | exact HC.out.drew | exact HC.out.below (below_al (Below.refl _ _) _) | exact HC.out.drew.below (below_al (Below.refl _ _) _) | exact (HC.out.below (below_al (Below.refl _ _) _)).drew) HAG.out).mono ?_
    rintro e w1 ⟨rfl, hb⟩
    have HRq := Lib.hid (Frm.below (w := w) (bs := [(w.heap.size, (stBox s (.slice A cs.length c)))]) (by (repeat (with_reducible first | exact HR.out | apply Frm.drew | apply Frm.alloc))) hb)
    have HCq := Lib.hid (Chks.below (cs := cs) (by first | exact HC.out | exact HC.out.drew | exact HC.out.below (below_al (Below.refl _ _) _) | exact HC.out.drew.below (below_al (Below.refl _ _) _) | exact (HC.out.below (below_al (Below.refl _ _) _)).drew) hb)
    clear HR HC hb x0
    have HR := HRq
    have HC := HCq
    clear HRq HCq
    have x0 := HR.out.cells (List.mem_cons_self ..)
    go_wp2_with fail
    refine (known_ex _ (HH.out.below (Frm.b (w := w) (bs := [(w.heap.size, (stBox s (.slice A cs.length c)))]) (by (repeat (with_reducible first | exact HR.out | apply Frm.drew | apply Frm.alloc))))) (HT.out.below (Frm.b (w := w) (bs := [(w.heap.size, (stBox s (.slice A cs.length c)))]) (by (repeat (with_reducible first | exact HR.out | apply Frm.drew | apply Frm.alloc)))))).mono ?_
    rintro e wz ⟨rfl, hbz⟩
    have HZ := Lib.hid (Frm.below (w := w) (bs := [(w.heap.size, (stBox s (.slice A cs.length c)))]) (by (repeat (with_reducible first | exact HR.out | apply Frm.drew | apply Frm.alloc))) hbz).b
    clear hbz x0
    go_wp2_with fail
    go_ret
    exact ⟨rfl, HZ.out⟩
  have HAG := Lib.hid hag
  obtain ⟨hs, ha⟩ : soundB s cs = true ∧ Agreed s cs := by
    rw [Bool.and_eq_true] at hag
    exact ⟨hag.1, agB_iff.1 hag.2⟩
  have hg := good_of_soundB hs
  have HS := Lib.hid hs
  have HA := Lib.hid ha
  have h12 := hg.sane.len
  clear hag hs ha
  go_wp2_with fail
  refine (agreed_is (by first | exact HC.out | exact HC.out.drew | exact HC.out.below (below_al (Below.refl _ _) _) | exact HC.out.drew.below (below_al (Below.refl _ _) _) | exact (HC.out.below (below_al (Below.refl _ _) _)).drew) HAG.out).mono ?_
  rintro e w1 ⟨rfl, hb⟩
  have HRq := Lib.hid (Frm.below (w := w) (bs := [(w.heap.size, (stBox s (.slice A cs.length c)))]) (by (repeat (with_reducible first | exact HR.out | apply Frm.drew | apply Frm.alloc))) hb)
  have HCq := Lib.hid (Chks.below (cs := cs) (by first | exact HC.out | exact HC.out.drew | exact HC.out.below (below_al (Below.refl _ _) _) | exact HC.out.drew.below (below_al (Below.refl _ _) _) | exact (HC.out.below (below_al (Below.refl _ _) _)).drew) hb)
  clear HR HC hb x0
  have HR := HRq
  have HC := HCq
  clear HRq HCq
  have x0 := HR.out.cells (List.mem_cons_self ..)
  by_cases n0 : 12 ≤ cs.length
  · go_wp2_with fail
    refine (known_ex _ (HH.out.below (Frm.b (w := w) (bs := [(w.heap.size, (stBox s (.slice A cs.length c)))]) (by (repeat (with_reducible first | exact HR.out | apply Frm.drew | apply Frm.alloc))))) (HT.out.below (Frm.b (w := w) (bs := [(w.heap.size, (stBox s (.slice A cs.length c)))]) (by (repeat (with_reducible first | exact HR.out | apply Frm.drew | apply Frm.alloc)))))).mono ?_
    rintro e wz ⟨rfl, hbz⟩
    have HZ := Lib.hid (Frm.below (w := w) (bs := [(w.heap.size, (stBox s (.slice A cs.length c)))]) (by (repeat (with_reducible first | exact HR.out | apply Frm.drew | apply Frm.alloc))) hbz).b
    clear hbz x0
    go_wp2_with fail
    go_ret
    exact ⟨rfl, HZ.out⟩
  cases hf : betw fr 0 400
  · have HF := Lib.hid hf
    clear hf
    go_wp2_with fail
    refine (rDay_is HF.out _).mono ?_
    rintro e w' ⟨rfl, rfl⟩
    go_wp2_with fail
    refine (known_ex _ (HH.out.below (Frm.b (w := w) (bs := [(w.heap.size, (stBox s (.slice A cs.length c)))]) (by (repeat (with_reducible first | exact HR.out | apply Frm.drew | apply Frm.alloc))))) (HT.out.below (Frm.b (w := w) (bs := [(w.heap.size, (stBox s (.slice A cs.length c)))]) (by (repeat (with_reducible first | exact HR.out | apply Frm.drew | apply Frm.alloc)))))).mono ?_
    rintro e wz ⟨rfl, hbz⟩
    have HZ := Lib.hid (Frm.below (w := w) (bs := [(w.heap.size, (stBox s (.slice A cs.length c)))]) (by (repeat (with_reducible first | exact HR.out | apply Frm.drew | apply Frm.alloc))) hbz).b
    clear hbz x0
    go_wp2_with fail
    go_ret
    exact ⟨rfl, HZ.out⟩
  have HF := Lib.hid hf
  have hfb := betw_iff.1 hf
  clear hf
  go_wp2_with fail
  refine (rDay_is HF.out _).mono ?_
  rintro e w' ⟨rfl, rfl⟩
  cases hw : betw wi 0 4000
  · have HW := Lib.hid hw
    clear hw
    go_wp2_with fail
    refine (rWidth_is HW.out _).mono ?_
    rintro e w' ⟨rfl, rfl⟩
    go_wp2_with fail
    refine (known_ex _ (HH.out.below (Frm.b (w := w) (bs := [(w.heap.size, (stBox s (.slice A cs.length c)))]) (by (repeat (with_reducible first | exact HR.out | apply Frm.drew | apply Frm.alloc))))) (HT.out.below (Frm.b (w := w) (bs := [(w.heap.size, (stBox s (.slice A cs.length c)))]) (by (repeat (with_reducible first | exact HR.out | apply Frm.drew | apply Frm.alloc)))))).mono ?_
    rintro e wz ⟨rfl, hbz⟩
    have HZ := Lib.hid (Frm.below (w := w) (bs := [(w.heap.size, (stBox s (.slice A cs.length c)))]) (by (repeat (with_reducible first | exact HR.out | apply Frm.drew | apply Frm.alloc))) hbz).b
    clear hbz x0
    go_wp2_with fail
    go_ret
    exact ⟨rfl, HZ.out⟩
  have HW := Lib.hid hw
  have hwb := betw_iff.1 hw
  clear hw
  go_wp2_with fail
  refine (rWidth_is HW.out _).mono ?_
  rintro e w' ⟨rfl, rfl⟩
  by_cases n1 : day < fr
  · go_wp2_with fail
    refine (known_ex _ (HH.out.below (Frm.b (w := w) (bs := [(w.heap.size, (stBox s (.slice A cs.length c)))]) (by (repeat (with_reducible first | exact HR.out | apply Frm.drew | apply Frm.alloc))))) (HT.out.below (Frm.b (w := w) (bs := [(w.heap.size, (stBox s (.slice A cs.length c)))]) (by (repeat (with_reducible first | exact HR.out | apply Frm.drew | apply Frm.alloc)))))).mono ?_
    rintro e wz ⟨rfl, hbz⟩
    have HZ := Lib.hid (Frm.below (w := w) (bs := [(w.heap.size, (stBox s (.slice A cs.length c)))]) (by (repeat (with_reducible first | exact HR.out | apply Frm.drew | apply Frm.alloc))) hbz).b
    clear hbz x0
    go_wp2_with fail
    go_ret
    exact ⟨rfl, HZ.out⟩
  cases hd : betw day 0 400
  · have HD := Lib.hid hd
    clear hd
    go_wp2_with fail
    refine (rDay_is HD.out _).mono ?_
    rintro e w' ⟨rfl, rfl⟩
    go_wp2_with fail
    refine (known_ex _ (HH.out.below (Frm.b (w := w) (bs := [(w.heap.size, (stBox s (.slice A cs.length c)))]) (by (repeat (with_reducible first | exact HR.out | apply Frm.drew | apply Frm.alloc))))) (HT.out.below (Frm.b (w := w) (bs := [(w.heap.size, (stBox s (.slice A cs.length c)))]) (by (repeat (with_reducible first | exact HR.out | apply Frm.drew | apply Frm.alloc)))))).mono ?_
    rintro e wz ⟨rfl, hbz⟩
    have HZ := Lib.hid (Frm.below (w := w) (bs := [(w.heap.size, (stBox s (.slice A cs.length c)))]) (by (repeat (with_reducible first | exact HR.out | apply Frm.drew | apply Frm.alloc))) hbz).b
    clear hbz x0
    go_wp2_with fail
    go_ret
    exact ⟨rfl, HZ.out⟩
  have HD := Lib.hid hd
  have hdb := betw_iff.1 hd
  clear hd
  go_wp2_with fail
  refine (rDay_is HD.out _).mono ?_
  rintro e w' ⟨rfl, rfl⟩
  by_cases n2 : pc < 0
  · go_wp2_with fail
    refine (known_ex _ (HH.out.below (Frm.b (w := w) (bs := [(w.heap.size, (stBox s (.slice A cs.length c)))]) (by (repeat (with_reducible first | exact HR.out | apply Frm.drew | apply Frm.alloc))))) (HT.out.below (Frm.b (w := w) (bs := [(w.heap.size, (stBox s (.slice A cs.length c)))]) (by (repeat (with_reducible first | exact HR.out | apply Frm.drew | apply Frm.alloc)))))).mono ?_
    rintro e wz ⟨rfl, hbz⟩
    have HZ := Lib.hid (Frm.below (w := w) (bs := [(w.heap.size, (stBox s (.slice A cs.length c)))]) (by (repeat (with_reducible first | exact HR.out | apply Frm.drew | apply Frm.alloc))) hbz).b
    clear hbz x0
    go_wp2_with fail
    go_ret
    exact ⟨rfl, HZ.out⟩
  by_cases n3 : 100 < pc
  · go_wp2_with fail
    refine (known_ex _ (HH.out.below (Frm.b (w := w) (bs := [(w.heap.size, (stBox s (.slice A cs.length c)))]) (by (repeat (with_reducible first | exact HR.out | apply Frm.drew | apply Frm.alloc))))) (HT.out.below (Frm.b (w := w) (bs := [(w.heap.size, (stBox s (.slice A cs.length c)))]) (by (repeat (with_reducible first | exact HR.out | apply Frm.drew | apply Frm.alloc)))))).mono ?_
    rintro e wz ⟨rfl, hbz⟩
    have HZ := Lib.hid (Frm.below (w := w) (bs := [(w.heap.size, (stBox s (.slice A cs.length c)))]) (by (repeat (with_reducible first | exact HR.out | apply Frm.drew | apply Frm.alloc))) hbz).b
    clear hbz x0
    go_wp2_with fail
    go_ret
    exact ⟨rfl, HZ.out⟩
  have a1 := (lowF_ge s day cs).1
  have a2 := (highF_le s day cs).1
  have a3 := low_le_high hg.sane HA.out day
  have HI : Hid (∀ W d, Chks W (.slice A cs.length c) cs → betw d 0 400 = true → Calls Tryd.prog 18 #[stV s (.slice A cs.length c), .int .i64 d] W fun x w' => x = .returned (.tuple #[spV (lowF s d cs) (highF s d cs), .int .i64 0]) ∧ Below W.heap.size W w') := Lib.hid (fun W d h h' => index_ok h HS.out h' HA.out)
  have HI1 : Hid (∀ W, Chks W (.slice A cs.length c) cs → Calls Tryd.prog 18 #[stV s (.slice A cs.length c), .int .i64 day] W fun x w' => x = .returned (.tuple #[spV (lowF s day cs) (highF s day cs), .int .i64 0]) ∧ Below W.heap.size W w') := Lib.hid (fun W h => HI.out W day h HD.out)
  have HWd := Lib.hid (show wideF s cs day = highF s day cs - lowF s day cs from rfl)
  rcases due_or s cs fr wi with hno | ⟨d, hda⟩
  · have hx := hno day (by omega) (by omega)
    rw [HWd.out] at hx
    have HNO := Lib.hid hno
    clear hno
    generalize lowF s day cs = lo0 at *
    generalize highF s day cs = hi0 at *
    have HW1 := Lib.hid (show withinB lo0 hi0 (-2000) 2000 = true by simp [withinB]; omega)
    go_wp2_with fail
    refine (due_none (by first | exact HC.out | exact HC.out.drew | exact HC.out.below (below_al (Below.refl _ _) _) | exact HC.out.drew.below (below_al (Below.refl _ _) _) | exact (HC.out.below (below_al (Below.refl _ _) _)).drew) HS.out HF.out HW.out HA.out HNO.out).mono ?_
    rintro e w2 ⟨rfl, hb⟩
    have HRq := Lib.hid (Frm.below (w := w) (bs := [(w.heap.size, (stBox s (.slice A cs.length c)))]) (by (repeat (with_reducible first | exact HR.out | apply Frm.drew | apply Frm.alloc))) hb)
    have HCq := Lib.hid (Chks.below (cs := cs) (by first | exact HC.out | exact HC.out.drew | exact HC.out.below (below_al (Below.refl _ _) _) | exact HC.out.drew.below (below_al (Below.refl _ _) _) | exact (HC.out.below (below_al (Below.refl _ _) _)).drew) hb)
    clear HR HC hb x0
    have HR := HRq
    have HC := HCq
    clear HRq HCq
    have x0 := HR.out.cells (List.mem_cons_self ..)
    go_wp2_with fail
    refine (HI1.out _ (by first | exact HC.out | exact HC.out.drew | exact HC.out.below (below_al (Below.refl _ _) _) | exact HC.out.drew.below (below_al (Below.refl _ _) _) | exact (HC.out.below (below_al (Below.refl _ _) _)).drew)).mono ?_
    rintro e w3 ⟨rfl, hb⟩
    have HRq := Lib.hid ((Frm.below (w := w) (bs := [(w.heap.size, (stBox s (.slice A cs.length c)))]) (by (repeat (with_reducible first | exact HR.out | apply Frm.drew | apply Frm.alloc))) hb).add (spBox lo0 hi0) rfl)
    have HCq := Lib.hid (Chks.below (cs := cs) (by first | exact HC.out | exact HC.out.drew | exact HC.out.below (below_al (Below.refl _ _) _) | exact HC.out.drew.below (below_al (Below.refl _ _) _) | exact (HC.out.below (below_al (Below.refl _ _) _)).drew) hb |>.below (below_al (Below.refl _ _) (spBox lo0 hi0)))
    clear HR HC hb x0
    have HR := HRq
    have HC := HCq
    clear HRq HCq
    have x0 := HR.out.cells (List.mem_cons_self ..)
    have x1 := HR.out.cells (List.mem_cons_of_mem _ (List.mem_cons_self ..))
    go_wp2_with fail
    refine (rSpan_is HW1.out _).mono ?_
    rintro e w4 ⟨rfl, hb⟩
    have HRq := Lib.hid (Frm.below (w := w) (bs := [(w3.heap.size, (spBox lo0 hi0)), (w.heap.size, (stBox s (.slice A cs.length c)))]) (by (repeat (with_reducible first | exact HR.out | apply Frm.drew | apply Frm.alloc))) hb)
    have HCq := Lib.hid (Chks.below (cs := cs) (by first | exact HC.out | exact HC.out.drew | exact HC.out.below (below_al (Below.refl _ _) _) | exact HC.out.drew.below (below_al (Below.refl _ _) _) | exact (HC.out.below (below_al (Below.refl _ _) _)).drew) hb)
    clear HR HC hb x0 x1
    have HR := HRq
    have HC := HCq
    clear HRq HCq
    have x0 := HR.out.cells (List.mem_cons_self ..)
    have x1 := HR.out.cells (List.mem_cons_of_mem _ (List.mem_cons_self ..))
    go_wp2_with fail
    refine (known_ex _ (HH.out.below (Frm.b (w := w) (bs := [(w3.heap.size, (spBox lo0 hi0)), (w.heap.size, (stBox s (.slice A cs.length c)))]) (by (repeat (with_reducible first | exact HR.out | apply Frm.drew | apply Frm.alloc))))) (HT.out.below (Frm.b (w := w) (bs := [(w3.heap.size, (spBox lo0 hi0)), (w.heap.size, (stBox s (.slice A cs.length c)))]) (by (repeat (with_reducible first | exact HR.out | apply Frm.drew | apply Frm.alloc)))))).mono ?_
    rintro e wz ⟨rfl, hbz⟩
    have HZ := Lib.hid (Frm.below (w := w) (bs := [(w3.heap.size, (spBox lo0 hi0)), (w.heap.size, (stBox s (.slice A cs.length c)))]) (by (repeat (with_reducible first | exact HR.out | apply Frm.drew | apply Frm.alloc))) hbz).b
    clear hbz x0 x1
    go_wp2_with fail
    go_ret
    exact ⟨rfl, HZ.out⟩
  · have g1 := hda.ge
    have g2 := hda.le
    have hx : day < d → wideF s cs day ≤ wi := fun h => hda.first day (by omega) h
    rw [HWd.out] at hx
    have hy := hda.wide
    have b1 := (lowF_ge s d cs).1
    have b2 := (highF_le s d cs).1
    have HDA := Lib.hid hda
    have HBD := Lib.hid (betw_iff.2 (show 0 ≤ d ∧ d ≤ 400 by omega))
    have HI2 : Hid (∀ W, Chks W (.slice A cs.length c) cs → Calls Tryd.prog 18 #[stV s (.slice A cs.length c), .int .i64 d] W fun x w' => x = .returned (.tuple #[spV (lowF s d cs) (highF s d cs), .int .i64 0]) ∧ Below W.heap.size W w') := Lib.hid (fun W h => HI.out W d h HBD.out)
    unfold wideF at hy
    obtain ⟨q0, q1⟩ := part_bd (n := highF s d cs - lowF s d cs - wi) (by omega) (show 0 ≤ pc by omega) (show pc ≤ 100 by omega)
    have HLO := Lib.hid (show lowF s d cs ≤ lowF s d cs + (highF s d cs - lowF s d cs - wi) * pc / 100 ∧ lowF s d cs + (highF s d cs - lowF s d cs - wi) * pc / 100 + wi ≤ highF s d cs by omega)
    have hlo := HLO.out
    obtain ⟨low, hlow⟩ : ∃ low, lowF s d cs + (highF s d cs - lowF s d cs - wi) * pc / 100 = low := ⟨_, rfl⟩
    rw [hlow] at hlo HLO
    have HLOW := Lib.hid hlow
    clear hlow
    have hsound := snoc_sound (c := ⟨d, low, low + wi⟩) HS.out (by omega) (by simp [chkB, betw, withinB]; omega)
    have hagree := snoc_agreed (c := ⟨d, low, low + wi⟩) hg.sane HA.out hlo.1 (by simp only; omega) hlo.2
    have hafter := waits_after (c := ⟨d, low, low + wi⟩) hda rfl (by simp only; omega)
    have HNX := Lib.hid (due_or s (cs ++ [⟨d, low, low + wi⟩]) fr wi)
    have HSO := Lib.hid hsound
    have HAO := Lib.hid hagree
    have HAF := Lib.hid hafter
    clear hsound hagree hafter hda
    generalize lowF s d cs = lo1 at *
    generalize highF s d cs = hi1 at *
    generalize lowF s day cs = lo0 at *
    generalize highF s day cs = hi0 at *
    have HW1 := Lib.hid (show withinB lo0 hi0 (-2000) 2000 = true by simp [withinB]; omega)
    have HW2 := Lib.hid (show withinB lo1 hi1 (-2000) 2000 = true by simp [withinB]; omega)
    have hq : 0 ≤ (hi1 - lo1 - wi) * pc := q0
    have HQ0 := Lib.hid (show IntKind.i64.wrap ((hi1 - lo1 - wi) * pc) = (hi1 - lo1 - wi) * pc from IntWalk.i64_in _ (by omega))
    go_wp2_with fail
    refine (due_some (by first | exact HC.out | exact HC.out.drew | exact HC.out.below (below_al (Below.refl _ _) _) | exact HC.out.drew.below (below_al (Below.refl _ _) _) | exact (HC.out.below (below_al (Below.refl _ _) _)).drew) HS.out HF.out HW.out HA.out d HDA.out).mono ?_
    rintro e w2 ⟨rfl, hb⟩
    have HRq := Lib.hid (Frm.below (w := w) (bs := [(w.heap.size, (stBox s (.slice A cs.length c)))]) (by (repeat (with_reducible first | exact HR.out | apply Frm.drew | apply Frm.alloc))) hb)
    have HCq := Lib.hid (Chks.below (cs := cs) (by first | exact HC.out | exact HC.out.drew | exact HC.out.below (below_al (Below.refl _ _) _) | exact HC.out.drew.below (below_al (Below.refl _ _) _) | exact (HC.out.below (below_al (Below.refl _ _) _)).drew) hb)
    clear HR HC hb x0
    have HR := HRq
    have HC := HCq
    clear HRq HCq
    have x0 := HR.out.cells (List.mem_cons_self ..)
    go_wp2_with fail
    refine (HI1.out _ (by first | exact HC.out | exact HC.out.drew | exact HC.out.below (below_al (Below.refl _ _) _) | exact HC.out.drew.below (below_al (Below.refl _ _) _) | exact (HC.out.below (below_al (Below.refl _ _) _)).drew)).mono ?_
    rintro e w3 ⟨rfl, hb⟩
    have HRq := Lib.hid ((Frm.below (w := w) (bs := [(w.heap.size, (stBox s (.slice A cs.length c)))]) (by (repeat (with_reducible first | exact HR.out | apply Frm.drew | apply Frm.alloc))) hb).add (spBox lo0 hi0) rfl)
    have HCq := Lib.hid (Chks.below (cs := cs) (by first | exact HC.out | exact HC.out.drew | exact HC.out.below (below_al (Below.refl _ _) _) | exact HC.out.drew.below (below_al (Below.refl _ _) _) | exact (HC.out.below (below_al (Below.refl _ _) _)).drew) hb |>.below (below_al (Below.refl _ _) (spBox lo0 hi0)))
    clear HR HC hb x0
    have HR := HRq
    have HC := HCq
    clear HRq HCq
    have x0 := HR.out.cells (List.mem_cons_self ..)
    have x1 := HR.out.cells (List.mem_cons_of_mem _ (List.mem_cons_self ..))
    go_wp2_with fail
    refine (rSpan_is HW1.out _).mono ?_
    rintro e w4 ⟨rfl, hb⟩
    have HRq := Lib.hid (Frm.below (w := w) (bs := [(w3.heap.size, (spBox lo0 hi0)), (w.heap.size, (stBox s (.slice A cs.length c)))]) (by (repeat (with_reducible first | exact HR.out | apply Frm.drew | apply Frm.alloc))) hb)
    have HCq := Lib.hid (Chks.below (cs := cs) (by first | exact HC.out | exact HC.out.drew | exact HC.out.below (below_al (Below.refl _ _) _) | exact HC.out.drew.below (below_al (Below.refl _ _) _) | exact (HC.out.below (below_al (Below.refl _ _) _)).drew) hb)
    clear HR HC hb x0 x1
    have HR := HRq
    have HC := HCq
    clear HRq HCq
    have x0 := HR.out.cells (List.mem_cons_self ..)
    have x1 := HR.out.cells (List.mem_cons_of_mem _ (List.mem_cons_self ..))
    by_cases o1 : day < d
    · have hx2 := hx o1
      clear hx
      go_wp2_with fail
      refine (rDay_is HBD.out _).mono ?_
      rintro e w' ⟨rfl, rfl⟩
      go_wp2_with fail
      refine (HI2.out _ (by first | exact HC.out | exact HC.out.drew | exact HC.out.below (below_al (Below.refl _ _) _) | exact HC.out.drew.below (below_al (Below.refl _ _) _) | exact (HC.out.below (below_al (Below.refl _ _) _)).drew)).mono ?_
      rintro e w5 ⟨rfl, hb⟩
      have HRq := Lib.hid ((Frm.below (w := w) (bs := [(w3.heap.size, (spBox lo0 hi0)), (w.heap.size, (stBox s (.slice A cs.length c)))]) (by (repeat (with_reducible first | exact HR.out | apply Frm.drew | apply Frm.alloc))) hb).add (spBox lo1 hi1) rfl)
      have HCq := Lib.hid (Chks.below (cs := cs) (by first | exact HC.out | exact HC.out.drew | exact HC.out.below (below_al (Below.refl _ _) _) | exact HC.out.drew.below (below_al (Below.refl _ _) _) | exact (HC.out.below (below_al (Below.refl _ _) _)).drew) hb |>.below (below_al (Below.refl _ _) (spBox lo1 hi1)))
      clear HR HC hb x0 x1
      have HR := HRq
      have HC := HCq
      clear HRq HCq
      have x0 := HR.out.cells (List.mem_cons_self ..)
      have x1 := HR.out.cells (List.mem_cons_of_mem _ (List.mem_cons_self ..))
      have x2 := HR.out.cells (List.mem_cons_of_mem _ (List.mem_cons_of_mem _ (List.mem_cons_self ..)))
      go_wp2_with fail
      refine (rSpan_is HW2.out _).mono ?_
      rintro e w6 ⟨rfl, hb⟩
      have HRq := Lib.hid (Frm.below (w := w) (bs := [(w5.heap.size, (spBox lo1 hi1)), (w3.heap.size, (spBox lo0 hi0)), (w.heap.size, (stBox s (.slice A cs.length c)))]) (by (repeat (with_reducible first | exact HR.out | apply Frm.drew | apply Frm.alloc))) hb)
      have HCq := Lib.hid (Chks.below (cs := cs) (by first | exact HC.out | exact HC.out.drew | exact HC.out.below (below_al (Below.refl _ _) _) | exact HC.out.drew.below (below_al (Below.refl _ _) _) | exact (HC.out.below (below_al (Below.refl _ _) _)).drew) hb)
      clear HR HC hb x0 x1 x2
      have HR := HRq
      have HC := HCq
      clear HRq HCq
      have x0 := HR.out.cells (List.mem_cons_self ..)
      have x1 := HR.out.cells (List.mem_cons_of_mem _ (List.mem_cons_self ..))
      have x2 := HR.out.cells (List.mem_cons_of_mem _ (List.mem_cons_of_mem _ (List.mem_cons_self ..)))
      go_upto_region 15 with fail
      rw [HLOW.out]
      go_upto_region 16 with fail
      have hP00 : w.heap.size ≤ w6.heap.size := Frm.size (w := w) (bs := [(w5.heap.size, (spBox lo1 hi1)), (w3.heap.size, (spBox lo0 hi0)), (w.heap.size, (stBox s (.slice A cs.length c)))]) (W := w6) (by (repeat (with_reducible first | exact HR.out | apply Frm.drew | apply Frm.alloc)))
      have hPn : ∀ p ∈ ([(w5.heap.size, (spBox lo1 hi1)), (w3.heap.size, (spBox lo0 hi0)), (w.heap.size, (stBox s (.slice A cs.length c)))] : List (Nat × Obj)), p.1 ≠ w6.heap.size := fun p hp => Nat.ne_of_lt (Array.getElem?_eq_some_iff.1 (Frm.h (w := w) (bs := [(w5.heap.size, (spBox lo1 hi1)), (w3.heap.size, (spBox lo0 hi0)), (w.heap.size, (stBox s (.slice A cs.length c)))]) (W := w6) (by (repeat (with_reducible first | exact HR.out | apply Frm.drew | apply Frm.alloc))) p hp)).1
      have HRW := Lib.hid (Frm.add (w := w) (bs := [(w5.heap.size, (spBox lo1 hi1)), (w3.heap.size, (spBox lo0 hi0)), (w.heap.size, (stBox s (.slice A cs.length c)))]) (by (repeat (with_reducible first | exact HR.out | apply Frm.drew | apply Frm.alloc))) (stBox s (.slice A cs.length c)) rfl)
      have HCW := Lib.hid (HC0.out.below HRW.out.b)
      clear HR HC x0 x1 x2
      have HR := HRW
      have HC := HCW
      clear HCW
      have x0 := HR.out.cells (List.mem_cons_self ..)
      have x1 := HR.out.cells (List.mem_cons_of_mem _ (List.mem_cons_self ..))
      have x2 := HR.out.cells (List.mem_cons_of_mem _ (List.mem_cons_of_mem _ (List.mem_cons_self ..)))
      have x3 := HR.out.cells (List.mem_cons_of_mem _ (List.mem_cons_of_mem _ (List.mem_cons_of_mem _ (List.mem_cons_self ..))))
      go_wp2_with (first | (at_builtin; refine app_all (A := A) (cs := cs) (c := c) (by rfl) _ _ (by rfl) ?_ ?_ HC.out h12 ?_; rfl; rfl; intro v1 wa hO1 hg1; have HRq := Lib.hid (Frm.grownR (w := w) (bs := [(w6.heap.size, (stBox s (.slice A cs.length c))), (w5.heap.size, (spBox lo1 hi1)), (w3.heap.size, (spBox lo0 hi0)), (w.heap.size, (stBox s (.slice A cs.length c)))]) (by (repeat (with_reducible first | exact HR.out | apply Frm.drew | apply Frm.alloc))) hg1 (by simp) (by simp)); have hs1 := hg1.size; have HO1 := Lib.hid hO1; clear HR HC x0 x1 x2 x3 hg1; have HR := HRq; clear HRq; have x0 := HR.out.cells (List.mem_cons_self ..); have x1 := HR.out.cells (List.mem_cons_of_mem _ (List.mem_cons_self ..)); have x2 := HR.out.cells (List.mem_cons_of_mem _ (List.mem_cons_of_mem _ (List.mem_cons_self ..))); have x3 := HR.out.cells (List.mem_cons_of_mem _ (List.mem_cons_of_mem _ (List.mem_cons_of_mem _ (List.mem_cons_self ..))))) | (go_at_call 31; refine (lspan_any _ _ _).mono ?_; rintro e wb ⟨rfl, hb⟩; have HRq := Lib.hid (Frm.below (w := w) (bs := [(w6.heap.size, (stBox s (.slice A cs.length c))), (w5.heap.size, (spBox lo1 hi1)), (w3.heap.size, (spBox lo0 hi0)), (w.heap.size, (stBox s (.slice A cs.length c)))]) (by (repeat (with_reducible first | exact HR.out | apply Frm.drew | apply Frm.alloc))) hb); have HO2 := Lib.hid (HO1.out.below hb); have hs2 := hb.size; clear HR hb x0 x1 x2 x3; have HR := HRq; clear HRq; have x0 := HR.out.cells (List.mem_cons_self ..); have x1 := HR.out.cells (List.mem_cons_of_mem _ (List.mem_cons_self ..)); have x2 := HR.out.cells (List.mem_cons_of_mem _ (List.mem_cons_of_mem _ (List.mem_cons_self ..))); have x3 := HR.out.cells (List.mem_cons_of_mem _ (List.mem_cons_of_mem _ (List.mem_cons_of_mem _ (List.mem_cons_self ..))))) | (at_builtin; go_must (refine app_one (base := (w6.alloc (stBox s (.slice A cs.length c))).heap.size) (N := wb.heap.size) (v := v1) (cs := cs) (c := ⟨d, low, low + wi⟩) (by rfl) _ _ (by rfl) ?_ (World.ownsRow.alloc HO2.out _) ?_ (heap_new _ _ rfl) h12 ?_ ?_); rfl; rfl; exact (Nat.le_trans hs1 (Nat.le_trans hs2 (Nat.le_of_lt (by simp)))); intro g cap wc hO3 hg3 hat hlt; have hM : ∀ k, v1.ownBlock = some k → w.heap.size ≤ k := fun k hk => Nat.le_trans HRW.out.size (HO1.out.lt k hk).1; have hne : ∀ p ∈ ([(w6.heap.size, (stBox s (.slice A cs.length c))), (w5.heap.size, (spBox lo1 hi1)), (w3.heap.size, (spBox lo0 hi0)), (w.heap.size, (stBox s (.slice A cs.length c)))] : List (Nat × Obj)), some p.1 ≠ v1.ownBlock := fun p hp e => Nat.lt_irrefl _ (Nat.lt_of_lt_of_le (Array.getElem?_eq_some_iff.1 (HRW.out.h p hp)).1 (HO1.out.lt _ e.symm).1); have hPg : g ≠ w6.heap.size := own_ne hat (fun k hk => (HO1.out.lt k hk).1) (Nat.le_trans hs1 (Nat.le_trans hs2 (Nat.le_of_lt (by simp)))) (by simp); have HRq := Lib.hid (Frm.grownR (w := w) (bs := [(w6.heap.size, (stBox s (.slice A cs.length c))), (w5.heap.size, (spBox lo1 hi1)), (w3.heap.size, (spBox lo0 hi0)), (w.heap.size, (stBox s (.slice A cs.length c)))]) (by (repeat (with_reducible first | exact HR.out | apply Frm.drew | apply Frm.alloc))) hg3 hM hne); have HO3 := Lib.hid hO3; have HPG := Lib.hid hPg; clear HR x0 x1 x2 x3 hg3 hM hne hat hlt hO3 hPg; have HR := HRq; clear HRq; have x0 := HR.out.cells (List.mem_cons_self ..); have x1 := HR.out.cells (List.mem_cons_of_mem _ (List.mem_cons_self ..)); have x2 := HR.out.cells (List.mem_cons_of_mem _ (List.mem_cons_of_mem _ (List.mem_cons_self ..))); have x3 := HR.out.cells (List.mem_cons_of_mem _ (List.mem_cons_of_mem _ (List.mem_cons_of_mem _ (List.mem_cons_self ..)))); have xf := HR.out.free (List.mem_cons_self ..)))
      have hP0 : w.heap.size ≤ w6.heap.size := hP00
      have HRq := Lib.hid (show Frm w [(w6.heap.size, (stBox s (.slice (some ⟨g, 0, none⟩) (cs.length + 1) cap))), (w5.heap.size, (spBox lo1 hi1)), (w3.heap.size, (spBox lo0 hi0)), (w.heap.size, (stBox s (.slice A cs.length c)))] _ from Frm.put HR.out hP0 hPn 8 _)
      have HC2 := Lib.hid (own_chks (n := cs.length + 1) (cs := cs ++ [⟨d, low, low + wi⟩]) (ownsRow_setCell_other HO3.out (a := ⟨w6.heap.size, 8, none⟩) (fun e => HPG.out (by simpa [Value.ownBlock] using e)) (.slice (some ⟨g, 0, none⟩) (cs.length + 1) cap)) (by simp))
      clear HR HRW HO2 HO1 hO1 HO3 xf x0 x1 x2 x3
      have HR := HRq
      clear HRq
      have x0 := HR.out.cells (List.mem_cons_self ..)
      have x1 := HR.out.cells (List.mem_cons_of_mem _ (List.mem_cons_self ..))
      have x2 := HR.out.cells (List.mem_cons_of_mem _ (List.mem_cons_of_mem _ (List.mem_cons_self ..)))
      have x3 := HR.out.cells (List.mem_cons_of_mem _ (List.mem_cons_of_mem _ (List.mem_cons_of_mem _ (List.mem_cons_self ..))))
      rcases HNX.out with hno2 | ⟨d2, hda2⟩
      · have HN2 := Lib.hid hno2
        clear hno2
        go_wp2_with fail
        refine (due_none HC2.out HSO.out HF.out HW.out HAO.out HN2.out).mono ?_
        rintro e w7 ⟨rfl, hb⟩
        have HRq := Lib.hid (Frm.below (w := w) (bs := [(w6.heap.size, (stBox s (.slice (some ⟨g, 0, none⟩) (cs.length + 1) cap))), (w5.heap.size, (spBox lo1 hi1)), (w3.heap.size, (spBox lo0 hi0)), (w.heap.size, (stBox s (.slice A cs.length c)))]) (by (repeat (with_reducible first | exact HR.out | apply Frm.drew | apply Frm.alloc))) hb)
        clear HR HC2 hb x0 x1 x2 x3
        have HR := HRq
        clear HRq
        have x0 := HR.out.cells (List.mem_cons_self ..)
        have x1 := HR.out.cells (List.mem_cons_of_mem _ (List.mem_cons_self ..))
        have x2 := HR.out.cells (List.mem_cons_of_mem _ (List.mem_cons_of_mem _ (List.mem_cons_self ..)))
        have x3 := HR.out.cells (List.mem_cons_of_mem _ (List.mem_cons_of_mem _ (List.mem_cons_of_mem _ (List.mem_cons_self ..))))
        go_wp2_with fail
        refine (known_ex _ (HH.out.below (Frm.b (w := w) (bs := [(w6.heap.size, (stBox s (.slice (some ⟨g, 0, none⟩) (cs.length + 1) cap))), (w5.heap.size, (spBox lo1 hi1)), (w3.heap.size, (spBox lo0 hi0)), (w.heap.size, (stBox s (.slice A cs.length c)))]) (by (repeat (with_reducible first | exact HR.out | apply Frm.drew | apply Frm.alloc))))) (HT.out.below (Frm.b (w := w) (bs := [(w6.heap.size, (stBox s (.slice (some ⟨g, 0, none⟩) (cs.length + 1) cap))), (w5.heap.size, (spBox lo1 hi1)), (w3.heap.size, (spBox lo0 hi0)), (w.heap.size, (stBox s (.slice A cs.length c)))]) (by (repeat (with_reducible first | exact HR.out | apply Frm.drew | apply Frm.alloc)))))).mono ?_
        rintro e wz ⟨rfl, hbz⟩
        have HZ := Lib.hid (Frm.below (w := w) (bs := [(w6.heap.size, (stBox s (.slice (some ⟨g, 0, none⟩) (cs.length + 1) cap))), (w5.heap.size, (spBox lo1 hi1)), (w3.heap.size, (spBox lo0 hi0)), (w.heap.size, (stBox s (.slice A cs.length c)))]) (by (repeat (with_reducible first | exact HR.out | apply Frm.drew | apply Frm.alloc))) hbz).b
        clear hbz x0 x1 x2 x3
        go_wp2_with fail
        go_ret
        exact ⟨rfl, HZ.out⟩
      · have hlater : d < d2 := by
          rcases Int.lt_or_le d d2 with h | h
          · exact h
          · have h1 := HAF.out d2 hda2.ge h
            have h2 := hda2.wide
            omega
        have HN2 := Lib.hid hda2
        clear hda2
        go_wp2_with fail
        refine (due_some HC2.out HSO.out HF.out HW.out HAO.out d2 HN2.out).mono ?_
        rintro e w7 ⟨rfl, hb⟩
        have HRq := Lib.hid (Frm.below (w := w) (bs := [(w6.heap.size, (stBox s (.slice (some ⟨g, 0, none⟩) (cs.length + 1) cap))), (w5.heap.size, (spBox lo1 hi1)), (w3.heap.size, (spBox lo0 hi0)), (w.heap.size, (stBox s (.slice A cs.length c)))]) (by (repeat (with_reducible first | exact HR.out | apply Frm.drew | apply Frm.alloc))) hb)
        clear HR HC2 hb x0 x1 x2 x3
        have HR := HRq
        clear HRq
        have x0 := HR.out.cells (List.mem_cons_self ..)
        have x1 := HR.out.cells (List.mem_cons_of_mem _ (List.mem_cons_self ..))
        have x2 := HR.out.cells (List.mem_cons_of_mem _ (List.mem_cons_of_mem _ (List.mem_cons_self ..)))
        have x3 := HR.out.cells (List.mem_cons_of_mem _ (List.mem_cons_of_mem _ (List.mem_cons_of_mem _ (List.mem_cons_self ..))))
        go_wp2_with fail
        refine (known_ex _ (HH.out.below (Frm.b (w := w) (bs := [(w6.heap.size, (stBox s (.slice (some ⟨g, 0, none⟩) (cs.length + 1) cap))), (w5.heap.size, (spBox lo1 hi1)), (w3.heap.size, (spBox lo0 hi0)), (w.heap.size, (stBox s (.slice A cs.length c)))]) (by (repeat (with_reducible first | exact HR.out | apply Frm.drew | apply Frm.alloc))))) (HT.out.below (Frm.b (w := w) (bs := [(w6.heap.size, (stBox s (.slice (some ⟨g, 0, none⟩) (cs.length + 1) cap))), (w5.heap.size, (spBox lo1 hi1)), (w3.heap.size, (spBox lo0 hi0)), (w.heap.size, (stBox s (.slice A cs.length c)))]) (by (repeat (with_reducible first | exact HR.out | apply Frm.drew | apply Frm.alloc)))))).mono ?_
        rintro e wz ⟨rfl, hbz⟩
        have HZ := Lib.hid (Frm.below (w := w) (bs := [(w6.heap.size, (stBox s (.slice (some ⟨g, 0, none⟩) (cs.length + 1) cap))), (w5.heap.size, (spBox lo1 hi1)), (w3.heap.size, (spBox lo0 hi0)), (w.heap.size, (stBox s (.slice A cs.length c)))]) (by (repeat (with_reducible first | exact HR.out | apply Frm.drew | apply Frm.alloc))) hbz).b
        clear hbz x0 x1 x2 x3
        go_wp2_with fail
        go_ret
        exact ⟨rfl, HZ.out⟩
    · clear hx
      go_wp2_with fail
      refine (rDay_is HBD.out _).mono ?_
      rintro e w' ⟨rfl, rfl⟩
      go_wp2_with fail
      refine (HI2.out _ (by first | exact HC.out | exact HC.out.drew | exact HC.out.below (below_al (Below.refl _ _) _) | exact HC.out.drew.below (below_al (Below.refl _ _) _) | exact (HC.out.below (below_al (Below.refl _ _) _)).drew)).mono ?_
      rintro e w5 ⟨rfl, hb⟩
      have HRq := Lib.hid ((Frm.below (w := w) (bs := [(w3.heap.size, (spBox lo0 hi0)), (w.heap.size, (stBox s (.slice A cs.length c)))]) (by (repeat (with_reducible first | exact HR.out | apply Frm.drew | apply Frm.alloc))) hb).add (spBox lo1 hi1) rfl)
      have HCq := Lib.hid (Chks.below (cs := cs) (by first | exact HC.out | exact HC.out.drew | exact HC.out.below (below_al (Below.refl _ _) _) | exact HC.out.drew.below (below_al (Below.refl _ _) _) | exact (HC.out.below (below_al (Below.refl _ _) _)).drew) hb |>.below (below_al (Below.refl _ _) (spBox lo1 hi1)))
      clear HR HC hb x0 x1
      have HR := HRq
      have HC := HCq
      clear HRq HCq
      have x0 := HR.out.cells (List.mem_cons_self ..)
      have x1 := HR.out.cells (List.mem_cons_of_mem _ (List.mem_cons_self ..))
      have x2 := HR.out.cells (List.mem_cons_of_mem _ (List.mem_cons_of_mem _ (List.mem_cons_self ..)))
      go_wp2_with fail
      refine (rSpan_is HW2.out _).mono ?_
      rintro e w6 ⟨rfl, hb⟩
      have HRq := Lib.hid (Frm.below (w := w) (bs := [(w5.heap.size, (spBox lo1 hi1)), (w3.heap.size, (spBox lo0 hi0)), (w.heap.size, (stBox s (.slice A cs.length c)))]) (by (repeat (with_reducible first | exact HR.out | apply Frm.drew | apply Frm.alloc))) hb)
      have HCq := Lib.hid (Chks.below (cs := cs) (by first | exact HC.out | exact HC.out.drew | exact HC.out.below (below_al (Below.refl _ _) _) | exact HC.out.drew.below (below_al (Below.refl _ _) _) | exact (HC.out.below (below_al (Below.refl _ _) _)).drew) hb)
      clear HR HC hb x0 x1 x2
      have HR := HRq
      have HC := HCq
      clear HRq HCq
      have x0 := HR.out.cells (List.mem_cons_self ..)
      have x1 := HR.out.cells (List.mem_cons_of_mem _ (List.mem_cons_self ..))
      have x2 := HR.out.cells (List.mem_cons_of_mem _ (List.mem_cons_of_mem _ (List.mem_cons_self ..)))
      go_upto_region 15 with fail
      rw [HLOW.out]
      go_upto_region 16 with fail
      have hP00 : w.heap.size ≤ w6.heap.size := Frm.size (w := w) (bs := [(w5.heap.size, (spBox lo1 hi1)), (w3.heap.size, (spBox lo0 hi0)), (w.heap.size, (stBox s (.slice A cs.length c)))]) (W := w6) (by (repeat (with_reducible first | exact HR.out | apply Frm.drew | apply Frm.alloc)))
      have hPn : ∀ p ∈ ([(w5.heap.size, (spBox lo1 hi1)), (w3.heap.size, (spBox lo0 hi0)), (w.heap.size, (stBox s (.slice A cs.length c)))] : List (Nat × Obj)), p.1 ≠ w6.heap.size := fun p hp => Nat.ne_of_lt (Array.getElem?_eq_some_iff.1 (Frm.h (w := w) (bs := [(w5.heap.size, (spBox lo1 hi1)), (w3.heap.size, (spBox lo0 hi0)), (w.heap.size, (stBox s (.slice A cs.length c)))]) (W := w6) (by (repeat (with_reducible first | exact HR.out | apply Frm.drew | apply Frm.alloc))) p hp)).1
      have HRW := Lib.hid (Frm.add (w := w) (bs := [(w5.heap.size, (spBox lo1 hi1)), (w3.heap.size, (spBox lo0 hi0)), (w.heap.size, (stBox s (.slice A cs.length c)))]) (by (repeat (with_reducible first | exact HR.out | apply Frm.drew | apply Frm.alloc))) (stBox s (.slice A cs.length c)) rfl)
      have HCW := Lib.hid (HC0.out.below HRW.out.b)
      clear HR HC x0 x1 x2
      have HR := HRW
      have HC := HCW
      clear HCW
      have x0 := HR.out.cells (List.mem_cons_self ..)
      have x1 := HR.out.cells (List.mem_cons_of_mem _ (List.mem_cons_self ..))
      have x2 := HR.out.cells (List.mem_cons_of_mem _ (List.mem_cons_of_mem _ (List.mem_cons_self ..)))
      have x3 := HR.out.cells (List.mem_cons_of_mem _ (List.mem_cons_of_mem _ (List.mem_cons_of_mem _ (List.mem_cons_self ..))))
      go_wp2_with (first | (at_builtin; refine app_all (A := A) (cs := cs) (c := c) (by rfl) _ _ (by rfl) ?_ ?_ HC.out h12 ?_; rfl; rfl; intro v1 wa hO1 hg1; have HRq := Lib.hid (Frm.grownR (w := w) (bs := [(w6.heap.size, (stBox s (.slice A cs.length c))), (w5.heap.size, (spBox lo1 hi1)), (w3.heap.size, (spBox lo0 hi0)), (w.heap.size, (stBox s (.slice A cs.length c)))]) (by (repeat (with_reducible first | exact HR.out | apply Frm.drew | apply Frm.alloc))) hg1 (by simp) (by simp)); have hs1 := hg1.size; have HO1 := Lib.hid hO1; clear HR HC x0 x1 x2 x3 hg1; have HR := HRq; clear HRq; have x0 := HR.out.cells (List.mem_cons_self ..); have x1 := HR.out.cells (List.mem_cons_of_mem _ (List.mem_cons_self ..)); have x2 := HR.out.cells (List.mem_cons_of_mem _ (List.mem_cons_of_mem _ (List.mem_cons_self ..))); have x3 := HR.out.cells (List.mem_cons_of_mem _ (List.mem_cons_of_mem _ (List.mem_cons_of_mem _ (List.mem_cons_self ..))))) | (go_at_call 31; refine (lspan_any _ _ _).mono ?_; rintro e wb ⟨rfl, hb⟩; have HRq := Lib.hid (Frm.below (w := w) (bs := [(w6.heap.size, (stBox s (.slice A cs.length c))), (w5.heap.size, (spBox lo1 hi1)), (w3.heap.size, (spBox lo0 hi0)), (w.heap.size, (stBox s (.slice A cs.length c)))]) (by (repeat (with_reducible first | exact HR.out | apply Frm.drew | apply Frm.alloc))) hb); have HO2 := Lib.hid (HO1.out.below hb); have hs2 := hb.size; clear HR hb x0 x1 x2 x3; have HR := HRq; clear HRq; have x0 := HR.out.cells (List.mem_cons_self ..); have x1 := HR.out.cells (List.mem_cons_of_mem _ (List.mem_cons_self ..)); have x2 := HR.out.cells (List.mem_cons_of_mem _ (List.mem_cons_of_mem _ (List.mem_cons_self ..))); have x3 := HR.out.cells (List.mem_cons_of_mem _ (List.mem_cons_of_mem _ (List.mem_cons_of_mem _ (List.mem_cons_self ..))))) | (at_builtin; go_must (refine app_one (base := (w6.alloc (stBox s (.slice A cs.length c))).heap.size) (N := wb.heap.size) (v := v1) (cs := cs) (c := ⟨d, low, low + wi⟩) (by rfl) _ _ (by rfl) ?_ (World.ownsRow.alloc HO2.out _) ?_ (heap_new _ _ rfl) h12 ?_ ?_); rfl; rfl; exact (Nat.le_trans hs1 (Nat.le_trans hs2 (Nat.le_of_lt (by simp)))); intro g cap wc hO3 hg3 hat hlt; have hM : ∀ k, v1.ownBlock = some k → w.heap.size ≤ k := fun k hk => Nat.le_trans HRW.out.size (HO1.out.lt k hk).1; have hne : ∀ p ∈ ([(w6.heap.size, (stBox s (.slice A cs.length c))), (w5.heap.size, (spBox lo1 hi1)), (w3.heap.size, (spBox lo0 hi0)), (w.heap.size, (stBox s (.slice A cs.length c)))] : List (Nat × Obj)), some p.1 ≠ v1.ownBlock := fun p hp e => Nat.lt_irrefl _ (Nat.lt_of_lt_of_le (Array.getElem?_eq_some_iff.1 (HRW.out.h p hp)).1 (HO1.out.lt _ e.symm).1); have hPg : g ≠ w6.heap.size := own_ne hat (fun k hk => (HO1.out.lt k hk).1) (Nat.le_trans hs1 (Nat.le_trans hs2 (Nat.le_of_lt (by simp)))) (by simp); have HRq := Lib.hid (Frm.grownR (w := w) (bs := [(w6.heap.size, (stBox s (.slice A cs.length c))), (w5.heap.size, (spBox lo1 hi1)), (w3.heap.size, (spBox lo0 hi0)), (w.heap.size, (stBox s (.slice A cs.length c)))]) (by (repeat (with_reducible first | exact HR.out | apply Frm.drew | apply Frm.alloc))) hg3 hM hne); have HO3 := Lib.hid hO3; have HPG := Lib.hid hPg; clear HR x0 x1 x2 x3 hg3 hM hne hat hlt hO3 hPg; have HR := HRq; clear HRq; have x0 := HR.out.cells (List.mem_cons_self ..); have x1 := HR.out.cells (List.mem_cons_of_mem _ (List.mem_cons_self ..)); have x2 := HR.out.cells (List.mem_cons_of_mem _ (List.mem_cons_of_mem _ (List.mem_cons_self ..))); have x3 := HR.out.cells (List.mem_cons_of_mem _ (List.mem_cons_of_mem _ (List.mem_cons_of_mem _ (List.mem_cons_self ..)))); have xf := HR.out.free (List.mem_cons_self ..)))
      have hP0 : w.heap.size ≤ w6.heap.size := hP00
      have HRq := Lib.hid (show Frm w [(w6.heap.size, (stBox s (.slice (some ⟨g, 0, none⟩) (cs.length + 1) cap))), (w5.heap.size, (spBox lo1 hi1)), (w3.heap.size, (spBox lo0 hi0)), (w.heap.size, (stBox s (.slice A cs.length c)))] _ from Frm.put HR.out hP0 hPn 8 _)
      have HC2 := Lib.hid (own_chks (n := cs.length + 1) (cs := cs ++ [⟨d, low, low + wi⟩]) (ownsRow_setCell_other HO3.out (a := ⟨w6.heap.size, 8, none⟩) (fun e => HPG.out (by simpa [Value.ownBlock] using e)) (.slice (some ⟨g, 0, none⟩) (cs.length + 1) cap)) (by simp))
      clear HR HRW HO2 HO1 hO1 HO3 xf x0 x1 x2 x3
      have HR := HRq
      clear HRq
      have x0 := HR.out.cells (List.mem_cons_self ..)
      have x1 := HR.out.cells (List.mem_cons_of_mem _ (List.mem_cons_self ..))
      have x2 := HR.out.cells (List.mem_cons_of_mem _ (List.mem_cons_of_mem _ (List.mem_cons_self ..)))
      have x3 := HR.out.cells (List.mem_cons_of_mem _ (List.mem_cons_of_mem _ (List.mem_cons_of_mem _ (List.mem_cons_self ..))))
      rcases HNX.out with hno2 | ⟨d2, hda2⟩
      · have HN2 := Lib.hid hno2
        clear hno2
        go_wp2_with fail
        refine (due_none HC2.out HSO.out HF.out HW.out HAO.out HN2.out).mono ?_
        rintro e w7 ⟨rfl, hb⟩
        have HRq := Lib.hid (Frm.below (w := w) (bs := [(w6.heap.size, (stBox s (.slice (some ⟨g, 0, none⟩) (cs.length + 1) cap))), (w5.heap.size, (spBox lo1 hi1)), (w3.heap.size, (spBox lo0 hi0)), (w.heap.size, (stBox s (.slice A cs.length c)))]) (by (repeat (with_reducible first | exact HR.out | apply Frm.drew | apply Frm.alloc))) hb)
        clear HR HC2 hb x0 x1 x2 x3
        have HR := HRq
        clear HRq
        have x0 := HR.out.cells (List.mem_cons_self ..)
        have x1 := HR.out.cells (List.mem_cons_of_mem _ (List.mem_cons_self ..))
        have x2 := HR.out.cells (List.mem_cons_of_mem _ (List.mem_cons_of_mem _ (List.mem_cons_self ..)))
        have x3 := HR.out.cells (List.mem_cons_of_mem _ (List.mem_cons_of_mem _ (List.mem_cons_of_mem _ (List.mem_cons_self ..))))
        go_wp2_with fail
        refine (known_ex _ (HH.out.below (Frm.b (w := w) (bs := [(w6.heap.size, (stBox s (.slice (some ⟨g, 0, none⟩) (cs.length + 1) cap))), (w5.heap.size, (spBox lo1 hi1)), (w3.heap.size, (spBox lo0 hi0)), (w.heap.size, (stBox s (.slice A cs.length c)))]) (by (repeat (with_reducible first | exact HR.out | apply Frm.drew | apply Frm.alloc))))) (HT.out.below (Frm.b (w := w) (bs := [(w6.heap.size, (stBox s (.slice (some ⟨g, 0, none⟩) (cs.length + 1) cap))), (w5.heap.size, (spBox lo1 hi1)), (w3.heap.size, (spBox lo0 hi0)), (w.heap.size, (stBox s (.slice A cs.length c)))]) (by (repeat (with_reducible first | exact HR.out | apply Frm.drew | apply Frm.alloc)))))).mono ?_
        rintro e wz ⟨rfl, hbz⟩
        have HZ := Lib.hid (Frm.below (w := w) (bs := [(w6.heap.size, (stBox s (.slice (some ⟨g, 0, none⟩) (cs.length + 1) cap))), (w5.heap.size, (spBox lo1 hi1)), (w3.heap.size, (spBox lo0 hi0)), (w.heap.size, (stBox s (.slice A cs.length c)))]) (by (repeat (with_reducible first | exact HR.out | apply Frm.drew | apply Frm.alloc))) hbz).b
        clear hbz x0 x1 x2 x3
        go_wp2_with fail
        go_ret
        exact ⟨rfl, HZ.out⟩
      · have hlater : d < d2 := by
          rcases Int.lt_or_le d d2 with h | h
          · exact h
          · have h1 := HAF.out d2 hda2.ge h
            have h2 := hda2.wide
            omega
        have HN2 := Lib.hid hda2
        clear hda2
        go_wp2_with fail
        refine (due_some HC2.out HSO.out HF.out HW.out HAO.out d2 HN2.out).mono ?_
        rintro e w7 ⟨rfl, hb⟩
        have HRq := Lib.hid (Frm.below (w := w) (bs := [(w6.heap.size, (stBox s (.slice (some ⟨g, 0, none⟩) (cs.length + 1) cap))), (w5.heap.size, (spBox lo1 hi1)), (w3.heap.size, (spBox lo0 hi0)), (w.heap.size, (stBox s (.slice A cs.length c)))]) (by (repeat (with_reducible first | exact HR.out | apply Frm.drew | apply Frm.alloc))) hb)
        clear HR HC2 hb x0 x1 x2 x3
        have HR := HRq
        clear HRq
        have x0 := HR.out.cells (List.mem_cons_self ..)
        have x1 := HR.out.cells (List.mem_cons_of_mem _ (List.mem_cons_self ..))
        have x2 := HR.out.cells (List.mem_cons_of_mem _ (List.mem_cons_of_mem _ (List.mem_cons_self ..)))
        have x3 := HR.out.cells (List.mem_cons_of_mem _ (List.mem_cons_of_mem _ (List.mem_cons_of_mem _ (List.mem_cons_self ..))))
        go_wp2_with fail
        refine (known_ex _ (HH.out.below (Frm.b (w := w) (bs := [(w6.heap.size, (stBox s (.slice (some ⟨g, 0, none⟩) (cs.length + 1) cap))), (w5.heap.size, (spBox lo1 hi1)), (w3.heap.size, (spBox lo0 hi0)), (w.heap.size, (stBox s (.slice A cs.length c)))]) (by (repeat (with_reducible first | exact HR.out | apply Frm.drew | apply Frm.alloc))))) (HT.out.below (Frm.b (w := w) (bs := [(w6.heap.size, (stBox s (.slice (some ⟨g, 0, none⟩) (cs.length + 1) cap))), (w5.heap.size, (spBox lo1 hi1)), (w3.heap.size, (spBox lo0 hi0)), (w.heap.size, (stBox s (.slice A cs.length c)))]) (by (repeat (with_reducible first | exact HR.out | apply Frm.drew | apply Frm.alloc)))))).mono ?_
        rintro e wz ⟨rfl, hbz⟩
        have HZ := Lib.hid (Frm.below (w := w) (bs := [(w6.heap.size, (stBox s (.slice (some ⟨g, 0, none⟩) (cs.length + 1) cap))), (w5.heap.size, (spBox lo1 hi1)), (w3.heap.size, (spBox lo0 hi0)), (w.heap.size, (stBox s (.slice A cs.length c)))]) (by (repeat (with_reducible first | exact HR.out | apply Frm.drew | apply Frm.alloc))) hbz).b
        clear hbz x0 x1 x2 x3
        go_wp2_with fail
        go_ret
        exact ⟨rfl, HZ.out⟩
end Go.Proofs.YtipckgojoanokaaDoor
