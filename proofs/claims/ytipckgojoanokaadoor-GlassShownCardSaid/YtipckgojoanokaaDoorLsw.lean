/- The law GlassShown, walked. -/
import Derived.Test.YtipckgojoanokaaDoorOnl
import Derived.Test.YtipckgojoanokaaDoorRtr
set_option linter.unusedVariables false
set_option linter.unusedSimpArgs false
namespace Go.Proofs.YtipckgojoanokaaDoor
open Go.RowKit Go.Maps

theorem pair_sound {s : Stn} {cs : List Chk} {x y : Chk} {i k : Nat} (hs : soundB s cs = true) (hx : cs[i]? = some x) (hy : cs[k]? = some y) : soundB s [x, y] = true := by
  have h1 := List.mem_of_getElem? hx
  have h2 := List.mem_of_getElem? hy
  simp only [soundB, Bool.and_eq_true, List.all_eq_true] at hs ⊢
  obtain ⟨⟨⟨⟨⟨⟨⟨_, ha⟩, hb⟩, hc⟩, hd⟩, he⟩, hf⟩, hg⟩ := hs
  refine ⟨⟨⟨⟨⟨⟨⟨by simp, fun z hz => ?_⟩, hb⟩, hc⟩, hd⟩, he⟩, hf⟩, hg⟩
  rcases List.mem_cons.1 hz with rfl | hz
  · exact ha _ h1
  · obtain rfl : z = y := by simpa using hz
    exact ha _ h2
theorem pair_agreed {s : Stn} {x y : Chk} (h : contraB s x y = false) : Agreed s [x, y] := fun i j hij ⟨a, b, ha, hb, hc⟩ => by
  have hj : j < 2 := (List.getElem?_eq_some_iff.1 hb).1
  obtain rfl : j = 1 := by omega
  obtain rfl : i = 0 := by omega
  cases ha; cases hb
  rw [h] at hc; cases hc
theorem pair_first {s : Stn} {x y : Chk} (h : contraB s x y = true) : First s [x, y] 0 1 :=
  ⟨by omega, ⟨x, y, rfl, rfl, h⟩, fun i' j' hij _ => by omega⟩

set_option maxHeartbeats 40000000 in
set_option maxRecDepth 100000 in
theorem lawGlassShown {s : Stn} {v : Value} {cs : List Chk} {p q : Int} {w : World} (hc : Chks w v cs) (hh : Holds w) (ht : Tab w) :
    Calls Tryd.prog 7 #[stV s v, .int .i64 p, .int .i64 q] w fun e w' => e = .returned (.bool true) ∧ Below w.heap.size w w' := by
  obtain ⟨A, c, rfl⟩ := hc.shape2
  have HR : Hid (Frm w [(w.heap.size, (stBox s (.slice A cs.length c)))] (w.alloc (stBox s (.slice A cs.length c)))) := Lib.hid ((Frm.nil w).add _ (by simp))
  have HC := Lib.hid (hc.below HR.out.b)
  have HH := Lib.hid hh
  have HT := Lib.hid ht
  have HC0 := Lib.hid hc
  clear hc hh ht
  have x0 := HR.out.cells (List.mem_cons_self ..)
  go_enter Tryd.func7, Tryd.ntmps7
  go_wp2_with fail
  refine (short_any (by first | exact HC.out | exact HC.out.drew | exact HC.out.below (below_al (Below.refl _ _) _) | exact HC.out.drew.below (below_al (Below.refl _ _) _) | exact (HC.out.below (below_al (Below.refl _ _) _)).drew)).mono ?_
  rintro e w1 ⟨rfl, hb⟩
  have HRq := Lib.hid (Frm.below (w := w) (bs := [(w.heap.size, (stBox s (.slice A cs.length c)))]) (by (repeat (with_reducible first | exact HR.out | apply Frm.drew | apply Frm.alloc))) hb)
  have HCq := Lib.hid (Chks.below (cs := cs) (by first | exact HC.out | exact HC.out.drew | exact HC.out.below (below_al (Below.refl _ _) _) | exact HC.out.drew.below (below_al (Below.refl _ _) _) | exact (HC.out.below (below_al (Below.refl _ _) _)).drew) hb)
  clear HR HC hb x0
  have HR := HRq
  have HC := HCq
  clear HRq HCq
  have x0 := HR.out.cells (List.mem_cons_self ..)
  by_cases h16 : cs.length ≤ 16
  rotate_left
  · go_wp2_with fail
    refine (known_ex _ (HH.out.below (Frm.b (w := w) (bs := [(w.heap.size, (stBox s (.slice A cs.length c)))]) (by (repeat (with_reducible first | exact HR.out | apply Frm.drew | apply Frm.alloc))))) (HT.out.below (Frm.b (w := w) (bs := [(w.heap.size, (stBox s (.slice A cs.length c)))]) (by (repeat (with_reducible first | exact HR.out | apply Frm.drew | apply Frm.alloc)))))).mono ?_
    rintro e wz ⟨rfl, hbz⟩
    have HZ := Lib.hid (Frm.below (w := w) (bs := [(w.heap.size, (stBox s (.slice A cs.length c)))]) (by (repeat (with_reducible first | exact HR.out | apply Frm.drew | apply Frm.alloc))) hbz).b
    clear hbz x0
    go_wp2_with fail
    go_ret
    exact ⟨rfl, HZ.out⟩
  cases hs : soundB s cs
  · have HS := Lib.hid hs
    clear hs
    go_wp2_with fail
    refine (rStation_is (by first | exact HC.out | exact HC.out.drew | exact HC.out.below (below_al (Below.refl _ _) _) | exact HC.out.drew.below (below_al (Below.refl _ _) _) | exact (HC.out.below (below_al (Below.refl _ _) _)).drew) HS.out).mono ?_
    rintro e w2 ⟨rfl, hb⟩
    have HRq := Lib.hid (Frm.below (w := w) (bs := [(w.heap.size, (stBox s (.slice A cs.length c)))]) (by (repeat (with_reducible first | exact HR.out | apply Frm.drew | apply Frm.alloc))) hb)
    have HCq := Lib.hid (Chks.below (cs := cs) (by first | exact HC.out | exact HC.out.drew | exact HC.out.below (below_al (Below.refl _ _) _) | exact HC.out.drew.below (below_al (Below.refl _ _) _) | exact (HC.out.below (below_al (Below.refl _ _) _)).drew) hb)
    clear HR HC hb x0
    have HR := HRq
    have HC := HCq
    clear HRq HCq
    have x0 := HR.out.cells (List.mem_cons_self ..)
    go_wp2_with fail
    refine (known_ex _ (HH.out.below (Frm.b (w := w) (bs := [(w.heap.size, (stBox s (.slice A cs.length c)))]) (by (repeat (with_reducible first | exact HR.out | apply Frm.drew | apply Frm.alloc))))) (HT.out.below (Frm.b (w := w) (bs := [(w.heap.size, (stBox s (.slice A cs.length c)))]) (by (repeat (with_reducible first | exact HR.out | apply Frm.drew | apply Frm.alloc)))))).mono ?_
    rintro e wz ⟨rfl, hbz⟩
    have HZ := Lib.hid (Frm.below (w := w) (bs := [(w.heap.size, (stBox s (.slice A cs.length c)))]) (by (repeat (with_reducible first | exact HR.out | apply Frm.drew | apply Frm.alloc))) hbz).b
    clear hbz x0
    go_wp2_with fail
    go_ret
    exact ⟨rfl, HZ.out⟩
  have HS := Lib.hid hs
  have hg := good_of_soundB hs
  have h12 := hg.sane.len
  clear hs
  go_wp2_with fail
  refine (rStation_is (by first | exact HC.out | exact HC.out.drew | exact HC.out.below (below_al (Below.refl _ _) _) | exact HC.out.drew.below (below_al (Below.refl _ _) _) | exact (HC.out.below (below_al (Below.refl _ _) _)).drew) HS.out).mono ?_
  rintro e w2 ⟨rfl, hb⟩
  have HRq := Lib.hid (Frm.below (w := w) (bs := [(w.heap.size, (stBox s (.slice A cs.length c)))]) (by (repeat (with_reducible first | exact HR.out | apply Frm.drew | apply Frm.alloc))) hb)
  have HCq := Lib.hid (Chks.below (cs := cs) (by first | exact HC.out | exact HC.out.drew | exact HC.out.below (below_al (Below.refl _ _) _) | exact HC.out.drew.below (below_al (Below.refl _ _) _) | exact (HC.out.below (below_al (Below.refl _ _) _)).drew) hb)
  clear HR HC hb x0
  have HR := HRq
  have HC := HCq
  clear HRq HCq
  have x0 := HR.out.cells (List.mem_cons_self ..)
  by_cases n0 : p < 0
  · go_wp2_with fail
    refine (known_ex _ (HH.out.below (Frm.b (w := w) (bs := [(w.heap.size, (stBox s (.slice A cs.length c)))]) (by (repeat (with_reducible first | exact HR.out | apply Frm.drew | apply Frm.alloc))))) (HT.out.below (Frm.b (w := w) (bs := [(w.heap.size, (stBox s (.slice A cs.length c)))]) (by (repeat (with_reducible first | exact HR.out | apply Frm.drew | apply Frm.alloc)))))).mono ?_
    rintro e wz ⟨rfl, hbz⟩
    have HZ := Lib.hid (Frm.below (w := w) (bs := [(w.heap.size, (stBox s (.slice A cs.length c)))]) (by (repeat (with_reducible first | exact HR.out | apply Frm.drew | apply Frm.alloc))) hbz).b
    clear hbz x0
    go_wp2_with fail
    go_ret
    exact ⟨rfl, HZ.out⟩
  by_cases n1 : q ≤ p
  · go_wp2_with fail
    refine (known_ex _ (HH.out.below (Frm.b (w := w) (bs := [(w.heap.size, (stBox s (.slice A cs.length c)))]) (by (repeat (with_reducible first | exact HR.out | apply Frm.drew | apply Frm.alloc))))) (HT.out.below (Frm.b (w := w) (bs := [(w.heap.size, (stBox s (.slice A cs.length c)))]) (by (repeat (with_reducible first | exact HR.out | apply Frm.drew | apply Frm.alloc)))))).mono ?_
    rintro e wz ⟨rfl, hbz⟩
    have HZ := Lib.hid (Frm.below (w := w) (bs := [(w.heap.size, (stBox s (.slice A cs.length c)))]) (by (repeat (with_reducible first | exact HR.out | apply Frm.drew | apply Frm.alloc))) hbz).b
    clear hbz x0
    go_wp2_with fail
    go_ret
    exact ⟨rfl, HZ.out⟩
  by_cases n2 : (cs.length : Int) ≤ q
  · go_wp2_with fail
    refine (known_ex _ (HH.out.below (Frm.b (w := w) (bs := [(w.heap.size, (stBox s (.slice A cs.length c)))]) (by (repeat (with_reducible first | exact HR.out | apply Frm.drew | apply Frm.alloc))))) (HT.out.below (Frm.b (w := w) (bs := [(w.heap.size, (stBox s (.slice A cs.length c)))]) (by (repeat (with_reducible first | exact HR.out | apply Frm.drew | apply Frm.alloc)))))).mono ?_
    rintro e wz ⟨rfl, hbz⟩
    have HZ := Lib.hid (Frm.below (w := w) (bs := [(w.heap.size, (stBox s (.slice A cs.length c)))]) (by (repeat (with_reducible first | exact HR.out | apply Frm.drew | apply Frm.alloc))) hbz).b
    clear hbz x0
    go_wp2_with fail
    go_ret
    exact ⟨rfl, HZ.out⟩
  obtain ⟨i, rfl⟩ : ∃ n : Nat, p = n := ⟨p.toNat, by omega⟩
  obtain ⟨k, rfl⟩ : ∃ n : Nat, q = n := ⟨q.toNat, by omega⟩
  obtain ⟨x, hx⟩ : ∃ x, cs[i]? = some x := ⟨_, List.getElem?_eq_getElem (by omega)⟩
  obtain ⟨y, hy⟩ : ∃ y, cs[k]? = some y := ⟨_, List.getElem?_eq_getElem (by omega)⟩
  have HX := Lib.hid hx
  have HY := Lib.hid hy
  have HPS := Lib.hid (pair_sound HS.out hx hy)
  rcases agreed_or s cs with hag | ⟨a, b, hf⟩
  · have HA := Lib.hid hag
    have HQ := Lib.hid (hag.no (show i < k by omega) hx hy)
    clear hag hx hy
    have HJ : Hid (∀ W v, Chks W v [x, y] → Calls Tryd.prog 18 #[stV s v, .int .i64 0] W fun z w' => z = .returned (.tuple #[spV (lowF s 0 [x, y]) (highF s 0 [x, y]), .int .i64 0]) ∧ Below W.heap.size W w') := Lib.hid (fun W v h => index_ok h HPS.out rfl (pair_agreed HQ.out))
    generalize lowF s 0 [x, y] = l2 at *
    generalize highF s 0 [x, y] = h2 at *
    have HI : Hid (∀ W, Chks W (.slice A cs.length c) cs → Calls Tryd.prog 18 #[stV s (.slice A cs.length c), .int .i64 0] W fun z w' => z = .returned (.tuple #[spV (lowF s 0 cs) (highF s 0 cs), .int .i64 0]) ∧ Below W.heap.size W w') := Lib.hid (fun W h => index_ok h HS.out rfl HA.out)
    generalize lowF s 0 cs = l0 at *
    generalize highF s 0 cs = h0 at *
    go_wp2_with fail
    refine (glassClash_none (by first | exact HC.out | exact HC.out.drew | exact HC.out.below (below_al (Below.refl _ _) _) | exact HC.out.drew.below (below_al (Below.refl _ _) _) | exact (HC.out.below (below_al (Below.refl _ _) _)).drew) HS.out HA.out).mono ?_
    rintro e w3 ⟨rfl, hb⟩
    have HRq := Lib.hid (Frm.below (w := w) (bs := [(w.heap.size, (stBox s (.slice A cs.length c)))]) (by (repeat (with_reducible first | exact HR.out | apply Frm.drew | apply Frm.alloc))) hb)
    have HCq := Lib.hid (Chks.below (cs := cs) (by first | exact HC.out | exact HC.out.drew | exact HC.out.below (below_al (Below.refl _ _) _) | exact HC.out.drew.below (below_al (Below.refl _ _) _) | exact (HC.out.below (below_al (Below.refl _ _) _)).drew) hb)
    clear HR HC hb x0
    have HR := HRq
    have HC := HCq
    clear HRq HCq
    have x0 := HR.out.cells (List.mem_cons_self ..)
    go_wp2_with fail
    refine (HI.out _ (by first | exact HC.out | exact HC.out.drew | exact HC.out.below (below_al (Below.refl _ _) _) | exact HC.out.drew.below (below_al (Below.refl _ _) _) | exact (HC.out.below (below_al (Below.refl _ _) _)).drew)).mono ?_
    rintro e w4 ⟨rfl, hb⟩
    have HRq := Lib.hid ((Frm.below (w := w) (bs := [(w.heap.size, (stBox s (.slice A cs.length c)))]) (by (repeat (with_reducible first | exact HR.out | apply Frm.drew | apply Frm.alloc))) hb).add (spBox l0 h0) rfl)
    have HCq := Lib.hid (Chks.below (cs := cs) (by first | exact HC.out | exact HC.out.drew | exact HC.out.below (below_al (Below.refl _ _) _) | exact HC.out.drew.below (below_al (Below.refl _ _) _) | exact (HC.out.below (below_al (Below.refl _ _) _)).drew) hb |>.below (below_al (Below.refl _ _) (spBox l0 h0)))
    clear HR HC hb x0
    have HR := HRq
    have HC := HCq
    clear HRq HCq
    have x0 := HR.out.cells (List.mem_cons_self ..)
    have x1 := HR.out.cells (List.mem_cons_of_mem _ (List.mem_cons_self ..))
    go_wp2_with fail
    refine (rOnly (by first | exact HC.out | exact HC.out.drew | exact HC.out.below (below_al (Below.refl _ _) _) | exact HC.out.drew.below (below_al (Below.refl _ _) _) | exact (HC.out.below (below_al (Below.refl _ _) _)).drew) h12 HX.out HY.out).mono ?_
    rintro e w5 ⟨v2, rfl, hC2, hb⟩
    have HRq := Lib.hid (Frm.below (w := w) (bs := [(w4.heap.size, (spBox l0 h0)), (w.heap.size, (stBox s (.slice A cs.length c)))]) (by (repeat (with_reducible first | exact HR.out | apply Frm.drew | apply Frm.alloc))) hb)
    have HCq := Lib.hid (Chks.below (cs := cs) (by first | exact HC.out | exact HC.out.drew | exact HC.out.below (below_al (Below.refl _ _) _) | exact HC.out.drew.below (below_al (Below.refl _ _) _) | exact (HC.out.below (below_al (Below.refl _ _) _)).drew) hb)
    have HV2 := Lib.hid hC2
    clear hC2
    clear HR HC hb x0 x1
    have HR := HRq
    have HC := HCq
    clear HRq HCq
    have x0 := HR.out.cells (List.mem_cons_self ..)
    have x1 := HR.out.cells (List.mem_cons_of_mem _ (List.mem_cons_self ..))
    go_wp2_with fail
    refine (HJ.out _ _ HV2.out).mono ?_
    rintro e w6 ⟨rfl, hb⟩
    have HRq := Lib.hid ((Frm.below (w := w) (bs := [(w4.heap.size, (spBox l0 h0)), (w.heap.size, (stBox s (.slice A cs.length c)))]) (by (repeat (with_reducible first | exact HR.out | apply Frm.drew | apply Frm.alloc))) hb).add (spBox l2 h2) rfl)
    have HCq := Lib.hid (Chks.below (cs := cs) (by first | exact HC.out | exact HC.out.drew | exact HC.out.below (below_al (Below.refl _ _) _) | exact HC.out.drew.below (below_al (Below.refl _ _) _) | exact (HC.out.below (below_al (Below.refl _ _) _)).drew) hb |>.below (below_al (Below.refl _ _) (spBox l2 h2)))
    clear HR HC hb x0 x1
    have HR := HRq
    have HC := HCq
    clear HRq HCq
    have x0 := HR.out.cells (List.mem_cons_self ..)
    have x1 := HR.out.cells (List.mem_cons_of_mem _ (List.mem_cons_self ..))
    have x2 := HR.out.cells (List.mem_cons_of_mem _ (List.mem_cons_of_mem _ (List.mem_cons_self ..)))
    go_wp2_with fail
    refine (known_ex _ (HH.out.below (Frm.b (w := w) (bs := [(w6.heap.size, (spBox l2 h2)), (w4.heap.size, (spBox l0 h0)), (w.heap.size, (stBox s (.slice A cs.length c)))]) (by (repeat (with_reducible first | exact HR.out | apply Frm.drew | apply Frm.alloc))))) (HT.out.below (Frm.b (w := w) (bs := [(w6.heap.size, (spBox l2 h2)), (w4.heap.size, (spBox l0 h0)), (w.heap.size, (stBox s (.slice A cs.length c)))]) (by (repeat (with_reducible first | exact HR.out | apply Frm.drew | apply Frm.alloc)))))).mono ?_
    rintro e wz ⟨rfl, hbz⟩
    have HZ := Lib.hid (Frm.below (w := w) (bs := [(w6.heap.size, (spBox l2 h2)), (w4.heap.size, (spBox l0 h0)), (w.heap.size, (stBox s (.slice A cs.length c)))]) (by (repeat (with_reducible first | exact HR.out | apply Frm.drew | apply Frm.alloc))) hbz).b
    clear hbz x0 x1 x2
    go_wp2_with fail
    go_ret
    exact ⟨rfl, HZ.out⟩
  · obtain ⟨hab, ⟨xa, ya, hxa, hya, hca⟩, hfirst⟩ := hf
    have hal := (List.getElem?_eq_some_iff.1 hxa).1
    have hbl := (List.getElem?_eq_some_iff.1 hya).1
    have HF := Lib.hid (show First s cs a b from ⟨hab, ⟨xa, ya, hxa, hya, hca⟩, hfirst⟩)
    have HXA := Lib.hid hxa
    have HYA := Lib.hid hya
    have HCA := Lib.hid hca
    have HPA := Lib.hid (pair_sound HS.out hxa hya)
    clear hxa hya hca
    have HO : Hid (∀ W v, Chks W v [xa, ya] → Calls Tryd.prog 18 #[stV s v, .int .i64 0] W fun z w' => z = .returned (.tuple #[spV 0 0, .int .i64 7]) ∧ Below W.heap.size W w') := Lib.hid (fun W v h => index_rule h HPA.out rfl (pair_first HCA.out))
    have HI : Hid (∀ W, Chks W (.slice A cs.length c) cs → Calls Tryd.prog 18 #[stV s (.slice A cs.length c), .int .i64 0] W fun z w' => z = .returned (.tuple #[spV 0 0, .int .i64 7]) ∧ Below W.heap.size W w') := Lib.hid (fun W h => index_rule h HS.out rfl HF.out)
    cases hq : contraB s x y
    · have HQ := Lib.hid hq
      clear hq hx hy hfirst
      have HJ : Hid (∀ W v, Chks W v [x, y] → Calls Tryd.prog 18 #[stV s v, .int .i64 0] W fun z w' => z = .returned (.tuple #[spV (lowF s 0 [x, y]) (highF s 0 [x, y]), .int .i64 0]) ∧ Below W.heap.size W w') := Lib.hid (fun W v h => index_ok h HPS.out rfl (pair_agreed HQ.out))
      generalize lowF s 0 [x, y] = l2 at *
      generalize highF s 0 [x, y] = h2 at *
      have hcase : i < a ∨ a < i ∨ (i = a ∧ k < b) ∨ (i = a ∧ b ≤ k) := by omega
      rcases hcase with ho | ho | ⟨rfl, ho⟩ | ⟨rfl, ho⟩
      · go_wp2_with fail
        refine (glassClash_first (by first | exact HC.out | exact HC.out.drew | exact HC.out.below (below_al (Below.refl _ _) _) | exact HC.out.drew.below (below_al (Below.refl _ _) _) | exact (HC.out.below (below_al (Below.refl _ _) _)).drew) HS.out HF.out).mono ?_
        rintro e w3 ⟨rfl, hb⟩
        have HRq := Lib.hid (Frm.below (w := w) (bs := [(w.heap.size, (stBox s (.slice A cs.length c)))]) (by (repeat (with_reducible first | exact HR.out | apply Frm.drew | apply Frm.alloc))) hb)
        have HCq := Lib.hid (Chks.below (cs := cs) (by first | exact HC.out | exact HC.out.drew | exact HC.out.below (below_al (Below.refl _ _) _) | exact HC.out.drew.below (below_al (Below.refl _ _) _) | exact (HC.out.below (below_al (Below.refl _ _) _)).drew) hb)
        clear HR HC hb x0
        have HR := HRq
        have HC := HCq
        clear HRq HCq
        have x0 := HR.out.cells (List.mem_cons_self ..)
        go_wp2_with fail
        refine (HI.out _ (by first | exact HC.out | exact HC.out.drew | exact HC.out.below (below_al (Below.refl _ _) _) | exact HC.out.drew.below (below_al (Below.refl _ _) _) | exact (HC.out.below (below_al (Below.refl _ _) _)).drew)).mono ?_
        rintro e w4 ⟨rfl, hb⟩
        have HRq := Lib.hid ((Frm.below (w := w) (bs := [(w.heap.size, (stBox s (.slice A cs.length c)))]) (by (repeat (with_reducible first | exact HR.out | apply Frm.drew | apply Frm.alloc))) hb).add (spBox 0 0) rfl)
        have HCq := Lib.hid (Chks.below (cs := cs) (by first | exact HC.out | exact HC.out.drew | exact HC.out.below (below_al (Below.refl _ _) _) | exact HC.out.drew.below (below_al (Below.refl _ _) _) | exact (HC.out.below (below_al (Below.refl _ _) _)).drew) hb |>.below (below_al (Below.refl _ _) (spBox 0 0)))
        clear HR HC hb x0
        have HR := HRq
        have HC := HCq
        clear HRq HCq
        have x0 := HR.out.cells (List.mem_cons_self ..)
        have x1 := HR.out.cells (List.mem_cons_of_mem _ (List.mem_cons_self ..))
        go_wp2_with fail
        refine (rOnly (by first | exact HC.out | exact HC.out.drew | exact HC.out.below (below_al (Below.refl _ _) _) | exact HC.out.drew.below (below_al (Below.refl _ _) _) | exact (HC.out.below (below_al (Below.refl _ _) _)).drew) h12 HX.out HY.out).mono ?_
        rintro e w5 ⟨v2, rfl, hC2, hb⟩
        have HRq := Lib.hid (Frm.below (w := w) (bs := [(w4.heap.size, (spBox 0 0)), (w.heap.size, (stBox s (.slice A cs.length c)))]) (by (repeat (with_reducible first | exact HR.out | apply Frm.drew | apply Frm.alloc))) hb)
        have HCq := Lib.hid (Chks.below (cs := cs) (by first | exact HC.out | exact HC.out.drew | exact HC.out.below (below_al (Below.refl _ _) _) | exact HC.out.drew.below (below_al (Below.refl _ _) _) | exact (HC.out.below (below_al (Below.refl _ _) _)).drew) hb)
        have HV2 := Lib.hid hC2
        clear hC2
        clear HR HC hb x0 x1
        have HR := HRq
        have HC := HCq
        clear HRq HCq
        have x0 := HR.out.cells (List.mem_cons_self ..)
        have x1 := HR.out.cells (List.mem_cons_of_mem _ (List.mem_cons_self ..))
        go_wp2_with fail
        refine (HJ.out _ _ HV2.out).mono ?_
        rintro e w6 ⟨rfl, hb⟩
        have HRq := Lib.hid ((Frm.below (w := w) (bs := [(w4.heap.size, (spBox 0 0)), (w.heap.size, (stBox s (.slice A cs.length c)))]) (by (repeat (with_reducible first | exact HR.out | apply Frm.drew | apply Frm.alloc))) hb).add (spBox l2 h2) rfl)
        have HCq := Lib.hid (Chks.below (cs := cs) (by first | exact HC.out | exact HC.out.drew | exact HC.out.below (below_al (Below.refl _ _) _) | exact HC.out.drew.below (below_al (Below.refl _ _) _) | exact (HC.out.below (below_al (Below.refl _ _) _)).drew) hb |>.below (below_al (Below.refl _ _) (spBox l2 h2)))
        clear HR HC hb x0 x1
        have HR := HRq
        have HC := HCq
        clear HRq HCq
        have x0 := HR.out.cells (List.mem_cons_self ..)
        have x1 := HR.out.cells (List.mem_cons_of_mem _ (List.mem_cons_self ..))
        have x2 := HR.out.cells (List.mem_cons_of_mem _ (List.mem_cons_of_mem _ (List.mem_cons_self ..)))
        go_wp2_with fail
        refine (rOnly (by first | exact HC.out | exact HC.out.drew | exact HC.out.below (below_al (Below.refl _ _) _) | exact HC.out.drew.below (below_al (Below.refl _ _) _) | exact (HC.out.below (below_al (Below.refl _ _) _)).drew) h12 HXA.out HYA.out).mono ?_
        rintro e w7 ⟨v3, rfl, hC2, hb⟩
        have HRq := Lib.hid (Frm.below (w := w) (bs := [(w6.heap.size, (spBox l2 h2)), (w4.heap.size, (spBox 0 0)), (w.heap.size, (stBox s (.slice A cs.length c)))]) (by (repeat (with_reducible first | exact HR.out | apply Frm.drew | apply Frm.alloc))) hb)
        have HCq := Lib.hid (Chks.below (cs := cs) (by first | exact HC.out | exact HC.out.drew | exact HC.out.below (below_al (Below.refl _ _) _) | exact HC.out.drew.below (below_al (Below.refl _ _) _) | exact (HC.out.below (below_al (Below.refl _ _) _)).drew) hb)
        have HV3 := Lib.hid hC2
        clear hC2
        clear HR HC hb x0 x1 x2
        have HR := HRq
        have HC := HCq
        clear HRq HCq
        have x0 := HR.out.cells (List.mem_cons_self ..)
        have x1 := HR.out.cells (List.mem_cons_of_mem _ (List.mem_cons_self ..))
        have x2 := HR.out.cells (List.mem_cons_of_mem _ (List.mem_cons_of_mem _ (List.mem_cons_self ..)))
        go_wp2_with fail
        refine (HO.out _ _ HV3.out).mono ?_
        rintro e w8 ⟨rfl, hb⟩
        have HRq := Lib.hid ((Frm.below (w := w) (bs := [(w6.heap.size, (spBox l2 h2)), (w4.heap.size, (spBox 0 0)), (w.heap.size, (stBox s (.slice A cs.length c)))]) (by (repeat (with_reducible first | exact HR.out | apply Frm.drew | apply Frm.alloc))) hb).add (spBox 0 0) rfl)
        have HCq := Lib.hid (Chks.below (cs := cs) (by first | exact HC.out | exact HC.out.drew | exact HC.out.below (below_al (Below.refl _ _) _) | exact HC.out.drew.below (below_al (Below.refl _ _) _) | exact (HC.out.below (below_al (Below.refl _ _) _)).drew) hb |>.below (below_al (Below.refl _ _) (spBox 0 0)))
        clear HR HC hb x0 x1 x2
        have HR := HRq
        have HC := HCq
        clear HRq HCq
        have x0 := HR.out.cells (List.mem_cons_self ..)
        have x1 := HR.out.cells (List.mem_cons_of_mem _ (List.mem_cons_self ..))
        have x2 := HR.out.cells (List.mem_cons_of_mem _ (List.mem_cons_of_mem _ (List.mem_cons_self ..)))
        have x3 := HR.out.cells (List.mem_cons_of_mem _ (List.mem_cons_of_mem _ (List.mem_cons_of_mem _ (List.mem_cons_self ..))))
        go_wp2_with fail
        refine (known_ex _ (HH.out.below (Frm.b (w := w) (bs := [(w8.heap.size, (spBox 0 0)), (w6.heap.size, (spBox l2 h2)), (w4.heap.size, (spBox 0 0)), (w.heap.size, (stBox s (.slice A cs.length c)))]) (by (repeat (with_reducible first | exact HR.out | apply Frm.drew | apply Frm.alloc))))) (HT.out.below (Frm.b (w := w) (bs := [(w8.heap.size, (spBox 0 0)), (w6.heap.size, (spBox l2 h2)), (w4.heap.size, (spBox 0 0)), (w.heap.size, (stBox s (.slice A cs.length c)))]) (by (repeat (with_reducible first | exact HR.out | apply Frm.drew | apply Frm.alloc)))))).mono ?_
        rintro e wz ⟨rfl, hbz⟩
        have HZ := Lib.hid (Frm.below (w := w) (bs := [(w8.heap.size, (spBox 0 0)), (w6.heap.size, (spBox l2 h2)), (w4.heap.size, (spBox 0 0)), (w.heap.size, (stBox s (.slice A cs.length c)))]) (by (repeat (with_reducible first | exact HR.out | apply Frm.drew | apply Frm.alloc))) hbz).b
        clear hbz x0 x1 x2 x3
        go_wp2_with fail
        go_ret
        exact ⟨rfl, HZ.out⟩
      · go_wp2_with fail
        refine (glassClash_first (by first | exact HC.out | exact HC.out.drew | exact HC.out.below (below_al (Below.refl _ _) _) | exact HC.out.drew.below (below_al (Below.refl _ _) _) | exact (HC.out.below (below_al (Below.refl _ _) _)).drew) HS.out HF.out).mono ?_
        rintro e w3 ⟨rfl, hb⟩
        have HRq := Lib.hid (Frm.below (w := w) (bs := [(w.heap.size, (stBox s (.slice A cs.length c)))]) (by (repeat (with_reducible first | exact HR.out | apply Frm.drew | apply Frm.alloc))) hb)
        have HCq := Lib.hid (Chks.below (cs := cs) (by first | exact HC.out | exact HC.out.drew | exact HC.out.below (below_al (Below.refl _ _) _) | exact HC.out.drew.below (below_al (Below.refl _ _) _) | exact (HC.out.below (below_al (Below.refl _ _) _)).drew) hb)
        clear HR HC hb x0
        have HR := HRq
        have HC := HCq
        clear HRq HCq
        have x0 := HR.out.cells (List.mem_cons_self ..)
        go_wp2_with fail
        refine (HI.out _ (by first | exact HC.out | exact HC.out.drew | exact HC.out.below (below_al (Below.refl _ _) _) | exact HC.out.drew.below (below_al (Below.refl _ _) _) | exact (HC.out.below (below_al (Below.refl _ _) _)).drew)).mono ?_
        rintro e w4 ⟨rfl, hb⟩
        have HRq := Lib.hid ((Frm.below (w := w) (bs := [(w.heap.size, (stBox s (.slice A cs.length c)))]) (by (repeat (with_reducible first | exact HR.out | apply Frm.drew | apply Frm.alloc))) hb).add (spBox 0 0) rfl)
        have HCq := Lib.hid (Chks.below (cs := cs) (by first | exact HC.out | exact HC.out.drew | exact HC.out.below (below_al (Below.refl _ _) _) | exact HC.out.drew.below (below_al (Below.refl _ _) _) | exact (HC.out.below (below_al (Below.refl _ _) _)).drew) hb |>.below (below_al (Below.refl _ _) (spBox 0 0)))
        clear HR HC hb x0
        have HR := HRq
        have HC := HCq
        clear HRq HCq
        have x0 := HR.out.cells (List.mem_cons_self ..)
        have x1 := HR.out.cells (List.mem_cons_of_mem _ (List.mem_cons_self ..))
        go_wp2_with fail
        refine (rOnly (by first | exact HC.out | exact HC.out.drew | exact HC.out.below (below_al (Below.refl _ _) _) | exact HC.out.drew.below (below_al (Below.refl _ _) _) | exact (HC.out.below (below_al (Below.refl _ _) _)).drew) h12 HX.out HY.out).mono ?_
        rintro e w5 ⟨v2, rfl, hC2, hb⟩
        have HRq := Lib.hid (Frm.below (w := w) (bs := [(w4.heap.size, (spBox 0 0)), (w.heap.size, (stBox s (.slice A cs.length c)))]) (by (repeat (with_reducible first | exact HR.out | apply Frm.drew | apply Frm.alloc))) hb)
        have HCq := Lib.hid (Chks.below (cs := cs) (by first | exact HC.out | exact HC.out.drew | exact HC.out.below (below_al (Below.refl _ _) _) | exact HC.out.drew.below (below_al (Below.refl _ _) _) | exact (HC.out.below (below_al (Below.refl _ _) _)).drew) hb)
        have HV2 := Lib.hid hC2
        clear hC2
        clear HR HC hb x0 x1
        have HR := HRq
        have HC := HCq
        clear HRq HCq
        have x0 := HR.out.cells (List.mem_cons_self ..)
        have x1 := HR.out.cells (List.mem_cons_of_mem _ (List.mem_cons_self ..))
        go_wp2_with fail
        refine (HJ.out _ _ HV2.out).mono ?_
        rintro e w6 ⟨rfl, hb⟩
        have HRq := Lib.hid ((Frm.below (w := w) (bs := [(w4.heap.size, (spBox 0 0)), (w.heap.size, (stBox s (.slice A cs.length c)))]) (by (repeat (with_reducible first | exact HR.out | apply Frm.drew | apply Frm.alloc))) hb).add (spBox l2 h2) rfl)
        have HCq := Lib.hid (Chks.below (cs := cs) (by first | exact HC.out | exact HC.out.drew | exact HC.out.below (below_al (Below.refl _ _) _) | exact HC.out.drew.below (below_al (Below.refl _ _) _) | exact (HC.out.below (below_al (Below.refl _ _) _)).drew) hb |>.below (below_al (Below.refl _ _) (spBox l2 h2)))
        clear HR HC hb x0 x1
        have HR := HRq
        have HC := HCq
        clear HRq HCq
        have x0 := HR.out.cells (List.mem_cons_self ..)
        have x1 := HR.out.cells (List.mem_cons_of_mem _ (List.mem_cons_self ..))
        have x2 := HR.out.cells (List.mem_cons_of_mem _ (List.mem_cons_of_mem _ (List.mem_cons_self ..)))
        go_wp2_with fail
        refine (rOnly (by first | exact HC.out | exact HC.out.drew | exact HC.out.below (below_al (Below.refl _ _) _) | exact HC.out.drew.below (below_al (Below.refl _ _) _) | exact (HC.out.below (below_al (Below.refl _ _) _)).drew) h12 HXA.out HYA.out).mono ?_
        rintro e w7 ⟨v3, rfl, hC2, hb⟩
        have HRq := Lib.hid (Frm.below (w := w) (bs := [(w6.heap.size, (spBox l2 h2)), (w4.heap.size, (spBox 0 0)), (w.heap.size, (stBox s (.slice A cs.length c)))]) (by (repeat (with_reducible first | exact HR.out | apply Frm.drew | apply Frm.alloc))) hb)
        have HCq := Lib.hid (Chks.below (cs := cs) (by first | exact HC.out | exact HC.out.drew | exact HC.out.below (below_al (Below.refl _ _) _) | exact HC.out.drew.below (below_al (Below.refl _ _) _) | exact (HC.out.below (below_al (Below.refl _ _) _)).drew) hb)
        have HV3 := Lib.hid hC2
        clear hC2
        clear HR HC hb x0 x1 x2
        have HR := HRq
        have HC := HCq
        clear HRq HCq
        have x0 := HR.out.cells (List.mem_cons_self ..)
        have x1 := HR.out.cells (List.mem_cons_of_mem _ (List.mem_cons_self ..))
        have x2 := HR.out.cells (List.mem_cons_of_mem _ (List.mem_cons_of_mem _ (List.mem_cons_self ..)))
        go_wp2_with fail
        refine (HO.out _ _ HV3.out).mono ?_
        rintro e w8 ⟨rfl, hb⟩
        have HRq := Lib.hid ((Frm.below (w := w) (bs := [(w6.heap.size, (spBox l2 h2)), (w4.heap.size, (spBox 0 0)), (w.heap.size, (stBox s (.slice A cs.length c)))]) (by (repeat (with_reducible first | exact HR.out | apply Frm.drew | apply Frm.alloc))) hb).add (spBox 0 0) rfl)
        have HCq := Lib.hid (Chks.below (cs := cs) (by first | exact HC.out | exact HC.out.drew | exact HC.out.below (below_al (Below.refl _ _) _) | exact HC.out.drew.below (below_al (Below.refl _ _) _) | exact (HC.out.below (below_al (Below.refl _ _) _)).drew) hb |>.below (below_al (Below.refl _ _) (spBox 0 0)))
        clear HR HC hb x0 x1 x2
        have HR := HRq
        have HC := HCq
        clear HRq HCq
        have x0 := HR.out.cells (List.mem_cons_self ..)
        have x1 := HR.out.cells (List.mem_cons_of_mem _ (List.mem_cons_self ..))
        have x2 := HR.out.cells (List.mem_cons_of_mem _ (List.mem_cons_of_mem _ (List.mem_cons_self ..)))
        have x3 := HR.out.cells (List.mem_cons_of_mem _ (List.mem_cons_of_mem _ (List.mem_cons_of_mem _ (List.mem_cons_self ..))))
        go_wp2_with fail
        refine (known_ex _ (HH.out.below (Frm.b (w := w) (bs := [(w8.heap.size, (spBox 0 0)), (w6.heap.size, (spBox l2 h2)), (w4.heap.size, (spBox 0 0)), (w.heap.size, (stBox s (.slice A cs.length c)))]) (by (repeat (with_reducible first | exact HR.out | apply Frm.drew | apply Frm.alloc))))) (HT.out.below (Frm.b (w := w) (bs := [(w8.heap.size, (spBox 0 0)), (w6.heap.size, (spBox l2 h2)), (w4.heap.size, (spBox 0 0)), (w.heap.size, (stBox s (.slice A cs.length c)))]) (by (repeat (with_reducible first | exact HR.out | apply Frm.drew | apply Frm.alloc)))))).mono ?_
        rintro e wz ⟨rfl, hbz⟩
        have HZ := Lib.hid (Frm.below (w := w) (bs := [(w8.heap.size, (spBox 0 0)), (w6.heap.size, (spBox l2 h2)), (w4.heap.size, (spBox 0 0)), (w.heap.size, (stBox s (.slice A cs.length c)))]) (by (repeat (with_reducible first | exact HR.out | apply Frm.drew | apply Frm.alloc))) hbz).b
        clear hbz x0 x1 x2 x3
        go_wp2_with fail
        go_ret
        exact ⟨rfl, HZ.out⟩
      · go_wp2_with fail
        refine (glassClash_first (by first | exact HC.out | exact HC.out.drew | exact HC.out.below (below_al (Below.refl _ _) _) | exact HC.out.drew.below (below_al (Below.refl _ _) _) | exact (HC.out.below (below_al (Below.refl _ _) _)).drew) HS.out HF.out).mono ?_
        rintro e w3 ⟨rfl, hb⟩
        have HRq := Lib.hid (Frm.below (w := w) (bs := [(w.heap.size, (stBox s (.slice A cs.length c)))]) (by (repeat (with_reducible first | exact HR.out | apply Frm.drew | apply Frm.alloc))) hb)
        have HCq := Lib.hid (Chks.below (cs := cs) (by first | exact HC.out | exact HC.out.drew | exact HC.out.below (below_al (Below.refl _ _) _) | exact HC.out.drew.below (below_al (Below.refl _ _) _) | exact (HC.out.below (below_al (Below.refl _ _) _)).drew) hb)
        clear HR HC hb x0
        have HR := HRq
        have HC := HCq
        clear HRq HCq
        have x0 := HR.out.cells (List.mem_cons_self ..)
        go_wp2_with fail
        refine (HI.out _ (by first | exact HC.out | exact HC.out.drew | exact HC.out.below (below_al (Below.refl _ _) _) | exact HC.out.drew.below (below_al (Below.refl _ _) _) | exact (HC.out.below (below_al (Below.refl _ _) _)).drew)).mono ?_
        rintro e w4 ⟨rfl, hb⟩
        have HRq := Lib.hid ((Frm.below (w := w) (bs := [(w.heap.size, (stBox s (.slice A cs.length c)))]) (by (repeat (with_reducible first | exact HR.out | apply Frm.drew | apply Frm.alloc))) hb).add (spBox 0 0) rfl)
        have HCq := Lib.hid (Chks.below (cs := cs) (by first | exact HC.out | exact HC.out.drew | exact HC.out.below (below_al (Below.refl _ _) _) | exact HC.out.drew.below (below_al (Below.refl _ _) _) | exact (HC.out.below (below_al (Below.refl _ _) _)).drew) hb |>.below (below_al (Below.refl _ _) (spBox 0 0)))
        clear HR HC hb x0
        have HR := HRq
        have HC := HCq
        clear HRq HCq
        have x0 := HR.out.cells (List.mem_cons_self ..)
        have x1 := HR.out.cells (List.mem_cons_of_mem _ (List.mem_cons_self ..))
        go_wp2_with fail
        refine (rOnly (by first | exact HC.out | exact HC.out.drew | exact HC.out.below (below_al (Below.refl _ _) _) | exact HC.out.drew.below (below_al (Below.refl _ _) _) | exact (HC.out.below (below_al (Below.refl _ _) _)).drew) h12 HX.out HY.out).mono ?_
        rintro e w5 ⟨v2, rfl, hC2, hb⟩
        have HRq := Lib.hid (Frm.below (w := w) (bs := [(w4.heap.size, (spBox 0 0)), (w.heap.size, (stBox s (.slice A cs.length c)))]) (by (repeat (with_reducible first | exact HR.out | apply Frm.drew | apply Frm.alloc))) hb)
        have HCq := Lib.hid (Chks.below (cs := cs) (by first | exact HC.out | exact HC.out.drew | exact HC.out.below (below_al (Below.refl _ _) _) | exact HC.out.drew.below (below_al (Below.refl _ _) _) | exact (HC.out.below (below_al (Below.refl _ _) _)).drew) hb)
        have HV2 := Lib.hid hC2
        clear hC2
        clear HR HC hb x0 x1
        have HR := HRq
        have HC := HCq
        clear HRq HCq
        have x0 := HR.out.cells (List.mem_cons_self ..)
        have x1 := HR.out.cells (List.mem_cons_of_mem _ (List.mem_cons_self ..))
        go_wp2_with fail
        refine (HJ.out _ _ HV2.out).mono ?_
        rintro e w6 ⟨rfl, hb⟩
        have HRq := Lib.hid ((Frm.below (w := w) (bs := [(w4.heap.size, (spBox 0 0)), (w.heap.size, (stBox s (.slice A cs.length c)))]) (by (repeat (with_reducible first | exact HR.out | apply Frm.drew | apply Frm.alloc))) hb).add (spBox l2 h2) rfl)
        have HCq := Lib.hid (Chks.below (cs := cs) (by first | exact HC.out | exact HC.out.drew | exact HC.out.below (below_al (Below.refl _ _) _) | exact HC.out.drew.below (below_al (Below.refl _ _) _) | exact (HC.out.below (below_al (Below.refl _ _) _)).drew) hb |>.below (below_al (Below.refl _ _) (spBox l2 h2)))
        clear HR HC hb x0 x1
        have HR := HRq
        have HC := HCq
        clear HRq HCq
        have x0 := HR.out.cells (List.mem_cons_self ..)
        have x1 := HR.out.cells (List.mem_cons_of_mem _ (List.mem_cons_self ..))
        have x2 := HR.out.cells (List.mem_cons_of_mem _ (List.mem_cons_of_mem _ (List.mem_cons_self ..)))
        go_wp2_with fail
        refine (rOnly (by first | exact HC.out | exact HC.out.drew | exact HC.out.below (below_al (Below.refl _ _) _) | exact HC.out.drew.below (below_al (Below.refl _ _) _) | exact (HC.out.below (below_al (Below.refl _ _) _)).drew) h12 HXA.out HYA.out).mono ?_
        rintro e w7 ⟨v3, rfl, hC2, hb⟩
        have HRq := Lib.hid (Frm.below (w := w) (bs := [(w6.heap.size, (spBox l2 h2)), (w4.heap.size, (spBox 0 0)), (w.heap.size, (stBox s (.slice A cs.length c)))]) (by (repeat (with_reducible first | exact HR.out | apply Frm.drew | apply Frm.alloc))) hb)
        have HCq := Lib.hid (Chks.below (cs := cs) (by first | exact HC.out | exact HC.out.drew | exact HC.out.below (below_al (Below.refl _ _) _) | exact HC.out.drew.below (below_al (Below.refl _ _) _) | exact (HC.out.below (below_al (Below.refl _ _) _)).drew) hb)
        have HV3 := Lib.hid hC2
        clear hC2
        clear HR HC hb x0 x1 x2
        have HR := HRq
        have HC := HCq
        clear HRq HCq
        have x0 := HR.out.cells (List.mem_cons_self ..)
        have x1 := HR.out.cells (List.mem_cons_of_mem _ (List.mem_cons_self ..))
        have x2 := HR.out.cells (List.mem_cons_of_mem _ (List.mem_cons_of_mem _ (List.mem_cons_self ..)))
        go_wp2_with fail
        refine (HO.out _ _ HV3.out).mono ?_
        rintro e w8 ⟨rfl, hb⟩
        have HRq := Lib.hid ((Frm.below (w := w) (bs := [(w6.heap.size, (spBox l2 h2)), (w4.heap.size, (spBox 0 0)), (w.heap.size, (stBox s (.slice A cs.length c)))]) (by (repeat (with_reducible first | exact HR.out | apply Frm.drew | apply Frm.alloc))) hb).add (spBox 0 0) rfl)
        have HCq := Lib.hid (Chks.below (cs := cs) (by first | exact HC.out | exact HC.out.drew | exact HC.out.below (below_al (Below.refl _ _) _) | exact HC.out.drew.below (below_al (Below.refl _ _) _) | exact (HC.out.below (below_al (Below.refl _ _) _)).drew) hb |>.below (below_al (Below.refl _ _) (spBox 0 0)))
        clear HR HC hb x0 x1 x2
        have HR := HRq
        have HC := HCq
        clear HRq HCq
        have x0 := HR.out.cells (List.mem_cons_self ..)
        have x1 := HR.out.cells (List.mem_cons_of_mem _ (List.mem_cons_self ..))
        have x2 := HR.out.cells (List.mem_cons_of_mem _ (List.mem_cons_of_mem _ (List.mem_cons_self ..)))
        have x3 := HR.out.cells (List.mem_cons_of_mem _ (List.mem_cons_of_mem _ (List.mem_cons_of_mem _ (List.mem_cons_self ..))))
        go_wp2_with fail
        refine (known_ex _ (HH.out.below (Frm.b (w := w) (bs := [(w8.heap.size, (spBox 0 0)), (w6.heap.size, (spBox l2 h2)), (w4.heap.size, (spBox 0 0)), (w.heap.size, (stBox s (.slice A cs.length c)))]) (by (repeat (with_reducible first | exact HR.out | apply Frm.drew | apply Frm.alloc))))) (HT.out.below (Frm.b (w := w) (bs := [(w8.heap.size, (spBox 0 0)), (w6.heap.size, (spBox l2 h2)), (w4.heap.size, (spBox 0 0)), (w.heap.size, (stBox s (.slice A cs.length c)))]) (by (repeat (with_reducible first | exact HR.out | apply Frm.drew | apply Frm.alloc)))))).mono ?_
        rintro e wz ⟨rfl, hbz⟩
        have HZ := Lib.hid (Frm.below (w := w) (bs := [(w8.heap.size, (spBox 0 0)), (w6.heap.size, (spBox l2 h2)), (w4.heap.size, (spBox 0 0)), (w.heap.size, (stBox s (.slice A cs.length c)))]) (by (repeat (with_reducible first | exact HR.out | apply Frm.drew | apply Frm.alloc))) hbz).b
        clear hbz x0 x1 x2 x3
        go_wp2_with fail
        go_ret
        exact ⟨rfl, HZ.out⟩
      · go_wp2_with fail
        refine (glassClash_first (by first | exact HC.out | exact HC.out.drew | exact HC.out.below (below_al (Below.refl _ _) _) | exact HC.out.drew.below (below_al (Below.refl _ _) _) | exact (HC.out.below (below_al (Below.refl _ _) _)).drew) HS.out HF.out).mono ?_
        rintro e w3 ⟨rfl, hb⟩
        have HRq := Lib.hid (Frm.below (w := w) (bs := [(w.heap.size, (stBox s (.slice A cs.length c)))]) (by (repeat (with_reducible first | exact HR.out | apply Frm.drew | apply Frm.alloc))) hb)
        have HCq := Lib.hid (Chks.below (cs := cs) (by first | exact HC.out | exact HC.out.drew | exact HC.out.below (below_al (Below.refl _ _) _) | exact HC.out.drew.below (below_al (Below.refl _ _) _) | exact (HC.out.below (below_al (Below.refl _ _) _)).drew) hb)
        clear HR HC hb x0
        have HR := HRq
        have HC := HCq
        clear HRq HCq
        have x0 := HR.out.cells (List.mem_cons_self ..)
        go_wp2_with fail
        refine (HI.out _ (by first | exact HC.out | exact HC.out.drew | exact HC.out.below (below_al (Below.refl _ _) _) | exact HC.out.drew.below (below_al (Below.refl _ _) _) | exact (HC.out.below (below_al (Below.refl _ _) _)).drew)).mono ?_
        rintro e w4 ⟨rfl, hb⟩
        have HRq := Lib.hid ((Frm.below (w := w) (bs := [(w.heap.size, (stBox s (.slice A cs.length c)))]) (by (repeat (with_reducible first | exact HR.out | apply Frm.drew | apply Frm.alloc))) hb).add (spBox 0 0) rfl)
        have HCq := Lib.hid (Chks.below (cs := cs) (by first | exact HC.out | exact HC.out.drew | exact HC.out.below (below_al (Below.refl _ _) _) | exact HC.out.drew.below (below_al (Below.refl _ _) _) | exact (HC.out.below (below_al (Below.refl _ _) _)).drew) hb |>.below (below_al (Below.refl _ _) (spBox 0 0)))
        clear HR HC hb x0
        have HR := HRq
        have HC := HCq
        clear HRq HCq
        have x0 := HR.out.cells (List.mem_cons_self ..)
        have x1 := HR.out.cells (List.mem_cons_of_mem _ (List.mem_cons_self ..))
        go_wp2_with fail
        refine (rOnly (by first | exact HC.out | exact HC.out.drew | exact HC.out.below (below_al (Below.refl _ _) _) | exact HC.out.drew.below (below_al (Below.refl _ _) _) | exact (HC.out.below (below_al (Below.refl _ _) _)).drew) h12 HX.out HY.out).mono ?_
        rintro e w5 ⟨v2, rfl, hC2, hb⟩
        have HRq := Lib.hid (Frm.below (w := w) (bs := [(w4.heap.size, (spBox 0 0)), (w.heap.size, (stBox s (.slice A cs.length c)))]) (by (repeat (with_reducible first | exact HR.out | apply Frm.drew | apply Frm.alloc))) hb)
        have HCq := Lib.hid (Chks.below (cs := cs) (by first | exact HC.out | exact HC.out.drew | exact HC.out.below (below_al (Below.refl _ _) _) | exact HC.out.drew.below (below_al (Below.refl _ _) _) | exact (HC.out.below (below_al (Below.refl _ _) _)).drew) hb)
        have HV2 := Lib.hid hC2
        clear hC2
        clear HR HC hb x0 x1
        have HR := HRq
        have HC := HCq
        clear HRq HCq
        have x0 := HR.out.cells (List.mem_cons_self ..)
        have x1 := HR.out.cells (List.mem_cons_of_mem _ (List.mem_cons_self ..))
        go_wp2_with fail
        refine (HJ.out _ _ HV2.out).mono ?_
        rintro e w6 ⟨rfl, hb⟩
        have HRq := Lib.hid ((Frm.below (w := w) (bs := [(w4.heap.size, (spBox 0 0)), (w.heap.size, (stBox s (.slice A cs.length c)))]) (by (repeat (with_reducible first | exact HR.out | apply Frm.drew | apply Frm.alloc))) hb).add (spBox l2 h2) rfl)
        have HCq := Lib.hid (Chks.below (cs := cs) (by first | exact HC.out | exact HC.out.drew | exact HC.out.below (below_al (Below.refl _ _) _) | exact HC.out.drew.below (below_al (Below.refl _ _) _) | exact (HC.out.below (below_al (Below.refl _ _) _)).drew) hb |>.below (below_al (Below.refl _ _) (spBox l2 h2)))
        clear HR HC hb x0 x1
        have HR := HRq
        have HC := HCq
        clear HRq HCq
        have x0 := HR.out.cells (List.mem_cons_self ..)
        have x1 := HR.out.cells (List.mem_cons_of_mem _ (List.mem_cons_self ..))
        have x2 := HR.out.cells (List.mem_cons_of_mem _ (List.mem_cons_of_mem _ (List.mem_cons_self ..)))
        go_wp2_with fail
        refine (rOnly (by first | exact HC.out | exact HC.out.drew | exact HC.out.below (below_al (Below.refl _ _) _) | exact HC.out.drew.below (below_al (Below.refl _ _) _) | exact (HC.out.below (below_al (Below.refl _ _) _)).drew) h12 HXA.out HYA.out).mono ?_
        rintro e w7 ⟨v3, rfl, hC2, hb⟩
        have HRq := Lib.hid (Frm.below (w := w) (bs := [(w6.heap.size, (spBox l2 h2)), (w4.heap.size, (spBox 0 0)), (w.heap.size, (stBox s (.slice A cs.length c)))]) (by (repeat (with_reducible first | exact HR.out | apply Frm.drew | apply Frm.alloc))) hb)
        have HCq := Lib.hid (Chks.below (cs := cs) (by first | exact HC.out | exact HC.out.drew | exact HC.out.below (below_al (Below.refl _ _) _) | exact HC.out.drew.below (below_al (Below.refl _ _) _) | exact (HC.out.below (below_al (Below.refl _ _) _)).drew) hb)
        have HV3 := Lib.hid hC2
        clear hC2
        clear HR HC hb x0 x1 x2
        have HR := HRq
        have HC := HCq
        clear HRq HCq
        have x0 := HR.out.cells (List.mem_cons_self ..)
        have x1 := HR.out.cells (List.mem_cons_of_mem _ (List.mem_cons_self ..))
        have x2 := HR.out.cells (List.mem_cons_of_mem _ (List.mem_cons_of_mem _ (List.mem_cons_self ..)))
        go_wp2_with fail
        refine (HO.out _ _ HV3.out).mono ?_
        rintro e w8 ⟨rfl, hb⟩
        have HRq := Lib.hid ((Frm.below (w := w) (bs := [(w6.heap.size, (spBox l2 h2)), (w4.heap.size, (spBox 0 0)), (w.heap.size, (stBox s (.slice A cs.length c)))]) (by (repeat (with_reducible first | exact HR.out | apply Frm.drew | apply Frm.alloc))) hb).add (spBox 0 0) rfl)
        have HCq := Lib.hid (Chks.below (cs := cs) (by first | exact HC.out | exact HC.out.drew | exact HC.out.below (below_al (Below.refl _ _) _) | exact HC.out.drew.below (below_al (Below.refl _ _) _) | exact (HC.out.below (below_al (Below.refl _ _) _)).drew) hb |>.below (below_al (Below.refl _ _) (spBox 0 0)))
        clear HR HC hb x0 x1 x2
        have HR := HRq
        have HC := HCq
        clear HRq HCq
        have x0 := HR.out.cells (List.mem_cons_self ..)
        have x1 := HR.out.cells (List.mem_cons_of_mem _ (List.mem_cons_self ..))
        have x2 := HR.out.cells (List.mem_cons_of_mem _ (List.mem_cons_of_mem _ (List.mem_cons_self ..)))
        have x3 := HR.out.cells (List.mem_cons_of_mem _ (List.mem_cons_of_mem _ (List.mem_cons_of_mem _ (List.mem_cons_self ..))))
        go_wp2_with fail
        refine (known_ex _ (HH.out.below (Frm.b (w := w) (bs := [(w8.heap.size, (spBox 0 0)), (w6.heap.size, (spBox l2 h2)), (w4.heap.size, (spBox 0 0)), (w.heap.size, (stBox s (.slice A cs.length c)))]) (by (repeat (with_reducible first | exact HR.out | apply Frm.drew | apply Frm.alloc))))) (HT.out.below (Frm.b (w := w) (bs := [(w8.heap.size, (spBox 0 0)), (w6.heap.size, (spBox l2 h2)), (w4.heap.size, (spBox 0 0)), (w.heap.size, (stBox s (.slice A cs.length c)))]) (by (repeat (with_reducible first | exact HR.out | apply Frm.drew | apply Frm.alloc)))))).mono ?_
        rintro e wz ⟨rfl, hbz⟩
        have HZ := Lib.hid (Frm.below (w := w) (bs := [(w8.heap.size, (spBox 0 0)), (w6.heap.size, (spBox l2 h2)), (w4.heap.size, (spBox 0 0)), (w.heap.size, (stBox s (.slice A cs.length c)))]) (by (repeat (with_reducible first | exact HR.out | apply Frm.drew | apply Frm.alloc))) hbz).b
        clear hbz x0 x1 x2 x3
        go_wp2_with fail
        go_ret
        exact ⟨rfl, HZ.out⟩
    · have HQ := Lib.hid hq
      have hord := hfirst i k (by omega) ⟨x, y, hx, hy, hq⟩
      clear hq hx hy hfirst
      have HJ : Hid (∀ W v, Chks W v [x, y] → Calls Tryd.prog 18 #[stV s v, .int .i64 0] W fun z w' => z = .returned (.tuple #[spV 0 0, .int .i64 7]) ∧ Below W.heap.size W w') := Lib.hid (fun W v h => index_rule h HPS.out rfl (pair_first HQ.out))
      have hcase : a < i ∨ (i = a ∧ b ≤ k) := by omega
      clear hord
      rcases hcase with ho | ⟨rfl, ho⟩
      · go_wp2_with fail
        refine (glassClash_first (by first | exact HC.out | exact HC.out.drew | exact HC.out.below (below_al (Below.refl _ _) _) | exact HC.out.drew.below (below_al (Below.refl _ _) _) | exact (HC.out.below (below_al (Below.refl _ _) _)).drew) HS.out HF.out).mono ?_
        rintro e w3 ⟨rfl, hb⟩
        have HRq := Lib.hid (Frm.below (w := w) (bs := [(w.heap.size, (stBox s (.slice A cs.length c)))]) (by (repeat (with_reducible first | exact HR.out | apply Frm.drew | apply Frm.alloc))) hb)
        have HCq := Lib.hid (Chks.below (cs := cs) (by first | exact HC.out | exact HC.out.drew | exact HC.out.below (below_al (Below.refl _ _) _) | exact HC.out.drew.below (below_al (Below.refl _ _) _) | exact (HC.out.below (below_al (Below.refl _ _) _)).drew) hb)
        clear HR HC hb x0
        have HR := HRq
        have HC := HCq
        clear HRq HCq
        have x0 := HR.out.cells (List.mem_cons_self ..)
        go_wp2_with fail
        refine (HI.out _ (by first | exact HC.out | exact HC.out.drew | exact HC.out.below (below_al (Below.refl _ _) _) | exact HC.out.drew.below (below_al (Below.refl _ _) _) | exact (HC.out.below (below_al (Below.refl _ _) _)).drew)).mono ?_
        rintro e w4 ⟨rfl, hb⟩
        have HRq := Lib.hid ((Frm.below (w := w) (bs := [(w.heap.size, (stBox s (.slice A cs.length c)))]) (by (repeat (with_reducible first | exact HR.out | apply Frm.drew | apply Frm.alloc))) hb).add (spBox 0 0) rfl)
        have HCq := Lib.hid (Chks.below (cs := cs) (by first | exact HC.out | exact HC.out.drew | exact HC.out.below (below_al (Below.refl _ _) _) | exact HC.out.drew.below (below_al (Below.refl _ _) _) | exact (HC.out.below (below_al (Below.refl _ _) _)).drew) hb |>.below (below_al (Below.refl _ _) (spBox 0 0)))
        clear HR HC hb x0
        have HR := HRq
        have HC := HCq
        clear HRq HCq
        have x0 := HR.out.cells (List.mem_cons_self ..)
        have x1 := HR.out.cells (List.mem_cons_of_mem _ (List.mem_cons_self ..))
        go_wp2_with fail
        refine (rOnly (by first | exact HC.out | exact HC.out.drew | exact HC.out.below (below_al (Below.refl _ _) _) | exact HC.out.drew.below (below_al (Below.refl _ _) _) | exact (HC.out.below (below_al (Below.refl _ _) _)).drew) h12 HX.out HY.out).mono ?_
        rintro e w5 ⟨v2, rfl, hC2, hb⟩
        have HRq := Lib.hid (Frm.below (w := w) (bs := [(w4.heap.size, (spBox 0 0)), (w.heap.size, (stBox s (.slice A cs.length c)))]) (by (repeat (with_reducible first | exact HR.out | apply Frm.drew | apply Frm.alloc))) hb)
        have HCq := Lib.hid (Chks.below (cs := cs) (by first | exact HC.out | exact HC.out.drew | exact HC.out.below (below_al (Below.refl _ _) _) | exact HC.out.drew.below (below_al (Below.refl _ _) _) | exact (HC.out.below (below_al (Below.refl _ _) _)).drew) hb)
        have HV2 := Lib.hid hC2
        clear hC2
        clear HR HC hb x0 x1
        have HR := HRq
        have HC := HCq
        clear HRq HCq
        have x0 := HR.out.cells (List.mem_cons_self ..)
        have x1 := HR.out.cells (List.mem_cons_of_mem _ (List.mem_cons_self ..))
        go_wp2_with fail
        refine (HJ.out _ _ HV2.out).mono ?_
        rintro e w6 ⟨rfl, hb⟩
        have HRq := Lib.hid ((Frm.below (w := w) (bs := [(w4.heap.size, (spBox 0 0)), (w.heap.size, (stBox s (.slice A cs.length c)))]) (by (repeat (with_reducible first | exact HR.out | apply Frm.drew | apply Frm.alloc))) hb).add (spBox 0 0) rfl)
        have HCq := Lib.hid (Chks.below (cs := cs) (by first | exact HC.out | exact HC.out.drew | exact HC.out.below (below_al (Below.refl _ _) _) | exact HC.out.drew.below (below_al (Below.refl _ _) _) | exact (HC.out.below (below_al (Below.refl _ _) _)).drew) hb |>.below (below_al (Below.refl _ _) (spBox 0 0)))
        clear HR HC hb x0 x1
        have HR := HRq
        have HC := HCq
        clear HRq HCq
        have x0 := HR.out.cells (List.mem_cons_self ..)
        have x1 := HR.out.cells (List.mem_cons_of_mem _ (List.mem_cons_self ..))
        have x2 := HR.out.cells (List.mem_cons_of_mem _ (List.mem_cons_of_mem _ (List.mem_cons_self ..)))
        go_wp2_with fail
        refine (rOnly (by first | exact HC.out | exact HC.out.drew | exact HC.out.below (below_al (Below.refl _ _) _) | exact HC.out.drew.below (below_al (Below.refl _ _) _) | exact (HC.out.below (below_al (Below.refl _ _) _)).drew) h12 HXA.out HYA.out).mono ?_
        rintro e w7 ⟨v3, rfl, hC2, hb⟩
        have HRq := Lib.hid (Frm.below (w := w) (bs := [(w6.heap.size, (spBox 0 0)), (w4.heap.size, (spBox 0 0)), (w.heap.size, (stBox s (.slice A cs.length c)))]) (by (repeat (with_reducible first | exact HR.out | apply Frm.drew | apply Frm.alloc))) hb)
        have HCq := Lib.hid (Chks.below (cs := cs) (by first | exact HC.out | exact HC.out.drew | exact HC.out.below (below_al (Below.refl _ _) _) | exact HC.out.drew.below (below_al (Below.refl _ _) _) | exact (HC.out.below (below_al (Below.refl _ _) _)).drew) hb)
        have HV3 := Lib.hid hC2
        clear hC2
        clear HR HC hb x0 x1 x2
        have HR := HRq
        have HC := HCq
        clear HRq HCq
        have x0 := HR.out.cells (List.mem_cons_self ..)
        have x1 := HR.out.cells (List.mem_cons_of_mem _ (List.mem_cons_self ..))
        have x2 := HR.out.cells (List.mem_cons_of_mem _ (List.mem_cons_of_mem _ (List.mem_cons_self ..)))
        go_wp2_with fail
        refine (HO.out _ _ HV3.out).mono ?_
        rintro e w8 ⟨rfl, hb⟩
        have HRq := Lib.hid ((Frm.below (w := w) (bs := [(w6.heap.size, (spBox 0 0)), (w4.heap.size, (spBox 0 0)), (w.heap.size, (stBox s (.slice A cs.length c)))]) (by (repeat (with_reducible first | exact HR.out | apply Frm.drew | apply Frm.alloc))) hb).add (spBox 0 0) rfl)
        have HCq := Lib.hid (Chks.below (cs := cs) (by first | exact HC.out | exact HC.out.drew | exact HC.out.below (below_al (Below.refl _ _) _) | exact HC.out.drew.below (below_al (Below.refl _ _) _) | exact (HC.out.below (below_al (Below.refl _ _) _)).drew) hb |>.below (below_al (Below.refl _ _) (spBox 0 0)))
        clear HR HC hb x0 x1 x2
        have HR := HRq
        have HC := HCq
        clear HRq HCq
        have x0 := HR.out.cells (List.mem_cons_self ..)
        have x1 := HR.out.cells (List.mem_cons_of_mem _ (List.mem_cons_self ..))
        have x2 := HR.out.cells (List.mem_cons_of_mem _ (List.mem_cons_of_mem _ (List.mem_cons_self ..)))
        have x3 := HR.out.cells (List.mem_cons_of_mem _ (List.mem_cons_of_mem _ (List.mem_cons_of_mem _ (List.mem_cons_self ..))))
        go_wp2_with fail
        refine (known_ex _ (HH.out.below (Frm.b (w := w) (bs := [(w8.heap.size, (spBox 0 0)), (w6.heap.size, (spBox 0 0)), (w4.heap.size, (spBox 0 0)), (w.heap.size, (stBox s (.slice A cs.length c)))]) (by (repeat (with_reducible first | exact HR.out | apply Frm.drew | apply Frm.alloc))))) (HT.out.below (Frm.b (w := w) (bs := [(w8.heap.size, (spBox 0 0)), (w6.heap.size, (spBox 0 0)), (w4.heap.size, (spBox 0 0)), (w.heap.size, (stBox s (.slice A cs.length c)))]) (by (repeat (with_reducible first | exact HR.out | apply Frm.drew | apply Frm.alloc)))))).mono ?_
        rintro e wz ⟨rfl, hbz⟩
        have HZ := Lib.hid (Frm.below (w := w) (bs := [(w8.heap.size, (spBox 0 0)), (w6.heap.size, (spBox 0 0)), (w4.heap.size, (spBox 0 0)), (w.heap.size, (stBox s (.slice A cs.length c)))]) (by (repeat (with_reducible first | exact HR.out | apply Frm.drew | apply Frm.alloc))) hbz).b
        clear hbz x0 x1 x2 x3
        go_wp2_with fail
        go_ret
        exact ⟨(ret_bool (show (!decide (i < a)) = true by simp; omega)), HZ.out⟩
      · go_wp2_with fail
        refine (glassClash_first (by first | exact HC.out | exact HC.out.drew | exact HC.out.below (below_al (Below.refl _ _) _) | exact HC.out.drew.below (below_al (Below.refl _ _) _) | exact (HC.out.below (below_al (Below.refl _ _) _)).drew) HS.out HF.out).mono ?_
        rintro e w3 ⟨rfl, hb⟩
        have HRq := Lib.hid (Frm.below (w := w) (bs := [(w.heap.size, (stBox s (.slice A cs.length c)))]) (by (repeat (with_reducible first | exact HR.out | apply Frm.drew | apply Frm.alloc))) hb)
        have HCq := Lib.hid (Chks.below (cs := cs) (by first | exact HC.out | exact HC.out.drew | exact HC.out.below (below_al (Below.refl _ _) _) | exact HC.out.drew.below (below_al (Below.refl _ _) _) | exact (HC.out.below (below_al (Below.refl _ _) _)).drew) hb)
        clear HR HC hb x0
        have HR := HRq
        have HC := HCq
        clear HRq HCq
        have x0 := HR.out.cells (List.mem_cons_self ..)
        go_wp2_with fail
        refine (HI.out _ (by first | exact HC.out | exact HC.out.drew | exact HC.out.below (below_al (Below.refl _ _) _) | exact HC.out.drew.below (below_al (Below.refl _ _) _) | exact (HC.out.below (below_al (Below.refl _ _) _)).drew)).mono ?_
        rintro e w4 ⟨rfl, hb⟩
        have HRq := Lib.hid ((Frm.below (w := w) (bs := [(w.heap.size, (stBox s (.slice A cs.length c)))]) (by (repeat (with_reducible first | exact HR.out | apply Frm.drew | apply Frm.alloc))) hb).add (spBox 0 0) rfl)
        have HCq := Lib.hid (Chks.below (cs := cs) (by first | exact HC.out | exact HC.out.drew | exact HC.out.below (below_al (Below.refl _ _) _) | exact HC.out.drew.below (below_al (Below.refl _ _) _) | exact (HC.out.below (below_al (Below.refl _ _) _)).drew) hb |>.below (below_al (Below.refl _ _) (spBox 0 0)))
        clear HR HC hb x0
        have HR := HRq
        have HC := HCq
        clear HRq HCq
        have x0 := HR.out.cells (List.mem_cons_self ..)
        have x1 := HR.out.cells (List.mem_cons_of_mem _ (List.mem_cons_self ..))
        go_wp2_with fail
        refine (rOnly (by first | exact HC.out | exact HC.out.drew | exact HC.out.below (below_al (Below.refl _ _) _) | exact HC.out.drew.below (below_al (Below.refl _ _) _) | exact (HC.out.below (below_al (Below.refl _ _) _)).drew) h12 HX.out HY.out).mono ?_
        rintro e w5 ⟨v2, rfl, hC2, hb⟩
        have HRq := Lib.hid (Frm.below (w := w) (bs := [(w4.heap.size, (spBox 0 0)), (w.heap.size, (stBox s (.slice A cs.length c)))]) (by (repeat (with_reducible first | exact HR.out | apply Frm.drew | apply Frm.alloc))) hb)
        have HCq := Lib.hid (Chks.below (cs := cs) (by first | exact HC.out | exact HC.out.drew | exact HC.out.below (below_al (Below.refl _ _) _) | exact HC.out.drew.below (below_al (Below.refl _ _) _) | exact (HC.out.below (below_al (Below.refl _ _) _)).drew) hb)
        have HV2 := Lib.hid hC2
        clear hC2
        clear HR HC hb x0 x1
        have HR := HRq
        have HC := HCq
        clear HRq HCq
        have x0 := HR.out.cells (List.mem_cons_self ..)
        have x1 := HR.out.cells (List.mem_cons_of_mem _ (List.mem_cons_self ..))
        go_wp2_with fail
        refine (HJ.out _ _ HV2.out).mono ?_
        rintro e w6 ⟨rfl, hb⟩
        have HRq := Lib.hid ((Frm.below (w := w) (bs := [(w4.heap.size, (spBox 0 0)), (w.heap.size, (stBox s (.slice A cs.length c)))]) (by (repeat (with_reducible first | exact HR.out | apply Frm.drew | apply Frm.alloc))) hb).add (spBox 0 0) rfl)
        have HCq := Lib.hid (Chks.below (cs := cs) (by first | exact HC.out | exact HC.out.drew | exact HC.out.below (below_al (Below.refl _ _) _) | exact HC.out.drew.below (below_al (Below.refl _ _) _) | exact (HC.out.below (below_al (Below.refl _ _) _)).drew) hb |>.below (below_al (Below.refl _ _) (spBox 0 0)))
        clear HR HC hb x0 x1
        have HR := HRq
        have HC := HCq
        clear HRq HCq
        have x0 := HR.out.cells (List.mem_cons_self ..)
        have x1 := HR.out.cells (List.mem_cons_of_mem _ (List.mem_cons_self ..))
        have x2 := HR.out.cells (List.mem_cons_of_mem _ (List.mem_cons_of_mem _ (List.mem_cons_self ..)))
        go_wp2_with fail
        refine (rOnly (by first | exact HC.out | exact HC.out.drew | exact HC.out.below (below_al (Below.refl _ _) _) | exact HC.out.drew.below (below_al (Below.refl _ _) _) | exact (HC.out.below (below_al (Below.refl _ _) _)).drew) h12 HXA.out HYA.out).mono ?_
        rintro e w7 ⟨v3, rfl, hC2, hb⟩
        have HRq := Lib.hid (Frm.below (w := w) (bs := [(w6.heap.size, (spBox 0 0)), (w4.heap.size, (spBox 0 0)), (w.heap.size, (stBox s (.slice A cs.length c)))]) (by (repeat (with_reducible first | exact HR.out | apply Frm.drew | apply Frm.alloc))) hb)
        have HCq := Lib.hid (Chks.below (cs := cs) (by first | exact HC.out | exact HC.out.drew | exact HC.out.below (below_al (Below.refl _ _) _) | exact HC.out.drew.below (below_al (Below.refl _ _) _) | exact (HC.out.below (below_al (Below.refl _ _) _)).drew) hb)
        have HV3 := Lib.hid hC2
        clear hC2
        clear HR HC hb x0 x1 x2
        have HR := HRq
        have HC := HCq
        clear HRq HCq
        have x0 := HR.out.cells (List.mem_cons_self ..)
        have x1 := HR.out.cells (List.mem_cons_of_mem _ (List.mem_cons_self ..))
        have x2 := HR.out.cells (List.mem_cons_of_mem _ (List.mem_cons_of_mem _ (List.mem_cons_self ..)))
        go_wp2_with fail
        refine (HO.out _ _ HV3.out).mono ?_
        rintro e w8 ⟨rfl, hb⟩
        have HRq := Lib.hid ((Frm.below (w := w) (bs := [(w6.heap.size, (spBox 0 0)), (w4.heap.size, (spBox 0 0)), (w.heap.size, (stBox s (.slice A cs.length c)))]) (by (repeat (with_reducible first | exact HR.out | apply Frm.drew | apply Frm.alloc))) hb).add (spBox 0 0) rfl)
        have HCq := Lib.hid (Chks.below (cs := cs) (by first | exact HC.out | exact HC.out.drew | exact HC.out.below (below_al (Below.refl _ _) _) | exact HC.out.drew.below (below_al (Below.refl _ _) _) | exact (HC.out.below (below_al (Below.refl _ _) _)).drew) hb |>.below (below_al (Below.refl _ _) (spBox 0 0)))
        clear HR HC hb x0 x1 x2
        have HR := HRq
        have HC := HCq
        clear HRq HCq
        have x0 := HR.out.cells (List.mem_cons_self ..)
        have x1 := HR.out.cells (List.mem_cons_of_mem _ (List.mem_cons_self ..))
        have x2 := HR.out.cells (List.mem_cons_of_mem _ (List.mem_cons_of_mem _ (List.mem_cons_self ..)))
        have x3 := HR.out.cells (List.mem_cons_of_mem _ (List.mem_cons_of_mem _ (List.mem_cons_of_mem _ (List.mem_cons_self ..))))
        go_wp2_with fail
        refine (known_ex _ (HH.out.below (Frm.b (w := w) (bs := [(w8.heap.size, (spBox 0 0)), (w6.heap.size, (spBox 0 0)), (w4.heap.size, (spBox 0 0)), (w.heap.size, (stBox s (.slice A cs.length c)))]) (by (repeat (with_reducible first | exact HR.out | apply Frm.drew | apply Frm.alloc))))) (HT.out.below (Frm.b (w := w) (bs := [(w8.heap.size, (spBox 0 0)), (w6.heap.size, (spBox 0 0)), (w4.heap.size, (spBox 0 0)), (w.heap.size, (stBox s (.slice A cs.length c)))]) (by (repeat (with_reducible first | exact HR.out | apply Frm.drew | apply Frm.alloc)))))).mono ?_
        rintro e wz ⟨rfl, hbz⟩
        have HZ := Lib.hid (Frm.below (w := w) (bs := [(w8.heap.size, (spBox 0 0)), (w6.heap.size, (spBox 0 0)), (w4.heap.size, (spBox 0 0)), (w.heap.size, (stBox s (.slice A cs.length c)))]) (by (repeat (with_reducible first | exact HR.out | apply Frm.drew | apply Frm.alloc))) hbz).b
        clear hbz x0 x1 x2 x3
        go_wp2_with fail
        go_ret
        exact ⟨(ret_bool (show (!decide (k < b)) = true by simp; omega)), HZ.out⟩
end Go.Proofs.YtipckgojoanokaaDoor
