/- The law GlassMinutes, walked. -/
import Derived.Test.YtkdbfpllibjniaaDoorRwn
import Derived.Test.YtkdbfpllibjniaaDoorApp
set_option linter.unusedVariables false
set_option linter.unusedSimpArgs false
namespace Go.Proofs.YtkdbfpllibjniaaDoor
open Go.RowKit Go.Maps

theorem Frm.also {w W : World} {bs : List (Nat × Obj)} {k : Nat} {o : Obj} (h : Frm w bs W) (hz : W.heap[k]? = some o) : Frm w ((k, o) :: bs) W :=
  ⟨h.b, fun p hp => by
    rcases List.mem_cons.1 hp with rfl | hp
    · exact hz
    · exact h.h p hp⟩
/-- Whether a number lies in a span of a list. -/
def amB (n : Int) (l : List (Int × Int)) : Bool := l.any fun p => decide (p.1 ≤ n) && decide (n ≤ p.2)
set_option maxHeartbeats 800000 in
theorem lwithin_any (n a b : Int) (w : World) :
    Calls Tryd.prog 15 #[.int .i64 n, .agg #[.int .i64 a, .int .i64 b]] w fun e w' => e = .returned (.bool (decide (a ≤ n) && decide (n ≤ b))) ∧ Below w.heap.size w w' := by
  by_cases h1 : a ≤ n
  · by_cases h2 : n ≤ b
    · have HV := Lib.hid (show true = (decide (a ≤ n) && decide (n ≤ b)) by simp [h1, h2])
      go_enter Tryd.func15, Tryd.ntmps15
      go_wp2
      go_ret
      first
        | exact ⟨ret_bool HV.out, below_al (Below.refl _ _) _⟩
        | exact ⟨ret_bool (by simp [h1, h2]), below_al (Below.refl _ _) _⟩
    · have HV := Lib.hid (show false = (decide (a ≤ n) && decide (n ≤ b)) by simp [h2])
      go_enter Tryd.func15, Tryd.ntmps15
      go_wp2
      go_ret
      first
        | exact ⟨ret_bool HV.out, below_al (Below.refl _ _) _⟩
        | exact ⟨ret_bool (by simp [h1, h2]), below_al (Below.refl _ _) _⟩
  · have HV := Lib.hid (show false = (decide (a ≤ n) && decide (n ≤ b)) by simp [h1])
    go_enter Tryd.func15, Tryd.ntmps15
    go_wp2
    go_ret
    first
      | exact ⟨ret_bool HV.out, below_al (Below.refl _ _) _⟩
      | exact ⟨ret_bool (by simp [h1]), below_al (Below.refl _ _) _⟩
theorem am_take {n : Int} {l : List (Int × Int)} {m : Nat} {p : Int × Int} (hp : l[m]? = some p) (h : amB n (l.take m) = false) (h2 : (decide (p.1 ≤ n) && decide (n ≤ p.2)) = false) : amB n (l.take (m + 1)) = false := by
  rw [List.take_add_one, hp]
  simp only [amB, List.any_append, Option.toList, List.any_cons, List.any_nil, Bool.or_false] at h ⊢
  rw [h, h2]; rfl
theorem am_yes {n : Int} {l : List (Int × Int)} {m : Nat} {p : Int × Int} (hp : l[m]? = some p) (h2 : (decide (p.1 ≤ n) && decide (n ≤ p.2)) = true) : amB n l = true := by
  simp only [amB, List.any_eq_true]
  exact ⟨p, List.mem_of_getElem? hp, h2⟩
set_option maxHeartbeats 1000000 in
set_option maxRecDepth 100000 in
theorem among_any {n : Int} {l : List (Int × Int)} {g k : Nat} {w : World} (hk : l.length = k) (hl : k ≤ 1000) (hg : g < w.heap.size) (h : SpsAt w g 0 l) :
    Calls Tryd.prog 23 #[.int .i64 n, .slice (some ⟨g, 0, none⟩) k k] w fun e w' => e = .returned (.bool (amB n l)) ∧ Below w.heap.size w w' := by
  subst hk
  go_enter Tryd.func23, Tryd.ntmps23
  go_wp2_with fail
  go_loopw [5] (fun i wr => ∃ m : Nat, m ≤ l.length ∧ i = .int .i64 m ∧ amB n (l.take m) = false ∧ Below w.heap.size w wr) (fun i _ => l.length - (intOf i).toNat)
  case atStart => exact ⟨0, Nat.zero_le _, rfl, rfl, Below.refl _ _⟩
  case round =>
    obtain ⟨m, hm, rfl, ha, hb⟩ := hrel
    have HA := Lib.hid ha
    have HB := Lib.hid hb
    clear ha
    by_cases hml : m < l.length
    · obtain ⟨p, hp⟩ : ∃ p, l[m]? = some p := ⟨_, List.getElem?_eq_getElem hml⟩
      obtain ⟨c0, c1⟩ := h m p hp
      replace c0 := (hb.cell (p := ⟨g, _, none⟩) hg).trans c0
      replace c1 := (hb.cell (p := ⟨g, _, none⟩) hg).trans c1
      have HP := Lib.hid hp
      obtain ⟨p0, p1⟩ := p
      simp only [Nat.zero_add] at c0 c1
      clear hp hb
      cases hq : (decide (p0 ≤ n) && decide (n ≤ p1))
      · have HQ : Hid (∀ W, Calls Tryd.prog 15 #[.int .i64 n, .agg #[.int .i64 p0, .int .i64 p1]] W fun e w' => e = .returned (.bool false) ∧ Below W.heap.size W w') := Lib.hid (fun W => by rw [← hq]; exact lwithin_any n p0 p1 W)
        have HF := Lib.hid hq
        clear hq
        go_wp2_with (go_at_call 15; refine (HQ.out _).mono ?_; rintro e w1 ⟨rfl, hb1⟩)
        go_roundw
        case rel => exact ⟨m + 1, by omega, by go_num, am_take HP.out HA.out HF.out, below_step HB.out hb1⟩
        case measure => simp [intOf]; omega
      · have HQ : Hid (∀ W, Calls Tryd.prog 15 #[.int .i64 n, .agg #[.int .i64 p0, .int .i64 p1]] W fun e w' => e = .returned (.bool true) ∧ Below W.heap.size W w') := Lib.hid (fun W => by rw [← hq]; exact lwithin_any n p0 p1 W)
        have HE := Lib.hid (show true = amB n l from (am_yes HP.out hq).symm)
        clear hq
        go_wp2_with (go_at_call 15; refine (HQ.out _).mono ?_; rintro e w1 ⟨rfl, hb1⟩)
        go_ret
        exact ⟨ret_bool HE.out, below_step HB.out hb1⟩
    · have HE := Lib.hid (show false = amB n l by have := HA.out; rw [List.take_of_length_le (by omega)] at this; exact this.symm)
      go_wp2_with fail
      go_ret
      exact ⟨ret_bool HE.out, HB.out⟩
theorem among_is {n : Int} {l : List (Int × Int)} {g k : Nat} {x : Bool} {w : World} (hk : l.length = k) (hl : k ≤ 1000) (hg : w.heap[g]? = some (.cells (spCells l).toArray 23)) (h : amB n l = x) :
    Calls Tryd.prog 23 #[.int .i64 n, .slice (some ⟨g, 0, none⟩) k k] w fun e w' => e = .returned (.bool x) ∧ Below w.heap.size w w' := by
  rw [← h]; exact among_any hk hl (lt_of_blk hg) (spsAt_of hg)
theorem among_at {w0 : World} {bs : List (Nat × Obj)} {n : Int} {l : List (Int × Int)} {g k : Nat} {x : Bool} {w : World} (hk : l.length = k) (hl : k ≤ 1000) (F : Frm w0 bs w) (hp : (g, Obj.cells (spCells l).toArray 23) ∈ bs) (h : amB n l = x) :
    Calls Tryd.prog 23 #[.int .i64 n, .slice (some ⟨g, 0, none⟩) k k] w fun e w' => e = .returned (.bool x) ∧ Below w.heap.size w w' := among_is hk hl (F.h _ hp) h

set_option maxHeartbeats 40000000 in
set_option maxRecDepth 100000 in
theorem lawGlassMinutes {s : Stn} {v : Value} {cs : List Chk} {r : Rdg} {sun : Bool} {wr0 mi : Int} {w : World} (hc : Chks w v cs) (hh : Holds w) (ht : Tab w) :
    Calls Tryd.prog 5 #[stV s v, rdV r, .bool sun, .int .i64 wr0, .int .i64 mi] w fun e w' => e = .returned (.bool true) ∧ Below w.heap.size w w' := by
  obtain ⟨A, k, c, rfl⟩ := hc.shape
  have HR : Hid (Frm w [(w.heap.size + 1, (rdBox r)), (w.heap.size, (stBox s (.slice A k c)))] ((w.alloc (stBox s (.slice A k c))).alloc (rdBox r))) := Lib.hid (((Frm.nil w).add _ (by simp)).add _ (by simp))
  have HC := Lib.hid (hc.below HR.out.b)
  have HH := Lib.hid hh
  have HT := Lib.hid ht
  clear hc hh ht
  have x0 := HR.out.cells (List.mem_cons_self ..)
  have x1 := HR.out.cells (List.mem_cons_of_mem _ (List.mem_cons_self ..))
  go_enter Tryd.func5, Tryd.ntmps5
  go_wp2_with fail
  refine (short_any (by first | exact HC.out | exact HC.out.drew | exact HC.out.below (below_al (Below.refl _ _) _) | exact HC.out.drew.below (below_al (Below.refl _ _) _) | exact (HC.out.below (below_al (Below.refl _ _) _)).drew)).mono ?_
  rintro e w1 ⟨rfl, hb⟩
  have HRq := Lib.hid (Frm.below (w := w) (bs := [(w.heap.size + 1, (rdBox r)), (w.heap.size, (stBox s (.slice A k c)))]) (by (repeat (with_reducible first | exact HR.out | apply Frm.drew | apply Frm.alloc | apply Frm.drewN))) hb)
  have HCq := Lib.hid (Chks.below (cs := cs) (by first | exact HC.out | exact HC.out.drew | exact HC.out.below (below_al (Below.refl _ _) _) | exact HC.out.drew.below (below_al (Below.refl _ _) _) | exact (HC.out.below (below_al (Below.refl _ _) _)).drew) hb)
  clear HR HC hb x0 x1
  have HR := HRq
  have HC := HCq
  clear HRq HCq
  have x0 := HR.out.cells (List.mem_cons_self ..)
  have x1 := HR.out.cells (List.mem_cons_of_mem _ (List.mem_cons_self ..))
  by_cases h16 : cs.length ≤ 16
  rotate_left
  · go_wp2_with fail
    refine (known_ex _ (HH.out.below (Frm.b (w := w) (bs := [(w.heap.size + 1, (rdBox r)), (w.heap.size, (stBox s (.slice A k c)))]) (by (repeat (with_reducible first | exact HR.out | apply Frm.drew | apply Frm.alloc | apply Frm.drewN))))) (HT.out.below (Frm.b (w := w) (bs := [(w.heap.size + 1, (rdBox r)), (w.heap.size, (stBox s (.slice A k c)))]) (by (repeat (with_reducible first | exact HR.out | apply Frm.drew | apply Frm.alloc | apply Frm.drewN)))))).mono ?_
    rintro e wz ⟨rfl, hbz⟩
    have HZ := Lib.hid (Frm.below (w := w) (bs := [(w.heap.size + 1, (rdBox r)), (w.heap.size, (stBox s (.slice A k c)))]) (by (repeat (with_reducible first | exact HR.out | apply Frm.drew | apply Frm.alloc | apply Frm.drewN))) hbz).b
    clear hbz x0 x1
    go_wp2_with fail
    go_ret
    exact ⟨rfl, HZ.out⟩
  cases hs : soundB s cs
  · have HS := Lib.hid hs
    clear hs
    go_wp2_with fail
    refine (rStation_is (by first | exact HC.out | exact HC.out.drew | exact HC.out.below (below_al (Below.refl _ _) _) | exact HC.out.drew.below (below_al (Below.refl _ _) _) | exact (HC.out.below (below_al (Below.refl _ _) _)).drew) HS.out).mono ?_
    rintro e w2 ⟨rfl, hb⟩
    have HRq := Lib.hid (Frm.below (w := w) (bs := [(w.heap.size + 1, (rdBox r)), (w.heap.size, (stBox s (.slice A k c)))]) (by (repeat (with_reducible first | exact HR.out | apply Frm.drew | apply Frm.alloc | apply Frm.drewN))) hb)
    have HCq := Lib.hid (Chks.below (cs := cs) (by first | exact HC.out | exact HC.out.drew | exact HC.out.below (below_al (Below.refl _ _) _) | exact HC.out.drew.below (below_al (Below.refl _ _) _) | exact (HC.out.below (below_al (Below.refl _ _) _)).drew) hb)
    clear HR HC hb x0 x1
    have HR := HRq
    have HC := HCq
    clear HRq HCq
    have x0 := HR.out.cells (List.mem_cons_self ..)
    have x1 := HR.out.cells (List.mem_cons_of_mem _ (List.mem_cons_self ..))
    go_wp2_with fail
    refine (known_ex _ (HH.out.below (Frm.b (w := w) (bs := [(w.heap.size + 1, (rdBox r)), (w.heap.size, (stBox s (.slice A k c)))]) (by (repeat (with_reducible first | exact HR.out | apply Frm.drew | apply Frm.alloc | apply Frm.drewN))))) (HT.out.below (Frm.b (w := w) (bs := [(w.heap.size + 1, (rdBox r)), (w.heap.size, (stBox s (.slice A k c)))]) (by (repeat (with_reducible first | exact HR.out | apply Frm.drew | apply Frm.alloc | apply Frm.drewN)))))).mono ?_
    rintro e wz ⟨rfl, hbz⟩
    have HZ := Lib.hid (Frm.below (w := w) (bs := [(w.heap.size + 1, (rdBox r)), (w.heap.size, (stBox s (.slice A k c)))]) (by (repeat (with_reducible first | exact HR.out | apply Frm.drew | apply Frm.alloc | apply Frm.drewN))) hbz).b
    clear hbz x0 x1
    go_wp2_with fail
    go_ret
    exact ⟨rfl, HZ.out⟩
  have HS := Lib.hid hs
  have hg := good_of_soundB hs
  clear hs
  go_wp2_with fail
  refine (rStation_is (by first | exact HC.out | exact HC.out.drew | exact HC.out.below (below_al (Below.refl _ _) _) | exact HC.out.drew.below (below_al (Below.refl _ _) _) | exact (HC.out.below (below_al (Below.refl _ _) _)).drew) HS.out).mono ?_
  rintro e w2 ⟨rfl, hb⟩
  have HRq := Lib.hid (Frm.below (w := w) (bs := [(w.heap.size + 1, (rdBox r)), (w.heap.size, (stBox s (.slice A k c)))]) (by (repeat (with_reducible first | exact HR.out | apply Frm.drew | apply Frm.alloc | apply Frm.drewN))) hb)
  have HCq := Lib.hid (Chks.below (cs := cs) (by first | exact HC.out | exact HC.out.drew | exact HC.out.below (below_al (Below.refl _ _) _) | exact HC.out.drew.below (below_al (Below.refl _ _) _) | exact (HC.out.below (below_al (Below.refl _ _) _)).drew) hb)
  clear HR HC hb x0 x1
  have HR := HRq
  have HC := HCq
  clear HRq HCq
  have x0 := HR.out.cells (List.mem_cons_self ..)
  have x1 := HR.out.cells (List.mem_cons_of_mem _ (List.mem_cons_self ..))
  cases hd : readB r
  · have HD := Lib.hid hd
    clear hd
    go_wp2_with fail
    refine (rReading_is HD.out _).mono ?_
    rintro e w3 ⟨rfl, hb⟩
    have HRq := Lib.hid (Frm.below (w := w) (bs := [(w.heap.size + 1, (rdBox r)), (w.heap.size, (stBox s (.slice A k c)))]) (by (repeat (with_reducible first | exact HR.out | apply Frm.drew | apply Frm.alloc | apply Frm.drewN))) hb)
    have HCq := Lib.hid (Chks.below (cs := cs) (by first | exact HC.out | exact HC.out.drew | exact HC.out.below (below_al (Below.refl _ _) _) | exact HC.out.drew.below (below_al (Below.refl _ _) _) | exact (HC.out.below (below_al (Below.refl _ _) _)).drew) hb)
    clear HR HC hb x0 x1
    have HR := HRq
    have HC := HCq
    clear HRq HCq
    have x0 := HR.out.cells (List.mem_cons_self ..)
    have x1 := HR.out.cells (List.mem_cons_of_mem _ (List.mem_cons_self ..))
    go_wp2_with fail
    refine (known_ex _ (HH.out.below (Frm.b (w := w) (bs := [(w.heap.size + 1, (rdBox r)), (w.heap.size, (stBox s (.slice A k c)))]) (by (repeat (with_reducible first | exact HR.out | apply Frm.drew | apply Frm.alloc | apply Frm.drewN))))) (HT.out.below (Frm.b (w := w) (bs := [(w.heap.size + 1, (rdBox r)), (w.heap.size, (stBox s (.slice A k c)))]) (by (repeat (with_reducible first | exact HR.out | apply Frm.drew | apply Frm.alloc | apply Frm.drewN)))))).mono ?_
    rintro e wz ⟨rfl, hbz⟩
    have HZ := Lib.hid (Frm.below (w := w) (bs := [(w.heap.size + 1, (rdBox r)), (w.heap.size, (stBox s (.slice A k c)))]) (by (repeat (with_reducible first | exact HR.out | apply Frm.drew | apply Frm.alloc | apply Frm.drewN))) hbz).b
    clear hbz x0 x1
    go_wp2_with fail
    go_ret
    exact ⟨rfl, HZ.out⟩
  have hr := good_of_readB hd
  have HD := Lib.hid hd
  clear hd
  go_wp2_with fail
  refine (rReading_is HD.out _).mono ?_
  rintro e w3 ⟨rfl, hb⟩
  have HRq := Lib.hid (Frm.below (w := w) (bs := [(w.heap.size + 1, (rdBox r)), (w.heap.size, (stBox s (.slice A k c)))]) (by (repeat (with_reducible first | exact HR.out | apply Frm.drew | apply Frm.alloc | apply Frm.drewN))) hb)
  have HCq := Lib.hid (Chks.below (cs := cs) (by first | exact HC.out | exact HC.out.drew | exact HC.out.below (below_al (Below.refl _ _) _) | exact HC.out.drew.below (below_al (Below.refl _ _) _) | exact (HC.out.below (below_al (Below.refl _ _) _)).drew) hb)
  clear HR HC hb x0 x1
  have HR := HRq
  have HC := HCq
  clear HRq HCq
  have x0 := HR.out.cells (List.mem_cons_self ..)
  have x1 := HR.out.cells (List.mem_cons_of_mem _ (List.mem_cons_self ..))
  have s0 := hg.s0
  have s1 := hg.s1
  have e0 := hg.e0
  have e1 := hg.e1
  by_cases n0 : wr0 < -s.sl
  · go_wp2_with fail
    refine (known_ex _ (HH.out.below (Frm.b (w := w) (bs := [(w.heap.size + 1, (rdBox r)), (w.heap.size, (stBox s (.slice A k c)))]) (by (repeat (with_reducible first | exact HR.out | apply Frm.drew | apply Frm.alloc | apply Frm.drewN))))) (HT.out.below (Frm.b (w := w) (bs := [(w.heap.size + 1, (rdBox r)), (w.heap.size, (stBox s (.slice A k c)))]) (by (repeat (with_reducible first | exact HR.out | apply Frm.drew | apply Frm.alloc | apply Frm.drewN)))))).mono ?_
    rintro e wz ⟨rfl, hbz⟩
    have HZ := Lib.hid (Frm.below (w := w) (bs := [(w.heap.size + 1, (rdBox r)), (w.heap.size, (stBox s (.slice A k c)))]) (by (repeat (with_reducible first | exact HR.out | apply Frm.drew | apply Frm.alloc | apply Frm.drewN))) hbz).b
    clear hbz x0 x1
    go_wp2_with fail
    go_ret
    exact ⟨rfl, HZ.out⟩
  by_cases n1 : s.sl < wr0
  · go_wp2_with fail
    refine (known_ex _ (HH.out.below (Frm.b (w := w) (bs := [(w.heap.size + 1, (rdBox r)), (w.heap.size, (stBox s (.slice A k c)))]) (by (repeat (with_reducible first | exact HR.out | apply Frm.drew | apply Frm.alloc | apply Frm.drewN))))) (HT.out.below (Frm.b (w := w) (bs := [(w.heap.size + 1, (rdBox r)), (w.heap.size, (stBox s (.slice A k c)))]) (by (repeat (with_reducible first | exact HR.out | apply Frm.drew | apply Frm.alloc | apply Frm.drewN)))))).mono ?_
    rintro e wz ⟨rfl, hbz⟩
    have HZ := Lib.hid (Frm.below (w := w) (bs := [(w.heap.size + 1, (rdBox r)), (w.heap.size, (stBox s (.slice A k c)))]) (by (repeat (with_reducible first | exact HR.out | apply Frm.drew | apply Frm.alloc | apply Frm.drewN))) hbz).b
    clear hbz x0 x1
    go_wp2_with fail
    go_ret
    exact ⟨rfl, HZ.out⟩
  by_cases n2 : mi < -2000
  · go_wp2_with fail
    refine (known_ex _ (HH.out.below (Frm.b (w := w) (bs := [(w.heap.size + 1, (rdBox r)), (w.heap.size, (stBox s (.slice A k c)))]) (by (repeat (with_reducible first | exact HR.out | apply Frm.drew | apply Frm.alloc | apply Frm.drewN))))) (HT.out.below (Frm.b (w := w) (bs := [(w.heap.size + 1, (rdBox r)), (w.heap.size, (stBox s (.slice A k c)))]) (by (repeat (with_reducible first | exact HR.out | apply Frm.drew | apply Frm.alloc | apply Frm.drewN)))))).mono ?_
    rintro e wz ⟨rfl, hbz⟩
    have HZ := Lib.hid (Frm.below (w := w) (bs := [(w.heap.size + 1, (rdBox r)), (w.heap.size, (stBox s (.slice A k c)))]) (by (repeat (with_reducible first | exact HR.out | apply Frm.drew | apply Frm.alloc | apply Frm.drewN))) hbz).b
    clear hbz x0 x1
    go_wp2_with fail
    go_ret
    exact ⟨rfl, HZ.out⟩
  by_cases n3 : 1000000 < mi
  · go_wp2_with fail
    refine (known_ex _ (HH.out.below (Frm.b (w := w) (bs := [(w.heap.size + 1, (rdBox r)), (w.heap.size, (stBox s (.slice A k c)))]) (by (repeat (with_reducible first | exact HR.out | apply Frm.drew | apply Frm.alloc | apply Frm.drewN))))) (HT.out.below (Frm.b (w := w) (bs := [(w.heap.size + 1, (rdBox r)), (w.heap.size, (stBox s (.slice A k c)))]) (by (repeat (with_reducible first | exact HR.out | apply Frm.drew | apply Frm.alloc | apply Frm.drewN)))))).mono ?_
    rintro e wz ⟨rfl, hbz⟩
    have HZ := Lib.hid (Frm.below (w := w) (bs := [(w.heap.size + 1, (rdBox r)), (w.heap.size, (stBox s (.slice A k c)))]) (by (repeat (with_reducible first | exact HR.out | apply Frm.drew | apply Frm.alloc | apply Frm.drewN))) hbz).b
    clear hbz x0 x1
    go_wp2_with fail
    go_ret
    exact ⟨rfl, HZ.out⟩
  have c0 := hr.c0
  have c1 := hr.c1
  have d0 := hr.d0
  have d1 := hr.d1
  have m0 := hr.m0
  have m1 := hr.m1
  have hra : 0 ≤ railF r ∧ railF r ≤ 600000 := by unfold railF; omega
  have hsu : sunF s r = railF r - s.ea := by unfold railF sunF; omega
  obtain ⟨a0, a1⟩ := hra
  have HL : Hid (whenL s r = if r.cl = 1 then [(railF r - s.sl, railF r + s.sl)] else if r.cl = 2 then [(sunF s r - s.sl, sunF s r + s.sl)] else if max (railF r) (sunF s r) - s.sl ≤ min (railF r) (sunF s r) + s.sl + 1 then [(min (railF r) (sunF s r) - s.sl, max (railF r) (sunF s r) + s.sl)] else [(min (railF r) (sunF s r) - s.sl, min (railF r) (sunF s r) + s.sl), (max (railF r) (sunF s r) - s.sl, max (railF r) (sunF s r) + s.sl)]) := Lib.hid rfl
  have b0 : -720 ≤ sunF s r := by omega
  have b1 : sunF s r ≤ 600720 := by omega
  clear hsu d0 d1 m0 m1
  have HW : Hid (∀ W, Chks W (.slice A k c) cs → Calls Tryd.prog 17 #[stV s (.slice A k c), rdV r] W fun x w' => OwnSpans2 W w' x (whenL s r)) := Lib.hid (fun W h => when_ok h HS.out HD.out)
  have HRA : Hid (∀ W, Calls Tryd.prog 21 #[rdV r] W fun e w' => e = .returned (.int .i64 (railF r)) ∧ Below W.heap.size W w') := Lib.hid (fun W => (rRail_at hr).mono fun e w' h => ⟨h.1, by rw [← h.2]; exact below_al (Below.refl _ _) _⟩)
  have HSU : Hid (∀ W, Calls Tryd.prog 22 #[stV s (.slice A k c), rdV r] W fun e w' => e = .returned (.int .i64 (sunF s r)) ∧ Below W.heap.size W w') := Lib.hid (fun W => (rSun_at hr e0 e1).mono fun e w' h => ⟨h.1, by rw [← h.2]; exact below_al (below_al (below_al (Below.refl _ _) _) _).drew _⟩)
  generalize whenL s r = l at *
  generalize railF r = ra at *
  generalize sunF s r = su at *
  clear hr hg
  by_cases k1 : r.cl = 1
  · have kk := k1
    have hL : l = [(ra - s.sl, ra + s.sl)] := by rw [HL.out, if_pos k1]
    subst hL
    have q1 : (r.cl == 1) = true := by simp; omega
    have p1 : (r.cl != 1) = false := by simp; omega
    have q2 : (r.cl == 2) = false := by simp; omega
    have p2 : (r.cl != 2) = true := by simp; omega
    have q3 : (r.cl == 3) = false := by simp; omega
    have p3 : (r.cl != 3) = true := by simp; omega
    clear HL c0 c1 kk k1
    go_wp2_with fail
    refine (HW.out _ (by first | exact HC.out | exact HC.out.drew | exact HC.out.below (below_al (Below.refl _ _) _) | exact HC.out.drew.below (below_al (Below.refl _ _) _) | exact (HC.out.below (below_al (Below.refl _ _) _)).drew)).mono ?_
    rintro e w4 ⟨g, hg0, rfl, hg1, hb⟩
    have HRq := Lib.hid (Frm.also (Frm.below (w := w) (bs := [(w.heap.size + 1, (rdBox r)), (w.heap.size, (stBox s (.slice A k c)))]) (by (repeat (with_reducible first | exact HR.out | apply Frm.drew | apply Frm.alloc | apply Frm.drewN))) hb) (show w4.heap[g]? = some (.cells #[.int .i64 (ra - s.sl), .int .i64 (ra + s.sl)] 23) from hg1))
    clear HR HC hb hg0 hg1 HW x0 x1
    have HR := HRq
    clear HRq
    have x0 := HR.out.cells (List.mem_cons_self ..)
    have x1 := HR.out.cells (List.mem_cons_of_mem _ (List.mem_cons_self ..))
    have x2 := HR.out.cells (List.mem_cons_of_mem _ (List.mem_cons_of_mem _ (List.mem_cons_self ..)))
    
    go_upto_region 4 with fail
    go_quiet (fail)
    go_upto_region 6 with fail
    go_region_held3 (fun w' => (∀ o, w'.cell? ⟨w.heap.size + 1, o, none⟩ = #[Value.int .i64 r.day, .int .i64 r.mi, .int .i64 r.cl, .int .i64 r.me, .int .i64 r.al, .int .i64 r.ah, .int .i64 r.dl, .int .i64 r.dh, .int .i64 r.wl, .int .i64 r.wh][o]?) ∧ (∀ o, w'.cell? ⟨w.heap.size, o, none⟩ = #[Value.int .i64 s.hl, .int .i64 s.hh, .int .i64 s.gl, .int .i64 s.gh, .int .i64 s.dr, .int .i64 s.rd, .int .i64 s.ea, .int .i64 s.sl, .slice A k c][o]?)) ((exact (fun hF : Frm w [(g, (.cells #[.int .i64 (ra - s.sl), .int .i64 (ra + s.sl)] 23)), (w.heap.size + 1, (rdBox r)), (w.heap.size, (stBox s (.slice A k c)))] _ => ⟨hF.cells (List.mem_cons_of_mem _ (List.mem_cons_self ..)), hF.cells (List.mem_cons_of_mem _ (List.mem_cons_of_mem _ (List.mem_cons_self ..)))⟩) (by (repeat (with_reducible first | exact HR.out | apply Frm.drew | apply Frm.alloc | apply Frm.drewN))))) (first | (go_at_call 21; refine (HRA.out _).mono ?_; rintro e wa ⟨rfl, hba⟩; have HRq := Lib.hid (Frm.below (w := w) (bs := [(g, (.cells #[.int .i64 (ra - s.sl), .int .i64 (ra + s.sl)] 23)), (w.heap.size + 1, (rdBox r)), (w.heap.size, (stBox s (.slice A k c)))]) (by (repeat (with_reducible first | exact HR.out | apply Frm.drew | apply Frm.alloc | apply Frm.drewN))) hba); clear HR; have HR := HRq; clear HRq hba) | (go_at_call 22; refine (HSU.out _).mono ?_; rintro e wa ⟨rfl, hba⟩; have HRq := Lib.hid (Frm.below (w := w) (bs := [(g, (.cells #[.int .i64 (ra - s.sl), .int .i64 (ra + s.sl)] 23)), (w.heap.size + 1, (rdBox r)), (w.heap.size, (stBox s (.slice A k c)))]) (by (repeat (with_reducible first | exact HR.out | apply Frm.drew | apply Frm.alloc | apply Frm.drewN))) hba); clear HR; have HR := HRq; clear HRq hba))
    clear x0 x1 x2
    have x0 := HR.out.cells (List.mem_cons_self ..)
    have x1 := HR.out.cells (List.mem_cons_of_mem _ (List.mem_cons_self ..))
    have x2 := HR.out.cells (List.mem_cons_of_mem _ (List.mem_cons_of_mem _ (List.mem_cons_self ..)))
    clear HRA HSU
    cases sun
    · have HM1 := Lib.hid (show amB (ra + wr0) [(ra - s.sl, ra + s.sl)] = true by simp [amB]; omega)
      go_wp2_with fail
      refine (among_at (k := 1) (l := [(ra - s.sl, ra + s.sl)]) (bs := [(g, (.cells #[.int .i64 (ra - s.sl), .int .i64 (ra + s.sl)] 23)), (w.heap.size + 1, (rdBox r)), (w.heap.size, (stBox s (.slice A k c)))]) (w0 := w) rfl (by omega) (by (repeat (with_reducible first | exact HR.out | apply Frm.drew | apply Frm.alloc | apply Frm.drewN))) (List.mem_cons_self ..) HM1.out).mono ?_
      rintro e w5 ⟨rfl, hb⟩
      have HRq := Lib.hid (Frm.below (w := w) (bs := [(g, (.cells #[.int .i64 (ra - s.sl), .int .i64 (ra + s.sl)] 23)), (w.heap.size + 1, (rdBox r)), (w.heap.size, (stBox s (.slice A k c)))]) (by (repeat (with_reducible first | exact HR.out | apply Frm.drew | apply Frm.alloc | apply Frm.drewN))) hb)
      clear HR hb HM1 x0 x1 x2
      have HR := HRq
      clear HRq
      have x0 := HR.out.cells (List.mem_cons_self ..)
      have x1 := HR.out.cells (List.mem_cons_of_mem _ (List.mem_cons_self ..))
      have x2 := HR.out.cells (List.mem_cons_of_mem _ (List.mem_cons_of_mem _ (List.mem_cons_self ..)))
      by_cases ura1 : mi < ra - s.sl
      · have HM2 := Lib.hid (show amB (mi) [(ra - s.sl, ra + s.sl)] = false by simp [amB]; omega)
        go_wp2_with fail
        refine (among_at (k := 1) (l := [(ra - s.sl, ra + s.sl)]) (bs := [(g, (.cells #[.int .i64 (ra - s.sl), .int .i64 (ra + s.sl)] 23)), (w.heap.size + 1, (rdBox r)), (w.heap.size, (stBox s (.slice A k c)))]) (w0 := w) rfl (by omega) (by (repeat (with_reducible first | exact HR.out | apply Frm.drew | apply Frm.alloc | apply Frm.drewN))) (List.mem_cons_self ..) HM2.out).mono ?_
        rintro e w6 ⟨rfl, hb⟩
        have HRq := Lib.hid (Frm.below (w := w) (bs := [(g, (.cells #[.int .i64 (ra - s.sl), .int .i64 (ra + s.sl)] 23)), (w.heap.size + 1, (rdBox r)), (w.heap.size, (stBox s (.slice A k c)))]) (by (repeat (with_reducible first | exact HR.out | apply Frm.drew | apply Frm.alloc | apply Frm.drewN))) hb)
        clear HR hb HM2 x0 x1 x2
        have HR := HRq
        clear HRq
        have x0 := HR.out.cells (List.mem_cons_self ..)
        have x1 := HR.out.cells (List.mem_cons_of_mem _ (List.mem_cons_self ..))
        have x2 := HR.out.cells (List.mem_cons_of_mem _ (List.mem_cons_of_mem _ (List.mem_cons_self ..)))
        go_wp2_with fail
        refine (known_ex _ (HH.out.below (Frm.b (w := w) (bs := [(g, (.cells #[.int .i64 (ra - s.sl), .int .i64 (ra + s.sl)] 23)), (w.heap.size + 1, (rdBox r)), (w.heap.size, (stBox s (.slice A k c)))]) (by (repeat (with_reducible first | exact HR.out | apply Frm.drew | apply Frm.alloc | apply Frm.drewN))))) (HT.out.below (Frm.b (w := w) (bs := [(g, (.cells #[.int .i64 (ra - s.sl), .int .i64 (ra + s.sl)] 23)), (w.heap.size + 1, (rdBox r)), (w.heap.size, (stBox s (.slice A k c)))]) (by (repeat (with_reducible first | exact HR.out | apply Frm.drew | apply Frm.alloc | apply Frm.drewN)))))).mono ?_
        rintro e wz ⟨rfl, hbz⟩
        have HZ := Lib.hid (Frm.below (w := w) (bs := [(g, (.cells #[.int .i64 (ra - s.sl), .int .i64 (ra + s.sl)] 23)), (w.heap.size + 1, (rdBox r)), (w.heap.size, (stBox s (.slice A k c)))]) (by (repeat (with_reducible first | exact HR.out | apply Frm.drew | apply Frm.alloc | apply Frm.drewN))) hbz).b
        clear hbz x0 x1 x2
        go_wp2_with fail
        go_ret
        exact ⟨(by first | rfl | exact ret_bool (by simp; omega)), HZ.out⟩
      by_cases ura2 : ra + s.sl < mi
      · have HM2 := Lib.hid (show amB (mi) [(ra - s.sl, ra + s.sl)] = false by simp [amB]; omega)
        go_wp2_with fail
        refine (among_at (k := 1) (l := [(ra - s.sl, ra + s.sl)]) (bs := [(g, (.cells #[.int .i64 (ra - s.sl), .int .i64 (ra + s.sl)] 23)), (w.heap.size + 1, (rdBox r)), (w.heap.size, (stBox s (.slice A k c)))]) (w0 := w) rfl (by omega) (by (repeat (with_reducible first | exact HR.out | apply Frm.drew | apply Frm.alloc | apply Frm.drewN))) (List.mem_cons_self ..) HM2.out).mono ?_
        rintro e w6 ⟨rfl, hb⟩
        have HRq := Lib.hid (Frm.below (w := w) (bs := [(g, (.cells #[.int .i64 (ra - s.sl), .int .i64 (ra + s.sl)] 23)), (w.heap.size + 1, (rdBox r)), (w.heap.size, (stBox s (.slice A k c)))]) (by (repeat (with_reducible first | exact HR.out | apply Frm.drew | apply Frm.alloc | apply Frm.drewN))) hb)
        clear HR hb HM2 x0 x1 x2
        have HR := HRq
        clear HRq
        have x0 := HR.out.cells (List.mem_cons_self ..)
        have x1 := HR.out.cells (List.mem_cons_of_mem _ (List.mem_cons_self ..))
        have x2 := HR.out.cells (List.mem_cons_of_mem _ (List.mem_cons_of_mem _ (List.mem_cons_self ..)))
        go_wp2_with fail
        refine (known_ex _ (HH.out.below (Frm.b (w := w) (bs := [(g, (.cells #[.int .i64 (ra - s.sl), .int .i64 (ra + s.sl)] 23)), (w.heap.size + 1, (rdBox r)), (w.heap.size, (stBox s (.slice A k c)))]) (by (repeat (with_reducible first | exact HR.out | apply Frm.drew | apply Frm.alloc | apply Frm.drewN))))) (HT.out.below (Frm.b (w := w) (bs := [(g, (.cells #[.int .i64 (ra - s.sl), .int .i64 (ra + s.sl)] 23)), (w.heap.size + 1, (rdBox r)), (w.heap.size, (stBox s (.slice A k c)))]) (by (repeat (with_reducible first | exact HR.out | apply Frm.drew | apply Frm.alloc | apply Frm.drewN)))))).mono ?_
        rintro e wz ⟨rfl, hbz⟩
        have HZ := Lib.hid (Frm.below (w := w) (bs := [(g, (.cells #[.int .i64 (ra - s.sl), .int .i64 (ra + s.sl)] 23)), (w.heap.size + 1, (rdBox r)), (w.heap.size, (stBox s (.slice A k c)))]) (by (repeat (with_reducible first | exact HR.out | apply Frm.drew | apply Frm.alloc | apply Frm.drewN))) hbz).b
        clear hbz x0 x1 x2
        go_wp2_with fail
        go_ret
        exact ⟨(by first | rfl | exact ret_bool (by simp; omega)), HZ.out⟩
      have HM2 := Lib.hid (show amB (mi) [(ra - s.sl, ra + s.sl)] = true by simp [amB]; omega)
      go_wp2_with fail
      refine (among_at (k := 1) (l := [(ra - s.sl, ra + s.sl)]) (bs := [(g, (.cells #[.int .i64 (ra - s.sl), .int .i64 (ra + s.sl)] 23)), (w.heap.size + 1, (rdBox r)), (w.heap.size, (stBox s (.slice A k c)))]) (w0 := w) rfl (by omega) (by (repeat (with_reducible first | exact HR.out | apply Frm.drew | apply Frm.alloc | apply Frm.drewN))) (List.mem_cons_self ..) HM2.out).mono ?_
      rintro e w6 ⟨rfl, hb⟩
      have HRq := Lib.hid (Frm.below (w := w) (bs := [(g, (.cells #[.int .i64 (ra - s.sl), .int .i64 (ra + s.sl)] 23)), (w.heap.size + 1, (rdBox r)), (w.heap.size, (stBox s (.slice A k c)))]) (by (repeat (with_reducible first | exact HR.out | apply Frm.drew | apply Frm.alloc | apply Frm.drewN))) hb)
      clear HR hb HM2 x0 x1 x2
      have HR := HRq
      clear HRq
      have x0 := HR.out.cells (List.mem_cons_self ..)
      have x1 := HR.out.cells (List.mem_cons_of_mem _ (List.mem_cons_self ..))
      have x2 := HR.out.cells (List.mem_cons_of_mem _ (List.mem_cons_of_mem _ (List.mem_cons_self ..)))
      go_wp2_with fail
      refine (known_ex _ (HH.out.below (Frm.b (w := w) (bs := [(g, (.cells #[.int .i64 (ra - s.sl), .int .i64 (ra + s.sl)] 23)), (w.heap.size + 1, (rdBox r)), (w.heap.size, (stBox s (.slice A k c)))]) (by (repeat (with_reducible first | exact HR.out | apply Frm.drew | apply Frm.alloc | apply Frm.drewN))))) (HT.out.below (Frm.b (w := w) (bs := [(g, (.cells #[.int .i64 (ra - s.sl), .int .i64 (ra + s.sl)] 23)), (w.heap.size + 1, (rdBox r)), (w.heap.size, (stBox s (.slice A k c)))]) (by (repeat (with_reducible first | exact HR.out | apply Frm.drew | apply Frm.alloc | apply Frm.drewN)))))).mono ?_
      rintro e wz ⟨rfl, hbz⟩
      have HZ := Lib.hid (Frm.below (w := w) (bs := [(g, (.cells #[.int .i64 (ra - s.sl), .int .i64 (ra + s.sl)] 23)), (w.heap.size + 1, (rdBox r)), (w.heap.size, (stBox s (.slice A k c)))]) (by (repeat (with_reducible first | exact HR.out | apply Frm.drew | apply Frm.alloc | apply Frm.drewN))) hbz).b
      clear hbz x0 x1 x2
      go_wp2_with fail
      go_ret
      exact ⟨(by first | rfl | exact ret_bool (by simp; omega)), HZ.out⟩
    · by_cases ura1 : mi < ra - s.sl
      · have HM2 := Lib.hid (show amB (mi) [(ra - s.sl, ra + s.sl)] = false by simp [amB]; omega)
        go_wp2_with fail
        refine (among_at (k := 1) (l := [(ra - s.sl, ra + s.sl)]) (bs := [(g, (.cells #[.int .i64 (ra - s.sl), .int .i64 (ra + s.sl)] 23)), (w.heap.size + 1, (rdBox r)), (w.heap.size, (stBox s (.slice A k c)))]) (w0 := w) rfl (by omega) (by (repeat (with_reducible first | exact HR.out | apply Frm.drew | apply Frm.alloc | apply Frm.drewN))) (List.mem_cons_self ..) HM2.out).mono ?_
        rintro e w5 ⟨rfl, hb⟩
        have HRq := Lib.hid (Frm.below (w := w) (bs := [(g, (.cells #[.int .i64 (ra - s.sl), .int .i64 (ra + s.sl)] 23)), (w.heap.size + 1, (rdBox r)), (w.heap.size, (stBox s (.slice A k c)))]) (by (repeat (with_reducible first | exact HR.out | apply Frm.drew | apply Frm.alloc | apply Frm.drewN))) hb)
        clear HR hb HM2 x0 x1 x2
        have HR := HRq
        clear HRq
        have x0 := HR.out.cells (List.mem_cons_self ..)
        have x1 := HR.out.cells (List.mem_cons_of_mem _ (List.mem_cons_self ..))
        have x2 := HR.out.cells (List.mem_cons_of_mem _ (List.mem_cons_of_mem _ (List.mem_cons_self ..)))
        go_wp2_with fail
        refine (known_ex _ (HH.out.below (Frm.b (w := w) (bs := [(g, (.cells #[.int .i64 (ra - s.sl), .int .i64 (ra + s.sl)] 23)), (w.heap.size + 1, (rdBox r)), (w.heap.size, (stBox s (.slice A k c)))]) (by (repeat (with_reducible first | exact HR.out | apply Frm.drew | apply Frm.alloc | apply Frm.drewN))))) (HT.out.below (Frm.b (w := w) (bs := [(g, (.cells #[.int .i64 (ra - s.sl), .int .i64 (ra + s.sl)] 23)), (w.heap.size + 1, (rdBox r)), (w.heap.size, (stBox s (.slice A k c)))]) (by (repeat (with_reducible first | exact HR.out | apply Frm.drew | apply Frm.alloc | apply Frm.drewN)))))).mono ?_
        rintro e wz ⟨rfl, hbz⟩
        have HZ := Lib.hid (Frm.below (w := w) (bs := [(g, (.cells #[.int .i64 (ra - s.sl), .int .i64 (ra + s.sl)] 23)), (w.heap.size + 1, (rdBox r)), (w.heap.size, (stBox s (.slice A k c)))]) (by (repeat (with_reducible first | exact HR.out | apply Frm.drew | apply Frm.alloc | apply Frm.drewN))) hbz).b
        clear hbz x0 x1 x2
        go_wp2_with fail
        go_ret
        exact ⟨(by first | rfl | exact ret_bool (by simp; omega)), HZ.out⟩
      by_cases ura2 : ra + s.sl < mi
      · have HM2 := Lib.hid (show amB (mi) [(ra - s.sl, ra + s.sl)] = false by simp [amB]; omega)
        go_wp2_with fail
        refine (among_at (k := 1) (l := [(ra - s.sl, ra + s.sl)]) (bs := [(g, (.cells #[.int .i64 (ra - s.sl), .int .i64 (ra + s.sl)] 23)), (w.heap.size + 1, (rdBox r)), (w.heap.size, (stBox s (.slice A k c)))]) (w0 := w) rfl (by omega) (by (repeat (with_reducible first | exact HR.out | apply Frm.drew | apply Frm.alloc | apply Frm.drewN))) (List.mem_cons_self ..) HM2.out).mono ?_
        rintro e w5 ⟨rfl, hb⟩
        have HRq := Lib.hid (Frm.below (w := w) (bs := [(g, (.cells #[.int .i64 (ra - s.sl), .int .i64 (ra + s.sl)] 23)), (w.heap.size + 1, (rdBox r)), (w.heap.size, (stBox s (.slice A k c)))]) (by (repeat (with_reducible first | exact HR.out | apply Frm.drew | apply Frm.alloc | apply Frm.drewN))) hb)
        clear HR hb HM2 x0 x1 x2
        have HR := HRq
        clear HRq
        have x0 := HR.out.cells (List.mem_cons_self ..)
        have x1 := HR.out.cells (List.mem_cons_of_mem _ (List.mem_cons_self ..))
        have x2 := HR.out.cells (List.mem_cons_of_mem _ (List.mem_cons_of_mem _ (List.mem_cons_self ..)))
        go_wp2_with fail
        refine (known_ex _ (HH.out.below (Frm.b (w := w) (bs := [(g, (.cells #[.int .i64 (ra - s.sl), .int .i64 (ra + s.sl)] 23)), (w.heap.size + 1, (rdBox r)), (w.heap.size, (stBox s (.slice A k c)))]) (by (repeat (with_reducible first | exact HR.out | apply Frm.drew | apply Frm.alloc | apply Frm.drewN))))) (HT.out.below (Frm.b (w := w) (bs := [(g, (.cells #[.int .i64 (ra - s.sl), .int .i64 (ra + s.sl)] 23)), (w.heap.size + 1, (rdBox r)), (w.heap.size, (stBox s (.slice A k c)))]) (by (repeat (with_reducible first | exact HR.out | apply Frm.drew | apply Frm.alloc | apply Frm.drewN)))))).mono ?_
        rintro e wz ⟨rfl, hbz⟩
        have HZ := Lib.hid (Frm.below (w := w) (bs := [(g, (.cells #[.int .i64 (ra - s.sl), .int .i64 (ra + s.sl)] 23)), (w.heap.size + 1, (rdBox r)), (w.heap.size, (stBox s (.slice A k c)))]) (by (repeat (with_reducible first | exact HR.out | apply Frm.drew | apply Frm.alloc | apply Frm.drewN))) hbz).b
        clear hbz x0 x1 x2
        go_wp2_with fail
        go_ret
        exact ⟨(by first | rfl | exact ret_bool (by simp; omega)), HZ.out⟩
      have HM2 := Lib.hid (show amB (mi) [(ra - s.sl, ra + s.sl)] = true by simp [amB]; omega)
      go_wp2_with fail
      refine (among_at (k := 1) (l := [(ra - s.sl, ra + s.sl)]) (bs := [(g, (.cells #[.int .i64 (ra - s.sl), .int .i64 (ra + s.sl)] 23)), (w.heap.size + 1, (rdBox r)), (w.heap.size, (stBox s (.slice A k c)))]) (w0 := w) rfl (by omega) (by (repeat (with_reducible first | exact HR.out | apply Frm.drew | apply Frm.alloc | apply Frm.drewN))) (List.mem_cons_self ..) HM2.out).mono ?_
      rintro e w5 ⟨rfl, hb⟩
      have HRq := Lib.hid (Frm.below (w := w) (bs := [(g, (.cells #[.int .i64 (ra - s.sl), .int .i64 (ra + s.sl)] 23)), (w.heap.size + 1, (rdBox r)), (w.heap.size, (stBox s (.slice A k c)))]) (by (repeat (with_reducible first | exact HR.out | apply Frm.drew | apply Frm.alloc | apply Frm.drewN))) hb)
      clear HR hb HM2 x0 x1 x2
      have HR := HRq
      clear HRq
      have x0 := HR.out.cells (List.mem_cons_self ..)
      have x1 := HR.out.cells (List.mem_cons_of_mem _ (List.mem_cons_self ..))
      have x2 := HR.out.cells (List.mem_cons_of_mem _ (List.mem_cons_of_mem _ (List.mem_cons_self ..)))
      go_wp2_with fail
      refine (known_ex _ (HH.out.below (Frm.b (w := w) (bs := [(g, (.cells #[.int .i64 (ra - s.sl), .int .i64 (ra + s.sl)] 23)), (w.heap.size + 1, (rdBox r)), (w.heap.size, (stBox s (.slice A k c)))]) (by (repeat (with_reducible first | exact HR.out | apply Frm.drew | apply Frm.alloc | apply Frm.drewN))))) (HT.out.below (Frm.b (w := w) (bs := [(g, (.cells #[.int .i64 (ra - s.sl), .int .i64 (ra + s.sl)] 23)), (w.heap.size + 1, (rdBox r)), (w.heap.size, (stBox s (.slice A k c)))]) (by (repeat (with_reducible first | exact HR.out | apply Frm.drew | apply Frm.alloc | apply Frm.drewN)))))).mono ?_
      rintro e wz ⟨rfl, hbz⟩
      have HZ := Lib.hid (Frm.below (w := w) (bs := [(g, (.cells #[.int .i64 (ra - s.sl), .int .i64 (ra + s.sl)] 23)), (w.heap.size + 1, (rdBox r)), (w.heap.size, (stBox s (.slice A k c)))]) (by (repeat (with_reducible first | exact HR.out | apply Frm.drew | apply Frm.alloc | apply Frm.drewN))) hbz).b
      clear hbz x0 x1 x2
      go_wp2_with fail
      go_ret
      exact ⟨(by first | rfl | exact ret_bool (by simp; omega)), HZ.out⟩
  by_cases k2 : r.cl = 2
  · have kk := k2
    have hL : l = [(su - s.sl, su + s.sl)] := by rw [HL.out, if_neg k1, if_pos k2]
    subst hL
    have q1 : (r.cl == 1) = false := by simp; omega
    have p1 : (r.cl != 1) = true := by simp; omega
    have q2 : (r.cl == 2) = true := by simp; omega
    have p2 : (r.cl != 2) = false := by simp; omega
    have q3 : (r.cl == 3) = false := by simp; omega
    have p3 : (r.cl != 3) = true := by simp; omega
    clear HL c0 c1 kk k1 k2
    go_wp2_with fail
    refine (HW.out _ (by first | exact HC.out | exact HC.out.drew | exact HC.out.below (below_al (Below.refl _ _) _) | exact HC.out.drew.below (below_al (Below.refl _ _) _) | exact (HC.out.below (below_al (Below.refl _ _) _)).drew)).mono ?_
    rintro e w4 ⟨g, hg0, rfl, hg1, hb⟩
    have HRq := Lib.hid (Frm.also (Frm.below (w := w) (bs := [(w.heap.size + 1, (rdBox r)), (w.heap.size, (stBox s (.slice A k c)))]) (by (repeat (with_reducible first | exact HR.out | apply Frm.drew | apply Frm.alloc | apply Frm.drewN))) hb) (show w4.heap[g]? = some (.cells #[.int .i64 (su - s.sl), .int .i64 (su + s.sl)] 23) from hg1))
    clear HR HC hb hg0 hg1 HW x0 x1
    have HR := HRq
    clear HRq
    have x0 := HR.out.cells (List.mem_cons_self ..)
    have x1 := HR.out.cells (List.mem_cons_of_mem _ (List.mem_cons_self ..))
    have x2 := HR.out.cells (List.mem_cons_of_mem _ (List.mem_cons_of_mem _ (List.mem_cons_self ..)))
    
    go_upto_region 4 with fail
    go_quiet (fail)
    go_upto_region 6 with fail
    go_region_held3 (fun w' => (∀ o, w'.cell? ⟨w.heap.size + 1, o, none⟩ = #[Value.int .i64 r.day, .int .i64 r.mi, .int .i64 r.cl, .int .i64 r.me, .int .i64 r.al, .int .i64 r.ah, .int .i64 r.dl, .int .i64 r.dh, .int .i64 r.wl, .int .i64 r.wh][o]?) ∧ (∀ o, w'.cell? ⟨w.heap.size, o, none⟩ = #[Value.int .i64 s.hl, .int .i64 s.hh, .int .i64 s.gl, .int .i64 s.gh, .int .i64 s.dr, .int .i64 s.rd, .int .i64 s.ea, .int .i64 s.sl, .slice A k c][o]?)) ((exact (fun hF : Frm w [(g, (.cells #[.int .i64 (su - s.sl), .int .i64 (su + s.sl)] 23)), (w.heap.size + 1, (rdBox r)), (w.heap.size, (stBox s (.slice A k c)))] _ => ⟨hF.cells (List.mem_cons_of_mem _ (List.mem_cons_self ..)), hF.cells (List.mem_cons_of_mem _ (List.mem_cons_of_mem _ (List.mem_cons_self ..)))⟩) (by (repeat (with_reducible first | exact HR.out | apply Frm.drew | apply Frm.alloc | apply Frm.drewN))))) (first | (go_at_call 21; refine (HRA.out _).mono ?_; rintro e wa ⟨rfl, hba⟩; have HRq := Lib.hid (Frm.below (w := w) (bs := [(g, (.cells #[.int .i64 (su - s.sl), .int .i64 (su + s.sl)] 23)), (w.heap.size + 1, (rdBox r)), (w.heap.size, (stBox s (.slice A k c)))]) (by (repeat (with_reducible first | exact HR.out | apply Frm.drew | apply Frm.alloc | apply Frm.drewN))) hba); clear HR; have HR := HRq; clear HRq hba) | (go_at_call 22; refine (HSU.out _).mono ?_; rintro e wa ⟨rfl, hba⟩; have HRq := Lib.hid (Frm.below (w := w) (bs := [(g, (.cells #[.int .i64 (su - s.sl), .int .i64 (su + s.sl)] 23)), (w.heap.size + 1, (rdBox r)), (w.heap.size, (stBox s (.slice A k c)))]) (by (repeat (with_reducible first | exact HR.out | apply Frm.drew | apply Frm.alloc | apply Frm.drewN))) hba); clear HR; have HR := HRq; clear HRq hba))
    clear x0 x1 x2
    have x0 := HR.out.cells (List.mem_cons_self ..)
    have x1 := HR.out.cells (List.mem_cons_of_mem _ (List.mem_cons_self ..))
    have x2 := HR.out.cells (List.mem_cons_of_mem _ (List.mem_cons_of_mem _ (List.mem_cons_self ..)))
    clear HRA HSU
    cases sun
    · by_cases usu1 : mi < su - s.sl
      · have HM2 := Lib.hid (show amB (mi) [(su - s.sl, su + s.sl)] = false by simp [amB]; omega)
        go_wp2_with fail
        refine (among_at (k := 1) (l := [(su - s.sl, su + s.sl)]) (bs := [(g, (.cells #[.int .i64 (su - s.sl), .int .i64 (su + s.sl)] 23)), (w.heap.size + 1, (rdBox r)), (w.heap.size, (stBox s (.slice A k c)))]) (w0 := w) rfl (by omega) (by (repeat (with_reducible first | exact HR.out | apply Frm.drew | apply Frm.alloc | apply Frm.drewN))) (List.mem_cons_self ..) HM2.out).mono ?_
        rintro e w5 ⟨rfl, hb⟩
        have HRq := Lib.hid (Frm.below (w := w) (bs := [(g, (.cells #[.int .i64 (su - s.sl), .int .i64 (su + s.sl)] 23)), (w.heap.size + 1, (rdBox r)), (w.heap.size, (stBox s (.slice A k c)))]) (by (repeat (with_reducible first | exact HR.out | apply Frm.drew | apply Frm.alloc | apply Frm.drewN))) hb)
        clear HR hb HM2 x0 x1 x2
        have HR := HRq
        clear HRq
        have x0 := HR.out.cells (List.mem_cons_self ..)
        have x1 := HR.out.cells (List.mem_cons_of_mem _ (List.mem_cons_self ..))
        have x2 := HR.out.cells (List.mem_cons_of_mem _ (List.mem_cons_of_mem _ (List.mem_cons_self ..)))
        go_wp2_with fail
        refine (known_ex _ (HH.out.below (Frm.b (w := w) (bs := [(g, (.cells #[.int .i64 (su - s.sl), .int .i64 (su + s.sl)] 23)), (w.heap.size + 1, (rdBox r)), (w.heap.size, (stBox s (.slice A k c)))]) (by (repeat (with_reducible first | exact HR.out | apply Frm.drew | apply Frm.alloc | apply Frm.drewN))))) (HT.out.below (Frm.b (w := w) (bs := [(g, (.cells #[.int .i64 (su - s.sl), .int .i64 (su + s.sl)] 23)), (w.heap.size + 1, (rdBox r)), (w.heap.size, (stBox s (.slice A k c)))]) (by (repeat (with_reducible first | exact HR.out | apply Frm.drew | apply Frm.alloc | apply Frm.drewN)))))).mono ?_
        rintro e wz ⟨rfl, hbz⟩
        have HZ := Lib.hid (Frm.below (w := w) (bs := [(g, (.cells #[.int .i64 (su - s.sl), .int .i64 (su + s.sl)] 23)), (w.heap.size + 1, (rdBox r)), (w.heap.size, (stBox s (.slice A k c)))]) (by (repeat (with_reducible first | exact HR.out | apply Frm.drew | apply Frm.alloc | apply Frm.drewN))) hbz).b
        clear hbz x0 x1 x2
        go_wp2_with fail
        go_ret
        exact ⟨(by first | rfl | exact ret_bool (by simp; omega)), HZ.out⟩
      by_cases usu2 : su + s.sl < mi
      · have HM2 := Lib.hid (show amB (mi) [(su - s.sl, su + s.sl)] = false by simp [amB]; omega)
        go_wp2_with fail
        refine (among_at (k := 1) (l := [(su - s.sl, su + s.sl)]) (bs := [(g, (.cells #[.int .i64 (su - s.sl), .int .i64 (su + s.sl)] 23)), (w.heap.size + 1, (rdBox r)), (w.heap.size, (stBox s (.slice A k c)))]) (w0 := w) rfl (by omega) (by (repeat (with_reducible first | exact HR.out | apply Frm.drew | apply Frm.alloc | apply Frm.drewN))) (List.mem_cons_self ..) HM2.out).mono ?_
        rintro e w5 ⟨rfl, hb⟩
        have HRq := Lib.hid (Frm.below (w := w) (bs := [(g, (.cells #[.int .i64 (su - s.sl), .int .i64 (su + s.sl)] 23)), (w.heap.size + 1, (rdBox r)), (w.heap.size, (stBox s (.slice A k c)))]) (by (repeat (with_reducible first | exact HR.out | apply Frm.drew | apply Frm.alloc | apply Frm.drewN))) hb)
        clear HR hb HM2 x0 x1 x2
        have HR := HRq
        clear HRq
        have x0 := HR.out.cells (List.mem_cons_self ..)
        have x1 := HR.out.cells (List.mem_cons_of_mem _ (List.mem_cons_self ..))
        have x2 := HR.out.cells (List.mem_cons_of_mem _ (List.mem_cons_of_mem _ (List.mem_cons_self ..)))
        go_wp2_with fail
        refine (known_ex _ (HH.out.below (Frm.b (w := w) (bs := [(g, (.cells #[.int .i64 (su - s.sl), .int .i64 (su + s.sl)] 23)), (w.heap.size + 1, (rdBox r)), (w.heap.size, (stBox s (.slice A k c)))]) (by (repeat (with_reducible first | exact HR.out | apply Frm.drew | apply Frm.alloc | apply Frm.drewN))))) (HT.out.below (Frm.b (w := w) (bs := [(g, (.cells #[.int .i64 (su - s.sl), .int .i64 (su + s.sl)] 23)), (w.heap.size + 1, (rdBox r)), (w.heap.size, (stBox s (.slice A k c)))]) (by (repeat (with_reducible first | exact HR.out | apply Frm.drew | apply Frm.alloc | apply Frm.drewN)))))).mono ?_
        rintro e wz ⟨rfl, hbz⟩
        have HZ := Lib.hid (Frm.below (w := w) (bs := [(g, (.cells #[.int .i64 (su - s.sl), .int .i64 (su + s.sl)] 23)), (w.heap.size + 1, (rdBox r)), (w.heap.size, (stBox s (.slice A k c)))]) (by (repeat (with_reducible first | exact HR.out | apply Frm.drew | apply Frm.alloc | apply Frm.drewN))) hbz).b
        clear hbz x0 x1 x2
        go_wp2_with fail
        go_ret
        exact ⟨(by first | rfl | exact ret_bool (by simp; omega)), HZ.out⟩
      have HM2 := Lib.hid (show amB (mi) [(su - s.sl, su + s.sl)] = true by simp [amB]; omega)
      go_wp2_with fail
      refine (among_at (k := 1) (l := [(su - s.sl, su + s.sl)]) (bs := [(g, (.cells #[.int .i64 (su - s.sl), .int .i64 (su + s.sl)] 23)), (w.heap.size + 1, (rdBox r)), (w.heap.size, (stBox s (.slice A k c)))]) (w0 := w) rfl (by omega) (by (repeat (with_reducible first | exact HR.out | apply Frm.drew | apply Frm.alloc | apply Frm.drewN))) (List.mem_cons_self ..) HM2.out).mono ?_
      rintro e w5 ⟨rfl, hb⟩
      have HRq := Lib.hid (Frm.below (w := w) (bs := [(g, (.cells #[.int .i64 (su - s.sl), .int .i64 (su + s.sl)] 23)), (w.heap.size + 1, (rdBox r)), (w.heap.size, (stBox s (.slice A k c)))]) (by (repeat (with_reducible first | exact HR.out | apply Frm.drew | apply Frm.alloc | apply Frm.drewN))) hb)
      clear HR hb HM2 x0 x1 x2
      have HR := HRq
      clear HRq
      have x0 := HR.out.cells (List.mem_cons_self ..)
      have x1 := HR.out.cells (List.mem_cons_of_mem _ (List.mem_cons_self ..))
      have x2 := HR.out.cells (List.mem_cons_of_mem _ (List.mem_cons_of_mem _ (List.mem_cons_self ..)))
      go_wp2_with fail
      refine (known_ex _ (HH.out.below (Frm.b (w := w) (bs := [(g, (.cells #[.int .i64 (su - s.sl), .int .i64 (su + s.sl)] 23)), (w.heap.size + 1, (rdBox r)), (w.heap.size, (stBox s (.slice A k c)))]) (by (repeat (with_reducible first | exact HR.out | apply Frm.drew | apply Frm.alloc | apply Frm.drewN))))) (HT.out.below (Frm.b (w := w) (bs := [(g, (.cells #[.int .i64 (su - s.sl), .int .i64 (su + s.sl)] 23)), (w.heap.size + 1, (rdBox r)), (w.heap.size, (stBox s (.slice A k c)))]) (by (repeat (with_reducible first | exact HR.out | apply Frm.drew | apply Frm.alloc | apply Frm.drewN)))))).mono ?_
      rintro e wz ⟨rfl, hbz⟩
      have HZ := Lib.hid (Frm.below (w := w) (bs := [(g, (.cells #[.int .i64 (su - s.sl), .int .i64 (su + s.sl)] 23)), (w.heap.size + 1, (rdBox r)), (w.heap.size, (stBox s (.slice A k c)))]) (by (repeat (with_reducible first | exact HR.out | apply Frm.drew | apply Frm.alloc | apply Frm.drewN))) hbz).b
      clear hbz x0 x1 x2
      go_wp2_with fail
      go_ret
      exact ⟨(by first | rfl | exact ret_bool (by simp; omega)), HZ.out⟩
    · have HM1 := Lib.hid (show amB (su + wr0) [(su - s.sl, su + s.sl)] = true by simp [amB]; omega)
      go_wp2_with fail
      refine (among_at (k := 1) (l := [(su - s.sl, su + s.sl)]) (bs := [(g, (.cells #[.int .i64 (su - s.sl), .int .i64 (su + s.sl)] 23)), (w.heap.size + 1, (rdBox r)), (w.heap.size, (stBox s (.slice A k c)))]) (w0 := w) rfl (by omega) (by (repeat (with_reducible first | exact HR.out | apply Frm.drew | apply Frm.alloc | apply Frm.drewN))) (List.mem_cons_self ..) HM1.out).mono ?_
      rintro e w5 ⟨rfl, hb⟩
      have HRq := Lib.hid (Frm.below (w := w) (bs := [(g, (.cells #[.int .i64 (su - s.sl), .int .i64 (su + s.sl)] 23)), (w.heap.size + 1, (rdBox r)), (w.heap.size, (stBox s (.slice A k c)))]) (by (repeat (with_reducible first | exact HR.out | apply Frm.drew | apply Frm.alloc | apply Frm.drewN))) hb)
      clear HR hb HM1 x0 x1 x2
      have HR := HRq
      clear HRq
      have x0 := HR.out.cells (List.mem_cons_self ..)
      have x1 := HR.out.cells (List.mem_cons_of_mem _ (List.mem_cons_self ..))
      have x2 := HR.out.cells (List.mem_cons_of_mem _ (List.mem_cons_of_mem _ (List.mem_cons_self ..)))
      by_cases usu1 : mi < su - s.sl
      · have HM2 := Lib.hid (show amB (mi) [(su - s.sl, su + s.sl)] = false by simp [amB]; omega)
        go_wp2_with fail
        refine (among_at (k := 1) (l := [(su - s.sl, su + s.sl)]) (bs := [(g, (.cells #[.int .i64 (su - s.sl), .int .i64 (su + s.sl)] 23)), (w.heap.size + 1, (rdBox r)), (w.heap.size, (stBox s (.slice A k c)))]) (w0 := w) rfl (by omega) (by (repeat (with_reducible first | exact HR.out | apply Frm.drew | apply Frm.alloc | apply Frm.drewN))) (List.mem_cons_self ..) HM2.out).mono ?_
        rintro e w6 ⟨rfl, hb⟩
        have HRq := Lib.hid (Frm.below (w := w) (bs := [(g, (.cells #[.int .i64 (su - s.sl), .int .i64 (su + s.sl)] 23)), (w.heap.size + 1, (rdBox r)), (w.heap.size, (stBox s (.slice A k c)))]) (by (repeat (with_reducible first | exact HR.out | apply Frm.drew | apply Frm.alloc | apply Frm.drewN))) hb)
        clear HR hb HM2 x0 x1 x2
        have HR := HRq
        clear HRq
        have x0 := HR.out.cells (List.mem_cons_self ..)
        have x1 := HR.out.cells (List.mem_cons_of_mem _ (List.mem_cons_self ..))
        have x2 := HR.out.cells (List.mem_cons_of_mem _ (List.mem_cons_of_mem _ (List.mem_cons_self ..)))
        go_wp2_with fail
        refine (known_ex _ (HH.out.below (Frm.b (w := w) (bs := [(g, (.cells #[.int .i64 (su - s.sl), .int .i64 (su + s.sl)] 23)), (w.heap.size + 1, (rdBox r)), (w.heap.size, (stBox s (.slice A k c)))]) (by (repeat (with_reducible first | exact HR.out | apply Frm.drew | apply Frm.alloc | apply Frm.drewN))))) (HT.out.below (Frm.b (w := w) (bs := [(g, (.cells #[.int .i64 (su - s.sl), .int .i64 (su + s.sl)] 23)), (w.heap.size + 1, (rdBox r)), (w.heap.size, (stBox s (.slice A k c)))]) (by (repeat (with_reducible first | exact HR.out | apply Frm.drew | apply Frm.alloc | apply Frm.drewN)))))).mono ?_
        rintro e wz ⟨rfl, hbz⟩
        have HZ := Lib.hid (Frm.below (w := w) (bs := [(g, (.cells #[.int .i64 (su - s.sl), .int .i64 (su + s.sl)] 23)), (w.heap.size + 1, (rdBox r)), (w.heap.size, (stBox s (.slice A k c)))]) (by (repeat (with_reducible first | exact HR.out | apply Frm.drew | apply Frm.alloc | apply Frm.drewN))) hbz).b
        clear hbz x0 x1 x2
        go_wp2_with fail
        go_ret
        exact ⟨(by first | rfl | exact ret_bool (by simp; omega)), HZ.out⟩
      by_cases usu2 : su + s.sl < mi
      · have HM2 := Lib.hid (show amB (mi) [(su - s.sl, su + s.sl)] = false by simp [amB]; omega)
        go_wp2_with fail
        refine (among_at (k := 1) (l := [(su - s.sl, su + s.sl)]) (bs := [(g, (.cells #[.int .i64 (su - s.sl), .int .i64 (su + s.sl)] 23)), (w.heap.size + 1, (rdBox r)), (w.heap.size, (stBox s (.slice A k c)))]) (w0 := w) rfl (by omega) (by (repeat (with_reducible first | exact HR.out | apply Frm.drew | apply Frm.alloc | apply Frm.drewN))) (List.mem_cons_self ..) HM2.out).mono ?_
        rintro e w6 ⟨rfl, hb⟩
        have HRq := Lib.hid (Frm.below (w := w) (bs := [(g, (.cells #[.int .i64 (su - s.sl), .int .i64 (su + s.sl)] 23)), (w.heap.size + 1, (rdBox r)), (w.heap.size, (stBox s (.slice A k c)))]) (by (repeat (with_reducible first | exact HR.out | apply Frm.drew | apply Frm.alloc | apply Frm.drewN))) hb)
        clear HR hb HM2 x0 x1 x2
        have HR := HRq
        clear HRq
        have x0 := HR.out.cells (List.mem_cons_self ..)
        have x1 := HR.out.cells (List.mem_cons_of_mem _ (List.mem_cons_self ..))
        have x2 := HR.out.cells (List.mem_cons_of_mem _ (List.mem_cons_of_mem _ (List.mem_cons_self ..)))
        go_wp2_with fail
        refine (known_ex _ (HH.out.below (Frm.b (w := w) (bs := [(g, (.cells #[.int .i64 (su - s.sl), .int .i64 (su + s.sl)] 23)), (w.heap.size + 1, (rdBox r)), (w.heap.size, (stBox s (.slice A k c)))]) (by (repeat (with_reducible first | exact HR.out | apply Frm.drew | apply Frm.alloc | apply Frm.drewN))))) (HT.out.below (Frm.b (w := w) (bs := [(g, (.cells #[.int .i64 (su - s.sl), .int .i64 (su + s.sl)] 23)), (w.heap.size + 1, (rdBox r)), (w.heap.size, (stBox s (.slice A k c)))]) (by (repeat (with_reducible first | exact HR.out | apply Frm.drew | apply Frm.alloc | apply Frm.drewN)))))).mono ?_
        rintro e wz ⟨rfl, hbz⟩
        have HZ := Lib.hid (Frm.below (w := w) (bs := [(g, (.cells #[.int .i64 (su - s.sl), .int .i64 (su + s.sl)] 23)), (w.heap.size + 1, (rdBox r)), (w.heap.size, (stBox s (.slice A k c)))]) (by (repeat (with_reducible first | exact HR.out | apply Frm.drew | apply Frm.alloc | apply Frm.drewN))) hbz).b
        clear hbz x0 x1 x2
        go_wp2_with fail
        go_ret
        exact ⟨(by first | rfl | exact ret_bool (by simp; omega)), HZ.out⟩
      have HM2 := Lib.hid (show amB (mi) [(su - s.sl, su + s.sl)] = true by simp [amB]; omega)
      go_wp2_with fail
      refine (among_at (k := 1) (l := [(su - s.sl, su + s.sl)]) (bs := [(g, (.cells #[.int .i64 (su - s.sl), .int .i64 (su + s.sl)] 23)), (w.heap.size + 1, (rdBox r)), (w.heap.size, (stBox s (.slice A k c)))]) (w0 := w) rfl (by omega) (by (repeat (with_reducible first | exact HR.out | apply Frm.drew | apply Frm.alloc | apply Frm.drewN))) (List.mem_cons_self ..) HM2.out).mono ?_
      rintro e w6 ⟨rfl, hb⟩
      have HRq := Lib.hid (Frm.below (w := w) (bs := [(g, (.cells #[.int .i64 (su - s.sl), .int .i64 (su + s.sl)] 23)), (w.heap.size + 1, (rdBox r)), (w.heap.size, (stBox s (.slice A k c)))]) (by (repeat (with_reducible first | exact HR.out | apply Frm.drew | apply Frm.alloc | apply Frm.drewN))) hb)
      clear HR hb HM2 x0 x1 x2
      have HR := HRq
      clear HRq
      have x0 := HR.out.cells (List.mem_cons_self ..)
      have x1 := HR.out.cells (List.mem_cons_of_mem _ (List.mem_cons_self ..))
      have x2 := HR.out.cells (List.mem_cons_of_mem _ (List.mem_cons_of_mem _ (List.mem_cons_self ..)))
      go_wp2_with fail
      refine (known_ex _ (HH.out.below (Frm.b (w := w) (bs := [(g, (.cells #[.int .i64 (su - s.sl), .int .i64 (su + s.sl)] 23)), (w.heap.size + 1, (rdBox r)), (w.heap.size, (stBox s (.slice A k c)))]) (by (repeat (with_reducible first | exact HR.out | apply Frm.drew | apply Frm.alloc | apply Frm.drewN))))) (HT.out.below (Frm.b (w := w) (bs := [(g, (.cells #[.int .i64 (su - s.sl), .int .i64 (su + s.sl)] 23)), (w.heap.size + 1, (rdBox r)), (w.heap.size, (stBox s (.slice A k c)))]) (by (repeat (with_reducible first | exact HR.out | apply Frm.drew | apply Frm.alloc | apply Frm.drewN)))))).mono ?_
      rintro e wz ⟨rfl, hbz⟩
      have HZ := Lib.hid (Frm.below (w := w) (bs := [(g, (.cells #[.int .i64 (su - s.sl), .int .i64 (su + s.sl)] 23)), (w.heap.size + 1, (rdBox r)), (w.heap.size, (stBox s (.slice A k c)))]) (by (repeat (with_reducible first | exact HR.out | apply Frm.drew | apply Frm.alloc | apply Frm.drewN))) hbz).b
      clear hbz x0 x1 x2
      go_wp2_with fail
      go_ret
      exact ⟨(by first | rfl | exact ret_bool (by simp; omega)), HZ.out⟩
  by_cases o1 : su < ra
  · have hmx : max ra su = ra := by omega
    have hmn : min ra su = su := by omega
    have HM := Lib.hid (And.intro hmx hmn)
    clear hmx hmn
    by_cases o2 : ra - s.sl ≤ su + s.sl + 1
    · have hL : l = [(su - s.sl, ra + s.sl)] := by rw [HL.out, if_neg k1, if_neg k2, HM.out.1, HM.out.2, if_pos o2]
      subst hL
      have q1 : (r.cl == 1) = false := by simp; omega
      have p1 : (r.cl != 1) = true := by simp; omega
      have q2 : (r.cl == 2) = false := by simp; omega
      have p2 : (r.cl != 2) = true := by simp; omega
      have q3 : (r.cl == 3) = true := by simp; omega
      have p3 : (r.cl != 3) = false := by simp; omega
      clear HL c0 c1 k1 k2
      go_wp2_with fail
      refine (HW.out _ (by first | exact HC.out | exact HC.out.drew | exact HC.out.below (below_al (Below.refl _ _) _) | exact HC.out.drew.below (below_al (Below.refl _ _) _) | exact (HC.out.below (below_al (Below.refl _ _) _)).drew)).mono ?_
      rintro e w4 ⟨g, hg0, rfl, hg1, hb⟩
      have HRq := Lib.hid (Frm.also (Frm.below (w := w) (bs := [(w.heap.size + 1, (rdBox r)), (w.heap.size, (stBox s (.slice A k c)))]) (by (repeat (with_reducible first | exact HR.out | apply Frm.drew | apply Frm.alloc | apply Frm.drewN))) hb) (show w4.heap[g]? = some (.cells #[.int .i64 (su - s.sl), .int .i64 (ra + s.sl)] 23) from hg1))
      clear HR HC hb hg0 hg1 HW x0 x1
      have HR := HRq
      clear HRq
      have x0 := HR.out.cells (List.mem_cons_self ..)
      have x1 := HR.out.cells (List.mem_cons_of_mem _ (List.mem_cons_self ..))
      have x2 := HR.out.cells (List.mem_cons_of_mem _ (List.mem_cons_of_mem _ (List.mem_cons_self ..)))
      
      go_upto_region 4 with fail
      go_quiet (fail)
      go_upto_region 6 with fail
      go_region_held3 (fun w' => (∀ o, w'.cell? ⟨w.heap.size + 1, o, none⟩ = #[Value.int .i64 r.day, .int .i64 r.mi, .int .i64 r.cl, .int .i64 r.me, .int .i64 r.al, .int .i64 r.ah, .int .i64 r.dl, .int .i64 r.dh, .int .i64 r.wl, .int .i64 r.wh][o]?) ∧ (∀ o, w'.cell? ⟨w.heap.size, o, none⟩ = #[Value.int .i64 s.hl, .int .i64 s.hh, .int .i64 s.gl, .int .i64 s.gh, .int .i64 s.dr, .int .i64 s.rd, .int .i64 s.ea, .int .i64 s.sl, .slice A k c][o]?)) ((exact (fun hF : Frm w [(g, (.cells #[.int .i64 (su - s.sl), .int .i64 (ra + s.sl)] 23)), (w.heap.size + 1, (rdBox r)), (w.heap.size, (stBox s (.slice A k c)))] _ => ⟨hF.cells (List.mem_cons_of_mem _ (List.mem_cons_self ..)), hF.cells (List.mem_cons_of_mem _ (List.mem_cons_of_mem _ (List.mem_cons_self ..)))⟩) (by (repeat (with_reducible first | exact HR.out | apply Frm.drew | apply Frm.alloc | apply Frm.drewN))))) (first | (go_at_call 21; refine (HRA.out _).mono ?_; rintro e wa ⟨rfl, hba⟩; have HRq := Lib.hid (Frm.below (w := w) (bs := [(g, (.cells #[.int .i64 (su - s.sl), .int .i64 (ra + s.sl)] 23)), (w.heap.size + 1, (rdBox r)), (w.heap.size, (stBox s (.slice A k c)))]) (by (repeat (with_reducible first | exact HR.out | apply Frm.drew | apply Frm.alloc | apply Frm.drewN))) hba); clear HR; have HR := HRq; clear HRq hba) | (go_at_call 22; refine (HSU.out _).mono ?_; rintro e wa ⟨rfl, hba⟩; have HRq := Lib.hid (Frm.below (w := w) (bs := [(g, (.cells #[.int .i64 (su - s.sl), .int .i64 (ra + s.sl)] 23)), (w.heap.size + 1, (rdBox r)), (w.heap.size, (stBox s (.slice A k c)))]) (by (repeat (with_reducible first | exact HR.out | apply Frm.drew | apply Frm.alloc | apply Frm.drewN))) hba); clear HR; have HR := HRq; clear HRq hba))
      clear x0 x1 x2
      have x0 := HR.out.cells (List.mem_cons_self ..)
      have x1 := HR.out.cells (List.mem_cons_of_mem _ (List.mem_cons_self ..))
      have x2 := HR.out.cells (List.mem_cons_of_mem _ (List.mem_cons_of_mem _ (List.mem_cons_self ..)))
      clear HRA HSU
      cases sun
      · have HM1 := Lib.hid (show amB (ra + wr0) [(su - s.sl, ra + s.sl)] = true by simp [amB]; omega)
        go_wp2_with fail
        refine (among_at (k := 1) (l := [(su - s.sl, ra + s.sl)]) (bs := [(g, (.cells #[.int .i64 (su - s.sl), .int .i64 (ra + s.sl)] 23)), (w.heap.size + 1, (rdBox r)), (w.heap.size, (stBox s (.slice A k c)))]) (w0 := w) rfl (by omega) (by (repeat (with_reducible first | exact HR.out | apply Frm.drew | apply Frm.alloc | apply Frm.drewN))) (List.mem_cons_self ..) HM1.out).mono ?_
        rintro e w5 ⟨rfl, hb⟩
        have HRq := Lib.hid (Frm.below (w := w) (bs := [(g, (.cells #[.int .i64 (su - s.sl), .int .i64 (ra + s.sl)] 23)), (w.heap.size + 1, (rdBox r)), (w.heap.size, (stBox s (.slice A k c)))]) (by (repeat (with_reducible first | exact HR.out | apply Frm.drew | apply Frm.alloc | apply Frm.drewN))) hb)
        clear HR hb HM1 x0 x1 x2
        have HR := HRq
        clear HRq
        have x0 := HR.out.cells (List.mem_cons_self ..)
        have x1 := HR.out.cells (List.mem_cons_of_mem _ (List.mem_cons_self ..))
        have x2 := HR.out.cells (List.mem_cons_of_mem _ (List.mem_cons_of_mem _ (List.mem_cons_self ..)))
        by_cases ura1 : mi < ra - s.sl
        · by_cases usu1 : mi < su - s.sl
          · have HM2 := Lib.hid (show amB (mi) [(su - s.sl, ra + s.sl)] = false by simp [amB]; omega)
            go_wp2_with fail
            refine (among_at (k := 1) (l := [(su - s.sl, ra + s.sl)]) (bs := [(g, (.cells #[.int .i64 (su - s.sl), .int .i64 (ra + s.sl)] 23)), (w.heap.size + 1, (rdBox r)), (w.heap.size, (stBox s (.slice A k c)))]) (w0 := w) rfl (by omega) (by (repeat (with_reducible first | exact HR.out | apply Frm.drew | apply Frm.alloc | apply Frm.drewN))) (List.mem_cons_self ..) HM2.out).mono ?_
            rintro e w6 ⟨rfl, hb⟩
            have HRq := Lib.hid (Frm.below (w := w) (bs := [(g, (.cells #[.int .i64 (su - s.sl), .int .i64 (ra + s.sl)] 23)), (w.heap.size + 1, (rdBox r)), (w.heap.size, (stBox s (.slice A k c)))]) (by (repeat (with_reducible first | exact HR.out | apply Frm.drew | apply Frm.alloc | apply Frm.drewN))) hb)
            clear HR hb HM2 x0 x1 x2
            have HR := HRq
            clear HRq
            have x0 := HR.out.cells (List.mem_cons_self ..)
            have x1 := HR.out.cells (List.mem_cons_of_mem _ (List.mem_cons_self ..))
            have x2 := HR.out.cells (List.mem_cons_of_mem _ (List.mem_cons_of_mem _ (List.mem_cons_self ..)))
            go_wp2_with fail
            refine (known_ex _ (HH.out.below (Frm.b (w := w) (bs := [(g, (.cells #[.int .i64 (su - s.sl), .int .i64 (ra + s.sl)] 23)), (w.heap.size + 1, (rdBox r)), (w.heap.size, (stBox s (.slice A k c)))]) (by (repeat (with_reducible first | exact HR.out | apply Frm.drew | apply Frm.alloc | apply Frm.drewN))))) (HT.out.below (Frm.b (w := w) (bs := [(g, (.cells #[.int .i64 (su - s.sl), .int .i64 (ra + s.sl)] 23)), (w.heap.size + 1, (rdBox r)), (w.heap.size, (stBox s (.slice A k c)))]) (by (repeat (with_reducible first | exact HR.out | apply Frm.drew | apply Frm.alloc | apply Frm.drewN)))))).mono ?_
            rintro e wz ⟨rfl, hbz⟩
            have HZ := Lib.hid (Frm.below (w := w) (bs := [(g, (.cells #[.int .i64 (su - s.sl), .int .i64 (ra + s.sl)] 23)), (w.heap.size + 1, (rdBox r)), (w.heap.size, (stBox s (.slice A k c)))]) (by (repeat (with_reducible first | exact HR.out | apply Frm.drew | apply Frm.alloc | apply Frm.drewN))) hbz).b
            clear hbz x0 x1 x2
            go_wp2_with fail
            go_ret
            exact ⟨(by first | rfl | exact ret_bool (by simp; omega)), HZ.out⟩
          by_cases usu2 : su + s.sl < mi
          · exfalso
            omega
          have HM2 := Lib.hid (show amB (mi) [(su - s.sl, ra + s.sl)] = true by simp [amB]; omega)
          go_wp2_with fail
          refine (among_at (k := 1) (l := [(su - s.sl, ra + s.sl)]) (bs := [(g, (.cells #[.int .i64 (su - s.sl), .int .i64 (ra + s.sl)] 23)), (w.heap.size + 1, (rdBox r)), (w.heap.size, (stBox s (.slice A k c)))]) (w0 := w) rfl (by omega) (by (repeat (with_reducible first | exact HR.out | apply Frm.drew | apply Frm.alloc | apply Frm.drewN))) (List.mem_cons_self ..) HM2.out).mono ?_
          rintro e w6 ⟨rfl, hb⟩
          have HRq := Lib.hid (Frm.below (w := w) (bs := [(g, (.cells #[.int .i64 (su - s.sl), .int .i64 (ra + s.sl)] 23)), (w.heap.size + 1, (rdBox r)), (w.heap.size, (stBox s (.slice A k c)))]) (by (repeat (with_reducible first | exact HR.out | apply Frm.drew | apply Frm.alloc | apply Frm.drewN))) hb)
          clear HR hb HM2 x0 x1 x2
          have HR := HRq
          clear HRq
          have x0 := HR.out.cells (List.mem_cons_self ..)
          have x1 := HR.out.cells (List.mem_cons_of_mem _ (List.mem_cons_self ..))
          have x2 := HR.out.cells (List.mem_cons_of_mem _ (List.mem_cons_of_mem _ (List.mem_cons_self ..)))
          go_wp2_with fail
          refine (known_ex _ (HH.out.below (Frm.b (w := w) (bs := [(g, (.cells #[.int .i64 (su - s.sl), .int .i64 (ra + s.sl)] 23)), (w.heap.size + 1, (rdBox r)), (w.heap.size, (stBox s (.slice A k c)))]) (by (repeat (with_reducible first | exact HR.out | apply Frm.drew | apply Frm.alloc | apply Frm.drewN))))) (HT.out.below (Frm.b (w := w) (bs := [(g, (.cells #[.int .i64 (su - s.sl), .int .i64 (ra + s.sl)] 23)), (w.heap.size + 1, (rdBox r)), (w.heap.size, (stBox s (.slice A k c)))]) (by (repeat (with_reducible first | exact HR.out | apply Frm.drew | apply Frm.alloc | apply Frm.drewN)))))).mono ?_
          rintro e wz ⟨rfl, hbz⟩
          have HZ := Lib.hid (Frm.below (w := w) (bs := [(g, (.cells #[.int .i64 (su - s.sl), .int .i64 (ra + s.sl)] 23)), (w.heap.size + 1, (rdBox r)), (w.heap.size, (stBox s (.slice A k c)))]) (by (repeat (with_reducible first | exact HR.out | apply Frm.drew | apply Frm.alloc | apply Frm.drewN))) hbz).b
          clear hbz x0 x1 x2
          go_wp2_with fail
          go_ret
          exact ⟨(by first | rfl | exact ret_bool (by simp; omega)), HZ.out⟩
        by_cases ura2 : ra + s.sl < mi
        · by_cases usu1 : mi < su - s.sl
          · exfalso
            omega
          by_cases usu2 : su + s.sl < mi
          · have HM2 := Lib.hid (show amB (mi) [(su - s.sl, ra + s.sl)] = false by simp [amB]; omega)
            go_wp2_with fail
            refine (among_at (k := 1) (l := [(su - s.sl, ra + s.sl)]) (bs := [(g, (.cells #[.int .i64 (su - s.sl), .int .i64 (ra + s.sl)] 23)), (w.heap.size + 1, (rdBox r)), (w.heap.size, (stBox s (.slice A k c)))]) (w0 := w) rfl (by omega) (by (repeat (with_reducible first | exact HR.out | apply Frm.drew | apply Frm.alloc | apply Frm.drewN))) (List.mem_cons_self ..) HM2.out).mono ?_
            rintro e w6 ⟨rfl, hb⟩
            have HRq := Lib.hid (Frm.below (w := w) (bs := [(g, (.cells #[.int .i64 (su - s.sl), .int .i64 (ra + s.sl)] 23)), (w.heap.size + 1, (rdBox r)), (w.heap.size, (stBox s (.slice A k c)))]) (by (repeat (with_reducible first | exact HR.out | apply Frm.drew | apply Frm.alloc | apply Frm.drewN))) hb)
            clear HR hb HM2 x0 x1 x2
            have HR := HRq
            clear HRq
            have x0 := HR.out.cells (List.mem_cons_self ..)
            have x1 := HR.out.cells (List.mem_cons_of_mem _ (List.mem_cons_self ..))
            have x2 := HR.out.cells (List.mem_cons_of_mem _ (List.mem_cons_of_mem _ (List.mem_cons_self ..)))
            go_wp2_with fail
            refine (known_ex _ (HH.out.below (Frm.b (w := w) (bs := [(g, (.cells #[.int .i64 (su - s.sl), .int .i64 (ra + s.sl)] 23)), (w.heap.size + 1, (rdBox r)), (w.heap.size, (stBox s (.slice A k c)))]) (by (repeat (with_reducible first | exact HR.out | apply Frm.drew | apply Frm.alloc | apply Frm.drewN))))) (HT.out.below (Frm.b (w := w) (bs := [(g, (.cells #[.int .i64 (su - s.sl), .int .i64 (ra + s.sl)] 23)), (w.heap.size + 1, (rdBox r)), (w.heap.size, (stBox s (.slice A k c)))]) (by (repeat (with_reducible first | exact HR.out | apply Frm.drew | apply Frm.alloc | apply Frm.drewN)))))).mono ?_
            rintro e wz ⟨rfl, hbz⟩
            have HZ := Lib.hid (Frm.below (w := w) (bs := [(g, (.cells #[.int .i64 (su - s.sl), .int .i64 (ra + s.sl)] 23)), (w.heap.size + 1, (rdBox r)), (w.heap.size, (stBox s (.slice A k c)))]) (by (repeat (with_reducible first | exact HR.out | apply Frm.drew | apply Frm.alloc | apply Frm.drewN))) hbz).b
            clear hbz x0 x1 x2
            go_wp2_with fail
            go_ret
            exact ⟨(by first | rfl | exact ret_bool (by simp; omega)), HZ.out⟩
          exfalso
          omega
        have HM2 := Lib.hid (show amB (mi) [(su - s.sl, ra + s.sl)] = true by simp [amB]; omega)
        go_wp2_with fail
        refine (among_at (k := 1) (l := [(su - s.sl, ra + s.sl)]) (bs := [(g, (.cells #[.int .i64 (su - s.sl), .int .i64 (ra + s.sl)] 23)), (w.heap.size + 1, (rdBox r)), (w.heap.size, (stBox s (.slice A k c)))]) (w0 := w) rfl (by omega) (by (repeat (with_reducible first | exact HR.out | apply Frm.drew | apply Frm.alloc | apply Frm.drewN))) (List.mem_cons_self ..) HM2.out).mono ?_
        rintro e w6 ⟨rfl, hb⟩
        have HRq := Lib.hid (Frm.below (w := w) (bs := [(g, (.cells #[.int .i64 (su - s.sl), .int .i64 (ra + s.sl)] 23)), (w.heap.size + 1, (rdBox r)), (w.heap.size, (stBox s (.slice A k c)))]) (by (repeat (with_reducible first | exact HR.out | apply Frm.drew | apply Frm.alloc | apply Frm.drewN))) hb)
        clear HR hb HM2 x0 x1 x2
        have HR := HRq
        clear HRq
        have x0 := HR.out.cells (List.mem_cons_self ..)
        have x1 := HR.out.cells (List.mem_cons_of_mem _ (List.mem_cons_self ..))
        have x2 := HR.out.cells (List.mem_cons_of_mem _ (List.mem_cons_of_mem _ (List.mem_cons_self ..)))
        go_wp2_with fail
        refine (known_ex _ (HH.out.below (Frm.b (w := w) (bs := [(g, (.cells #[.int .i64 (su - s.sl), .int .i64 (ra + s.sl)] 23)), (w.heap.size + 1, (rdBox r)), (w.heap.size, (stBox s (.slice A k c)))]) (by (repeat (with_reducible first | exact HR.out | apply Frm.drew | apply Frm.alloc | apply Frm.drewN))))) (HT.out.below (Frm.b (w := w) (bs := [(g, (.cells #[.int .i64 (su - s.sl), .int .i64 (ra + s.sl)] 23)), (w.heap.size + 1, (rdBox r)), (w.heap.size, (stBox s (.slice A k c)))]) (by (repeat (with_reducible first | exact HR.out | apply Frm.drew | apply Frm.alloc | apply Frm.drewN)))))).mono ?_
        rintro e wz ⟨rfl, hbz⟩
        have HZ := Lib.hid (Frm.below (w := w) (bs := [(g, (.cells #[.int .i64 (su - s.sl), .int .i64 (ra + s.sl)] 23)), (w.heap.size + 1, (rdBox r)), (w.heap.size, (stBox s (.slice A k c)))]) (by (repeat (with_reducible first | exact HR.out | apply Frm.drew | apply Frm.alloc | apply Frm.drewN))) hbz).b
        clear hbz x0 x1 x2
        go_wp2_with fail
        go_ret
        exact ⟨(by first | rfl | exact ret_bool (by simp; omega)), HZ.out⟩
      · have HM1 := Lib.hid (show amB (su + wr0) [(su - s.sl, ra + s.sl)] = true by simp [amB]; omega)
        go_wp2_with fail
        refine (among_at (k := 1) (l := [(su - s.sl, ra + s.sl)]) (bs := [(g, (.cells #[.int .i64 (su - s.sl), .int .i64 (ra + s.sl)] 23)), (w.heap.size + 1, (rdBox r)), (w.heap.size, (stBox s (.slice A k c)))]) (w0 := w) rfl (by omega) (by (repeat (with_reducible first | exact HR.out | apply Frm.drew | apply Frm.alloc | apply Frm.drewN))) (List.mem_cons_self ..) HM1.out).mono ?_
        rintro e w5 ⟨rfl, hb⟩
        have HRq := Lib.hid (Frm.below (w := w) (bs := [(g, (.cells #[.int .i64 (su - s.sl), .int .i64 (ra + s.sl)] 23)), (w.heap.size + 1, (rdBox r)), (w.heap.size, (stBox s (.slice A k c)))]) (by (repeat (with_reducible first | exact HR.out | apply Frm.drew | apply Frm.alloc | apply Frm.drewN))) hb)
        clear HR hb HM1 x0 x1 x2
        have HR := HRq
        clear HRq
        have x0 := HR.out.cells (List.mem_cons_self ..)
        have x1 := HR.out.cells (List.mem_cons_of_mem _ (List.mem_cons_self ..))
        have x2 := HR.out.cells (List.mem_cons_of_mem _ (List.mem_cons_of_mem _ (List.mem_cons_self ..)))
        by_cases ura1 : mi < ra - s.sl
        · by_cases usu1 : mi < su - s.sl
          · have HM2 := Lib.hid (show amB (mi) [(su - s.sl, ra + s.sl)] = false by simp [amB]; omega)
            go_wp2_with fail
            refine (among_at (k := 1) (l := [(su - s.sl, ra + s.sl)]) (bs := [(g, (.cells #[.int .i64 (su - s.sl), .int .i64 (ra + s.sl)] 23)), (w.heap.size + 1, (rdBox r)), (w.heap.size, (stBox s (.slice A k c)))]) (w0 := w) rfl (by omega) (by (repeat (with_reducible first | exact HR.out | apply Frm.drew | apply Frm.alloc | apply Frm.drewN))) (List.mem_cons_self ..) HM2.out).mono ?_
            rintro e w6 ⟨rfl, hb⟩
            have HRq := Lib.hid (Frm.below (w := w) (bs := [(g, (.cells #[.int .i64 (su - s.sl), .int .i64 (ra + s.sl)] 23)), (w.heap.size + 1, (rdBox r)), (w.heap.size, (stBox s (.slice A k c)))]) (by (repeat (with_reducible first | exact HR.out | apply Frm.drew | apply Frm.alloc | apply Frm.drewN))) hb)
            clear HR hb HM2 x0 x1 x2
            have HR := HRq
            clear HRq
            have x0 := HR.out.cells (List.mem_cons_self ..)
            have x1 := HR.out.cells (List.mem_cons_of_mem _ (List.mem_cons_self ..))
            have x2 := HR.out.cells (List.mem_cons_of_mem _ (List.mem_cons_of_mem _ (List.mem_cons_self ..)))
            go_wp2_with fail
            refine (known_ex _ (HH.out.below (Frm.b (w := w) (bs := [(g, (.cells #[.int .i64 (su - s.sl), .int .i64 (ra + s.sl)] 23)), (w.heap.size + 1, (rdBox r)), (w.heap.size, (stBox s (.slice A k c)))]) (by (repeat (with_reducible first | exact HR.out | apply Frm.drew | apply Frm.alloc | apply Frm.drewN))))) (HT.out.below (Frm.b (w := w) (bs := [(g, (.cells #[.int .i64 (su - s.sl), .int .i64 (ra + s.sl)] 23)), (w.heap.size + 1, (rdBox r)), (w.heap.size, (stBox s (.slice A k c)))]) (by (repeat (with_reducible first | exact HR.out | apply Frm.drew | apply Frm.alloc | apply Frm.drewN)))))).mono ?_
            rintro e wz ⟨rfl, hbz⟩
            have HZ := Lib.hid (Frm.below (w := w) (bs := [(g, (.cells #[.int .i64 (su - s.sl), .int .i64 (ra + s.sl)] 23)), (w.heap.size + 1, (rdBox r)), (w.heap.size, (stBox s (.slice A k c)))]) (by (repeat (with_reducible first | exact HR.out | apply Frm.drew | apply Frm.alloc | apply Frm.drewN))) hbz).b
            clear hbz x0 x1 x2
            go_wp2_with fail
            go_ret
            exact ⟨(by first | rfl | exact ret_bool (by simp; omega)), HZ.out⟩
          by_cases usu2 : su + s.sl < mi
          · exfalso
            omega
          have HM2 := Lib.hid (show amB (mi) [(su - s.sl, ra + s.sl)] = true by simp [amB]; omega)
          go_wp2_with fail
          refine (among_at (k := 1) (l := [(su - s.sl, ra + s.sl)]) (bs := [(g, (.cells #[.int .i64 (su - s.sl), .int .i64 (ra + s.sl)] 23)), (w.heap.size + 1, (rdBox r)), (w.heap.size, (stBox s (.slice A k c)))]) (w0 := w) rfl (by omega) (by (repeat (with_reducible first | exact HR.out | apply Frm.drew | apply Frm.alloc | apply Frm.drewN))) (List.mem_cons_self ..) HM2.out).mono ?_
          rintro e w6 ⟨rfl, hb⟩
          have HRq := Lib.hid (Frm.below (w := w) (bs := [(g, (.cells #[.int .i64 (su - s.sl), .int .i64 (ra + s.sl)] 23)), (w.heap.size + 1, (rdBox r)), (w.heap.size, (stBox s (.slice A k c)))]) (by (repeat (with_reducible first | exact HR.out | apply Frm.drew | apply Frm.alloc | apply Frm.drewN))) hb)
          clear HR hb HM2 x0 x1 x2
          have HR := HRq
          clear HRq
          have x0 := HR.out.cells (List.mem_cons_self ..)
          have x1 := HR.out.cells (List.mem_cons_of_mem _ (List.mem_cons_self ..))
          have x2 := HR.out.cells (List.mem_cons_of_mem _ (List.mem_cons_of_mem _ (List.mem_cons_self ..)))
          go_wp2_with fail
          refine (known_ex _ (HH.out.below (Frm.b (w := w) (bs := [(g, (.cells #[.int .i64 (su - s.sl), .int .i64 (ra + s.sl)] 23)), (w.heap.size + 1, (rdBox r)), (w.heap.size, (stBox s (.slice A k c)))]) (by (repeat (with_reducible first | exact HR.out | apply Frm.drew | apply Frm.alloc | apply Frm.drewN))))) (HT.out.below (Frm.b (w := w) (bs := [(g, (.cells #[.int .i64 (su - s.sl), .int .i64 (ra + s.sl)] 23)), (w.heap.size + 1, (rdBox r)), (w.heap.size, (stBox s (.slice A k c)))]) (by (repeat (with_reducible first | exact HR.out | apply Frm.drew | apply Frm.alloc | apply Frm.drewN)))))).mono ?_
          rintro e wz ⟨rfl, hbz⟩
          have HZ := Lib.hid (Frm.below (w := w) (bs := [(g, (.cells #[.int .i64 (su - s.sl), .int .i64 (ra + s.sl)] 23)), (w.heap.size + 1, (rdBox r)), (w.heap.size, (stBox s (.slice A k c)))]) (by (repeat (with_reducible first | exact HR.out | apply Frm.drew | apply Frm.alloc | apply Frm.drewN))) hbz).b
          clear hbz x0 x1 x2
          go_wp2_with fail
          go_ret
          exact ⟨(by first | rfl | exact ret_bool (by simp; omega)), HZ.out⟩
        by_cases ura2 : ra + s.sl < mi
        · by_cases usu1 : mi < su - s.sl
          · exfalso
            omega
          by_cases usu2 : su + s.sl < mi
          · have HM2 := Lib.hid (show amB (mi) [(su - s.sl, ra + s.sl)] = false by simp [amB]; omega)
            go_wp2_with fail
            refine (among_at (k := 1) (l := [(su - s.sl, ra + s.sl)]) (bs := [(g, (.cells #[.int .i64 (su - s.sl), .int .i64 (ra + s.sl)] 23)), (w.heap.size + 1, (rdBox r)), (w.heap.size, (stBox s (.slice A k c)))]) (w0 := w) rfl (by omega) (by (repeat (with_reducible first | exact HR.out | apply Frm.drew | apply Frm.alloc | apply Frm.drewN))) (List.mem_cons_self ..) HM2.out).mono ?_
            rintro e w6 ⟨rfl, hb⟩
            have HRq := Lib.hid (Frm.below (w := w) (bs := [(g, (.cells #[.int .i64 (su - s.sl), .int .i64 (ra + s.sl)] 23)), (w.heap.size + 1, (rdBox r)), (w.heap.size, (stBox s (.slice A k c)))]) (by (repeat (with_reducible first | exact HR.out | apply Frm.drew | apply Frm.alloc | apply Frm.drewN))) hb)
            clear HR hb HM2 x0 x1 x2
            have HR := HRq
            clear HRq
            have x0 := HR.out.cells (List.mem_cons_self ..)
            have x1 := HR.out.cells (List.mem_cons_of_mem _ (List.mem_cons_self ..))
            have x2 := HR.out.cells (List.mem_cons_of_mem _ (List.mem_cons_of_mem _ (List.mem_cons_self ..)))
            go_wp2_with fail
            refine (known_ex _ (HH.out.below (Frm.b (w := w) (bs := [(g, (.cells #[.int .i64 (su - s.sl), .int .i64 (ra + s.sl)] 23)), (w.heap.size + 1, (rdBox r)), (w.heap.size, (stBox s (.slice A k c)))]) (by (repeat (with_reducible first | exact HR.out | apply Frm.drew | apply Frm.alloc | apply Frm.drewN))))) (HT.out.below (Frm.b (w := w) (bs := [(g, (.cells #[.int .i64 (su - s.sl), .int .i64 (ra + s.sl)] 23)), (w.heap.size + 1, (rdBox r)), (w.heap.size, (stBox s (.slice A k c)))]) (by (repeat (with_reducible first | exact HR.out | apply Frm.drew | apply Frm.alloc | apply Frm.drewN)))))).mono ?_
            rintro e wz ⟨rfl, hbz⟩
            have HZ := Lib.hid (Frm.below (w := w) (bs := [(g, (.cells #[.int .i64 (su - s.sl), .int .i64 (ra + s.sl)] 23)), (w.heap.size + 1, (rdBox r)), (w.heap.size, (stBox s (.slice A k c)))]) (by (repeat (with_reducible first | exact HR.out | apply Frm.drew | apply Frm.alloc | apply Frm.drewN))) hbz).b
            clear hbz x0 x1 x2
            go_wp2_with fail
            go_ret
            exact ⟨(by first | rfl | exact ret_bool (by simp; omega)), HZ.out⟩
          exfalso
          omega
        have HM2 := Lib.hid (show amB (mi) [(su - s.sl, ra + s.sl)] = true by simp [amB]; omega)
        go_wp2_with fail
        refine (among_at (k := 1) (l := [(su - s.sl, ra + s.sl)]) (bs := [(g, (.cells #[.int .i64 (su - s.sl), .int .i64 (ra + s.sl)] 23)), (w.heap.size + 1, (rdBox r)), (w.heap.size, (stBox s (.slice A k c)))]) (w0 := w) rfl (by omega) (by (repeat (with_reducible first | exact HR.out | apply Frm.drew | apply Frm.alloc | apply Frm.drewN))) (List.mem_cons_self ..) HM2.out).mono ?_
        rintro e w6 ⟨rfl, hb⟩
        have HRq := Lib.hid (Frm.below (w := w) (bs := [(g, (.cells #[.int .i64 (su - s.sl), .int .i64 (ra + s.sl)] 23)), (w.heap.size + 1, (rdBox r)), (w.heap.size, (stBox s (.slice A k c)))]) (by (repeat (with_reducible first | exact HR.out | apply Frm.drew | apply Frm.alloc | apply Frm.drewN))) hb)
        clear HR hb HM2 x0 x1 x2
        have HR := HRq
        clear HRq
        have x0 := HR.out.cells (List.mem_cons_self ..)
        have x1 := HR.out.cells (List.mem_cons_of_mem _ (List.mem_cons_self ..))
        have x2 := HR.out.cells (List.mem_cons_of_mem _ (List.mem_cons_of_mem _ (List.mem_cons_self ..)))
        go_wp2_with fail
        refine (known_ex _ (HH.out.below (Frm.b (w := w) (bs := [(g, (.cells #[.int .i64 (su - s.sl), .int .i64 (ra + s.sl)] 23)), (w.heap.size + 1, (rdBox r)), (w.heap.size, (stBox s (.slice A k c)))]) (by (repeat (with_reducible first | exact HR.out | apply Frm.drew | apply Frm.alloc | apply Frm.drewN))))) (HT.out.below (Frm.b (w := w) (bs := [(g, (.cells #[.int .i64 (su - s.sl), .int .i64 (ra + s.sl)] 23)), (w.heap.size + 1, (rdBox r)), (w.heap.size, (stBox s (.slice A k c)))]) (by (repeat (with_reducible first | exact HR.out | apply Frm.drew | apply Frm.alloc | apply Frm.drewN)))))).mono ?_
        rintro e wz ⟨rfl, hbz⟩
        have HZ := Lib.hid (Frm.below (w := w) (bs := [(g, (.cells #[.int .i64 (su - s.sl), .int .i64 (ra + s.sl)] 23)), (w.heap.size + 1, (rdBox r)), (w.heap.size, (stBox s (.slice A k c)))]) (by (repeat (with_reducible first | exact HR.out | apply Frm.drew | apply Frm.alloc | apply Frm.drewN))) hbz).b
        clear hbz x0 x1 x2
        go_wp2_with fail
        go_ret
        exact ⟨(by first | rfl | exact ret_bool (by simp; omega)), HZ.out⟩
    · have hL : l = [(su - s.sl, su + s.sl), (ra - s.sl, ra + s.sl)] := by rw [HL.out, if_neg k1, if_neg k2, HM.out.1, HM.out.2, if_neg o2]
      subst hL
      have q1 : (r.cl == 1) = false := by simp; omega
      have p1 : (r.cl != 1) = true := by simp; omega
      have q2 : (r.cl == 2) = false := by simp; omega
      have p2 : (r.cl != 2) = true := by simp; omega
      have q3 : (r.cl == 3) = true := by simp; omega
      have p3 : (r.cl != 3) = false := by simp; omega
      clear HL c0 c1 k1 k2
      go_wp2_with fail
      refine (HW.out _ (by first | exact HC.out | exact HC.out.drew | exact HC.out.below (below_al (Below.refl _ _) _) | exact HC.out.drew.below (below_al (Below.refl _ _) _) | exact (HC.out.below (below_al (Below.refl _ _) _)).drew)).mono ?_
      rintro e w4 ⟨g, hg0, rfl, hg1, hb⟩
      have HRq := Lib.hid (Frm.also (Frm.below (w := w) (bs := [(w.heap.size + 1, (rdBox r)), (w.heap.size, (stBox s (.slice A k c)))]) (by (repeat (with_reducible first | exact HR.out | apply Frm.drew | apply Frm.alloc | apply Frm.drewN))) hb) (show w4.heap[g]? = some (.cells #[.int .i64 (su - s.sl), .int .i64 (su + s.sl), .int .i64 (ra - s.sl), .int .i64 (ra + s.sl)] 23) from hg1))
      clear HR HC hb hg0 hg1 HW x0 x1
      have HR := HRq
      clear HRq
      have x0 := HR.out.cells (List.mem_cons_self ..)
      have x1 := HR.out.cells (List.mem_cons_of_mem _ (List.mem_cons_self ..))
      have x2 := HR.out.cells (List.mem_cons_of_mem _ (List.mem_cons_of_mem _ (List.mem_cons_self ..)))
      have g1 : decide (1000000 < su + s.sl) = false := decide_eq_false (by omega)
      have g2 : decide (ra - s.sl ≤ su + s.sl + 1) = false := decide_eq_false (by omega)
      go_upto_region 4 with fail
      go_quiet (fail)
      go_upto_region 6 with fail
      go_region_held3 (fun w' => (∀ o, w'.cell? ⟨w.heap.size + 1, o, none⟩ = #[Value.int .i64 r.day, .int .i64 r.mi, .int .i64 r.cl, .int .i64 r.me, .int .i64 r.al, .int .i64 r.ah, .int .i64 r.dl, .int .i64 r.dh, .int .i64 r.wl, .int .i64 r.wh][o]?) ∧ (∀ o, w'.cell? ⟨w.heap.size, o, none⟩ = #[Value.int .i64 s.hl, .int .i64 s.hh, .int .i64 s.gl, .int .i64 s.gh, .int .i64 s.dr, .int .i64 s.rd, .int .i64 s.ea, .int .i64 s.sl, .slice A k c][o]?)) ((exact (fun hF : Frm w [(g, (.cells #[.int .i64 (su - s.sl), .int .i64 (su + s.sl), .int .i64 (ra - s.sl), .int .i64 (ra + s.sl)] 23)), (w.heap.size + 1, (rdBox r)), (w.heap.size, (stBox s (.slice A k c)))] _ => ⟨hF.cells (List.mem_cons_of_mem _ (List.mem_cons_self ..)), hF.cells (List.mem_cons_of_mem _ (List.mem_cons_of_mem _ (List.mem_cons_self ..)))⟩) (by (repeat (with_reducible first | exact HR.out | apply Frm.drew | apply Frm.alloc | apply Frm.drewN))))) (first | (go_at_call 21; refine (HRA.out _).mono ?_; rintro e wa ⟨rfl, hba⟩; have HRq := Lib.hid (Frm.below (w := w) (bs := [(g, (.cells #[.int .i64 (su - s.sl), .int .i64 (su + s.sl), .int .i64 (ra - s.sl), .int .i64 (ra + s.sl)] 23)), (w.heap.size + 1, (rdBox r)), (w.heap.size, (stBox s (.slice A k c)))]) (by (repeat (with_reducible first | exact HR.out | apply Frm.drew | apply Frm.alloc | apply Frm.drewN))) hba); clear HR; have HR := HRq; clear HRq hba) | (go_at_call 22; refine (HSU.out _).mono ?_; rintro e wa ⟨rfl, hba⟩; have HRq := Lib.hid (Frm.below (w := w) (bs := [(g, (.cells #[.int .i64 (su - s.sl), .int .i64 (su + s.sl), .int .i64 (ra - s.sl), .int .i64 (ra + s.sl)] 23)), (w.heap.size + 1, (rdBox r)), (w.heap.size, (stBox s (.slice A k c)))]) (by (repeat (with_reducible first | exact HR.out | apply Frm.drew | apply Frm.alloc | apply Frm.drewN))) hba); clear HR; have HR := HRq; clear HRq hba))
      clear x0 x1 x2
      have x0 := HR.out.cells (List.mem_cons_self ..)
      have x1 := HR.out.cells (List.mem_cons_of_mem _ (List.mem_cons_self ..))
      have x2 := HR.out.cells (List.mem_cons_of_mem _ (List.mem_cons_of_mem _ (List.mem_cons_self ..)))
      clear HRA HSU
      cases sun
      · have HM1 := Lib.hid (show amB (ra + wr0) [(su - s.sl, su + s.sl), (ra - s.sl, ra + s.sl)] = true by simp [amB]; omega)
        go_wp2_with fail
        refine (among_at (k := 2) (l := [(su - s.sl, su + s.sl), (ra - s.sl, ra + s.sl)]) (bs := [(g, (.cells #[.int .i64 (su - s.sl), .int .i64 (su + s.sl), .int .i64 (ra - s.sl), .int .i64 (ra + s.sl)] 23)), (w.heap.size + 1, (rdBox r)), (w.heap.size, (stBox s (.slice A k c)))]) (w0 := w) rfl (by omega) (by (repeat (with_reducible first | exact HR.out | apply Frm.drew | apply Frm.alloc | apply Frm.drewN))) (List.mem_cons_self ..) HM1.out).mono ?_
        rintro e w5 ⟨rfl, hb⟩
        have HRq := Lib.hid (Frm.below (w := w) (bs := [(g, (.cells #[.int .i64 (su - s.sl), .int .i64 (su + s.sl), .int .i64 (ra - s.sl), .int .i64 (ra + s.sl)] 23)), (w.heap.size + 1, (rdBox r)), (w.heap.size, (stBox s (.slice A k c)))]) (by (repeat (with_reducible first | exact HR.out | apply Frm.drew | apply Frm.alloc | apply Frm.drewN))) hb)
        clear HR hb HM1 x0 x1 x2
        have HR := HRq
        clear HRq
        have x0 := HR.out.cells (List.mem_cons_self ..)
        have x1 := HR.out.cells (List.mem_cons_of_mem _ (List.mem_cons_self ..))
        have x2 := HR.out.cells (List.mem_cons_of_mem _ (List.mem_cons_of_mem _ (List.mem_cons_self ..)))
        by_cases ura1 : mi < ra - s.sl
        · by_cases usu1 : mi < su - s.sl
          · have HM2 := Lib.hid (show amB (mi) [(su - s.sl, su + s.sl), (ra - s.sl, ra + s.sl)] = false by simp [amB]; omega)
            go_wp2_with fail
            refine (among_at (k := 2) (l := [(su - s.sl, su + s.sl), (ra - s.sl, ra + s.sl)]) (bs := [(g, (.cells #[.int .i64 (su - s.sl), .int .i64 (su + s.sl), .int .i64 (ra - s.sl), .int .i64 (ra + s.sl)] 23)), (w.heap.size + 1, (rdBox r)), (w.heap.size, (stBox s (.slice A k c)))]) (w0 := w) rfl (by omega) (by (repeat (with_reducible first | exact HR.out | apply Frm.drew | apply Frm.alloc | apply Frm.drewN))) (List.mem_cons_self ..) HM2.out).mono ?_
            rintro e w6 ⟨rfl, hb⟩
            have HRq := Lib.hid (Frm.below (w := w) (bs := [(g, (.cells #[.int .i64 (su - s.sl), .int .i64 (su + s.sl), .int .i64 (ra - s.sl), .int .i64 (ra + s.sl)] 23)), (w.heap.size + 1, (rdBox r)), (w.heap.size, (stBox s (.slice A k c)))]) (by (repeat (with_reducible first | exact HR.out | apply Frm.drew | apply Frm.alloc | apply Frm.drewN))) hb)
            clear HR hb HM2 x0 x1 x2
            have HR := HRq
            clear HRq
            have x0 := HR.out.cells (List.mem_cons_self ..)
            have x1 := HR.out.cells (List.mem_cons_of_mem _ (List.mem_cons_self ..))
            have x2 := HR.out.cells (List.mem_cons_of_mem _ (List.mem_cons_of_mem _ (List.mem_cons_self ..)))
            go_wp2_with fail
            refine (known_ex _ (HH.out.below (Frm.b (w := w) (bs := [(g, (.cells #[.int .i64 (su - s.sl), .int .i64 (su + s.sl), .int .i64 (ra - s.sl), .int .i64 (ra + s.sl)] 23)), (w.heap.size + 1, (rdBox r)), (w.heap.size, (stBox s (.slice A k c)))]) (by (repeat (with_reducible first | exact HR.out | apply Frm.drew | apply Frm.alloc | apply Frm.drewN))))) (HT.out.below (Frm.b (w := w) (bs := [(g, (.cells #[.int .i64 (su - s.sl), .int .i64 (su + s.sl), .int .i64 (ra - s.sl), .int .i64 (ra + s.sl)] 23)), (w.heap.size + 1, (rdBox r)), (w.heap.size, (stBox s (.slice A k c)))]) (by (repeat (with_reducible first | exact HR.out | apply Frm.drew | apply Frm.alloc | apply Frm.drewN)))))).mono ?_
            rintro e wz ⟨rfl, hbz⟩
            have HZ := Lib.hid (Frm.below (w := w) (bs := [(g, (.cells #[.int .i64 (su - s.sl), .int .i64 (su + s.sl), .int .i64 (ra - s.sl), .int .i64 (ra + s.sl)] 23)), (w.heap.size + 1, (rdBox r)), (w.heap.size, (stBox s (.slice A k c)))]) (by (repeat (with_reducible first | exact HR.out | apply Frm.drew | apply Frm.alloc | apply Frm.drewN))) hbz).b
            clear hbz x0 x1 x2
            go_wp2_with fail
            go_ret
            exact ⟨(by first | rfl | exact ret_bool (by simp; omega)), HZ.out⟩
          by_cases usu2 : su + s.sl < mi
          · have HM2 := Lib.hid (show amB (mi) [(su - s.sl, su + s.sl), (ra - s.sl, ra + s.sl)] = false by simp [amB]; omega)
            go_wp2_with fail
            refine (among_at (k := 2) (l := [(su - s.sl, su + s.sl), (ra - s.sl, ra + s.sl)]) (bs := [(g, (.cells #[.int .i64 (su - s.sl), .int .i64 (su + s.sl), .int .i64 (ra - s.sl), .int .i64 (ra + s.sl)] 23)), (w.heap.size + 1, (rdBox r)), (w.heap.size, (stBox s (.slice A k c)))]) (w0 := w) rfl (by omega) (by (repeat (with_reducible first | exact HR.out | apply Frm.drew | apply Frm.alloc | apply Frm.drewN))) (List.mem_cons_self ..) HM2.out).mono ?_
            rintro e w6 ⟨rfl, hb⟩
            have HRq := Lib.hid (Frm.below (w := w) (bs := [(g, (.cells #[.int .i64 (su - s.sl), .int .i64 (su + s.sl), .int .i64 (ra - s.sl), .int .i64 (ra + s.sl)] 23)), (w.heap.size + 1, (rdBox r)), (w.heap.size, (stBox s (.slice A k c)))]) (by (repeat (with_reducible first | exact HR.out | apply Frm.drew | apply Frm.alloc | apply Frm.drewN))) hb)
            clear HR hb HM2 x0 x1 x2
            have HR := HRq
            clear HRq
            have x0 := HR.out.cells (List.mem_cons_self ..)
            have x1 := HR.out.cells (List.mem_cons_of_mem _ (List.mem_cons_self ..))
            have x2 := HR.out.cells (List.mem_cons_of_mem _ (List.mem_cons_of_mem _ (List.mem_cons_self ..)))
            go_wp2_with fail
            refine (known_ex _ (HH.out.below (Frm.b (w := w) (bs := [(g, (.cells #[.int .i64 (su - s.sl), .int .i64 (su + s.sl), .int .i64 (ra - s.sl), .int .i64 (ra + s.sl)] 23)), (w.heap.size + 1, (rdBox r)), (w.heap.size, (stBox s (.slice A k c)))]) (by (repeat (with_reducible first | exact HR.out | apply Frm.drew | apply Frm.alloc | apply Frm.drewN))))) (HT.out.below (Frm.b (w := w) (bs := [(g, (.cells #[.int .i64 (su - s.sl), .int .i64 (su + s.sl), .int .i64 (ra - s.sl), .int .i64 (ra + s.sl)] 23)), (w.heap.size + 1, (rdBox r)), (w.heap.size, (stBox s (.slice A k c)))]) (by (repeat (with_reducible first | exact HR.out | apply Frm.drew | apply Frm.alloc | apply Frm.drewN)))))).mono ?_
            rintro e wz ⟨rfl, hbz⟩
            have HZ := Lib.hid (Frm.below (w := w) (bs := [(g, (.cells #[.int .i64 (su - s.sl), .int .i64 (su + s.sl), .int .i64 (ra - s.sl), .int .i64 (ra + s.sl)] 23)), (w.heap.size + 1, (rdBox r)), (w.heap.size, (stBox s (.slice A k c)))]) (by (repeat (with_reducible first | exact HR.out | apply Frm.drew | apply Frm.alloc | apply Frm.drewN))) hbz).b
            clear hbz x0 x1 x2
            go_wp2_with fail
            go_ret
            exact ⟨(by first | rfl | exact ret_bool (by simp; omega)), HZ.out⟩
          have HM2 := Lib.hid (show amB (mi) [(su - s.sl, su + s.sl), (ra - s.sl, ra + s.sl)] = true by simp [amB]; omega)
          go_wp2_with fail
          refine (among_at (k := 2) (l := [(su - s.sl, su + s.sl), (ra - s.sl, ra + s.sl)]) (bs := [(g, (.cells #[.int .i64 (su - s.sl), .int .i64 (su + s.sl), .int .i64 (ra - s.sl), .int .i64 (ra + s.sl)] 23)), (w.heap.size + 1, (rdBox r)), (w.heap.size, (stBox s (.slice A k c)))]) (w0 := w) rfl (by omega) (by (repeat (with_reducible first | exact HR.out | apply Frm.drew | apply Frm.alloc | apply Frm.drewN))) (List.mem_cons_self ..) HM2.out).mono ?_
          rintro e w6 ⟨rfl, hb⟩
          have HRq := Lib.hid (Frm.below (w := w) (bs := [(g, (.cells #[.int .i64 (su - s.sl), .int .i64 (su + s.sl), .int .i64 (ra - s.sl), .int .i64 (ra + s.sl)] 23)), (w.heap.size + 1, (rdBox r)), (w.heap.size, (stBox s (.slice A k c)))]) (by (repeat (with_reducible first | exact HR.out | apply Frm.drew | apply Frm.alloc | apply Frm.drewN))) hb)
          clear HR hb HM2 x0 x1 x2
          have HR := HRq
          clear HRq
          have x0 := HR.out.cells (List.mem_cons_self ..)
          have x1 := HR.out.cells (List.mem_cons_of_mem _ (List.mem_cons_self ..))
          have x2 := HR.out.cells (List.mem_cons_of_mem _ (List.mem_cons_of_mem _ (List.mem_cons_self ..)))
          go_wp2_with fail
          refine (known_ex _ (HH.out.below (Frm.b (w := w) (bs := [(g, (.cells #[.int .i64 (su - s.sl), .int .i64 (su + s.sl), .int .i64 (ra - s.sl), .int .i64 (ra + s.sl)] 23)), (w.heap.size + 1, (rdBox r)), (w.heap.size, (stBox s (.slice A k c)))]) (by (repeat (with_reducible first | exact HR.out | apply Frm.drew | apply Frm.alloc | apply Frm.drewN))))) (HT.out.below (Frm.b (w := w) (bs := [(g, (.cells #[.int .i64 (su - s.sl), .int .i64 (su + s.sl), .int .i64 (ra - s.sl), .int .i64 (ra + s.sl)] 23)), (w.heap.size + 1, (rdBox r)), (w.heap.size, (stBox s (.slice A k c)))]) (by (repeat (with_reducible first | exact HR.out | apply Frm.drew | apply Frm.alloc | apply Frm.drewN)))))).mono ?_
          rintro e wz ⟨rfl, hbz⟩
          have HZ := Lib.hid (Frm.below (w := w) (bs := [(g, (.cells #[.int .i64 (su - s.sl), .int .i64 (su + s.sl), .int .i64 (ra - s.sl), .int .i64 (ra + s.sl)] 23)), (w.heap.size + 1, (rdBox r)), (w.heap.size, (stBox s (.slice A k c)))]) (by (repeat (with_reducible first | exact HR.out | apply Frm.drew | apply Frm.alloc | apply Frm.drewN))) hbz).b
          clear hbz x0 x1 x2
          go_wp2_with fail
          go_ret
          exact ⟨(by first | rfl | exact ret_bool (by simp; omega)), HZ.out⟩
        by_cases ura2 : ra + s.sl < mi
        · by_cases usu1 : mi < su - s.sl
          · exfalso
            omega
          by_cases usu2 : su + s.sl < mi
          · have HM2 := Lib.hid (show amB (mi) [(su - s.sl, su + s.sl), (ra - s.sl, ra + s.sl)] = false by simp [amB]; omega)
            go_wp2_with fail
            refine (among_at (k := 2) (l := [(su - s.sl, su + s.sl), (ra - s.sl, ra + s.sl)]) (bs := [(g, (.cells #[.int .i64 (su - s.sl), .int .i64 (su + s.sl), .int .i64 (ra - s.sl), .int .i64 (ra + s.sl)] 23)), (w.heap.size + 1, (rdBox r)), (w.heap.size, (stBox s (.slice A k c)))]) (w0 := w) rfl (by omega) (by (repeat (with_reducible first | exact HR.out | apply Frm.drew | apply Frm.alloc | apply Frm.drewN))) (List.mem_cons_self ..) HM2.out).mono ?_
            rintro e w6 ⟨rfl, hb⟩
            have HRq := Lib.hid (Frm.below (w := w) (bs := [(g, (.cells #[.int .i64 (su - s.sl), .int .i64 (su + s.sl), .int .i64 (ra - s.sl), .int .i64 (ra + s.sl)] 23)), (w.heap.size + 1, (rdBox r)), (w.heap.size, (stBox s (.slice A k c)))]) (by (repeat (with_reducible first | exact HR.out | apply Frm.drew | apply Frm.alloc | apply Frm.drewN))) hb)
            clear HR hb HM2 x0 x1 x2
            have HR := HRq
            clear HRq
            have x0 := HR.out.cells (List.mem_cons_self ..)
            have x1 := HR.out.cells (List.mem_cons_of_mem _ (List.mem_cons_self ..))
            have x2 := HR.out.cells (List.mem_cons_of_mem _ (List.mem_cons_of_mem _ (List.mem_cons_self ..)))
            go_wp2_with fail
            refine (known_ex _ (HH.out.below (Frm.b (w := w) (bs := [(g, (.cells #[.int .i64 (su - s.sl), .int .i64 (su + s.sl), .int .i64 (ra - s.sl), .int .i64 (ra + s.sl)] 23)), (w.heap.size + 1, (rdBox r)), (w.heap.size, (stBox s (.slice A k c)))]) (by (repeat (with_reducible first | exact HR.out | apply Frm.drew | apply Frm.alloc | apply Frm.drewN))))) (HT.out.below (Frm.b (w := w) (bs := [(g, (.cells #[.int .i64 (su - s.sl), .int .i64 (su + s.sl), .int .i64 (ra - s.sl), .int .i64 (ra + s.sl)] 23)), (w.heap.size + 1, (rdBox r)), (w.heap.size, (stBox s (.slice A k c)))]) (by (repeat (with_reducible first | exact HR.out | apply Frm.drew | apply Frm.alloc | apply Frm.drewN)))))).mono ?_
            rintro e wz ⟨rfl, hbz⟩
            have HZ := Lib.hid (Frm.below (w := w) (bs := [(g, (.cells #[.int .i64 (su - s.sl), .int .i64 (su + s.sl), .int .i64 (ra - s.sl), .int .i64 (ra + s.sl)] 23)), (w.heap.size + 1, (rdBox r)), (w.heap.size, (stBox s (.slice A k c)))]) (by (repeat (with_reducible first | exact HR.out | apply Frm.drew | apply Frm.alloc | apply Frm.drewN))) hbz).b
            clear hbz x0 x1 x2
            go_wp2_with fail
            go_ret
            exact ⟨(by first | rfl | exact ret_bool (by simp; omega)), HZ.out⟩
          exfalso
          omega
        have HM2 := Lib.hid (show amB (mi) [(su - s.sl, su + s.sl), (ra - s.sl, ra + s.sl)] = true by simp [amB]; omega)
        go_wp2_with fail
        refine (among_at (k := 2) (l := [(su - s.sl, su + s.sl), (ra - s.sl, ra + s.sl)]) (bs := [(g, (.cells #[.int .i64 (su - s.sl), .int .i64 (su + s.sl), .int .i64 (ra - s.sl), .int .i64 (ra + s.sl)] 23)), (w.heap.size + 1, (rdBox r)), (w.heap.size, (stBox s (.slice A k c)))]) (w0 := w) rfl (by omega) (by (repeat (with_reducible first | exact HR.out | apply Frm.drew | apply Frm.alloc | apply Frm.drewN))) (List.mem_cons_self ..) HM2.out).mono ?_
        rintro e w6 ⟨rfl, hb⟩
        have HRq := Lib.hid (Frm.below (w := w) (bs := [(g, (.cells #[.int .i64 (su - s.sl), .int .i64 (su + s.sl), .int .i64 (ra - s.sl), .int .i64 (ra + s.sl)] 23)), (w.heap.size + 1, (rdBox r)), (w.heap.size, (stBox s (.slice A k c)))]) (by (repeat (with_reducible first | exact HR.out | apply Frm.drew | apply Frm.alloc | apply Frm.drewN))) hb)
        clear HR hb HM2 x0 x1 x2
        have HR := HRq
        clear HRq
        have x0 := HR.out.cells (List.mem_cons_self ..)
        have x1 := HR.out.cells (List.mem_cons_of_mem _ (List.mem_cons_self ..))
        have x2 := HR.out.cells (List.mem_cons_of_mem _ (List.mem_cons_of_mem _ (List.mem_cons_self ..)))
        go_wp2_with fail
        refine (known_ex _ (HH.out.below (Frm.b (w := w) (bs := [(g, (.cells #[.int .i64 (su - s.sl), .int .i64 (su + s.sl), .int .i64 (ra - s.sl), .int .i64 (ra + s.sl)] 23)), (w.heap.size + 1, (rdBox r)), (w.heap.size, (stBox s (.slice A k c)))]) (by (repeat (with_reducible first | exact HR.out | apply Frm.drew | apply Frm.alloc | apply Frm.drewN))))) (HT.out.below (Frm.b (w := w) (bs := [(g, (.cells #[.int .i64 (su - s.sl), .int .i64 (su + s.sl), .int .i64 (ra - s.sl), .int .i64 (ra + s.sl)] 23)), (w.heap.size + 1, (rdBox r)), (w.heap.size, (stBox s (.slice A k c)))]) (by (repeat (with_reducible first | exact HR.out | apply Frm.drew | apply Frm.alloc | apply Frm.drewN)))))).mono ?_
        rintro e wz ⟨rfl, hbz⟩
        have HZ := Lib.hid (Frm.below (w := w) (bs := [(g, (.cells #[.int .i64 (su - s.sl), .int .i64 (su + s.sl), .int .i64 (ra - s.sl), .int .i64 (ra + s.sl)] 23)), (w.heap.size + 1, (rdBox r)), (w.heap.size, (stBox s (.slice A k c)))]) (by (repeat (with_reducible first | exact HR.out | apply Frm.drew | apply Frm.alloc | apply Frm.drewN))) hbz).b
        clear hbz x0 x1 x2
        go_wp2_with fail
        go_ret
        exact ⟨(by first | rfl | exact ret_bool (by simp; omega)), HZ.out⟩
      · have HM1 := Lib.hid (show amB (su + wr0) [(su - s.sl, su + s.sl), (ra - s.sl, ra + s.sl)] = true by simp [amB]; omega)
        go_wp2_with fail
        refine (among_at (k := 2) (l := [(su - s.sl, su + s.sl), (ra - s.sl, ra + s.sl)]) (bs := [(g, (.cells #[.int .i64 (su - s.sl), .int .i64 (su + s.sl), .int .i64 (ra - s.sl), .int .i64 (ra + s.sl)] 23)), (w.heap.size + 1, (rdBox r)), (w.heap.size, (stBox s (.slice A k c)))]) (w0 := w) rfl (by omega) (by (repeat (with_reducible first | exact HR.out | apply Frm.drew | apply Frm.alloc | apply Frm.drewN))) (List.mem_cons_self ..) HM1.out).mono ?_
        rintro e w5 ⟨rfl, hb⟩
        have HRq := Lib.hid (Frm.below (w := w) (bs := [(g, (.cells #[.int .i64 (su - s.sl), .int .i64 (su + s.sl), .int .i64 (ra - s.sl), .int .i64 (ra + s.sl)] 23)), (w.heap.size + 1, (rdBox r)), (w.heap.size, (stBox s (.slice A k c)))]) (by (repeat (with_reducible first | exact HR.out | apply Frm.drew | apply Frm.alloc | apply Frm.drewN))) hb)
        clear HR hb HM1 x0 x1 x2
        have HR := HRq
        clear HRq
        have x0 := HR.out.cells (List.mem_cons_self ..)
        have x1 := HR.out.cells (List.mem_cons_of_mem _ (List.mem_cons_self ..))
        have x2 := HR.out.cells (List.mem_cons_of_mem _ (List.mem_cons_of_mem _ (List.mem_cons_self ..)))
        by_cases ura1 : mi < ra - s.sl
        · by_cases usu1 : mi < su - s.sl
          · have HM2 := Lib.hid (show amB (mi) [(su - s.sl, su + s.sl), (ra - s.sl, ra + s.sl)] = false by simp [amB]; omega)
            go_wp2_with fail
            refine (among_at (k := 2) (l := [(su - s.sl, su + s.sl), (ra - s.sl, ra + s.sl)]) (bs := [(g, (.cells #[.int .i64 (su - s.sl), .int .i64 (su + s.sl), .int .i64 (ra - s.sl), .int .i64 (ra + s.sl)] 23)), (w.heap.size + 1, (rdBox r)), (w.heap.size, (stBox s (.slice A k c)))]) (w0 := w) rfl (by omega) (by (repeat (with_reducible first | exact HR.out | apply Frm.drew | apply Frm.alloc | apply Frm.drewN))) (List.mem_cons_self ..) HM2.out).mono ?_
            rintro e w6 ⟨rfl, hb⟩
            have HRq := Lib.hid (Frm.below (w := w) (bs := [(g, (.cells #[.int .i64 (su - s.sl), .int .i64 (su + s.sl), .int .i64 (ra - s.sl), .int .i64 (ra + s.sl)] 23)), (w.heap.size + 1, (rdBox r)), (w.heap.size, (stBox s (.slice A k c)))]) (by (repeat (with_reducible first | exact HR.out | apply Frm.drew | apply Frm.alloc | apply Frm.drewN))) hb)
            clear HR hb HM2 x0 x1 x2
            have HR := HRq
            clear HRq
            have x0 := HR.out.cells (List.mem_cons_self ..)
            have x1 := HR.out.cells (List.mem_cons_of_mem _ (List.mem_cons_self ..))
            have x2 := HR.out.cells (List.mem_cons_of_mem _ (List.mem_cons_of_mem _ (List.mem_cons_self ..)))
            go_wp2_with fail
            refine (known_ex _ (HH.out.below (Frm.b (w := w) (bs := [(g, (.cells #[.int .i64 (su - s.sl), .int .i64 (su + s.sl), .int .i64 (ra - s.sl), .int .i64 (ra + s.sl)] 23)), (w.heap.size + 1, (rdBox r)), (w.heap.size, (stBox s (.slice A k c)))]) (by (repeat (with_reducible first | exact HR.out | apply Frm.drew | apply Frm.alloc | apply Frm.drewN))))) (HT.out.below (Frm.b (w := w) (bs := [(g, (.cells #[.int .i64 (su - s.sl), .int .i64 (su + s.sl), .int .i64 (ra - s.sl), .int .i64 (ra + s.sl)] 23)), (w.heap.size + 1, (rdBox r)), (w.heap.size, (stBox s (.slice A k c)))]) (by (repeat (with_reducible first | exact HR.out | apply Frm.drew | apply Frm.alloc | apply Frm.drewN)))))).mono ?_
            rintro e wz ⟨rfl, hbz⟩
            have HZ := Lib.hid (Frm.below (w := w) (bs := [(g, (.cells #[.int .i64 (su - s.sl), .int .i64 (su + s.sl), .int .i64 (ra - s.sl), .int .i64 (ra + s.sl)] 23)), (w.heap.size + 1, (rdBox r)), (w.heap.size, (stBox s (.slice A k c)))]) (by (repeat (with_reducible first | exact HR.out | apply Frm.drew | apply Frm.alloc | apply Frm.drewN))) hbz).b
            clear hbz x0 x1 x2
            go_wp2_with fail
            go_ret
            exact ⟨(by first | rfl | exact ret_bool (by simp; omega)), HZ.out⟩
          by_cases usu2 : su + s.sl < mi
          · have HM2 := Lib.hid (show amB (mi) [(su - s.sl, su + s.sl), (ra - s.sl, ra + s.sl)] = false by simp [amB]; omega)
            go_wp2_with fail
            refine (among_at (k := 2) (l := [(su - s.sl, su + s.sl), (ra - s.sl, ra + s.sl)]) (bs := [(g, (.cells #[.int .i64 (su - s.sl), .int .i64 (su + s.sl), .int .i64 (ra - s.sl), .int .i64 (ra + s.sl)] 23)), (w.heap.size + 1, (rdBox r)), (w.heap.size, (stBox s (.slice A k c)))]) (w0 := w) rfl (by omega) (by (repeat (with_reducible first | exact HR.out | apply Frm.drew | apply Frm.alloc | apply Frm.drewN))) (List.mem_cons_self ..) HM2.out).mono ?_
            rintro e w6 ⟨rfl, hb⟩
            have HRq := Lib.hid (Frm.below (w := w) (bs := [(g, (.cells #[.int .i64 (su - s.sl), .int .i64 (su + s.sl), .int .i64 (ra - s.sl), .int .i64 (ra + s.sl)] 23)), (w.heap.size + 1, (rdBox r)), (w.heap.size, (stBox s (.slice A k c)))]) (by (repeat (with_reducible first | exact HR.out | apply Frm.drew | apply Frm.alloc | apply Frm.drewN))) hb)
            clear HR hb HM2 x0 x1 x2
            have HR := HRq
            clear HRq
            have x0 := HR.out.cells (List.mem_cons_self ..)
            have x1 := HR.out.cells (List.mem_cons_of_mem _ (List.mem_cons_self ..))
            have x2 := HR.out.cells (List.mem_cons_of_mem _ (List.mem_cons_of_mem _ (List.mem_cons_self ..)))
            go_wp2_with fail
            refine (known_ex _ (HH.out.below (Frm.b (w := w) (bs := [(g, (.cells #[.int .i64 (su - s.sl), .int .i64 (su + s.sl), .int .i64 (ra - s.sl), .int .i64 (ra + s.sl)] 23)), (w.heap.size + 1, (rdBox r)), (w.heap.size, (stBox s (.slice A k c)))]) (by (repeat (with_reducible first | exact HR.out | apply Frm.drew | apply Frm.alloc | apply Frm.drewN))))) (HT.out.below (Frm.b (w := w) (bs := [(g, (.cells #[.int .i64 (su - s.sl), .int .i64 (su + s.sl), .int .i64 (ra - s.sl), .int .i64 (ra + s.sl)] 23)), (w.heap.size + 1, (rdBox r)), (w.heap.size, (stBox s (.slice A k c)))]) (by (repeat (with_reducible first | exact HR.out | apply Frm.drew | apply Frm.alloc | apply Frm.drewN)))))).mono ?_
            rintro e wz ⟨rfl, hbz⟩
            have HZ := Lib.hid (Frm.below (w := w) (bs := [(g, (.cells #[.int .i64 (su - s.sl), .int .i64 (su + s.sl), .int .i64 (ra - s.sl), .int .i64 (ra + s.sl)] 23)), (w.heap.size + 1, (rdBox r)), (w.heap.size, (stBox s (.slice A k c)))]) (by (repeat (with_reducible first | exact HR.out | apply Frm.drew | apply Frm.alloc | apply Frm.drewN))) hbz).b
            clear hbz x0 x1 x2
            go_wp2_with fail
            go_ret
            exact ⟨(by first | rfl | exact ret_bool (by simp; omega)), HZ.out⟩
          have HM2 := Lib.hid (show amB (mi) [(su - s.sl, su + s.sl), (ra - s.sl, ra + s.sl)] = true by simp [amB]; omega)
          go_wp2_with fail
          refine (among_at (k := 2) (l := [(su - s.sl, su + s.sl), (ra - s.sl, ra + s.sl)]) (bs := [(g, (.cells #[.int .i64 (su - s.sl), .int .i64 (su + s.sl), .int .i64 (ra - s.sl), .int .i64 (ra + s.sl)] 23)), (w.heap.size + 1, (rdBox r)), (w.heap.size, (stBox s (.slice A k c)))]) (w0 := w) rfl (by omega) (by (repeat (with_reducible first | exact HR.out | apply Frm.drew | apply Frm.alloc | apply Frm.drewN))) (List.mem_cons_self ..) HM2.out).mono ?_
          rintro e w6 ⟨rfl, hb⟩
          have HRq := Lib.hid (Frm.below (w := w) (bs := [(g, (.cells #[.int .i64 (su - s.sl), .int .i64 (su + s.sl), .int .i64 (ra - s.sl), .int .i64 (ra + s.sl)] 23)), (w.heap.size + 1, (rdBox r)), (w.heap.size, (stBox s (.slice A k c)))]) (by (repeat (with_reducible first | exact HR.out | apply Frm.drew | apply Frm.alloc | apply Frm.drewN))) hb)
          clear HR hb HM2 x0 x1 x2
          have HR := HRq
          clear HRq
          have x0 := HR.out.cells (List.mem_cons_self ..)
          have x1 := HR.out.cells (List.mem_cons_of_mem _ (List.mem_cons_self ..))
          have x2 := HR.out.cells (List.mem_cons_of_mem _ (List.mem_cons_of_mem _ (List.mem_cons_self ..)))
          go_wp2_with fail
          refine (known_ex _ (HH.out.below (Frm.b (w := w) (bs := [(g, (.cells #[.int .i64 (su - s.sl), .int .i64 (su + s.sl), .int .i64 (ra - s.sl), .int .i64 (ra + s.sl)] 23)), (w.heap.size + 1, (rdBox r)), (w.heap.size, (stBox s (.slice A k c)))]) (by (repeat (with_reducible first | exact HR.out | apply Frm.drew | apply Frm.alloc | apply Frm.drewN))))) (HT.out.below (Frm.b (w := w) (bs := [(g, (.cells #[.int .i64 (su - s.sl), .int .i64 (su + s.sl), .int .i64 (ra - s.sl), .int .i64 (ra + s.sl)] 23)), (w.heap.size + 1, (rdBox r)), (w.heap.size, (stBox s (.slice A k c)))]) (by (repeat (with_reducible first | exact HR.out | apply Frm.drew | apply Frm.alloc | apply Frm.drewN)))))).mono ?_
          rintro e wz ⟨rfl, hbz⟩
          have HZ := Lib.hid (Frm.below (w := w) (bs := [(g, (.cells #[.int .i64 (su - s.sl), .int .i64 (su + s.sl), .int .i64 (ra - s.sl), .int .i64 (ra + s.sl)] 23)), (w.heap.size + 1, (rdBox r)), (w.heap.size, (stBox s (.slice A k c)))]) (by (repeat (with_reducible first | exact HR.out | apply Frm.drew | apply Frm.alloc | apply Frm.drewN))) hbz).b
          clear hbz x0 x1 x2
          go_wp2_with fail
          go_ret
          exact ⟨(by first | rfl | exact ret_bool (by simp; omega)), HZ.out⟩
        by_cases ura2 : ra + s.sl < mi
        · by_cases usu1 : mi < su - s.sl
          · exfalso
            omega
          by_cases usu2 : su + s.sl < mi
          · have HM2 := Lib.hid (show amB (mi) [(su - s.sl, su + s.sl), (ra - s.sl, ra + s.sl)] = false by simp [amB]; omega)
            go_wp2_with fail
            refine (among_at (k := 2) (l := [(su - s.sl, su + s.sl), (ra - s.sl, ra + s.sl)]) (bs := [(g, (.cells #[.int .i64 (su - s.sl), .int .i64 (su + s.sl), .int .i64 (ra - s.sl), .int .i64 (ra + s.sl)] 23)), (w.heap.size + 1, (rdBox r)), (w.heap.size, (stBox s (.slice A k c)))]) (w0 := w) rfl (by omega) (by (repeat (with_reducible first | exact HR.out | apply Frm.drew | apply Frm.alloc | apply Frm.drewN))) (List.mem_cons_self ..) HM2.out).mono ?_
            rintro e w6 ⟨rfl, hb⟩
            have HRq := Lib.hid (Frm.below (w := w) (bs := [(g, (.cells #[.int .i64 (su - s.sl), .int .i64 (su + s.sl), .int .i64 (ra - s.sl), .int .i64 (ra + s.sl)] 23)), (w.heap.size + 1, (rdBox r)), (w.heap.size, (stBox s (.slice A k c)))]) (by (repeat (with_reducible first | exact HR.out | apply Frm.drew | apply Frm.alloc | apply Frm.drewN))) hb)
            clear HR hb HM2 x0 x1 x2
            have HR := HRq
            clear HRq
            have x0 := HR.out.cells (List.mem_cons_self ..)
            have x1 := HR.out.cells (List.mem_cons_of_mem _ (List.mem_cons_self ..))
            have x2 := HR.out.cells (List.mem_cons_of_mem _ (List.mem_cons_of_mem _ (List.mem_cons_self ..)))
            go_wp2_with fail
            refine (known_ex _ (HH.out.below (Frm.b (w := w) (bs := [(g, (.cells #[.int .i64 (su - s.sl), .int .i64 (su + s.sl), .int .i64 (ra - s.sl), .int .i64 (ra + s.sl)] 23)), (w.heap.size + 1, (rdBox r)), (w.heap.size, (stBox s (.slice A k c)))]) (by (repeat (with_reducible first | exact HR.out | apply Frm.drew | apply Frm.alloc | apply Frm.drewN))))) (HT.out.below (Frm.b (w := w) (bs := [(g, (.cells #[.int .i64 (su - s.sl), .int .i64 (su + s.sl), .int .i64 (ra - s.sl), .int .i64 (ra + s.sl)] 23)), (w.heap.size + 1, (rdBox r)), (w.heap.size, (stBox s (.slice A k c)))]) (by (repeat (with_reducible first | exact HR.out | apply Frm.drew | apply Frm.alloc | apply Frm.drewN)))))).mono ?_
            rintro e wz ⟨rfl, hbz⟩
            have HZ := Lib.hid (Frm.below (w := w) (bs := [(g, (.cells #[.int .i64 (su - s.sl), .int .i64 (su + s.sl), .int .i64 (ra - s.sl), .int .i64 (ra + s.sl)] 23)), (w.heap.size + 1, (rdBox r)), (w.heap.size, (stBox s (.slice A k c)))]) (by (repeat (with_reducible first | exact HR.out | apply Frm.drew | apply Frm.alloc | apply Frm.drewN))) hbz).b
            clear hbz x0 x1 x2
            go_wp2_with fail
            go_ret
            exact ⟨(by first | rfl | exact ret_bool (by simp; omega)), HZ.out⟩
          exfalso
          omega
        have HM2 := Lib.hid (show amB (mi) [(su - s.sl, su + s.sl), (ra - s.sl, ra + s.sl)] = true by simp [amB]; omega)
        go_wp2_with fail
        refine (among_at (k := 2) (l := [(su - s.sl, su + s.sl), (ra - s.sl, ra + s.sl)]) (bs := [(g, (.cells #[.int .i64 (su - s.sl), .int .i64 (su + s.sl), .int .i64 (ra - s.sl), .int .i64 (ra + s.sl)] 23)), (w.heap.size + 1, (rdBox r)), (w.heap.size, (stBox s (.slice A k c)))]) (w0 := w) rfl (by omega) (by (repeat (with_reducible first | exact HR.out | apply Frm.drew | apply Frm.alloc | apply Frm.drewN))) (List.mem_cons_self ..) HM2.out).mono ?_
        rintro e w6 ⟨rfl, hb⟩
        have HRq := Lib.hid (Frm.below (w := w) (bs := [(g, (.cells #[.int .i64 (su - s.sl), .int .i64 (su + s.sl), .int .i64 (ra - s.sl), .int .i64 (ra + s.sl)] 23)), (w.heap.size + 1, (rdBox r)), (w.heap.size, (stBox s (.slice A k c)))]) (by (repeat (with_reducible first | exact HR.out | apply Frm.drew | apply Frm.alloc | apply Frm.drewN))) hb)
        clear HR hb HM2 x0 x1 x2
        have HR := HRq
        clear HRq
        have x0 := HR.out.cells (List.mem_cons_self ..)
        have x1 := HR.out.cells (List.mem_cons_of_mem _ (List.mem_cons_self ..))
        have x2 := HR.out.cells (List.mem_cons_of_mem _ (List.mem_cons_of_mem _ (List.mem_cons_self ..)))
        go_wp2_with fail
        refine (known_ex _ (HH.out.below (Frm.b (w := w) (bs := [(g, (.cells #[.int .i64 (su - s.sl), .int .i64 (su + s.sl), .int .i64 (ra - s.sl), .int .i64 (ra + s.sl)] 23)), (w.heap.size + 1, (rdBox r)), (w.heap.size, (stBox s (.slice A k c)))]) (by (repeat (with_reducible first | exact HR.out | apply Frm.drew | apply Frm.alloc | apply Frm.drewN))))) (HT.out.below (Frm.b (w := w) (bs := [(g, (.cells #[.int .i64 (su - s.sl), .int .i64 (su + s.sl), .int .i64 (ra - s.sl), .int .i64 (ra + s.sl)] 23)), (w.heap.size + 1, (rdBox r)), (w.heap.size, (stBox s (.slice A k c)))]) (by (repeat (with_reducible first | exact HR.out | apply Frm.drew | apply Frm.alloc | apply Frm.drewN)))))).mono ?_
        rintro e wz ⟨rfl, hbz⟩
        have HZ := Lib.hid (Frm.below (w := w) (bs := [(g, (.cells #[.int .i64 (su - s.sl), .int .i64 (su + s.sl), .int .i64 (ra - s.sl), .int .i64 (ra + s.sl)] 23)), (w.heap.size + 1, (rdBox r)), (w.heap.size, (stBox s (.slice A k c)))]) (by (repeat (with_reducible first | exact HR.out | apply Frm.drew | apply Frm.alloc | apply Frm.drewN))) hbz).b
        clear hbz x0 x1 x2
        go_wp2_with fail
        go_ret
        exact ⟨(by first | rfl | exact ret_bool (by simp; omega)), HZ.out⟩
  · have hmx : max ra su = su := by omega
    have hmn : min ra su = ra := by omega
    have HM := Lib.hid (And.intro hmx hmn)
    clear hmx hmn
    by_cases o2 : su - s.sl ≤ ra + s.sl + 1
    · have hL : l = [(ra - s.sl, su + s.sl)] := by rw [HL.out, if_neg k1, if_neg k2, HM.out.1, HM.out.2, if_pos o2]
      subst hL
      have q1 : (r.cl == 1) = false := by simp; omega
      have p1 : (r.cl != 1) = true := by simp; omega
      have q2 : (r.cl == 2) = false := by simp; omega
      have p2 : (r.cl != 2) = true := by simp; omega
      have q3 : (r.cl == 3) = true := by simp; omega
      have p3 : (r.cl != 3) = false := by simp; omega
      clear HL c0 c1 k1 k2
      go_wp2_with fail
      refine (HW.out _ (by first | exact HC.out | exact HC.out.drew | exact HC.out.below (below_al (Below.refl _ _) _) | exact HC.out.drew.below (below_al (Below.refl _ _) _) | exact (HC.out.below (below_al (Below.refl _ _) _)).drew)).mono ?_
      rintro e w4 ⟨g, hg0, rfl, hg1, hb⟩
      have HRq := Lib.hid (Frm.also (Frm.below (w := w) (bs := [(w.heap.size + 1, (rdBox r)), (w.heap.size, (stBox s (.slice A k c)))]) (by (repeat (with_reducible first | exact HR.out | apply Frm.drew | apply Frm.alloc | apply Frm.drewN))) hb) (show w4.heap[g]? = some (.cells #[.int .i64 (ra - s.sl), .int .i64 (su + s.sl)] 23) from hg1))
      clear HR HC hb hg0 hg1 HW x0 x1
      have HR := HRq
      clear HRq
      have x0 := HR.out.cells (List.mem_cons_self ..)
      have x1 := HR.out.cells (List.mem_cons_of_mem _ (List.mem_cons_self ..))
      have x2 := HR.out.cells (List.mem_cons_of_mem _ (List.mem_cons_of_mem _ (List.mem_cons_self ..)))
      
      go_upto_region 4 with fail
      go_quiet (fail)
      go_upto_region 6 with fail
      go_region_held3 (fun w' => (∀ o, w'.cell? ⟨w.heap.size + 1, o, none⟩ = #[Value.int .i64 r.day, .int .i64 r.mi, .int .i64 r.cl, .int .i64 r.me, .int .i64 r.al, .int .i64 r.ah, .int .i64 r.dl, .int .i64 r.dh, .int .i64 r.wl, .int .i64 r.wh][o]?) ∧ (∀ o, w'.cell? ⟨w.heap.size, o, none⟩ = #[Value.int .i64 s.hl, .int .i64 s.hh, .int .i64 s.gl, .int .i64 s.gh, .int .i64 s.dr, .int .i64 s.rd, .int .i64 s.ea, .int .i64 s.sl, .slice A k c][o]?)) ((exact (fun hF : Frm w [(g, (.cells #[.int .i64 (ra - s.sl), .int .i64 (su + s.sl)] 23)), (w.heap.size + 1, (rdBox r)), (w.heap.size, (stBox s (.slice A k c)))] _ => ⟨hF.cells (List.mem_cons_of_mem _ (List.mem_cons_self ..)), hF.cells (List.mem_cons_of_mem _ (List.mem_cons_of_mem _ (List.mem_cons_self ..)))⟩) (by (repeat (with_reducible first | exact HR.out | apply Frm.drew | apply Frm.alloc | apply Frm.drewN))))) (first | (go_at_call 21; refine (HRA.out _).mono ?_; rintro e wa ⟨rfl, hba⟩; have HRq := Lib.hid (Frm.below (w := w) (bs := [(g, (.cells #[.int .i64 (ra - s.sl), .int .i64 (su + s.sl)] 23)), (w.heap.size + 1, (rdBox r)), (w.heap.size, (stBox s (.slice A k c)))]) (by (repeat (with_reducible first | exact HR.out | apply Frm.drew | apply Frm.alloc | apply Frm.drewN))) hba); clear HR; have HR := HRq; clear HRq hba) | (go_at_call 22; refine (HSU.out _).mono ?_; rintro e wa ⟨rfl, hba⟩; have HRq := Lib.hid (Frm.below (w := w) (bs := [(g, (.cells #[.int .i64 (ra - s.sl), .int .i64 (su + s.sl)] 23)), (w.heap.size + 1, (rdBox r)), (w.heap.size, (stBox s (.slice A k c)))]) (by (repeat (with_reducible first | exact HR.out | apply Frm.drew | apply Frm.alloc | apply Frm.drewN))) hba); clear HR; have HR := HRq; clear HRq hba))
      clear x0 x1 x2
      have x0 := HR.out.cells (List.mem_cons_self ..)
      have x1 := HR.out.cells (List.mem_cons_of_mem _ (List.mem_cons_self ..))
      have x2 := HR.out.cells (List.mem_cons_of_mem _ (List.mem_cons_of_mem _ (List.mem_cons_self ..)))
      clear HRA HSU
      cases sun
      · have HM1 := Lib.hid (show amB (ra + wr0) [(ra - s.sl, su + s.sl)] = true by simp [amB]; omega)
        go_wp2_with fail
        refine (among_at (k := 1) (l := [(ra - s.sl, su + s.sl)]) (bs := [(g, (.cells #[.int .i64 (ra - s.sl), .int .i64 (su + s.sl)] 23)), (w.heap.size + 1, (rdBox r)), (w.heap.size, (stBox s (.slice A k c)))]) (w0 := w) rfl (by omega) (by (repeat (with_reducible first | exact HR.out | apply Frm.drew | apply Frm.alloc | apply Frm.drewN))) (List.mem_cons_self ..) HM1.out).mono ?_
        rintro e w5 ⟨rfl, hb⟩
        have HRq := Lib.hid (Frm.below (w := w) (bs := [(g, (.cells #[.int .i64 (ra - s.sl), .int .i64 (su + s.sl)] 23)), (w.heap.size + 1, (rdBox r)), (w.heap.size, (stBox s (.slice A k c)))]) (by (repeat (with_reducible first | exact HR.out | apply Frm.drew | apply Frm.alloc | apply Frm.drewN))) hb)
        clear HR hb HM1 x0 x1 x2
        have HR := HRq
        clear HRq
        have x0 := HR.out.cells (List.mem_cons_self ..)
        have x1 := HR.out.cells (List.mem_cons_of_mem _ (List.mem_cons_self ..))
        have x2 := HR.out.cells (List.mem_cons_of_mem _ (List.mem_cons_of_mem _ (List.mem_cons_self ..)))
        by_cases ura1 : mi < ra - s.sl
        · by_cases usu1 : mi < su - s.sl
          · have HM2 := Lib.hid (show amB (mi) [(ra - s.sl, su + s.sl)] = false by simp [amB]; omega)
            go_wp2_with fail
            refine (among_at (k := 1) (l := [(ra - s.sl, su + s.sl)]) (bs := [(g, (.cells #[.int .i64 (ra - s.sl), .int .i64 (su + s.sl)] 23)), (w.heap.size + 1, (rdBox r)), (w.heap.size, (stBox s (.slice A k c)))]) (w0 := w) rfl (by omega) (by (repeat (with_reducible first | exact HR.out | apply Frm.drew | apply Frm.alloc | apply Frm.drewN))) (List.mem_cons_self ..) HM2.out).mono ?_
            rintro e w6 ⟨rfl, hb⟩
            have HRq := Lib.hid (Frm.below (w := w) (bs := [(g, (.cells #[.int .i64 (ra - s.sl), .int .i64 (su + s.sl)] 23)), (w.heap.size + 1, (rdBox r)), (w.heap.size, (stBox s (.slice A k c)))]) (by (repeat (with_reducible first | exact HR.out | apply Frm.drew | apply Frm.alloc | apply Frm.drewN))) hb)
            clear HR hb HM2 x0 x1 x2
            have HR := HRq
            clear HRq
            have x0 := HR.out.cells (List.mem_cons_self ..)
            have x1 := HR.out.cells (List.mem_cons_of_mem _ (List.mem_cons_self ..))
            have x2 := HR.out.cells (List.mem_cons_of_mem _ (List.mem_cons_of_mem _ (List.mem_cons_self ..)))
            go_wp2_with fail
            refine (known_ex _ (HH.out.below (Frm.b (w := w) (bs := [(g, (.cells #[.int .i64 (ra - s.sl), .int .i64 (su + s.sl)] 23)), (w.heap.size + 1, (rdBox r)), (w.heap.size, (stBox s (.slice A k c)))]) (by (repeat (with_reducible first | exact HR.out | apply Frm.drew | apply Frm.alloc | apply Frm.drewN))))) (HT.out.below (Frm.b (w := w) (bs := [(g, (.cells #[.int .i64 (ra - s.sl), .int .i64 (su + s.sl)] 23)), (w.heap.size + 1, (rdBox r)), (w.heap.size, (stBox s (.slice A k c)))]) (by (repeat (with_reducible first | exact HR.out | apply Frm.drew | apply Frm.alloc | apply Frm.drewN)))))).mono ?_
            rintro e wz ⟨rfl, hbz⟩
            have HZ := Lib.hid (Frm.below (w := w) (bs := [(g, (.cells #[.int .i64 (ra - s.sl), .int .i64 (su + s.sl)] 23)), (w.heap.size + 1, (rdBox r)), (w.heap.size, (stBox s (.slice A k c)))]) (by (repeat (with_reducible first | exact HR.out | apply Frm.drew | apply Frm.alloc | apply Frm.drewN))) hbz).b
            clear hbz x0 x1 x2
            go_wp2_with fail
            go_ret
            exact ⟨(by first | rfl | exact ret_bool (by simp; omega)), HZ.out⟩
          by_cases usu2 : su + s.sl < mi
          · exfalso
            omega
          exfalso
          omega
        by_cases ura2 : ra + s.sl < mi
        · by_cases usu1 : mi < su - s.sl
          · exfalso
            omega
          by_cases usu2 : su + s.sl < mi
          · have HM2 := Lib.hid (show amB (mi) [(ra - s.sl, su + s.sl)] = false by simp [amB]; omega)
            go_wp2_with fail
            refine (among_at (k := 1) (l := [(ra - s.sl, su + s.sl)]) (bs := [(g, (.cells #[.int .i64 (ra - s.sl), .int .i64 (su + s.sl)] 23)), (w.heap.size + 1, (rdBox r)), (w.heap.size, (stBox s (.slice A k c)))]) (w0 := w) rfl (by omega) (by (repeat (with_reducible first | exact HR.out | apply Frm.drew | apply Frm.alloc | apply Frm.drewN))) (List.mem_cons_self ..) HM2.out).mono ?_
            rintro e w6 ⟨rfl, hb⟩
            have HRq := Lib.hid (Frm.below (w := w) (bs := [(g, (.cells #[.int .i64 (ra - s.sl), .int .i64 (su + s.sl)] 23)), (w.heap.size + 1, (rdBox r)), (w.heap.size, (stBox s (.slice A k c)))]) (by (repeat (with_reducible first | exact HR.out | apply Frm.drew | apply Frm.alloc | apply Frm.drewN))) hb)
            clear HR hb HM2 x0 x1 x2
            have HR := HRq
            clear HRq
            have x0 := HR.out.cells (List.mem_cons_self ..)
            have x1 := HR.out.cells (List.mem_cons_of_mem _ (List.mem_cons_self ..))
            have x2 := HR.out.cells (List.mem_cons_of_mem _ (List.mem_cons_of_mem _ (List.mem_cons_self ..)))
            go_wp2_with fail
            refine (known_ex _ (HH.out.below (Frm.b (w := w) (bs := [(g, (.cells #[.int .i64 (ra - s.sl), .int .i64 (su + s.sl)] 23)), (w.heap.size + 1, (rdBox r)), (w.heap.size, (stBox s (.slice A k c)))]) (by (repeat (with_reducible first | exact HR.out | apply Frm.drew | apply Frm.alloc | apply Frm.drewN))))) (HT.out.below (Frm.b (w := w) (bs := [(g, (.cells #[.int .i64 (ra - s.sl), .int .i64 (su + s.sl)] 23)), (w.heap.size + 1, (rdBox r)), (w.heap.size, (stBox s (.slice A k c)))]) (by (repeat (with_reducible first | exact HR.out | apply Frm.drew | apply Frm.alloc | apply Frm.drewN)))))).mono ?_
            rintro e wz ⟨rfl, hbz⟩
            have HZ := Lib.hid (Frm.below (w := w) (bs := [(g, (.cells #[.int .i64 (ra - s.sl), .int .i64 (su + s.sl)] 23)), (w.heap.size + 1, (rdBox r)), (w.heap.size, (stBox s (.slice A k c)))]) (by (repeat (with_reducible first | exact HR.out | apply Frm.drew | apply Frm.alloc | apply Frm.drewN))) hbz).b
            clear hbz x0 x1 x2
            go_wp2_with fail
            go_ret
            exact ⟨(by first | rfl | exact ret_bool (by simp; omega)), HZ.out⟩
          have HM2 := Lib.hid (show amB (mi) [(ra - s.sl, su + s.sl)] = true by simp [amB]; omega)
          go_wp2_with fail
          refine (among_at (k := 1) (l := [(ra - s.sl, su + s.sl)]) (bs := [(g, (.cells #[.int .i64 (ra - s.sl), .int .i64 (su + s.sl)] 23)), (w.heap.size + 1, (rdBox r)), (w.heap.size, (stBox s (.slice A k c)))]) (w0 := w) rfl (by omega) (by (repeat (with_reducible first | exact HR.out | apply Frm.drew | apply Frm.alloc | apply Frm.drewN))) (List.mem_cons_self ..) HM2.out).mono ?_
          rintro e w6 ⟨rfl, hb⟩
          have HRq := Lib.hid (Frm.below (w := w) (bs := [(g, (.cells #[.int .i64 (ra - s.sl), .int .i64 (su + s.sl)] 23)), (w.heap.size + 1, (rdBox r)), (w.heap.size, (stBox s (.slice A k c)))]) (by (repeat (with_reducible first | exact HR.out | apply Frm.drew | apply Frm.alloc | apply Frm.drewN))) hb)
          clear HR hb HM2 x0 x1 x2
          have HR := HRq
          clear HRq
          have x0 := HR.out.cells (List.mem_cons_self ..)
          have x1 := HR.out.cells (List.mem_cons_of_mem _ (List.mem_cons_self ..))
          have x2 := HR.out.cells (List.mem_cons_of_mem _ (List.mem_cons_of_mem _ (List.mem_cons_self ..)))
          go_wp2_with fail
          refine (known_ex _ (HH.out.below (Frm.b (w := w) (bs := [(g, (.cells #[.int .i64 (ra - s.sl), .int .i64 (su + s.sl)] 23)), (w.heap.size + 1, (rdBox r)), (w.heap.size, (stBox s (.slice A k c)))]) (by (repeat (with_reducible first | exact HR.out | apply Frm.drew | apply Frm.alloc | apply Frm.drewN))))) (HT.out.below (Frm.b (w := w) (bs := [(g, (.cells #[.int .i64 (ra - s.sl), .int .i64 (su + s.sl)] 23)), (w.heap.size + 1, (rdBox r)), (w.heap.size, (stBox s (.slice A k c)))]) (by (repeat (with_reducible first | exact HR.out | apply Frm.drew | apply Frm.alloc | apply Frm.drewN)))))).mono ?_
          rintro e wz ⟨rfl, hbz⟩
          have HZ := Lib.hid (Frm.below (w := w) (bs := [(g, (.cells #[.int .i64 (ra - s.sl), .int .i64 (su + s.sl)] 23)), (w.heap.size + 1, (rdBox r)), (w.heap.size, (stBox s (.slice A k c)))]) (by (repeat (with_reducible first | exact HR.out | apply Frm.drew | apply Frm.alloc | apply Frm.drewN))) hbz).b
          clear hbz x0 x1 x2
          go_wp2_with fail
          go_ret
          exact ⟨(by first | rfl | exact ret_bool (by simp; omega)), HZ.out⟩
        have HM2 := Lib.hid (show amB (mi) [(ra - s.sl, su + s.sl)] = true by simp [amB]; omega)
        go_wp2_with fail
        refine (among_at (k := 1) (l := [(ra - s.sl, su + s.sl)]) (bs := [(g, (.cells #[.int .i64 (ra - s.sl), .int .i64 (su + s.sl)] 23)), (w.heap.size + 1, (rdBox r)), (w.heap.size, (stBox s (.slice A k c)))]) (w0 := w) rfl (by omega) (by (repeat (with_reducible first | exact HR.out | apply Frm.drew | apply Frm.alloc | apply Frm.drewN))) (List.mem_cons_self ..) HM2.out).mono ?_
        rintro e w6 ⟨rfl, hb⟩
        have HRq := Lib.hid (Frm.below (w := w) (bs := [(g, (.cells #[.int .i64 (ra - s.sl), .int .i64 (su + s.sl)] 23)), (w.heap.size + 1, (rdBox r)), (w.heap.size, (stBox s (.slice A k c)))]) (by (repeat (with_reducible first | exact HR.out | apply Frm.drew | apply Frm.alloc | apply Frm.drewN))) hb)
        clear HR hb HM2 x0 x1 x2
        have HR := HRq
        clear HRq
        have x0 := HR.out.cells (List.mem_cons_self ..)
        have x1 := HR.out.cells (List.mem_cons_of_mem _ (List.mem_cons_self ..))
        have x2 := HR.out.cells (List.mem_cons_of_mem _ (List.mem_cons_of_mem _ (List.mem_cons_self ..)))
        go_wp2_with fail
        refine (known_ex _ (HH.out.below (Frm.b (w := w) (bs := [(g, (.cells #[.int .i64 (ra - s.sl), .int .i64 (su + s.sl)] 23)), (w.heap.size + 1, (rdBox r)), (w.heap.size, (stBox s (.slice A k c)))]) (by (repeat (with_reducible first | exact HR.out | apply Frm.drew | apply Frm.alloc | apply Frm.drewN))))) (HT.out.below (Frm.b (w := w) (bs := [(g, (.cells #[.int .i64 (ra - s.sl), .int .i64 (su + s.sl)] 23)), (w.heap.size + 1, (rdBox r)), (w.heap.size, (stBox s (.slice A k c)))]) (by (repeat (with_reducible first | exact HR.out | apply Frm.drew | apply Frm.alloc | apply Frm.drewN)))))).mono ?_
        rintro e wz ⟨rfl, hbz⟩
        have HZ := Lib.hid (Frm.below (w := w) (bs := [(g, (.cells #[.int .i64 (ra - s.sl), .int .i64 (su + s.sl)] 23)), (w.heap.size + 1, (rdBox r)), (w.heap.size, (stBox s (.slice A k c)))]) (by (repeat (with_reducible first | exact HR.out | apply Frm.drew | apply Frm.alloc | apply Frm.drewN))) hbz).b
        clear hbz x0 x1 x2
        go_wp2_with fail
        go_ret
        exact ⟨(by first | rfl | exact ret_bool (by simp; omega)), HZ.out⟩
      · have HM1 := Lib.hid (show amB (su + wr0) [(ra - s.sl, su + s.sl)] = true by simp [amB]; omega)
        go_wp2_with fail
        refine (among_at (k := 1) (l := [(ra - s.sl, su + s.sl)]) (bs := [(g, (.cells #[.int .i64 (ra - s.sl), .int .i64 (su + s.sl)] 23)), (w.heap.size + 1, (rdBox r)), (w.heap.size, (stBox s (.slice A k c)))]) (w0 := w) rfl (by omega) (by (repeat (with_reducible first | exact HR.out | apply Frm.drew | apply Frm.alloc | apply Frm.drewN))) (List.mem_cons_self ..) HM1.out).mono ?_
        rintro e w5 ⟨rfl, hb⟩
        have HRq := Lib.hid (Frm.below (w := w) (bs := [(g, (.cells #[.int .i64 (ra - s.sl), .int .i64 (su + s.sl)] 23)), (w.heap.size + 1, (rdBox r)), (w.heap.size, (stBox s (.slice A k c)))]) (by (repeat (with_reducible first | exact HR.out | apply Frm.drew | apply Frm.alloc | apply Frm.drewN))) hb)
        clear HR hb HM1 x0 x1 x2
        have HR := HRq
        clear HRq
        have x0 := HR.out.cells (List.mem_cons_self ..)
        have x1 := HR.out.cells (List.mem_cons_of_mem _ (List.mem_cons_self ..))
        have x2 := HR.out.cells (List.mem_cons_of_mem _ (List.mem_cons_of_mem _ (List.mem_cons_self ..)))
        by_cases ura1 : mi < ra - s.sl
        · by_cases usu1 : mi < su - s.sl
          · have HM2 := Lib.hid (show amB (mi) [(ra - s.sl, su + s.sl)] = false by simp [amB]; omega)
            go_wp2_with fail
            refine (among_at (k := 1) (l := [(ra - s.sl, su + s.sl)]) (bs := [(g, (.cells #[.int .i64 (ra - s.sl), .int .i64 (su + s.sl)] 23)), (w.heap.size + 1, (rdBox r)), (w.heap.size, (stBox s (.slice A k c)))]) (w0 := w) rfl (by omega) (by (repeat (with_reducible first | exact HR.out | apply Frm.drew | apply Frm.alloc | apply Frm.drewN))) (List.mem_cons_self ..) HM2.out).mono ?_
            rintro e w6 ⟨rfl, hb⟩
            have HRq := Lib.hid (Frm.below (w := w) (bs := [(g, (.cells #[.int .i64 (ra - s.sl), .int .i64 (su + s.sl)] 23)), (w.heap.size + 1, (rdBox r)), (w.heap.size, (stBox s (.slice A k c)))]) (by (repeat (with_reducible first | exact HR.out | apply Frm.drew | apply Frm.alloc | apply Frm.drewN))) hb)
            clear HR hb HM2 x0 x1 x2
            have HR := HRq
            clear HRq
            have x0 := HR.out.cells (List.mem_cons_self ..)
            have x1 := HR.out.cells (List.mem_cons_of_mem _ (List.mem_cons_self ..))
            have x2 := HR.out.cells (List.mem_cons_of_mem _ (List.mem_cons_of_mem _ (List.mem_cons_self ..)))
            go_wp2_with fail
            refine (known_ex _ (HH.out.below (Frm.b (w := w) (bs := [(g, (.cells #[.int .i64 (ra - s.sl), .int .i64 (su + s.sl)] 23)), (w.heap.size + 1, (rdBox r)), (w.heap.size, (stBox s (.slice A k c)))]) (by (repeat (with_reducible first | exact HR.out | apply Frm.drew | apply Frm.alloc | apply Frm.drewN))))) (HT.out.below (Frm.b (w := w) (bs := [(g, (.cells #[.int .i64 (ra - s.sl), .int .i64 (su + s.sl)] 23)), (w.heap.size + 1, (rdBox r)), (w.heap.size, (stBox s (.slice A k c)))]) (by (repeat (with_reducible first | exact HR.out | apply Frm.drew | apply Frm.alloc | apply Frm.drewN)))))).mono ?_
            rintro e wz ⟨rfl, hbz⟩
            have HZ := Lib.hid (Frm.below (w := w) (bs := [(g, (.cells #[.int .i64 (ra - s.sl), .int .i64 (su + s.sl)] 23)), (w.heap.size + 1, (rdBox r)), (w.heap.size, (stBox s (.slice A k c)))]) (by (repeat (with_reducible first | exact HR.out | apply Frm.drew | apply Frm.alloc | apply Frm.drewN))) hbz).b
            clear hbz x0 x1 x2
            go_wp2_with fail
            go_ret
            exact ⟨(by first | rfl | exact ret_bool (by simp; omega)), HZ.out⟩
          by_cases usu2 : su + s.sl < mi
          · exfalso
            omega
          exfalso
          omega
        by_cases ura2 : ra + s.sl < mi
        · by_cases usu1 : mi < su - s.sl
          · exfalso
            omega
          by_cases usu2 : su + s.sl < mi
          · have HM2 := Lib.hid (show amB (mi) [(ra - s.sl, su + s.sl)] = false by simp [amB]; omega)
            go_wp2_with fail
            refine (among_at (k := 1) (l := [(ra - s.sl, su + s.sl)]) (bs := [(g, (.cells #[.int .i64 (ra - s.sl), .int .i64 (su + s.sl)] 23)), (w.heap.size + 1, (rdBox r)), (w.heap.size, (stBox s (.slice A k c)))]) (w0 := w) rfl (by omega) (by (repeat (with_reducible first | exact HR.out | apply Frm.drew | apply Frm.alloc | apply Frm.drewN))) (List.mem_cons_self ..) HM2.out).mono ?_
            rintro e w6 ⟨rfl, hb⟩
            have HRq := Lib.hid (Frm.below (w := w) (bs := [(g, (.cells #[.int .i64 (ra - s.sl), .int .i64 (su + s.sl)] 23)), (w.heap.size + 1, (rdBox r)), (w.heap.size, (stBox s (.slice A k c)))]) (by (repeat (with_reducible first | exact HR.out | apply Frm.drew | apply Frm.alloc | apply Frm.drewN))) hb)
            clear HR hb HM2 x0 x1 x2
            have HR := HRq
            clear HRq
            have x0 := HR.out.cells (List.mem_cons_self ..)
            have x1 := HR.out.cells (List.mem_cons_of_mem _ (List.mem_cons_self ..))
            have x2 := HR.out.cells (List.mem_cons_of_mem _ (List.mem_cons_of_mem _ (List.mem_cons_self ..)))
            go_wp2_with fail
            refine (known_ex _ (HH.out.below (Frm.b (w := w) (bs := [(g, (.cells #[.int .i64 (ra - s.sl), .int .i64 (su + s.sl)] 23)), (w.heap.size + 1, (rdBox r)), (w.heap.size, (stBox s (.slice A k c)))]) (by (repeat (with_reducible first | exact HR.out | apply Frm.drew | apply Frm.alloc | apply Frm.drewN))))) (HT.out.below (Frm.b (w := w) (bs := [(g, (.cells #[.int .i64 (ra - s.sl), .int .i64 (su + s.sl)] 23)), (w.heap.size + 1, (rdBox r)), (w.heap.size, (stBox s (.slice A k c)))]) (by (repeat (with_reducible first | exact HR.out | apply Frm.drew | apply Frm.alloc | apply Frm.drewN)))))).mono ?_
            rintro e wz ⟨rfl, hbz⟩
            have HZ := Lib.hid (Frm.below (w := w) (bs := [(g, (.cells #[.int .i64 (ra - s.sl), .int .i64 (su + s.sl)] 23)), (w.heap.size + 1, (rdBox r)), (w.heap.size, (stBox s (.slice A k c)))]) (by (repeat (with_reducible first | exact HR.out | apply Frm.drew | apply Frm.alloc | apply Frm.drewN))) hbz).b
            clear hbz x0 x1 x2
            go_wp2_with fail
            go_ret
            exact ⟨(by first | rfl | exact ret_bool (by simp; omega)), HZ.out⟩
          have HM2 := Lib.hid (show amB (mi) [(ra - s.sl, su + s.sl)] = true by simp [amB]; omega)
          go_wp2_with fail
          refine (among_at (k := 1) (l := [(ra - s.sl, su + s.sl)]) (bs := [(g, (.cells #[.int .i64 (ra - s.sl), .int .i64 (su + s.sl)] 23)), (w.heap.size + 1, (rdBox r)), (w.heap.size, (stBox s (.slice A k c)))]) (w0 := w) rfl (by omega) (by (repeat (with_reducible first | exact HR.out | apply Frm.drew | apply Frm.alloc | apply Frm.drewN))) (List.mem_cons_self ..) HM2.out).mono ?_
          rintro e w6 ⟨rfl, hb⟩
          have HRq := Lib.hid (Frm.below (w := w) (bs := [(g, (.cells #[.int .i64 (ra - s.sl), .int .i64 (su + s.sl)] 23)), (w.heap.size + 1, (rdBox r)), (w.heap.size, (stBox s (.slice A k c)))]) (by (repeat (with_reducible first | exact HR.out | apply Frm.drew | apply Frm.alloc | apply Frm.drewN))) hb)
          clear HR hb HM2 x0 x1 x2
          have HR := HRq
          clear HRq
          have x0 := HR.out.cells (List.mem_cons_self ..)
          have x1 := HR.out.cells (List.mem_cons_of_mem _ (List.mem_cons_self ..))
          have x2 := HR.out.cells (List.mem_cons_of_mem _ (List.mem_cons_of_mem _ (List.mem_cons_self ..)))
          go_wp2_with fail
          refine (known_ex _ (HH.out.below (Frm.b (w := w) (bs := [(g, (.cells #[.int .i64 (ra - s.sl), .int .i64 (su + s.sl)] 23)), (w.heap.size + 1, (rdBox r)), (w.heap.size, (stBox s (.slice A k c)))]) (by (repeat (with_reducible first | exact HR.out | apply Frm.drew | apply Frm.alloc | apply Frm.drewN))))) (HT.out.below (Frm.b (w := w) (bs := [(g, (.cells #[.int .i64 (ra - s.sl), .int .i64 (su + s.sl)] 23)), (w.heap.size + 1, (rdBox r)), (w.heap.size, (stBox s (.slice A k c)))]) (by (repeat (with_reducible first | exact HR.out | apply Frm.drew | apply Frm.alloc | apply Frm.drewN)))))).mono ?_
          rintro e wz ⟨rfl, hbz⟩
          have HZ := Lib.hid (Frm.below (w := w) (bs := [(g, (.cells #[.int .i64 (ra - s.sl), .int .i64 (su + s.sl)] 23)), (w.heap.size + 1, (rdBox r)), (w.heap.size, (stBox s (.slice A k c)))]) (by (repeat (with_reducible first | exact HR.out | apply Frm.drew | apply Frm.alloc | apply Frm.drewN))) hbz).b
          clear hbz x0 x1 x2
          go_wp2_with fail
          go_ret
          exact ⟨(by first | rfl | exact ret_bool (by simp; omega)), HZ.out⟩
        have HM2 := Lib.hid (show amB (mi) [(ra - s.sl, su + s.sl)] = true by simp [amB]; omega)
        go_wp2_with fail
        refine (among_at (k := 1) (l := [(ra - s.sl, su + s.sl)]) (bs := [(g, (.cells #[.int .i64 (ra - s.sl), .int .i64 (su + s.sl)] 23)), (w.heap.size + 1, (rdBox r)), (w.heap.size, (stBox s (.slice A k c)))]) (w0 := w) rfl (by omega) (by (repeat (with_reducible first | exact HR.out | apply Frm.drew | apply Frm.alloc | apply Frm.drewN))) (List.mem_cons_self ..) HM2.out).mono ?_
        rintro e w6 ⟨rfl, hb⟩
        have HRq := Lib.hid (Frm.below (w := w) (bs := [(g, (.cells #[.int .i64 (ra - s.sl), .int .i64 (su + s.sl)] 23)), (w.heap.size + 1, (rdBox r)), (w.heap.size, (stBox s (.slice A k c)))]) (by (repeat (with_reducible first | exact HR.out | apply Frm.drew | apply Frm.alloc | apply Frm.drewN))) hb)
        clear HR hb HM2 x0 x1 x2
        have HR := HRq
        clear HRq
        have x0 := HR.out.cells (List.mem_cons_self ..)
        have x1 := HR.out.cells (List.mem_cons_of_mem _ (List.mem_cons_self ..))
        have x2 := HR.out.cells (List.mem_cons_of_mem _ (List.mem_cons_of_mem _ (List.mem_cons_self ..)))
        go_wp2_with fail
        refine (known_ex _ (HH.out.below (Frm.b (w := w) (bs := [(g, (.cells #[.int .i64 (ra - s.sl), .int .i64 (su + s.sl)] 23)), (w.heap.size + 1, (rdBox r)), (w.heap.size, (stBox s (.slice A k c)))]) (by (repeat (with_reducible first | exact HR.out | apply Frm.drew | apply Frm.alloc | apply Frm.drewN))))) (HT.out.below (Frm.b (w := w) (bs := [(g, (.cells #[.int .i64 (ra - s.sl), .int .i64 (su + s.sl)] 23)), (w.heap.size + 1, (rdBox r)), (w.heap.size, (stBox s (.slice A k c)))]) (by (repeat (with_reducible first | exact HR.out | apply Frm.drew | apply Frm.alloc | apply Frm.drewN)))))).mono ?_
        rintro e wz ⟨rfl, hbz⟩
        have HZ := Lib.hid (Frm.below (w := w) (bs := [(g, (.cells #[.int .i64 (ra - s.sl), .int .i64 (su + s.sl)] 23)), (w.heap.size + 1, (rdBox r)), (w.heap.size, (stBox s (.slice A k c)))]) (by (repeat (with_reducible first | exact HR.out | apply Frm.drew | apply Frm.alloc | apply Frm.drewN))) hbz).b
        clear hbz x0 x1 x2
        go_wp2_with fail
        go_ret
        exact ⟨(by first | rfl | exact ret_bool (by simp; omega)), HZ.out⟩
    · have hL : l = [(ra - s.sl, ra + s.sl), (su - s.sl, su + s.sl)] := by rw [HL.out, if_neg k1, if_neg k2, HM.out.1, HM.out.2, if_neg o2]
      subst hL
      have q1 : (r.cl == 1) = false := by simp; omega
      have p1 : (r.cl != 1) = true := by simp; omega
      have q2 : (r.cl == 2) = false := by simp; omega
      have p2 : (r.cl != 2) = true := by simp; omega
      have q3 : (r.cl == 3) = true := by simp; omega
      have p3 : (r.cl != 3) = false := by simp; omega
      clear HL c0 c1 k1 k2
      go_wp2_with fail
      refine (HW.out _ (by first | exact HC.out | exact HC.out.drew | exact HC.out.below (below_al (Below.refl _ _) _) | exact HC.out.drew.below (below_al (Below.refl _ _) _) | exact (HC.out.below (below_al (Below.refl _ _) _)).drew)).mono ?_
      rintro e w4 ⟨g, hg0, rfl, hg1, hb⟩
      have HRq := Lib.hid (Frm.also (Frm.below (w := w) (bs := [(w.heap.size + 1, (rdBox r)), (w.heap.size, (stBox s (.slice A k c)))]) (by (repeat (with_reducible first | exact HR.out | apply Frm.drew | apply Frm.alloc | apply Frm.drewN))) hb) (show w4.heap[g]? = some (.cells #[.int .i64 (ra - s.sl), .int .i64 (ra + s.sl), .int .i64 (su - s.sl), .int .i64 (su + s.sl)] 23) from hg1))
      clear HR HC hb hg0 hg1 HW x0 x1
      have HR := HRq
      clear HRq
      have x0 := HR.out.cells (List.mem_cons_self ..)
      have x1 := HR.out.cells (List.mem_cons_of_mem _ (List.mem_cons_self ..))
      have x2 := HR.out.cells (List.mem_cons_of_mem _ (List.mem_cons_of_mem _ (List.mem_cons_self ..)))
      have g1 : decide (1000000 < ra + s.sl) = false := decide_eq_false (by omega)
      have g2 : decide (su - s.sl ≤ ra + s.sl + 1) = false := decide_eq_false (by omega)
      go_upto_region 4 with fail
      go_quiet (fail)
      go_upto_region 6 with fail
      go_region_held3 (fun w' => (∀ o, w'.cell? ⟨w.heap.size + 1, o, none⟩ = #[Value.int .i64 r.day, .int .i64 r.mi, .int .i64 r.cl, .int .i64 r.me, .int .i64 r.al, .int .i64 r.ah, .int .i64 r.dl, .int .i64 r.dh, .int .i64 r.wl, .int .i64 r.wh][o]?) ∧ (∀ o, w'.cell? ⟨w.heap.size, o, none⟩ = #[Value.int .i64 s.hl, .int .i64 s.hh, .int .i64 s.gl, .int .i64 s.gh, .int .i64 s.dr, .int .i64 s.rd, .int .i64 s.ea, .int .i64 s.sl, .slice A k c][o]?)) ((exact (fun hF : Frm w [(g, (.cells #[.int .i64 (ra - s.sl), .int .i64 (ra + s.sl), .int .i64 (su - s.sl), .int .i64 (su + s.sl)] 23)), (w.heap.size + 1, (rdBox r)), (w.heap.size, (stBox s (.slice A k c)))] _ => ⟨hF.cells (List.mem_cons_of_mem _ (List.mem_cons_self ..)), hF.cells (List.mem_cons_of_mem _ (List.mem_cons_of_mem _ (List.mem_cons_self ..)))⟩) (by (repeat (with_reducible first | exact HR.out | apply Frm.drew | apply Frm.alloc | apply Frm.drewN))))) (first | (go_at_call 21; refine (HRA.out _).mono ?_; rintro e wa ⟨rfl, hba⟩; have HRq := Lib.hid (Frm.below (w := w) (bs := [(g, (.cells #[.int .i64 (ra - s.sl), .int .i64 (ra + s.sl), .int .i64 (su - s.sl), .int .i64 (su + s.sl)] 23)), (w.heap.size + 1, (rdBox r)), (w.heap.size, (stBox s (.slice A k c)))]) (by (repeat (with_reducible first | exact HR.out | apply Frm.drew | apply Frm.alloc | apply Frm.drewN))) hba); clear HR; have HR := HRq; clear HRq hba) | (go_at_call 22; refine (HSU.out _).mono ?_; rintro e wa ⟨rfl, hba⟩; have HRq := Lib.hid (Frm.below (w := w) (bs := [(g, (.cells #[.int .i64 (ra - s.sl), .int .i64 (ra + s.sl), .int .i64 (su - s.sl), .int .i64 (su + s.sl)] 23)), (w.heap.size + 1, (rdBox r)), (w.heap.size, (stBox s (.slice A k c)))]) (by (repeat (with_reducible first | exact HR.out | apply Frm.drew | apply Frm.alloc | apply Frm.drewN))) hba); clear HR; have HR := HRq; clear HRq hba))
      clear x0 x1 x2
      have x0 := HR.out.cells (List.mem_cons_self ..)
      have x1 := HR.out.cells (List.mem_cons_of_mem _ (List.mem_cons_self ..))
      have x2 := HR.out.cells (List.mem_cons_of_mem _ (List.mem_cons_of_mem _ (List.mem_cons_self ..)))
      clear HRA HSU
      cases sun
      · have HM1 := Lib.hid (show amB (ra + wr0) [(ra - s.sl, ra + s.sl), (su - s.sl, su + s.sl)] = true by simp [amB]; omega)
        go_wp2_with fail
        refine (among_at (k := 2) (l := [(ra - s.sl, ra + s.sl), (su - s.sl, su + s.sl)]) (bs := [(g, (.cells #[.int .i64 (ra - s.sl), .int .i64 (ra + s.sl), .int .i64 (su - s.sl), .int .i64 (su + s.sl)] 23)), (w.heap.size + 1, (rdBox r)), (w.heap.size, (stBox s (.slice A k c)))]) (w0 := w) rfl (by omega) (by (repeat (with_reducible first | exact HR.out | apply Frm.drew | apply Frm.alloc | apply Frm.drewN))) (List.mem_cons_self ..) HM1.out).mono ?_
        rintro e w5 ⟨rfl, hb⟩
        have HRq := Lib.hid (Frm.below (w := w) (bs := [(g, (.cells #[.int .i64 (ra - s.sl), .int .i64 (ra + s.sl), .int .i64 (su - s.sl), .int .i64 (su + s.sl)] 23)), (w.heap.size + 1, (rdBox r)), (w.heap.size, (stBox s (.slice A k c)))]) (by (repeat (with_reducible first | exact HR.out | apply Frm.drew | apply Frm.alloc | apply Frm.drewN))) hb)
        clear HR hb HM1 x0 x1 x2
        have HR := HRq
        clear HRq
        have x0 := HR.out.cells (List.mem_cons_self ..)
        have x1 := HR.out.cells (List.mem_cons_of_mem _ (List.mem_cons_self ..))
        have x2 := HR.out.cells (List.mem_cons_of_mem _ (List.mem_cons_of_mem _ (List.mem_cons_self ..)))
        by_cases ura1 : mi < ra - s.sl
        · by_cases usu1 : mi < su - s.sl
          · have HM2 := Lib.hid (show amB (mi) [(ra - s.sl, ra + s.sl), (su - s.sl, su + s.sl)] = false by simp [amB]; omega)
            go_wp2_with fail
            refine (among_at (k := 2) (l := [(ra - s.sl, ra + s.sl), (su - s.sl, su + s.sl)]) (bs := [(g, (.cells #[.int .i64 (ra - s.sl), .int .i64 (ra + s.sl), .int .i64 (su - s.sl), .int .i64 (su + s.sl)] 23)), (w.heap.size + 1, (rdBox r)), (w.heap.size, (stBox s (.slice A k c)))]) (w0 := w) rfl (by omega) (by (repeat (with_reducible first | exact HR.out | apply Frm.drew | apply Frm.alloc | apply Frm.drewN))) (List.mem_cons_self ..) HM2.out).mono ?_
            rintro e w6 ⟨rfl, hb⟩
            have HRq := Lib.hid (Frm.below (w := w) (bs := [(g, (.cells #[.int .i64 (ra - s.sl), .int .i64 (ra + s.sl), .int .i64 (su - s.sl), .int .i64 (su + s.sl)] 23)), (w.heap.size + 1, (rdBox r)), (w.heap.size, (stBox s (.slice A k c)))]) (by (repeat (with_reducible first | exact HR.out | apply Frm.drew | apply Frm.alloc | apply Frm.drewN))) hb)
            clear HR hb HM2 x0 x1 x2
            have HR := HRq
            clear HRq
            have x0 := HR.out.cells (List.mem_cons_self ..)
            have x1 := HR.out.cells (List.mem_cons_of_mem _ (List.mem_cons_self ..))
            have x2 := HR.out.cells (List.mem_cons_of_mem _ (List.mem_cons_of_mem _ (List.mem_cons_self ..)))
            go_wp2_with fail
            refine (known_ex _ (HH.out.below (Frm.b (w := w) (bs := [(g, (.cells #[.int .i64 (ra - s.sl), .int .i64 (ra + s.sl), .int .i64 (su - s.sl), .int .i64 (su + s.sl)] 23)), (w.heap.size + 1, (rdBox r)), (w.heap.size, (stBox s (.slice A k c)))]) (by (repeat (with_reducible first | exact HR.out | apply Frm.drew | apply Frm.alloc | apply Frm.drewN))))) (HT.out.below (Frm.b (w := w) (bs := [(g, (.cells #[.int .i64 (ra - s.sl), .int .i64 (ra + s.sl), .int .i64 (su - s.sl), .int .i64 (su + s.sl)] 23)), (w.heap.size + 1, (rdBox r)), (w.heap.size, (stBox s (.slice A k c)))]) (by (repeat (with_reducible first | exact HR.out | apply Frm.drew | apply Frm.alloc | apply Frm.drewN)))))).mono ?_
            rintro e wz ⟨rfl, hbz⟩
            have HZ := Lib.hid (Frm.below (w := w) (bs := [(g, (.cells #[.int .i64 (ra - s.sl), .int .i64 (ra + s.sl), .int .i64 (su - s.sl), .int .i64 (su + s.sl)] 23)), (w.heap.size + 1, (rdBox r)), (w.heap.size, (stBox s (.slice A k c)))]) (by (repeat (with_reducible first | exact HR.out | apply Frm.drew | apply Frm.alloc | apply Frm.drewN))) hbz).b
            clear hbz x0 x1 x2
            go_wp2_with fail
            go_ret
            exact ⟨(by first | rfl | exact ret_bool (by simp; omega)), HZ.out⟩
          by_cases usu2 : su + s.sl < mi
          · exfalso
            omega
          exfalso
          omega
        by_cases ura2 : ra + s.sl < mi
        · by_cases usu1 : mi < su - s.sl
          · have HM2 := Lib.hid (show amB (mi) [(ra - s.sl, ra + s.sl), (su - s.sl, su + s.sl)] = false by simp [amB]; omega)
            go_wp2_with fail
            refine (among_at (k := 2) (l := [(ra - s.sl, ra + s.sl), (su - s.sl, su + s.sl)]) (bs := [(g, (.cells #[.int .i64 (ra - s.sl), .int .i64 (ra + s.sl), .int .i64 (su - s.sl), .int .i64 (su + s.sl)] 23)), (w.heap.size + 1, (rdBox r)), (w.heap.size, (stBox s (.slice A k c)))]) (w0 := w) rfl (by omega) (by (repeat (with_reducible first | exact HR.out | apply Frm.drew | apply Frm.alloc | apply Frm.drewN))) (List.mem_cons_self ..) HM2.out).mono ?_
            rintro e w6 ⟨rfl, hb⟩
            have HRq := Lib.hid (Frm.below (w := w) (bs := [(g, (.cells #[.int .i64 (ra - s.sl), .int .i64 (ra + s.sl), .int .i64 (su - s.sl), .int .i64 (su + s.sl)] 23)), (w.heap.size + 1, (rdBox r)), (w.heap.size, (stBox s (.slice A k c)))]) (by (repeat (with_reducible first | exact HR.out | apply Frm.drew | apply Frm.alloc | apply Frm.drewN))) hb)
            clear HR hb HM2 x0 x1 x2
            have HR := HRq
            clear HRq
            have x0 := HR.out.cells (List.mem_cons_self ..)
            have x1 := HR.out.cells (List.mem_cons_of_mem _ (List.mem_cons_self ..))
            have x2 := HR.out.cells (List.mem_cons_of_mem _ (List.mem_cons_of_mem _ (List.mem_cons_self ..)))
            go_wp2_with fail
            refine (known_ex _ (HH.out.below (Frm.b (w := w) (bs := [(g, (.cells #[.int .i64 (ra - s.sl), .int .i64 (ra + s.sl), .int .i64 (su - s.sl), .int .i64 (su + s.sl)] 23)), (w.heap.size + 1, (rdBox r)), (w.heap.size, (stBox s (.slice A k c)))]) (by (repeat (with_reducible first | exact HR.out | apply Frm.drew | apply Frm.alloc | apply Frm.drewN))))) (HT.out.below (Frm.b (w := w) (bs := [(g, (.cells #[.int .i64 (ra - s.sl), .int .i64 (ra + s.sl), .int .i64 (su - s.sl), .int .i64 (su + s.sl)] 23)), (w.heap.size + 1, (rdBox r)), (w.heap.size, (stBox s (.slice A k c)))]) (by (repeat (with_reducible first | exact HR.out | apply Frm.drew | apply Frm.alloc | apply Frm.drewN)))))).mono ?_
            rintro e wz ⟨rfl, hbz⟩
            have HZ := Lib.hid (Frm.below (w := w) (bs := [(g, (.cells #[.int .i64 (ra - s.sl), .int .i64 (ra + s.sl), .int .i64 (su - s.sl), .int .i64 (su + s.sl)] 23)), (w.heap.size + 1, (rdBox r)), (w.heap.size, (stBox s (.slice A k c)))]) (by (repeat (with_reducible first | exact HR.out | apply Frm.drew | apply Frm.alloc | apply Frm.drewN))) hbz).b
            clear hbz x0 x1 x2
            go_wp2_with fail
            go_ret
            exact ⟨(by first | rfl | exact ret_bool (by simp; omega)), HZ.out⟩
          by_cases usu2 : su + s.sl < mi
          · have HM2 := Lib.hid (show amB (mi) [(ra - s.sl, ra + s.sl), (su - s.sl, su + s.sl)] = false by simp [amB]; omega)
            go_wp2_with fail
            refine (among_at (k := 2) (l := [(ra - s.sl, ra + s.sl), (su - s.sl, su + s.sl)]) (bs := [(g, (.cells #[.int .i64 (ra - s.sl), .int .i64 (ra + s.sl), .int .i64 (su - s.sl), .int .i64 (su + s.sl)] 23)), (w.heap.size + 1, (rdBox r)), (w.heap.size, (stBox s (.slice A k c)))]) (w0 := w) rfl (by omega) (by (repeat (with_reducible first | exact HR.out | apply Frm.drew | apply Frm.alloc | apply Frm.drewN))) (List.mem_cons_self ..) HM2.out).mono ?_
            rintro e w6 ⟨rfl, hb⟩
            have HRq := Lib.hid (Frm.below (w := w) (bs := [(g, (.cells #[.int .i64 (ra - s.sl), .int .i64 (ra + s.sl), .int .i64 (su - s.sl), .int .i64 (su + s.sl)] 23)), (w.heap.size + 1, (rdBox r)), (w.heap.size, (stBox s (.slice A k c)))]) (by (repeat (with_reducible first | exact HR.out | apply Frm.drew | apply Frm.alloc | apply Frm.drewN))) hb)
            clear HR hb HM2 x0 x1 x2
            have HR := HRq
            clear HRq
            have x0 := HR.out.cells (List.mem_cons_self ..)
            have x1 := HR.out.cells (List.mem_cons_of_mem _ (List.mem_cons_self ..))
            have x2 := HR.out.cells (List.mem_cons_of_mem _ (List.mem_cons_of_mem _ (List.mem_cons_self ..)))
            go_wp2_with fail
            refine (known_ex _ (HH.out.below (Frm.b (w := w) (bs := [(g, (.cells #[.int .i64 (ra - s.sl), .int .i64 (ra + s.sl), .int .i64 (su - s.sl), .int .i64 (su + s.sl)] 23)), (w.heap.size + 1, (rdBox r)), (w.heap.size, (stBox s (.slice A k c)))]) (by (repeat (with_reducible first | exact HR.out | apply Frm.drew | apply Frm.alloc | apply Frm.drewN))))) (HT.out.below (Frm.b (w := w) (bs := [(g, (.cells #[.int .i64 (ra - s.sl), .int .i64 (ra + s.sl), .int .i64 (su - s.sl), .int .i64 (su + s.sl)] 23)), (w.heap.size + 1, (rdBox r)), (w.heap.size, (stBox s (.slice A k c)))]) (by (repeat (with_reducible first | exact HR.out | apply Frm.drew | apply Frm.alloc | apply Frm.drewN)))))).mono ?_
            rintro e wz ⟨rfl, hbz⟩
            have HZ := Lib.hid (Frm.below (w := w) (bs := [(g, (.cells #[.int .i64 (ra - s.sl), .int .i64 (ra + s.sl), .int .i64 (su - s.sl), .int .i64 (su + s.sl)] 23)), (w.heap.size + 1, (rdBox r)), (w.heap.size, (stBox s (.slice A k c)))]) (by (repeat (with_reducible first | exact HR.out | apply Frm.drew | apply Frm.alloc | apply Frm.drewN))) hbz).b
            clear hbz x0 x1 x2
            go_wp2_with fail
            go_ret
            exact ⟨(by first | rfl | exact ret_bool (by simp; omega)), HZ.out⟩
          have HM2 := Lib.hid (show amB (mi) [(ra - s.sl, ra + s.sl), (su - s.sl, su + s.sl)] = true by simp [amB]; omega)
          go_wp2_with fail
          refine (among_at (k := 2) (l := [(ra - s.sl, ra + s.sl), (su - s.sl, su + s.sl)]) (bs := [(g, (.cells #[.int .i64 (ra - s.sl), .int .i64 (ra + s.sl), .int .i64 (su - s.sl), .int .i64 (su + s.sl)] 23)), (w.heap.size + 1, (rdBox r)), (w.heap.size, (stBox s (.slice A k c)))]) (w0 := w) rfl (by omega) (by (repeat (with_reducible first | exact HR.out | apply Frm.drew | apply Frm.alloc | apply Frm.drewN))) (List.mem_cons_self ..) HM2.out).mono ?_
          rintro e w6 ⟨rfl, hb⟩
          have HRq := Lib.hid (Frm.below (w := w) (bs := [(g, (.cells #[.int .i64 (ra - s.sl), .int .i64 (ra + s.sl), .int .i64 (su - s.sl), .int .i64 (su + s.sl)] 23)), (w.heap.size + 1, (rdBox r)), (w.heap.size, (stBox s (.slice A k c)))]) (by (repeat (with_reducible first | exact HR.out | apply Frm.drew | apply Frm.alloc | apply Frm.drewN))) hb)
          clear HR hb HM2 x0 x1 x2
          have HR := HRq
          clear HRq
          have x0 := HR.out.cells (List.mem_cons_self ..)
          have x1 := HR.out.cells (List.mem_cons_of_mem _ (List.mem_cons_self ..))
          have x2 := HR.out.cells (List.mem_cons_of_mem _ (List.mem_cons_of_mem _ (List.mem_cons_self ..)))
          go_wp2_with fail
          refine (known_ex _ (HH.out.below (Frm.b (w := w) (bs := [(g, (.cells #[.int .i64 (ra - s.sl), .int .i64 (ra + s.sl), .int .i64 (su - s.sl), .int .i64 (su + s.sl)] 23)), (w.heap.size + 1, (rdBox r)), (w.heap.size, (stBox s (.slice A k c)))]) (by (repeat (with_reducible first | exact HR.out | apply Frm.drew | apply Frm.alloc | apply Frm.drewN))))) (HT.out.below (Frm.b (w := w) (bs := [(g, (.cells #[.int .i64 (ra - s.sl), .int .i64 (ra + s.sl), .int .i64 (su - s.sl), .int .i64 (su + s.sl)] 23)), (w.heap.size + 1, (rdBox r)), (w.heap.size, (stBox s (.slice A k c)))]) (by (repeat (with_reducible first | exact HR.out | apply Frm.drew | apply Frm.alloc | apply Frm.drewN)))))).mono ?_
          rintro e wz ⟨rfl, hbz⟩
          have HZ := Lib.hid (Frm.below (w := w) (bs := [(g, (.cells #[.int .i64 (ra - s.sl), .int .i64 (ra + s.sl), .int .i64 (su - s.sl), .int .i64 (su + s.sl)] 23)), (w.heap.size + 1, (rdBox r)), (w.heap.size, (stBox s (.slice A k c)))]) (by (repeat (with_reducible first | exact HR.out | apply Frm.drew | apply Frm.alloc | apply Frm.drewN))) hbz).b
          clear hbz x0 x1 x2
          go_wp2_with fail
          go_ret
          exact ⟨(by first | rfl | exact ret_bool (by simp; omega)), HZ.out⟩
        have HM2 := Lib.hid (show amB (mi) [(ra - s.sl, ra + s.sl), (su - s.sl, su + s.sl)] = true by simp [amB]; omega)
        go_wp2_with fail
        refine (among_at (k := 2) (l := [(ra - s.sl, ra + s.sl), (su - s.sl, su + s.sl)]) (bs := [(g, (.cells #[.int .i64 (ra - s.sl), .int .i64 (ra + s.sl), .int .i64 (su - s.sl), .int .i64 (su + s.sl)] 23)), (w.heap.size + 1, (rdBox r)), (w.heap.size, (stBox s (.slice A k c)))]) (w0 := w) rfl (by omega) (by (repeat (with_reducible first | exact HR.out | apply Frm.drew | apply Frm.alloc | apply Frm.drewN))) (List.mem_cons_self ..) HM2.out).mono ?_
        rintro e w6 ⟨rfl, hb⟩
        have HRq := Lib.hid (Frm.below (w := w) (bs := [(g, (.cells #[.int .i64 (ra - s.sl), .int .i64 (ra + s.sl), .int .i64 (su - s.sl), .int .i64 (su + s.sl)] 23)), (w.heap.size + 1, (rdBox r)), (w.heap.size, (stBox s (.slice A k c)))]) (by (repeat (with_reducible first | exact HR.out | apply Frm.drew | apply Frm.alloc | apply Frm.drewN))) hb)
        clear HR hb HM2 x0 x1 x2
        have HR := HRq
        clear HRq
        have x0 := HR.out.cells (List.mem_cons_self ..)
        have x1 := HR.out.cells (List.mem_cons_of_mem _ (List.mem_cons_self ..))
        have x2 := HR.out.cells (List.mem_cons_of_mem _ (List.mem_cons_of_mem _ (List.mem_cons_self ..)))
        go_wp2_with fail
        refine (known_ex _ (HH.out.below (Frm.b (w := w) (bs := [(g, (.cells #[.int .i64 (ra - s.sl), .int .i64 (ra + s.sl), .int .i64 (su - s.sl), .int .i64 (su + s.sl)] 23)), (w.heap.size + 1, (rdBox r)), (w.heap.size, (stBox s (.slice A k c)))]) (by (repeat (with_reducible first | exact HR.out | apply Frm.drew | apply Frm.alloc | apply Frm.drewN))))) (HT.out.below (Frm.b (w := w) (bs := [(g, (.cells #[.int .i64 (ra - s.sl), .int .i64 (ra + s.sl), .int .i64 (su - s.sl), .int .i64 (su + s.sl)] 23)), (w.heap.size + 1, (rdBox r)), (w.heap.size, (stBox s (.slice A k c)))]) (by (repeat (with_reducible first | exact HR.out | apply Frm.drew | apply Frm.alloc | apply Frm.drewN)))))).mono ?_
        rintro e wz ⟨rfl, hbz⟩
        have HZ := Lib.hid (Frm.below (w := w) (bs := [(g, (.cells #[.int .i64 (ra - s.sl), .int .i64 (ra + s.sl), .int .i64 (su - s.sl), .int .i64 (su + s.sl)] 23)), (w.heap.size + 1, (rdBox r)), (w.heap.size, (stBox s (.slice A k c)))]) (by (repeat (with_reducible first | exact HR.out | apply Frm.drew | apply Frm.alloc | apply Frm.drewN))) hbz).b
        clear hbz x0 x1 x2
        go_wp2_with fail
        go_ret
        exact ⟨(by first | rfl | exact ret_bool (by simp; omega)), HZ.out⟩
      · have HM1 := Lib.hid (show amB (su + wr0) [(ra - s.sl, ra + s.sl), (su - s.sl, su + s.sl)] = true by simp [amB]; omega)
        go_wp2_with fail
        refine (among_at (k := 2) (l := [(ra - s.sl, ra + s.sl), (su - s.sl, su + s.sl)]) (bs := [(g, (.cells #[.int .i64 (ra - s.sl), .int .i64 (ra + s.sl), .int .i64 (su - s.sl), .int .i64 (su + s.sl)] 23)), (w.heap.size + 1, (rdBox r)), (w.heap.size, (stBox s (.slice A k c)))]) (w0 := w) rfl (by omega) (by (repeat (with_reducible first | exact HR.out | apply Frm.drew | apply Frm.alloc | apply Frm.drewN))) (List.mem_cons_self ..) HM1.out).mono ?_
        rintro e w5 ⟨rfl, hb⟩
        have HRq := Lib.hid (Frm.below (w := w) (bs := [(g, (.cells #[.int .i64 (ra - s.sl), .int .i64 (ra + s.sl), .int .i64 (su - s.sl), .int .i64 (su + s.sl)] 23)), (w.heap.size + 1, (rdBox r)), (w.heap.size, (stBox s (.slice A k c)))]) (by (repeat (with_reducible first | exact HR.out | apply Frm.drew | apply Frm.alloc | apply Frm.drewN))) hb)
        clear HR hb HM1 x0 x1 x2
        have HR := HRq
        clear HRq
        have x0 := HR.out.cells (List.mem_cons_self ..)
        have x1 := HR.out.cells (List.mem_cons_of_mem _ (List.mem_cons_self ..))
        have x2 := HR.out.cells (List.mem_cons_of_mem _ (List.mem_cons_of_mem _ (List.mem_cons_self ..)))
        by_cases ura1 : mi < ra - s.sl
        · by_cases usu1 : mi < su - s.sl
          · have HM2 := Lib.hid (show amB (mi) [(ra - s.sl, ra + s.sl), (su - s.sl, su + s.sl)] = false by simp [amB]; omega)
            go_wp2_with fail
            refine (among_at (k := 2) (l := [(ra - s.sl, ra + s.sl), (su - s.sl, su + s.sl)]) (bs := [(g, (.cells #[.int .i64 (ra - s.sl), .int .i64 (ra + s.sl), .int .i64 (su - s.sl), .int .i64 (su + s.sl)] 23)), (w.heap.size + 1, (rdBox r)), (w.heap.size, (stBox s (.slice A k c)))]) (w0 := w) rfl (by omega) (by (repeat (with_reducible first | exact HR.out | apply Frm.drew | apply Frm.alloc | apply Frm.drewN))) (List.mem_cons_self ..) HM2.out).mono ?_
            rintro e w6 ⟨rfl, hb⟩
            have HRq := Lib.hid (Frm.below (w := w) (bs := [(g, (.cells #[.int .i64 (ra - s.sl), .int .i64 (ra + s.sl), .int .i64 (su - s.sl), .int .i64 (su + s.sl)] 23)), (w.heap.size + 1, (rdBox r)), (w.heap.size, (stBox s (.slice A k c)))]) (by (repeat (with_reducible first | exact HR.out | apply Frm.drew | apply Frm.alloc | apply Frm.drewN))) hb)
            clear HR hb HM2 x0 x1 x2
            have HR := HRq
            clear HRq
            have x0 := HR.out.cells (List.mem_cons_self ..)
            have x1 := HR.out.cells (List.mem_cons_of_mem _ (List.mem_cons_self ..))
            have x2 := HR.out.cells (List.mem_cons_of_mem _ (List.mem_cons_of_mem _ (List.mem_cons_self ..)))
            go_wp2_with fail
            refine (known_ex _ (HH.out.below (Frm.b (w := w) (bs := [(g, (.cells #[.int .i64 (ra - s.sl), .int .i64 (ra + s.sl), .int .i64 (su - s.sl), .int .i64 (su + s.sl)] 23)), (w.heap.size + 1, (rdBox r)), (w.heap.size, (stBox s (.slice A k c)))]) (by (repeat (with_reducible first | exact HR.out | apply Frm.drew | apply Frm.alloc | apply Frm.drewN))))) (HT.out.below (Frm.b (w := w) (bs := [(g, (.cells #[.int .i64 (ra - s.sl), .int .i64 (ra + s.sl), .int .i64 (su - s.sl), .int .i64 (su + s.sl)] 23)), (w.heap.size + 1, (rdBox r)), (w.heap.size, (stBox s (.slice A k c)))]) (by (repeat (with_reducible first | exact HR.out | apply Frm.drew | apply Frm.alloc | apply Frm.drewN)))))).mono ?_
            rintro e wz ⟨rfl, hbz⟩
            have HZ := Lib.hid (Frm.below (w := w) (bs := [(g, (.cells #[.int .i64 (ra - s.sl), .int .i64 (ra + s.sl), .int .i64 (su - s.sl), .int .i64 (su + s.sl)] 23)), (w.heap.size + 1, (rdBox r)), (w.heap.size, (stBox s (.slice A k c)))]) (by (repeat (with_reducible first | exact HR.out | apply Frm.drew | apply Frm.alloc | apply Frm.drewN))) hbz).b
            clear hbz x0 x1 x2
            go_wp2_with fail
            go_ret
            exact ⟨(by first | rfl | exact ret_bool (by simp; omega)), HZ.out⟩
          by_cases usu2 : su + s.sl < mi
          · exfalso
            omega
          exfalso
          omega
        by_cases ura2 : ra + s.sl < mi
        · by_cases usu1 : mi < su - s.sl
          · have HM2 := Lib.hid (show amB (mi) [(ra - s.sl, ra + s.sl), (su - s.sl, su + s.sl)] = false by simp [amB]; omega)
            go_wp2_with fail
            refine (among_at (k := 2) (l := [(ra - s.sl, ra + s.sl), (su - s.sl, su + s.sl)]) (bs := [(g, (.cells #[.int .i64 (ra - s.sl), .int .i64 (ra + s.sl), .int .i64 (su - s.sl), .int .i64 (su + s.sl)] 23)), (w.heap.size + 1, (rdBox r)), (w.heap.size, (stBox s (.slice A k c)))]) (w0 := w) rfl (by omega) (by (repeat (with_reducible first | exact HR.out | apply Frm.drew | apply Frm.alloc | apply Frm.drewN))) (List.mem_cons_self ..) HM2.out).mono ?_
            rintro e w6 ⟨rfl, hb⟩
            have HRq := Lib.hid (Frm.below (w := w) (bs := [(g, (.cells #[.int .i64 (ra - s.sl), .int .i64 (ra + s.sl), .int .i64 (su - s.sl), .int .i64 (su + s.sl)] 23)), (w.heap.size + 1, (rdBox r)), (w.heap.size, (stBox s (.slice A k c)))]) (by (repeat (with_reducible first | exact HR.out | apply Frm.drew | apply Frm.alloc | apply Frm.drewN))) hb)
            clear HR hb HM2 x0 x1 x2
            have HR := HRq
            clear HRq
            have x0 := HR.out.cells (List.mem_cons_self ..)
            have x1 := HR.out.cells (List.mem_cons_of_mem _ (List.mem_cons_self ..))
            have x2 := HR.out.cells (List.mem_cons_of_mem _ (List.mem_cons_of_mem _ (List.mem_cons_self ..)))
            go_wp2_with fail
            refine (known_ex _ (HH.out.below (Frm.b (w := w) (bs := [(g, (.cells #[.int .i64 (ra - s.sl), .int .i64 (ra + s.sl), .int .i64 (su - s.sl), .int .i64 (su + s.sl)] 23)), (w.heap.size + 1, (rdBox r)), (w.heap.size, (stBox s (.slice A k c)))]) (by (repeat (with_reducible first | exact HR.out | apply Frm.drew | apply Frm.alloc | apply Frm.drewN))))) (HT.out.below (Frm.b (w := w) (bs := [(g, (.cells #[.int .i64 (ra - s.sl), .int .i64 (ra + s.sl), .int .i64 (su - s.sl), .int .i64 (su + s.sl)] 23)), (w.heap.size + 1, (rdBox r)), (w.heap.size, (stBox s (.slice A k c)))]) (by (repeat (with_reducible first | exact HR.out | apply Frm.drew | apply Frm.alloc | apply Frm.drewN)))))).mono ?_
            rintro e wz ⟨rfl, hbz⟩
            have HZ := Lib.hid (Frm.below (w := w) (bs := [(g, (.cells #[.int .i64 (ra - s.sl), .int .i64 (ra + s.sl), .int .i64 (su - s.sl), .int .i64 (su + s.sl)] 23)), (w.heap.size + 1, (rdBox r)), (w.heap.size, (stBox s (.slice A k c)))]) (by (repeat (with_reducible first | exact HR.out | apply Frm.drew | apply Frm.alloc | apply Frm.drewN))) hbz).b
            clear hbz x0 x1 x2
            go_wp2_with fail
            go_ret
            exact ⟨(by first | rfl | exact ret_bool (by simp; omega)), HZ.out⟩
          by_cases usu2 : su + s.sl < mi
          · have HM2 := Lib.hid (show amB (mi) [(ra - s.sl, ra + s.sl), (su - s.sl, su + s.sl)] = false by simp [amB]; omega)
            go_wp2_with fail
            refine (among_at (k := 2) (l := [(ra - s.sl, ra + s.sl), (su - s.sl, su + s.sl)]) (bs := [(g, (.cells #[.int .i64 (ra - s.sl), .int .i64 (ra + s.sl), .int .i64 (su - s.sl), .int .i64 (su + s.sl)] 23)), (w.heap.size + 1, (rdBox r)), (w.heap.size, (stBox s (.slice A k c)))]) (w0 := w) rfl (by omega) (by (repeat (with_reducible first | exact HR.out | apply Frm.drew | apply Frm.alloc | apply Frm.drewN))) (List.mem_cons_self ..) HM2.out).mono ?_
            rintro e w6 ⟨rfl, hb⟩
            have HRq := Lib.hid (Frm.below (w := w) (bs := [(g, (.cells #[.int .i64 (ra - s.sl), .int .i64 (ra + s.sl), .int .i64 (su - s.sl), .int .i64 (su + s.sl)] 23)), (w.heap.size + 1, (rdBox r)), (w.heap.size, (stBox s (.slice A k c)))]) (by (repeat (with_reducible first | exact HR.out | apply Frm.drew | apply Frm.alloc | apply Frm.drewN))) hb)
            clear HR hb HM2 x0 x1 x2
            have HR := HRq
            clear HRq
            have x0 := HR.out.cells (List.mem_cons_self ..)
            have x1 := HR.out.cells (List.mem_cons_of_mem _ (List.mem_cons_self ..))
            have x2 := HR.out.cells (List.mem_cons_of_mem _ (List.mem_cons_of_mem _ (List.mem_cons_self ..)))
            go_wp2_with fail
            refine (known_ex _ (HH.out.below (Frm.b (w := w) (bs := [(g, (.cells #[.int .i64 (ra - s.sl), .int .i64 (ra + s.sl), .int .i64 (su - s.sl), .int .i64 (su + s.sl)] 23)), (w.heap.size + 1, (rdBox r)), (w.heap.size, (stBox s (.slice A k c)))]) (by (repeat (with_reducible first | exact HR.out | apply Frm.drew | apply Frm.alloc | apply Frm.drewN))))) (HT.out.below (Frm.b (w := w) (bs := [(g, (.cells #[.int .i64 (ra - s.sl), .int .i64 (ra + s.sl), .int .i64 (su - s.sl), .int .i64 (su + s.sl)] 23)), (w.heap.size + 1, (rdBox r)), (w.heap.size, (stBox s (.slice A k c)))]) (by (repeat (with_reducible first | exact HR.out | apply Frm.drew | apply Frm.alloc | apply Frm.drewN)))))).mono ?_
            rintro e wz ⟨rfl, hbz⟩
            have HZ := Lib.hid (Frm.below (w := w) (bs := [(g, (.cells #[.int .i64 (ra - s.sl), .int .i64 (ra + s.sl), .int .i64 (su - s.sl), .int .i64 (su + s.sl)] 23)), (w.heap.size + 1, (rdBox r)), (w.heap.size, (stBox s (.slice A k c)))]) (by (repeat (with_reducible first | exact HR.out | apply Frm.drew | apply Frm.alloc | apply Frm.drewN))) hbz).b
            clear hbz x0 x1 x2
            go_wp2_with fail
            go_ret
            exact ⟨(by first | rfl | exact ret_bool (by simp; omega)), HZ.out⟩
          have HM2 := Lib.hid (show amB (mi) [(ra - s.sl, ra + s.sl), (su - s.sl, su + s.sl)] = true by simp [amB]; omega)
          go_wp2_with fail
          refine (among_at (k := 2) (l := [(ra - s.sl, ra + s.sl), (su - s.sl, su + s.sl)]) (bs := [(g, (.cells #[.int .i64 (ra - s.sl), .int .i64 (ra + s.sl), .int .i64 (su - s.sl), .int .i64 (su + s.sl)] 23)), (w.heap.size + 1, (rdBox r)), (w.heap.size, (stBox s (.slice A k c)))]) (w0 := w) rfl (by omega) (by (repeat (with_reducible first | exact HR.out | apply Frm.drew | apply Frm.alloc | apply Frm.drewN))) (List.mem_cons_self ..) HM2.out).mono ?_
          rintro e w6 ⟨rfl, hb⟩
          have HRq := Lib.hid (Frm.below (w := w) (bs := [(g, (.cells #[.int .i64 (ra - s.sl), .int .i64 (ra + s.sl), .int .i64 (su - s.sl), .int .i64 (su + s.sl)] 23)), (w.heap.size + 1, (rdBox r)), (w.heap.size, (stBox s (.slice A k c)))]) (by (repeat (with_reducible first | exact HR.out | apply Frm.drew | apply Frm.alloc | apply Frm.drewN))) hb)
          clear HR hb HM2 x0 x1 x2
          have HR := HRq
          clear HRq
          have x0 := HR.out.cells (List.mem_cons_self ..)
          have x1 := HR.out.cells (List.mem_cons_of_mem _ (List.mem_cons_self ..))
          have x2 := HR.out.cells (List.mem_cons_of_mem _ (List.mem_cons_of_mem _ (List.mem_cons_self ..)))
          go_wp2_with fail
          refine (known_ex _ (HH.out.below (Frm.b (w := w) (bs := [(g, (.cells #[.int .i64 (ra - s.sl), .int .i64 (ra + s.sl), .int .i64 (su - s.sl), .int .i64 (su + s.sl)] 23)), (w.heap.size + 1, (rdBox r)), (w.heap.size, (stBox s (.slice A k c)))]) (by (repeat (with_reducible first | exact HR.out | apply Frm.drew | apply Frm.alloc | apply Frm.drewN))))) (HT.out.below (Frm.b (w := w) (bs := [(g, (.cells #[.int .i64 (ra - s.sl), .int .i64 (ra + s.sl), .int .i64 (su - s.sl), .int .i64 (su + s.sl)] 23)), (w.heap.size + 1, (rdBox r)), (w.heap.size, (stBox s (.slice A k c)))]) (by (repeat (with_reducible first | exact HR.out | apply Frm.drew | apply Frm.alloc | apply Frm.drewN)))))).mono ?_
          rintro e wz ⟨rfl, hbz⟩
          have HZ := Lib.hid (Frm.below (w := w) (bs := [(g, (.cells #[.int .i64 (ra - s.sl), .int .i64 (ra + s.sl), .int .i64 (su - s.sl), .int .i64 (su + s.sl)] 23)), (w.heap.size + 1, (rdBox r)), (w.heap.size, (stBox s (.slice A k c)))]) (by (repeat (with_reducible first | exact HR.out | apply Frm.drew | apply Frm.alloc | apply Frm.drewN))) hbz).b
          clear hbz x0 x1 x2
          go_wp2_with fail
          go_ret
          exact ⟨(by first | rfl | exact ret_bool (by simp; omega)), HZ.out⟩
        have HM2 := Lib.hid (show amB (mi) [(ra - s.sl, ra + s.sl), (su - s.sl, su + s.sl)] = true by simp [amB]; omega)
        go_wp2_with fail
        refine (among_at (k := 2) (l := [(ra - s.sl, ra + s.sl), (su - s.sl, su + s.sl)]) (bs := [(g, (.cells #[.int .i64 (ra - s.sl), .int .i64 (ra + s.sl), .int .i64 (su - s.sl), .int .i64 (su + s.sl)] 23)), (w.heap.size + 1, (rdBox r)), (w.heap.size, (stBox s (.slice A k c)))]) (w0 := w) rfl (by omega) (by (repeat (with_reducible first | exact HR.out | apply Frm.drew | apply Frm.alloc | apply Frm.drewN))) (List.mem_cons_self ..) HM2.out).mono ?_
        rintro e w6 ⟨rfl, hb⟩
        have HRq := Lib.hid (Frm.below (w := w) (bs := [(g, (.cells #[.int .i64 (ra - s.sl), .int .i64 (ra + s.sl), .int .i64 (su - s.sl), .int .i64 (su + s.sl)] 23)), (w.heap.size + 1, (rdBox r)), (w.heap.size, (stBox s (.slice A k c)))]) (by (repeat (with_reducible first | exact HR.out | apply Frm.drew | apply Frm.alloc | apply Frm.drewN))) hb)
        clear HR hb HM2 x0 x1 x2
        have HR := HRq
        clear HRq
        have x0 := HR.out.cells (List.mem_cons_self ..)
        have x1 := HR.out.cells (List.mem_cons_of_mem _ (List.mem_cons_self ..))
        have x2 := HR.out.cells (List.mem_cons_of_mem _ (List.mem_cons_of_mem _ (List.mem_cons_self ..)))
        go_wp2_with fail
        refine (known_ex _ (HH.out.below (Frm.b (w := w) (bs := [(g, (.cells #[.int .i64 (ra - s.sl), .int .i64 (ra + s.sl), .int .i64 (su - s.sl), .int .i64 (su + s.sl)] 23)), (w.heap.size + 1, (rdBox r)), (w.heap.size, (stBox s (.slice A k c)))]) (by (repeat (with_reducible first | exact HR.out | apply Frm.drew | apply Frm.alloc | apply Frm.drewN))))) (HT.out.below (Frm.b (w := w) (bs := [(g, (.cells #[.int .i64 (ra - s.sl), .int .i64 (ra + s.sl), .int .i64 (su - s.sl), .int .i64 (su + s.sl)] 23)), (w.heap.size + 1, (rdBox r)), (w.heap.size, (stBox s (.slice A k c)))]) (by (repeat (with_reducible first | exact HR.out | apply Frm.drew | apply Frm.alloc | apply Frm.drewN)))))).mono ?_
        rintro e wz ⟨rfl, hbz⟩
        have HZ := Lib.hid (Frm.below (w := w) (bs := [(g, (.cells #[.int .i64 (ra - s.sl), .int .i64 (ra + s.sl), .int .i64 (su - s.sl), .int .i64 (su + s.sl)] 23)), (w.heap.size + 1, (rdBox r)), (w.heap.size, (stBox s (.slice A k c)))]) (by (repeat (with_reducible first | exact HR.out | apply Frm.drew | apply Frm.alloc | apply Frm.drewN))) hbz).b
        clear hbz x0 x1 x2
        go_wp2_with fail
        go_ret
        exact ⟨(by first | rfl | exact ret_bool (by simp; omega)), HZ.out⟩
end Go.Proofs.YtkdbfpllibjniaaDoor
