/- The law GlassEnds, walked. -/
import Derived.Test.YtipckgojoanokaaDoorRkn
import Derived.Test.YtipckgojoanokaaDoorRtr
import Derived.Test.YtipckgojoanokaaDoorIdm
set_option linter.unusedVariables false
set_option linter.unusedSimpArgs false
namespace Go.Proofs.YtipckgojoanokaaDoor
open Go.RowKit Go.Maps

theorem Frm.cons {w W : World} {bs : List (Nat × Obj)} {k : Nat} {o : Obj} (h : Frm w bs W) (hz : W.heap[k]? = some o) : Frm w ((k, o) :: bs) W :=
  ⟨h.b, fun p hp => by
    rcases List.mem_cons.1 hp with rfl | hp
    · exact hz
    · exact h.h p hp⟩
theorem blk_at {W W1 : World} {k : Nat} {o : Obj} (hk : k = W.heap.size) (hb : Below (W.alloc o).heap.size (W.alloc o) W1) : W1.heap[k]? = some o := blk_below (heap_new W o hk) hb
theorem et_allowed {s : Stn} {cs : List Chk} {r : Rdg} (hg : Good s cs) (hr : r.Good) (ha : Agreed s cs) (k : Nat) : allowB s cs r (etF s cs r k) = true := by
  have hl := low_le_high hg.sane ha r.day
  obtain ⟨_, _, h0, hh1, hh2, g0, g1, g2, r0, r1, _, _, _, _⟩ := hg
  obtain ⟨_, _, _, _, _, _, _, _, a0, a1, a2, t0, t1, t2, w0, w1, w2⟩ := hr
  simp only [allowB, Bool.and_eq_true, betw_iff]
  unfold etF
  split
  · refine ⟨⟨⟨⟨⟨⟨?_, ?_⟩, ?_⟩, ?_⟩, ?_⟩, ?_⟩, ?_⟩ <;> constructor <;> dsimp only <;> omega
  split
  · refine ⟨⟨⟨⟨⟨⟨?_, ?_⟩, ?_⟩, ?_⟩, ?_⟩, ?_⟩, ?_⟩ <;> constructor <;> dsimp only <;> omega
  split
  · refine ⟨⟨⟨⟨⟨⟨?_, ?_⟩, ?_⟩, ?_⟩, ?_⟩, ?_⟩, ?_⟩ <;> constructor <;> dsimp only <;> omega
  split
  · refine ⟨⟨⟨⟨⟨⟨?_, ?_⟩, ?_⟩, ?_⟩, ?_⟩, ?_⟩, ?_⟩ <;> constructor <;> dsimp only <;> omega
  split
  · refine ⟨⟨⟨⟨⟨⟨?_, ?_⟩, ?_⟩, ?_⟩, ?_⟩, ?_⟩, ?_⟩ <;> constructor <;> dsimp only <;> omega
  · refine ⟨⟨⟨⟨⟨⟨?_, ?_⟩, ?_⟩, ?_⟩, ?_⟩, ?_⟩, ?_⟩ <;> constructor <;> dsimp only <;> omega

set_option maxHeartbeats 40000000 in
set_option maxRecDepth 100000 in
theorem lawGlassEnds {s : Stn} {v : Value} {cs : List Chk} {r : Rdg} {en : Int} {w : World} (hc : Chks w v cs) (hh : Holds w) (ht : Tab w) :
    Calls Tryd.prog 13 #[stV s v, rdV r, .int .i64 en] w fun e w' => e = .returned (.bool true) ∧ Below w.heap.size w w' := by
  obtain ⟨A, k, c, rfl⟩ := hc.shape
  have HR : Hid (Frm w [(w.heap.size + 1, (rdBox r)), (w.heap.size, (stBox s (.slice A k c)))] ((w.alloc (stBox s (.slice A k c))).alloc (rdBox r))) := Lib.hid (((Frm.nil w).add _ (by simp)).add _ (by simp))
  have HC := Lib.hid (hc.below HR.out.b)
  have HH := Lib.hid hh
  have HT := Lib.hid ht
  have HC0 := Lib.hid hc
  clear hc hh ht
  have x0 := HR.out.cells (List.mem_cons_self ..)
  have x1 := HR.out.cells (List.mem_cons_of_mem _ (List.mem_cons_self ..))
  go_enter Tryd.func13, Tryd.ntmps13
  cases hag : (soundB s cs && agB s cs)
  · have HAG := Lib.hid hag
    clear hag
    go_wp2_with fail
    refine (agreed_is (by first | exact HC.out | exact HC.out.drew | exact HC.out.below (below_al (Below.refl _ _) _) | exact HC.out.drew.below (below_al (Below.refl _ _) _) | exact (HC.out.below (below_al (Below.refl _ _) _)).drew) HAG.out).mono ?_
    rintro e w1 ⟨rfl, hb⟩
    have HRq := Lib.hid (Frm.below (w := w) (bs := [(w.heap.size + 1, (rdBox r)), (w.heap.size, (stBox s (.slice A k c)))]) (by (repeat (with_reducible first | exact HR.out | apply Frm.drew | apply Frm.alloc))) hb)
    have HCq := Lib.hid (Chks.below (cs := cs) (by first | exact HC.out | exact HC.out.drew | exact HC.out.below (below_al (Below.refl _ _) _) | exact HC.out.drew.below (below_al (Below.refl _ _) _) | exact (HC.out.below (below_al (Below.refl _ _) _)).drew) hb)
    clear HR HC hb x0 x1
    have HR := HRq
    have HC := HCq
    clear HRq HCq
    have x0 := HR.out.cells (List.mem_cons_self ..)
    have x1 := HR.out.cells (List.mem_cons_of_mem _ (List.mem_cons_self ..))
    go_wp2_with fail
    refine (known_ex _ (HH.out.below (Frm.b (w := w) (bs := [(w.heap.size + 1, (rdBox r)), (w.heap.size, (stBox s (.slice A k c)))]) (by (repeat (with_reducible first | exact HR.out | apply Frm.drew | apply Frm.alloc))))) (HT.out.below (Frm.b (w := w) (bs := [(w.heap.size + 1, (rdBox r)), (w.heap.size, (stBox s (.slice A k c)))]) (by (repeat (with_reducible first | exact HR.out | apply Frm.drew | apply Frm.alloc)))))).mono ?_
    rintro e wz ⟨rfl, hbz⟩
    have HZ := Lib.hid (Frm.below (w := w) (bs := [(w.heap.size + 1, (rdBox r)), (w.heap.size, (stBox s (.slice A k c)))]) (by (repeat (with_reducible first | exact HR.out | apply Frm.drew | apply Frm.alloc))) hbz).b
    clear hbz x0 x1
    go_wp2_with fail
    go_ret
    exact ⟨rfl, HZ.out⟩
  have HAG := Lib.hid hag
  obtain ⟨hs, ha⟩ : soundB s cs = true ∧ Agreed s cs := by
    rw [Bool.and_eq_true] at hag
    exact ⟨hag.1, agB_iff.1 hag.2⟩
  have hg := good_of_soundB hs
  have HS := Lib.hid hs
  have HA := Lib.hid ha
  clear hag hs ha
  go_wp2_with fail
  refine (agreed_is (by first | exact HC.out | exact HC.out.drew | exact HC.out.below (below_al (Below.refl _ _) _) | exact HC.out.drew.below (below_al (Below.refl _ _) _) | exact (HC.out.below (below_al (Below.refl _ _) _)).drew) HAG.out).mono ?_
  rintro e w1 ⟨rfl, hb⟩
  have HRq := Lib.hid (Frm.below (w := w) (bs := [(w.heap.size + 1, (rdBox r)), (w.heap.size, (stBox s (.slice A k c)))]) (by (repeat (with_reducible first | exact HR.out | apply Frm.drew | apply Frm.alloc))) hb)
  have HCq := Lib.hid (Chks.below (cs := cs) (by first | exact HC.out | exact HC.out.drew | exact HC.out.below (below_al (Below.refl _ _) _) | exact HC.out.drew.below (below_al (Below.refl _ _) _) | exact (HC.out.below (below_al (Below.refl _ _) _)).drew) hb)
  clear HR HC hb x0 x1
  have HR := HRq
  have HC := HCq
  clear HRq HCq
  have x0 := HR.out.cells (List.mem_cons_self ..)
  have x1 := HR.out.cells (List.mem_cons_of_mem _ (List.mem_cons_self ..))
  cases hd : readB r
  · have HD := Lib.hid hd
    clear hd
    go_wp2_with fail
    refine (rReading_is HD.out _).mono ?_
    rintro e w2 ⟨rfl, hb⟩
    have HRq := Lib.hid (Frm.below (w := w) (bs := [(w.heap.size + 1, (rdBox r)), (w.heap.size, (stBox s (.slice A k c)))]) (by (repeat (with_reducible first | exact HR.out | apply Frm.drew | apply Frm.alloc))) hb)
    have HCq := Lib.hid (Chks.below (cs := cs) (by first | exact HC.out | exact HC.out.drew | exact HC.out.below (below_al (Below.refl _ _) _) | exact HC.out.drew.below (below_al (Below.refl _ _) _) | exact (HC.out.below (below_al (Below.refl _ _) _)).drew) hb)
    clear HR HC hb x0 x1
    have HR := HRq
    have HC := HCq
    clear HRq HCq
    have x0 := HR.out.cells (List.mem_cons_self ..)
    have x1 := HR.out.cells (List.mem_cons_of_mem _ (List.mem_cons_self ..))
    go_wp2_with fail
    refine (known_ex _ (HH.out.below (Frm.b (w := w) (bs := [(w.heap.size + 1, (rdBox r)), (w.heap.size, (stBox s (.slice A k c)))]) (by (repeat (with_reducible first | exact HR.out | apply Frm.drew | apply Frm.alloc))))) (HT.out.below (Frm.b (w := w) (bs := [(w.heap.size + 1, (rdBox r)), (w.heap.size, (stBox s (.slice A k c)))]) (by (repeat (with_reducible first | exact HR.out | apply Frm.drew | apply Frm.alloc)))))).mono ?_
    rintro e wz ⟨rfl, hbz⟩
    have HZ := Lib.hid (Frm.below (w := w) (bs := [(w.heap.size + 1, (rdBox r)), (w.heap.size, (stBox s (.slice A k c)))]) (by (repeat (with_reducible first | exact HR.out | apply Frm.drew | apply Frm.alloc))) hbz).b
    clear hbz x0 x1
    go_wp2_with fail
    go_ret
    exact ⟨rfl, HZ.out⟩
  have hr := good_of_readB hd
  have HD := Lib.hid hd
  clear hd
  go_wp2_with fail
  refine (rReading_is HD.out _).mono ?_
  rintro e w2 ⟨rfl, hb⟩
  have HRq := Lib.hid (Frm.below (w := w) (bs := [(w.heap.size + 1, (rdBox r)), (w.heap.size, (stBox s (.slice A k c)))]) (by (repeat (with_reducible first | exact HR.out | apply Frm.drew | apply Frm.alloc))) hb)
  have HCq := Lib.hid (Chks.below (cs := cs) (by first | exact HC.out | exact HC.out.drew | exact HC.out.below (below_al (Below.refl _ _) _) | exact HC.out.drew.below (below_al (Below.refl _ _) _) | exact (HC.out.below (below_al (Below.refl _ _) _)).drew) hb)
  clear HR HC hb x0 x1
  have HR := HRq
  have HC := HCq
  clear HRq HCq
  have x0 := HR.out.cells (List.mem_cons_self ..)
  have x1 := HR.out.cells (List.mem_cons_of_mem _ (List.mem_cons_self ..))
  by_cases n1 : en < 0
  · go_wp2_with fail
    refine (known_ex _ (HH.out.below (Frm.b (w := w) (bs := [(w.heap.size + 1, (rdBox r)), (w.heap.size, (stBox s (.slice A k c)))]) (by (repeat (with_reducible first | exact HR.out | apply Frm.drew | apply Frm.alloc))))) (HT.out.below (Frm.b (w := w) (bs := [(w.heap.size + 1, (rdBox r)), (w.heap.size, (stBox s (.slice A k c)))]) (by (repeat (with_reducible first | exact HR.out | apply Frm.drew | apply Frm.alloc)))))).mono ?_
    rintro e wz ⟨rfl, hbz⟩
    have HZ := Lib.hid (Frm.below (w := w) (bs := [(w.heap.size + 1, (rdBox r)), (w.heap.size, (stBox s (.slice A k c)))]) (by (repeat (with_reducible first | exact HR.out | apply Frm.drew | apply Frm.alloc))) hbz).b
    clear hbz x0 x1
    go_wp2_with fail
    go_ret
    exact ⟨rfl, HZ.out⟩
  by_cases n2 : 5 < en
  · go_wp2_with fail
    refine (known_ex _ (HH.out.below (Frm.b (w := w) (bs := [(w.heap.size + 1, (rdBox r)), (w.heap.size, (stBox s (.slice A k c)))]) (by (repeat (with_reducible first | exact HR.out | apply Frm.drew | apply Frm.alloc))))) (HT.out.below (Frm.b (w := w) (bs := [(w.heap.size + 1, (rdBox r)), (w.heap.size, (stBox s (.slice A k c)))]) (by (repeat (with_reducible first | exact HR.out | apply Frm.drew | apply Frm.alloc)))))).mono ?_
    rintro e wz ⟨rfl, hbz⟩
    have HZ := Lib.hid (Frm.below (w := w) (bs := [(w.heap.size + 1, (rdBox r)), (w.heap.size, (stBox s (.slice A k c)))]) (by (repeat (with_reducible first | exact HR.out | apply Frm.drew | apply Frm.alloc))) hbz).b
    clear hbz x0 x1
    go_wp2_with fail
    go_ret
    exact ⟨rfl, HZ.out⟩
  have hen : en = 0 ∨ en = 1 ∨ en = 2 ∨ en = 3 ∨ en = 4 ∨ en = 5 := by omega
  clear n1 n2
  rcases hen with rfl | rfl | rfl | rfl | rfl | rfl
  · have HP : Hid (∀ W, Chks W (.slice A k c) cs → Holds W → Calls Tryd.prog 32 #[stV s (.slice A k c), rdV r, trV (etF s cs r 0)] W fun x w' => x = .returned (.tuple #[weV (hereF r.me (etF s cs r 0)) (loweredF (hereF r.me (etF s cs r 0)) (etF s cs r 0)) (humidF (hereF r.me (etF s cs r 0)) (etF s cs r 0)), .int .i64 0]) ∧ Below W.heap.size W w') := Lib.hid (fun W h h' => play_ok h HS.out HD.out h' HA.out (et_allowed hg hr HA.out 0))
    have HE : Hid (∀ W, Chks W (.slice A k c) cs → Calls Tryd.prog 39 #[stV s (.slice A k c), rdV r, .int .i64 0] W fun x w' => x = .returned (trV (etF s cs r 0)) ∧ Below W.heap.size W w') := Lib.hid (fun W h => rEnd_0 h hg hr)
    have HK : Hid (∀ W, Chks W (.slice A k c) cs → Holds W → Calls Tryd.prog 36 #[stV s (.slice A k c), rdV r] W fun x w' => x = .returned (.tuple #[knV s cs r, .int .i64 0]) ∧ Below W.heap.size W w') := Lib.hid (fun W h h' => know_ok h HS.out HD.out h' HA.out)
    rw [know_same] at HK
    generalize humidF (hereF r.me (etF s cs r 5)) (etF s cs r 5) = g5 at *
    generalize humidF (hereF r.me (etF s cs r 4)) (etF s cs r 4) = g4 at *
    generalize loweredF (hereF r.me (etF s cs r 3)) (etF s cs r 3) = g3 at *
    generalize loweredF (hereF r.me (etF s cs r 2)) (etF s cs r 2) = g2 at *
    generalize hereF r.me (etF s cs r 1) = g1 at *
    generalize hereF r.me (etF s cs r 0) = g0 at *
    generalize humidF g0 (etF s cs r 0) = u at *
    generalize loweredF g0 (etF s cs r 0) = z at *
    generalize (etF s cs r 0) = t at *
    go_wp2_with fail
    refine (HK.out _ (by first | exact HC.out | exact HC.out.drew | exact HC.out.below (below_al (Below.refl _ _) _) | exact HC.out.drew.below (below_al (Below.refl _ _) _) | exact (HC.out.below (below_al (Below.refl _ _) _)).drew) (HH.out.below (Frm.b (w := w) (bs := [(w.heap.size + 1, (rdBox r)), (w.heap.size, (stBox s (.slice A k c)))]) (by (repeat (with_reducible first | exact HR.out | apply Frm.drew | apply Frm.alloc)))))).mono ?_
    rintro e w3 ⟨rfl, hb⟩
    have HRq := Lib.hid ((Frm.below (w := w) (bs := [(w.heap.size + 1, (rdBox r)), (w.heap.size, (stBox s (.slice A k c)))]) (by (repeat (with_reducible first | exact HR.out | apply Frm.drew | apply Frm.alloc))) hb).add (.cells #[.int .i64 g0, .int .i64 g1, .int .i64 g2, .int .i64 g3, .int .i64 g4, .int .i64 g5] 66) rfl)
    have HCq := Lib.hid (Chks.below (cs := cs) (by first | exact HC.out | exact HC.out.drew | exact HC.out.below (below_al (Below.refl _ _) _) | exact HC.out.drew.below (below_al (Below.refl _ _) _) | exact (HC.out.below (below_al (Below.refl _ _) _)).drew) hb |>.below (below_al (Below.refl _ _) (.cells #[.int .i64 g0, .int .i64 g1, .int .i64 g2, .int .i64 g3, .int .i64 g4, .int .i64 g5] 66)))
    clear HR HC hb x0 x1
    have HR := HRq
    have HC := HCq
    clear HRq HCq
    have x0 := HR.out.cells (List.mem_cons_self ..)
    have x1 := HR.out.cells (List.mem_cons_of_mem _ (List.mem_cons_self ..))
    have x2 := HR.out.cells (List.mem_cons_of_mem _ (List.mem_cons_of_mem _ (List.mem_cons_self ..)))
    have zl0 := HR.out.lt (List.mem_cons_self ..)
    (try simp at zl0)
    have zl1 := HR.out.lt (List.mem_cons_of_mem _ (List.mem_cons_self ..))
    (try simp at zl1)
    have zl2 := HR.out.lt (List.mem_cons_of_mem _ (List.mem_cons_of_mem _ (List.mem_cons_self ..)))
    (try simp at zl2)
    have hN0 := Lib.hid (show w3.heap.size + 1 = ((w3.alloc (.cells #[.int .i64 g0, .int .i64 g1, .int .i64 g2, .int .i64 g3, .int .i64 g4, .int .i64 g5] 66)).drew).heap.size by simp)
    go_upto_region 4 with fail
    go_cut [9, 10] (fun s9 s10 wx => ∃ P : Nat, s9 = .pointer (some ⟨P, 0, none⟩) ∧ s10 = .int .i64 0 ∧ w.heap.size ≤ P ∧ (∀ p ∈ ([(w3.heap.size, (.cells #[.int .i64 g0, .int .i64 g1, .int .i64 g2, .int .i64 g3, .int .i64 g4, .int .i64 g5] 66)), (w.heap.size + 1, (rdBox r)), (w.heap.size, (stBox s (.slice A k c)))] : List (Nat × Obj)), p.1 ≠ P) ∧ Frm w [(P, (.cells #[.int .i64 g0, .int .i64 z, .int .i64 u] 59)), (w3.heap.size, (.cells #[.int .i64 g0, .int .i64 g1, .int .i64 g2, .int .i64 g3, .int .i64 g4, .int .i64 g5] 66)), (w.heap.size + 1, (rdBox r)), (w.heap.size, (stBox s (.slice A k c)))] wx)
    case first =>
      go_region_held3 (fun w' => (∀ o, w'.cell? ⟨w.heap.size + 1, o, none⟩ = #[Value.int .i64 r.day, .int .i64 r.mi, .int .i64 r.cl, .int .i64 r.me, .int .i64 r.al, .int .i64 r.ah, .int .i64 r.dl, .int .i64 r.dh, .int .i64 r.wl, .int .i64 r.wh][o]?) ∧ (∀ o, w'.cell? ⟨w.heap.size, o, none⟩ = #[Value.int .i64 s.hl, .int .i64 s.hh, .int .i64 s.gl, .int .i64 s.gh, .int .i64 s.dr, .int .i64 s.rd, .int .i64 s.ea, .int .i64 s.sl, .slice A k c][o]?)) ((exact (fun hF : Frm w [(w3.heap.size, (.cells #[.int .i64 g0, .int .i64 g1, .int .i64 g2, .int .i64 g3, .int .i64 g4, .int .i64 g5] 66)), (w.heap.size + 1, (rdBox r)), (w.heap.size, (stBox s (.slice A k c)))] _ => ⟨hF.cells (List.mem_cons_of_mem _ (List.mem_cons_self ..)), hF.cells (List.mem_cons_of_mem _ (List.mem_cons_of_mem _ (List.mem_cons_self ..)))⟩) (by (repeat (with_reducible first | exact HR.out | apply Frm.drew | apply Frm.alloc | (refine Frm.set ?_ (by simp <;> omega) (by simp <;> omega) _)))))) (first | (go_at_call 39; refine (HE.out _ (by first | exact HC.out | exact HC.out.drew | exact HC.out.below (below_al (Below.refl _ _) _) | exact HC.out.drew.below (below_al (Below.refl _ _) _) | exact (HC.out.below (below_al (Below.refl _ _) _)).drew)).mono ?_; rintro e wa ⟨rfl, hba⟩; have HCq := Lib.hid (Chks.below (cs := cs) (by first | exact HC.out | exact HC.out.drew | exact HC.out.below (below_al (Below.refl _ _) _) | exact HC.out.drew.below (below_al (Below.refl _ _) _) | exact (HC.out.below (below_al (Below.refl _ _) _)).drew) hba); have HRq := Lib.hid (Frm.below (w := w) (bs := [(w3.heap.size, (.cells #[.int .i64 g0, .int .i64 g1, .int .i64 g2, .int .i64 g3, .int .i64 g4, .int .i64 g5] 66)), (w.heap.size + 1, (rdBox r)), (w.heap.size, (stBox s (.slice A k c)))]) (by (repeat (with_reducible first | exact HR.out | apply Frm.drew | apply Frm.alloc))) hba); clear HR HC; have HR := HRq; have HC := HCq; clear HRq HCq; (first | (have HZq := Lib.hid (blk_below HZ.out hba); clear HZ; have HZ := HZq; clear HZq) | (have HZ := Lib.hid (blk_at hN0.out hba)) | (have HZ := Lib.hid (blk_at rfl hba)) | skip); (first | (have zc := (boxCells HZ.out).1; have zf := (boxCells HZ.out).2; have zn := lt_of_blk HZ.out) | skip); have zs := HR.out.size; have zl0 := HR.out.lt (List.mem_cons_self ..); have zl1 := HR.out.lt (List.mem_cons_of_mem _ (List.mem_cons_self ..)); have zl2 := HR.out.lt (List.mem_cons_of_mem _ (List.mem_cons_of_mem _ (List.mem_cons_self ..))); clear hba) | (go_at_call 32; refine (HP.out _ (by first | exact HC.out | exact HC.out.drew | exact HC.out.below (below_al (Below.refl _ _) _) | exact HC.out.drew.below (below_al (Below.refl _ _) _) | exact (HC.out.below (below_al (Below.refl _ _) _)).drew) (HH.out.below (Frm.b (w := w) (bs := [(w3.heap.size, (.cells #[.int .i64 g0, .int .i64 g1, .int .i64 g2, .int .i64 g3, .int .i64 g4, .int .i64 g5] 66)), (w.heap.size + 1, (rdBox r)), (w.heap.size, (stBox s (.slice A k c)))]) (by (repeat (with_reducible first | exact HR.out | apply Frm.drew | apply Frm.alloc)))))).mono ?_; rintro e wa ⟨rfl, hba⟩; have HCq := Lib.hid (Chks.below (cs := cs) (by first | exact HC.out | exact HC.out.drew | exact HC.out.below (below_al (Below.refl _ _) _) | exact HC.out.drew.below (below_al (Below.refl _ _) _) | exact (HC.out.below (below_al (Below.refl _ _) _)).drew) hba); have HRq := Lib.hid (Frm.below (w := w) (bs := [(w3.heap.size, (.cells #[.int .i64 g0, .int .i64 g1, .int .i64 g2, .int .i64 g3, .int .i64 g4, .int .i64 g5] 66)), (w.heap.size + 1, (rdBox r)), (w.heap.size, (stBox s (.slice A k c)))]) (by (repeat (with_reducible first | exact HR.out | apply Frm.drew | apply Frm.alloc))) hba); clear HR HC; have HR := HRq; have HC := HCq; clear HRq HCq; (first | (have HZq := Lib.hid (blk_below HZ.out hba); clear HZ; have HZ := HZq; clear HZq) | (have HZ := Lib.hid (blk_at hN0.out hba)) | (have HZ := Lib.hid (blk_at rfl hba)) | skip); (first | (have zc := (boxCells HZ.out).1; have zf := (boxCells HZ.out).2; have zn := lt_of_blk HZ.out) | skip); have zs := HR.out.size; have zl0 := HR.out.lt (List.mem_cons_self ..); have zl1 := HR.out.lt (List.mem_cons_of_mem _ (List.mem_cons_self ..)); have zl2 := HR.out.lt (List.mem_cons_of_mem _ (List.mem_cons_of_mem _ (List.mem_cons_self ..))); clear hba))
      all_goals
        go_wp2_with fail
        go_meet
        refine ⟨_, rfl, rfl, ?_, ?_, ?_⟩
        · have zs := HR.out.size
          simp <;> omega
        · simp <;> omega
        · first
            | exact HR.out.add _ rfl
            | exact (HR.out.add _ rfl).drew
            | exact (Frm.put (Frm.put (Frm.put (Frm.cons HR.out HZ.out) (by first | omega | (simp <;> omega)) (by simp <;> omega) 0 _) (by first | omega | (simp <;> omega)) (by simp <;> omega) 1 _) (by first | omega | (simp <;> omega)) (by simp <;> omega) 2 _)
    case rest =>
      obtain ⟨P, rfl, rfl, hP1, hP2, hF⟩ := hcut
      clear HR HC x0 x1 x2
      have HR := Lib.hid hF
      have HC := Lib.hid (HC0.out.below HR.out.b)
      clear hF
      have x0 := HR.out.cells (List.mem_cons_self ..)
      have x1 := HR.out.cells (List.mem_cons_of_mem _ (List.mem_cons_self ..))
      have x2 := HR.out.cells (List.mem_cons_of_mem _ (List.mem_cons_of_mem _ (List.mem_cons_self ..)))
      have x3 := HR.out.cells (List.mem_cons_of_mem _ (List.mem_cons_of_mem _ (List.mem_cons_of_mem _ (List.mem_cons_self ..))))
      go_wp2_with fail
      refine (known_ex _ (HH.out.below (Frm.b (w := w) (bs := [(P, (.cells #[.int .i64 g0, .int .i64 z, .int .i64 u] 59)), (w3.heap.size, (.cells #[.int .i64 g0, .int .i64 g1, .int .i64 g2, .int .i64 g3, .int .i64 g4, .int .i64 g5] 66)), (w.heap.size + 1, (rdBox r)), (w.heap.size, (stBox s (.slice A k c)))]) (by (repeat (with_reducible first | exact HR.out | apply Frm.drew | apply Frm.alloc))))) (HT.out.below (Frm.b (w := w) (bs := [(P, (.cells #[.int .i64 g0, .int .i64 z, .int .i64 u] 59)), (w3.heap.size, (.cells #[.int .i64 g0, .int .i64 g1, .int .i64 g2, .int .i64 g3, .int .i64 g4, .int .i64 g5] 66)), (w.heap.size + 1, (rdBox r)), (w.heap.size, (stBox s (.slice A k c)))]) (by (repeat (with_reducible first | exact HR.out | apply Frm.drew | apply Frm.alloc)))))).mono ?_
      rintro e wz ⟨rfl, hbz⟩
      have HZ := Lib.hid (Frm.below (w := w) (bs := [(P, (.cells #[.int .i64 g0, .int .i64 z, .int .i64 u] 59)), (w3.heap.size, (.cells #[.int .i64 g0, .int .i64 g1, .int .i64 g2, .int .i64 g3, .int .i64 g4, .int .i64 g5] 66)), (w.heap.size + 1, (rdBox r)), (w.heap.size, (stBox s (.slice A k c)))]) (by (repeat (with_reducible first | exact HR.out | apply Frm.drew | apply Frm.alloc))) hbz).b
      clear hbz x0 x1 x2 x3
      go_wp2_with fail
      go_ret
      exact ⟨rfl, HZ.out⟩
  · have HP : Hid (∀ W, Chks W (.slice A k c) cs → Holds W → Calls Tryd.prog 32 #[stV s (.slice A k c), rdV r, trV (etF s cs r 1)] W fun x w' => x = .returned (.tuple #[weV (hereF r.me (etF s cs r 1)) (loweredF (hereF r.me (etF s cs r 1)) (etF s cs r 1)) (humidF (hereF r.me (etF s cs r 1)) (etF s cs r 1)), .int .i64 0]) ∧ Below W.heap.size W w') := Lib.hid (fun W h h' => play_ok h HS.out HD.out h' HA.out (et_allowed hg hr HA.out 1))
    have HE : Hid (∀ W, Chks W (.slice A k c) cs → Calls Tryd.prog 39 #[stV s (.slice A k c), rdV r, .int .i64 1] W fun x w' => x = .returned (trV (etF s cs r 1)) ∧ Below W.heap.size W w') := Lib.hid (fun W h => rEnd_1 h hg hr)
    have HK : Hid (∀ W, Chks W (.slice A k c) cs → Holds W → Calls Tryd.prog 36 #[stV s (.slice A k c), rdV r] W fun x w' => x = .returned (.tuple #[knV s cs r, .int .i64 0]) ∧ Below W.heap.size W w') := Lib.hid (fun W h h' => know_ok h HS.out HD.out h' HA.out)
    rw [know_same] at HK
    generalize humidF (hereF r.me (etF s cs r 5)) (etF s cs r 5) = g5 at *
    generalize humidF (hereF r.me (etF s cs r 4)) (etF s cs r 4) = g4 at *
    generalize loweredF (hereF r.me (etF s cs r 3)) (etF s cs r 3) = g3 at *
    generalize loweredF (hereF r.me (etF s cs r 2)) (etF s cs r 2) = g2 at *
    generalize hereF r.me (etF s cs r 1) = g1 at *
    generalize hereF r.me (etF s cs r 0) = g0 at *
    generalize humidF g1 (etF s cs r 1) = u at *
    generalize loweredF g1 (etF s cs r 1) = z at *
    generalize (etF s cs r 1) = t at *
    go_wp2_with fail
    refine (HK.out _ (by first | exact HC.out | exact HC.out.drew | exact HC.out.below (below_al (Below.refl _ _) _) | exact HC.out.drew.below (below_al (Below.refl _ _) _) | exact (HC.out.below (below_al (Below.refl _ _) _)).drew) (HH.out.below (Frm.b (w := w) (bs := [(w.heap.size + 1, (rdBox r)), (w.heap.size, (stBox s (.slice A k c)))]) (by (repeat (with_reducible first | exact HR.out | apply Frm.drew | apply Frm.alloc)))))).mono ?_
    rintro e w3 ⟨rfl, hb⟩
    have HRq := Lib.hid ((Frm.below (w := w) (bs := [(w.heap.size + 1, (rdBox r)), (w.heap.size, (stBox s (.slice A k c)))]) (by (repeat (with_reducible first | exact HR.out | apply Frm.drew | apply Frm.alloc))) hb).add (.cells #[.int .i64 g0, .int .i64 g1, .int .i64 g2, .int .i64 g3, .int .i64 g4, .int .i64 g5] 66) rfl)
    have HCq := Lib.hid (Chks.below (cs := cs) (by first | exact HC.out | exact HC.out.drew | exact HC.out.below (below_al (Below.refl _ _) _) | exact HC.out.drew.below (below_al (Below.refl _ _) _) | exact (HC.out.below (below_al (Below.refl _ _) _)).drew) hb |>.below (below_al (Below.refl _ _) (.cells #[.int .i64 g0, .int .i64 g1, .int .i64 g2, .int .i64 g3, .int .i64 g4, .int .i64 g5] 66)))
    clear HR HC hb x0 x1
    have HR := HRq
    have HC := HCq
    clear HRq HCq
    have x0 := HR.out.cells (List.mem_cons_self ..)
    have x1 := HR.out.cells (List.mem_cons_of_mem _ (List.mem_cons_self ..))
    have x2 := HR.out.cells (List.mem_cons_of_mem _ (List.mem_cons_of_mem _ (List.mem_cons_self ..)))
    have zl0 := HR.out.lt (List.mem_cons_self ..)
    (try simp at zl0)
    have zl1 := HR.out.lt (List.mem_cons_of_mem _ (List.mem_cons_self ..))
    (try simp at zl1)
    have zl2 := HR.out.lt (List.mem_cons_of_mem _ (List.mem_cons_of_mem _ (List.mem_cons_self ..)))
    (try simp at zl2)
    have hN0 := Lib.hid (show w3.heap.size + 1 = ((w3.alloc (.cells #[.int .i64 g0, .int .i64 g1, .int .i64 g2, .int .i64 g3, .int .i64 g4, .int .i64 g5] 66)).drew).heap.size by simp)
    go_upto_region 4 with fail
    go_cut [9, 10] (fun s9 s10 wx => ∃ P : Nat, s9 = .pointer (some ⟨P, 0, none⟩) ∧ s10 = .int .i64 0 ∧ w.heap.size ≤ P ∧ (∀ p ∈ ([(w3.heap.size, (.cells #[.int .i64 g0, .int .i64 g1, .int .i64 g2, .int .i64 g3, .int .i64 g4, .int .i64 g5] 66)), (w.heap.size + 1, (rdBox r)), (w.heap.size, (stBox s (.slice A k c)))] : List (Nat × Obj)), p.1 ≠ P) ∧ Frm w [(P, (.cells #[.int .i64 g1, .int .i64 z, .int .i64 u] 59)), (w3.heap.size, (.cells #[.int .i64 g0, .int .i64 g1, .int .i64 g2, .int .i64 g3, .int .i64 g4, .int .i64 g5] 66)), (w.heap.size + 1, (rdBox r)), (w.heap.size, (stBox s (.slice A k c)))] wx)
    case first =>
      go_region_held3 (fun w' => (∀ o, w'.cell? ⟨w.heap.size + 1, o, none⟩ = #[Value.int .i64 r.day, .int .i64 r.mi, .int .i64 r.cl, .int .i64 r.me, .int .i64 r.al, .int .i64 r.ah, .int .i64 r.dl, .int .i64 r.dh, .int .i64 r.wl, .int .i64 r.wh][o]?) ∧ (∀ o, w'.cell? ⟨w.heap.size, o, none⟩ = #[Value.int .i64 s.hl, .int .i64 s.hh, .int .i64 s.gl, .int .i64 s.gh, .int .i64 s.dr, .int .i64 s.rd, .int .i64 s.ea, .int .i64 s.sl, .slice A k c][o]?)) ((exact (fun hF : Frm w [(w3.heap.size, (.cells #[.int .i64 g0, .int .i64 g1, .int .i64 g2, .int .i64 g3, .int .i64 g4, .int .i64 g5] 66)), (w.heap.size + 1, (rdBox r)), (w.heap.size, (stBox s (.slice A k c)))] _ => ⟨hF.cells (List.mem_cons_of_mem _ (List.mem_cons_self ..)), hF.cells (List.mem_cons_of_mem _ (List.mem_cons_of_mem _ (List.mem_cons_self ..)))⟩) (by (repeat (with_reducible first | exact HR.out | apply Frm.drew | apply Frm.alloc | (refine Frm.set ?_ (by simp <;> omega) (by simp <;> omega) _)))))) (first | (go_at_call 39; refine (HE.out _ (by first | exact HC.out | exact HC.out.drew | exact HC.out.below (below_al (Below.refl _ _) _) | exact HC.out.drew.below (below_al (Below.refl _ _) _) | exact (HC.out.below (below_al (Below.refl _ _) _)).drew)).mono ?_; rintro e wa ⟨rfl, hba⟩; have HCq := Lib.hid (Chks.below (cs := cs) (by first | exact HC.out | exact HC.out.drew | exact HC.out.below (below_al (Below.refl _ _) _) | exact HC.out.drew.below (below_al (Below.refl _ _) _) | exact (HC.out.below (below_al (Below.refl _ _) _)).drew) hba); have HRq := Lib.hid (Frm.below (w := w) (bs := [(w3.heap.size, (.cells #[.int .i64 g0, .int .i64 g1, .int .i64 g2, .int .i64 g3, .int .i64 g4, .int .i64 g5] 66)), (w.heap.size + 1, (rdBox r)), (w.heap.size, (stBox s (.slice A k c)))]) (by (repeat (with_reducible first | exact HR.out | apply Frm.drew | apply Frm.alloc))) hba); clear HR HC; have HR := HRq; have HC := HCq; clear HRq HCq; (first | (have HZq := Lib.hid (blk_below HZ.out hba); clear HZ; have HZ := HZq; clear HZq) | (have HZ := Lib.hid (blk_at hN0.out hba)) | (have HZ := Lib.hid (blk_at rfl hba)) | skip); (first | (have zc := (boxCells HZ.out).1; have zf := (boxCells HZ.out).2; have zn := lt_of_blk HZ.out) | skip); have zs := HR.out.size; have zl0 := HR.out.lt (List.mem_cons_self ..); have zl1 := HR.out.lt (List.mem_cons_of_mem _ (List.mem_cons_self ..)); have zl2 := HR.out.lt (List.mem_cons_of_mem _ (List.mem_cons_of_mem _ (List.mem_cons_self ..))); clear hba) | (go_at_call 32; refine (HP.out _ (by first | exact HC.out | exact HC.out.drew | exact HC.out.below (below_al (Below.refl _ _) _) | exact HC.out.drew.below (below_al (Below.refl _ _) _) | exact (HC.out.below (below_al (Below.refl _ _) _)).drew) (HH.out.below (Frm.b (w := w) (bs := [(w3.heap.size, (.cells #[.int .i64 g0, .int .i64 g1, .int .i64 g2, .int .i64 g3, .int .i64 g4, .int .i64 g5] 66)), (w.heap.size + 1, (rdBox r)), (w.heap.size, (stBox s (.slice A k c)))]) (by (repeat (with_reducible first | exact HR.out | apply Frm.drew | apply Frm.alloc)))))).mono ?_; rintro e wa ⟨rfl, hba⟩; have HCq := Lib.hid (Chks.below (cs := cs) (by first | exact HC.out | exact HC.out.drew | exact HC.out.below (below_al (Below.refl _ _) _) | exact HC.out.drew.below (below_al (Below.refl _ _) _) | exact (HC.out.below (below_al (Below.refl _ _) _)).drew) hba); have HRq := Lib.hid (Frm.below (w := w) (bs := [(w3.heap.size, (.cells #[.int .i64 g0, .int .i64 g1, .int .i64 g2, .int .i64 g3, .int .i64 g4, .int .i64 g5] 66)), (w.heap.size + 1, (rdBox r)), (w.heap.size, (stBox s (.slice A k c)))]) (by (repeat (with_reducible first | exact HR.out | apply Frm.drew | apply Frm.alloc))) hba); clear HR HC; have HR := HRq; have HC := HCq; clear HRq HCq; (first | (have HZq := Lib.hid (blk_below HZ.out hba); clear HZ; have HZ := HZq; clear HZq) | (have HZ := Lib.hid (blk_at hN0.out hba)) | (have HZ := Lib.hid (blk_at rfl hba)) | skip); (first | (have zc := (boxCells HZ.out).1; have zf := (boxCells HZ.out).2; have zn := lt_of_blk HZ.out) | skip); have zs := HR.out.size; have zl0 := HR.out.lt (List.mem_cons_self ..); have zl1 := HR.out.lt (List.mem_cons_of_mem _ (List.mem_cons_self ..)); have zl2 := HR.out.lt (List.mem_cons_of_mem _ (List.mem_cons_of_mem _ (List.mem_cons_self ..))); clear hba))
      all_goals
        go_wp2_with fail
        go_meet
        refine ⟨_, rfl, rfl, ?_, ?_, ?_⟩
        · have zs := HR.out.size
          simp <;> omega
        · simp <;> omega
        · first
            | exact HR.out.add _ rfl
            | exact (HR.out.add _ rfl).drew
            | exact (Frm.put (Frm.put (Frm.put (Frm.cons HR.out HZ.out) (by first | omega | (simp <;> omega)) (by simp <;> omega) 0 _) (by first | omega | (simp <;> omega)) (by simp <;> omega) 1 _) (by first | omega | (simp <;> omega)) (by simp <;> omega) 2 _)
    case rest =>
      obtain ⟨P, rfl, rfl, hP1, hP2, hF⟩ := hcut
      clear HR HC x0 x1 x2
      have HR := Lib.hid hF
      have HC := Lib.hid (HC0.out.below HR.out.b)
      clear hF
      have x0 := HR.out.cells (List.mem_cons_self ..)
      have x1 := HR.out.cells (List.mem_cons_of_mem _ (List.mem_cons_self ..))
      have x2 := HR.out.cells (List.mem_cons_of_mem _ (List.mem_cons_of_mem _ (List.mem_cons_self ..)))
      have x3 := HR.out.cells (List.mem_cons_of_mem _ (List.mem_cons_of_mem _ (List.mem_cons_of_mem _ (List.mem_cons_self ..))))
      go_wp2_with fail
      refine (known_ex _ (HH.out.below (Frm.b (w := w) (bs := [(P, (.cells #[.int .i64 g1, .int .i64 z, .int .i64 u] 59)), (w3.heap.size, (.cells #[.int .i64 g0, .int .i64 g1, .int .i64 g2, .int .i64 g3, .int .i64 g4, .int .i64 g5] 66)), (w.heap.size + 1, (rdBox r)), (w.heap.size, (stBox s (.slice A k c)))]) (by (repeat (with_reducible first | exact HR.out | apply Frm.drew | apply Frm.alloc))))) (HT.out.below (Frm.b (w := w) (bs := [(P, (.cells #[.int .i64 g1, .int .i64 z, .int .i64 u] 59)), (w3.heap.size, (.cells #[.int .i64 g0, .int .i64 g1, .int .i64 g2, .int .i64 g3, .int .i64 g4, .int .i64 g5] 66)), (w.heap.size + 1, (rdBox r)), (w.heap.size, (stBox s (.slice A k c)))]) (by (repeat (with_reducible first | exact HR.out | apply Frm.drew | apply Frm.alloc)))))).mono ?_
      rintro e wz ⟨rfl, hbz⟩
      have HZ := Lib.hid (Frm.below (w := w) (bs := [(P, (.cells #[.int .i64 g1, .int .i64 z, .int .i64 u] 59)), (w3.heap.size, (.cells #[.int .i64 g0, .int .i64 g1, .int .i64 g2, .int .i64 g3, .int .i64 g4, .int .i64 g5] 66)), (w.heap.size + 1, (rdBox r)), (w.heap.size, (stBox s (.slice A k c)))]) (by (repeat (with_reducible first | exact HR.out | apply Frm.drew | apply Frm.alloc))) hbz).b
      clear hbz x0 x1 x2 x3
      go_wp2_with fail
      go_ret
      exact ⟨rfl, HZ.out⟩
  · have HP : Hid (∀ W, Chks W (.slice A k c) cs → Holds W → Calls Tryd.prog 32 #[stV s (.slice A k c), rdV r, trV (etF s cs r 2)] W fun x w' => x = .returned (.tuple #[weV (hereF r.me (etF s cs r 2)) (loweredF (hereF r.me (etF s cs r 2)) (etF s cs r 2)) (humidF (hereF r.me (etF s cs r 2)) (etF s cs r 2)), .int .i64 0]) ∧ Below W.heap.size W w') := Lib.hid (fun W h h' => play_ok h HS.out HD.out h' HA.out (et_allowed hg hr HA.out 2))
    have HE : Hid (∀ W, Chks W (.slice A k c) cs → Calls Tryd.prog 39 #[stV s (.slice A k c), rdV r, .int .i64 2] W fun x w' => x = .returned (trV (etF s cs r 2)) ∧ Below W.heap.size W w') := Lib.hid (fun W h => rEnd_2 h hg hr)
    have HK : Hid (∀ W, Chks W (.slice A k c) cs → Holds W → Calls Tryd.prog 36 #[stV s (.slice A k c), rdV r] W fun x w' => x = .returned (.tuple #[knV s cs r, .int .i64 0]) ∧ Below W.heap.size W w') := Lib.hid (fun W h h' => know_ok h HS.out HD.out h' HA.out)
    rw [know_same] at HK
    generalize humidF (hereF r.me (etF s cs r 5)) (etF s cs r 5) = g5 at *
    generalize humidF (hereF r.me (etF s cs r 4)) (etF s cs r 4) = g4 at *
    generalize loweredF (hereF r.me (etF s cs r 3)) (etF s cs r 3) = g3 at *
    generalize loweredF (hereF r.me (etF s cs r 2)) (etF s cs r 2) = g2 at *
    generalize hereF r.me (etF s cs r 1) = g1 at *
    generalize hereF r.me (etF s cs r 0) = g0 at *
    generalize humidF (hereF r.me (etF s cs r 2)) (etF s cs r 2) = u at *
    generalize hereF r.me (etF s cs r 2) = p at *
    generalize (etF s cs r 2) = t at *
    go_wp2_with fail
    refine (HK.out _ (by first | exact HC.out | exact HC.out.drew | exact HC.out.below (below_al (Below.refl _ _) _) | exact HC.out.drew.below (below_al (Below.refl _ _) _) | exact (HC.out.below (below_al (Below.refl _ _) _)).drew) (HH.out.below (Frm.b (w := w) (bs := [(w.heap.size + 1, (rdBox r)), (w.heap.size, (stBox s (.slice A k c)))]) (by (repeat (with_reducible first | exact HR.out | apply Frm.drew | apply Frm.alloc)))))).mono ?_
    rintro e w3 ⟨rfl, hb⟩
    have HRq := Lib.hid ((Frm.below (w := w) (bs := [(w.heap.size + 1, (rdBox r)), (w.heap.size, (stBox s (.slice A k c)))]) (by (repeat (with_reducible first | exact HR.out | apply Frm.drew | apply Frm.alloc))) hb).add (.cells #[.int .i64 g0, .int .i64 g1, .int .i64 g2, .int .i64 g3, .int .i64 g4, .int .i64 g5] 66) rfl)
    have HCq := Lib.hid (Chks.below (cs := cs) (by first | exact HC.out | exact HC.out.drew | exact HC.out.below (below_al (Below.refl _ _) _) | exact HC.out.drew.below (below_al (Below.refl _ _) _) | exact (HC.out.below (below_al (Below.refl _ _) _)).drew) hb |>.below (below_al (Below.refl _ _) (.cells #[.int .i64 g0, .int .i64 g1, .int .i64 g2, .int .i64 g3, .int .i64 g4, .int .i64 g5] 66)))
    clear HR HC hb x0 x1
    have HR := HRq
    have HC := HCq
    clear HRq HCq
    have x0 := HR.out.cells (List.mem_cons_self ..)
    have x1 := HR.out.cells (List.mem_cons_of_mem _ (List.mem_cons_self ..))
    have x2 := HR.out.cells (List.mem_cons_of_mem _ (List.mem_cons_of_mem _ (List.mem_cons_self ..)))
    have zl0 := HR.out.lt (List.mem_cons_self ..)
    (try simp at zl0)
    have zl1 := HR.out.lt (List.mem_cons_of_mem _ (List.mem_cons_self ..))
    (try simp at zl1)
    have zl2 := HR.out.lt (List.mem_cons_of_mem _ (List.mem_cons_of_mem _ (List.mem_cons_self ..)))
    (try simp at zl2)
    have hN0 := Lib.hid (show w3.heap.size + 1 = ((w3.alloc (.cells #[.int .i64 g0, .int .i64 g1, .int .i64 g2, .int .i64 g3, .int .i64 g4, .int .i64 g5] 66)).drew).heap.size by simp)
    go_upto_region 4 with fail
    go_cut [9, 10] (fun s9 s10 wx => ∃ P : Nat, s9 = .pointer (some ⟨P, 0, none⟩) ∧ s10 = .int .i64 0 ∧ w.heap.size ≤ P ∧ (∀ p ∈ ([(w3.heap.size, (.cells #[.int .i64 g0, .int .i64 g1, .int .i64 g2, .int .i64 g3, .int .i64 g4, .int .i64 g5] 66)), (w.heap.size + 1, (rdBox r)), (w.heap.size, (stBox s (.slice A k c)))] : List (Nat × Obj)), p.1 ≠ P) ∧ Frm w [(P, (.cells #[.int .i64 p, .int .i64 g2, .int .i64 u] 59)), (w3.heap.size, (.cells #[.int .i64 g0, .int .i64 g1, .int .i64 g2, .int .i64 g3, .int .i64 g4, .int .i64 g5] 66)), (w.heap.size + 1, (rdBox r)), (w.heap.size, (stBox s (.slice A k c)))] wx)
    case first =>
      go_region_held3 (fun w' => (∀ o, w'.cell? ⟨w.heap.size + 1, o, none⟩ = #[Value.int .i64 r.day, .int .i64 r.mi, .int .i64 r.cl, .int .i64 r.me, .int .i64 r.al, .int .i64 r.ah, .int .i64 r.dl, .int .i64 r.dh, .int .i64 r.wl, .int .i64 r.wh][o]?) ∧ (∀ o, w'.cell? ⟨w.heap.size, o, none⟩ = #[Value.int .i64 s.hl, .int .i64 s.hh, .int .i64 s.gl, .int .i64 s.gh, .int .i64 s.dr, .int .i64 s.rd, .int .i64 s.ea, .int .i64 s.sl, .slice A k c][o]?)) ((exact (fun hF : Frm w [(w3.heap.size, (.cells #[.int .i64 g0, .int .i64 g1, .int .i64 g2, .int .i64 g3, .int .i64 g4, .int .i64 g5] 66)), (w.heap.size + 1, (rdBox r)), (w.heap.size, (stBox s (.slice A k c)))] _ => ⟨hF.cells (List.mem_cons_of_mem _ (List.mem_cons_self ..)), hF.cells (List.mem_cons_of_mem _ (List.mem_cons_of_mem _ (List.mem_cons_self ..)))⟩) (by (repeat (with_reducible first | exact HR.out | apply Frm.drew | apply Frm.alloc | (refine Frm.set ?_ (by simp <;> omega) (by simp <;> omega) _)))))) (first | (go_at_call 39; refine (HE.out _ (by first | exact HC.out | exact HC.out.drew | exact HC.out.below (below_al (Below.refl _ _) _) | exact HC.out.drew.below (below_al (Below.refl _ _) _) | exact (HC.out.below (below_al (Below.refl _ _) _)).drew)).mono ?_; rintro e wa ⟨rfl, hba⟩; have HCq := Lib.hid (Chks.below (cs := cs) (by first | exact HC.out | exact HC.out.drew | exact HC.out.below (below_al (Below.refl _ _) _) | exact HC.out.drew.below (below_al (Below.refl _ _) _) | exact (HC.out.below (below_al (Below.refl _ _) _)).drew) hba); have HRq := Lib.hid (Frm.below (w := w) (bs := [(w3.heap.size, (.cells #[.int .i64 g0, .int .i64 g1, .int .i64 g2, .int .i64 g3, .int .i64 g4, .int .i64 g5] 66)), (w.heap.size + 1, (rdBox r)), (w.heap.size, (stBox s (.slice A k c)))]) (by (repeat (with_reducible first | exact HR.out | apply Frm.drew | apply Frm.alloc))) hba); clear HR HC; have HR := HRq; have HC := HCq; clear HRq HCq; (first | (have HZq := Lib.hid (blk_below HZ.out hba); clear HZ; have HZ := HZq; clear HZq) | (have HZ := Lib.hid (blk_at hN0.out hba)) | (have HZ := Lib.hid (blk_at rfl hba)) | skip); (first | (have zc := (boxCells HZ.out).1; have zf := (boxCells HZ.out).2; have zn := lt_of_blk HZ.out) | skip); have zs := HR.out.size; have zl0 := HR.out.lt (List.mem_cons_self ..); have zl1 := HR.out.lt (List.mem_cons_of_mem _ (List.mem_cons_self ..)); have zl2 := HR.out.lt (List.mem_cons_of_mem _ (List.mem_cons_of_mem _ (List.mem_cons_self ..))); clear hba) | (go_at_call 32; refine (HP.out _ (by first | exact HC.out | exact HC.out.drew | exact HC.out.below (below_al (Below.refl _ _) _) | exact HC.out.drew.below (below_al (Below.refl _ _) _) | exact (HC.out.below (below_al (Below.refl _ _) _)).drew) (HH.out.below (Frm.b (w := w) (bs := [(w3.heap.size, (.cells #[.int .i64 g0, .int .i64 g1, .int .i64 g2, .int .i64 g3, .int .i64 g4, .int .i64 g5] 66)), (w.heap.size + 1, (rdBox r)), (w.heap.size, (stBox s (.slice A k c)))]) (by (repeat (with_reducible first | exact HR.out | apply Frm.drew | apply Frm.alloc)))))).mono ?_; rintro e wa ⟨rfl, hba⟩; have HCq := Lib.hid (Chks.below (cs := cs) (by first | exact HC.out | exact HC.out.drew | exact HC.out.below (below_al (Below.refl _ _) _) | exact HC.out.drew.below (below_al (Below.refl _ _) _) | exact (HC.out.below (below_al (Below.refl _ _) _)).drew) hba); have HRq := Lib.hid (Frm.below (w := w) (bs := [(w3.heap.size, (.cells #[.int .i64 g0, .int .i64 g1, .int .i64 g2, .int .i64 g3, .int .i64 g4, .int .i64 g5] 66)), (w.heap.size + 1, (rdBox r)), (w.heap.size, (stBox s (.slice A k c)))]) (by (repeat (with_reducible first | exact HR.out | apply Frm.drew | apply Frm.alloc))) hba); clear HR HC; have HR := HRq; have HC := HCq; clear HRq HCq; (first | (have HZq := Lib.hid (blk_below HZ.out hba); clear HZ; have HZ := HZq; clear HZq) | (have HZ := Lib.hid (blk_at hN0.out hba)) | (have HZ := Lib.hid (blk_at rfl hba)) | skip); (first | (have zc := (boxCells HZ.out).1; have zf := (boxCells HZ.out).2; have zn := lt_of_blk HZ.out) | skip); have zs := HR.out.size; have zl0 := HR.out.lt (List.mem_cons_self ..); have zl1 := HR.out.lt (List.mem_cons_of_mem _ (List.mem_cons_self ..)); have zl2 := HR.out.lt (List.mem_cons_of_mem _ (List.mem_cons_of_mem _ (List.mem_cons_self ..))); clear hba))
      all_goals
        go_wp2_with fail
        go_meet
        refine ⟨_, rfl, rfl, ?_, ?_, ?_⟩
        · have zs := HR.out.size
          simp <;> omega
        · simp <;> omega
        · first
            | exact HR.out.add _ rfl
            | exact (HR.out.add _ rfl).drew
            | exact (Frm.put (Frm.put (Frm.put (Frm.cons HR.out HZ.out) (by first | omega | (simp <;> omega)) (by simp <;> omega) 0 _) (by first | omega | (simp <;> omega)) (by simp <;> omega) 1 _) (by first | omega | (simp <;> omega)) (by simp <;> omega) 2 _)
    case rest =>
      obtain ⟨P, rfl, rfl, hP1, hP2, hF⟩ := hcut
      clear HR HC x0 x1 x2
      have HR := Lib.hid hF
      have HC := Lib.hid (HC0.out.below HR.out.b)
      clear hF
      have x0 := HR.out.cells (List.mem_cons_self ..)
      have x1 := HR.out.cells (List.mem_cons_of_mem _ (List.mem_cons_self ..))
      have x2 := HR.out.cells (List.mem_cons_of_mem _ (List.mem_cons_of_mem _ (List.mem_cons_self ..)))
      have x3 := HR.out.cells (List.mem_cons_of_mem _ (List.mem_cons_of_mem _ (List.mem_cons_of_mem _ (List.mem_cons_self ..))))
      go_wp2_with fail
      refine (known_ex _ (HH.out.below (Frm.b (w := w) (bs := [(P, (.cells #[.int .i64 p, .int .i64 g2, .int .i64 u] 59)), (w3.heap.size, (.cells #[.int .i64 g0, .int .i64 g1, .int .i64 g2, .int .i64 g3, .int .i64 g4, .int .i64 g5] 66)), (w.heap.size + 1, (rdBox r)), (w.heap.size, (stBox s (.slice A k c)))]) (by (repeat (with_reducible first | exact HR.out | apply Frm.drew | apply Frm.alloc))))) (HT.out.below (Frm.b (w := w) (bs := [(P, (.cells #[.int .i64 p, .int .i64 g2, .int .i64 u] 59)), (w3.heap.size, (.cells #[.int .i64 g0, .int .i64 g1, .int .i64 g2, .int .i64 g3, .int .i64 g4, .int .i64 g5] 66)), (w.heap.size + 1, (rdBox r)), (w.heap.size, (stBox s (.slice A k c)))]) (by (repeat (with_reducible first | exact HR.out | apply Frm.drew | apply Frm.alloc)))))).mono ?_
      rintro e wz ⟨rfl, hbz⟩
      have HZ := Lib.hid (Frm.below (w := w) (bs := [(P, (.cells #[.int .i64 p, .int .i64 g2, .int .i64 u] 59)), (w3.heap.size, (.cells #[.int .i64 g0, .int .i64 g1, .int .i64 g2, .int .i64 g3, .int .i64 g4, .int .i64 g5] 66)), (w.heap.size + 1, (rdBox r)), (w.heap.size, (stBox s (.slice A k c)))]) (by (repeat (with_reducible first | exact HR.out | apply Frm.drew | apply Frm.alloc))) hbz).b
      clear hbz x0 x1 x2 x3
      go_wp2_with fail
      go_ret
      exact ⟨rfl, HZ.out⟩
  · have HP : Hid (∀ W, Chks W (.slice A k c) cs → Holds W → Calls Tryd.prog 32 #[stV s (.slice A k c), rdV r, trV (etF s cs r 3)] W fun x w' => x = .returned (.tuple #[weV (hereF r.me (etF s cs r 3)) (loweredF (hereF r.me (etF s cs r 3)) (etF s cs r 3)) (humidF (hereF r.me (etF s cs r 3)) (etF s cs r 3)), .int .i64 0]) ∧ Below W.heap.size W w') := Lib.hid (fun W h h' => play_ok h HS.out HD.out h' HA.out (et_allowed hg hr HA.out 3))
    have HE : Hid (∀ W, Chks W (.slice A k c) cs → Calls Tryd.prog 39 #[stV s (.slice A k c), rdV r, .int .i64 3] W fun x w' => x = .returned (trV (etF s cs r 3)) ∧ Below W.heap.size W w') := Lib.hid (fun W h => rEnd_3 h hg hr)
    have HK : Hid (∀ W, Chks W (.slice A k c) cs → Holds W → Calls Tryd.prog 36 #[stV s (.slice A k c), rdV r] W fun x w' => x = .returned (.tuple #[knV s cs r, .int .i64 0]) ∧ Below W.heap.size W w') := Lib.hid (fun W h h' => know_ok h HS.out HD.out h' HA.out)
    rw [know_same] at HK
    generalize humidF (hereF r.me (etF s cs r 5)) (etF s cs r 5) = g5 at *
    generalize humidF (hereF r.me (etF s cs r 4)) (etF s cs r 4) = g4 at *
    generalize loweredF (hereF r.me (etF s cs r 3)) (etF s cs r 3) = g3 at *
    generalize loweredF (hereF r.me (etF s cs r 2)) (etF s cs r 2) = g2 at *
    generalize hereF r.me (etF s cs r 1) = g1 at *
    generalize hereF r.me (etF s cs r 0) = g0 at *
    generalize humidF (hereF r.me (etF s cs r 3)) (etF s cs r 3) = u at *
    generalize hereF r.me (etF s cs r 3) = p at *
    generalize (etF s cs r 3) = t at *
    go_wp2_with fail
    refine (HK.out _ (by first | exact HC.out | exact HC.out.drew | exact HC.out.below (below_al (Below.refl _ _) _) | exact HC.out.drew.below (below_al (Below.refl _ _) _) | exact (HC.out.below (below_al (Below.refl _ _) _)).drew) (HH.out.below (Frm.b (w := w) (bs := [(w.heap.size + 1, (rdBox r)), (w.heap.size, (stBox s (.slice A k c)))]) (by (repeat (with_reducible first | exact HR.out | apply Frm.drew | apply Frm.alloc)))))).mono ?_
    rintro e w3 ⟨rfl, hb⟩
    have HRq := Lib.hid ((Frm.below (w := w) (bs := [(w.heap.size + 1, (rdBox r)), (w.heap.size, (stBox s (.slice A k c)))]) (by (repeat (with_reducible first | exact HR.out | apply Frm.drew | apply Frm.alloc))) hb).add (.cells #[.int .i64 g0, .int .i64 g1, .int .i64 g2, .int .i64 g3, .int .i64 g4, .int .i64 g5] 66) rfl)
    have HCq := Lib.hid (Chks.below (cs := cs) (by first | exact HC.out | exact HC.out.drew | exact HC.out.below (below_al (Below.refl _ _) _) | exact HC.out.drew.below (below_al (Below.refl _ _) _) | exact (HC.out.below (below_al (Below.refl _ _) _)).drew) hb |>.below (below_al (Below.refl _ _) (.cells #[.int .i64 g0, .int .i64 g1, .int .i64 g2, .int .i64 g3, .int .i64 g4, .int .i64 g5] 66)))
    clear HR HC hb x0 x1
    have HR := HRq
    have HC := HCq
    clear HRq HCq
    have x0 := HR.out.cells (List.mem_cons_self ..)
    have x1 := HR.out.cells (List.mem_cons_of_mem _ (List.mem_cons_self ..))
    have x2 := HR.out.cells (List.mem_cons_of_mem _ (List.mem_cons_of_mem _ (List.mem_cons_self ..)))
    have zl0 := HR.out.lt (List.mem_cons_self ..)
    (try simp at zl0)
    have zl1 := HR.out.lt (List.mem_cons_of_mem _ (List.mem_cons_self ..))
    (try simp at zl1)
    have zl2 := HR.out.lt (List.mem_cons_of_mem _ (List.mem_cons_of_mem _ (List.mem_cons_self ..)))
    (try simp at zl2)
    have hN0 := Lib.hid (show w3.heap.size + 1 = ((w3.alloc (.cells #[.int .i64 g0, .int .i64 g1, .int .i64 g2, .int .i64 g3, .int .i64 g4, .int .i64 g5] 66)).drew).heap.size by simp)
    go_upto_region 4 with fail
    go_cut [9, 10] (fun s9 s10 wx => ∃ P : Nat, s9 = .pointer (some ⟨P, 0, none⟩) ∧ s10 = .int .i64 0 ∧ w.heap.size ≤ P ∧ (∀ p ∈ ([(w3.heap.size, (.cells #[.int .i64 g0, .int .i64 g1, .int .i64 g2, .int .i64 g3, .int .i64 g4, .int .i64 g5] 66)), (w.heap.size + 1, (rdBox r)), (w.heap.size, (stBox s (.slice A k c)))] : List (Nat × Obj)), p.1 ≠ P) ∧ Frm w [(P, (.cells #[.int .i64 p, .int .i64 g3, .int .i64 u] 59)), (w3.heap.size, (.cells #[.int .i64 g0, .int .i64 g1, .int .i64 g2, .int .i64 g3, .int .i64 g4, .int .i64 g5] 66)), (w.heap.size + 1, (rdBox r)), (w.heap.size, (stBox s (.slice A k c)))] wx)
    case first =>
      go_region_held3 (fun w' => (∀ o, w'.cell? ⟨w.heap.size + 1, o, none⟩ = #[Value.int .i64 r.day, .int .i64 r.mi, .int .i64 r.cl, .int .i64 r.me, .int .i64 r.al, .int .i64 r.ah, .int .i64 r.dl, .int .i64 r.dh, .int .i64 r.wl, .int .i64 r.wh][o]?) ∧ (∀ o, w'.cell? ⟨w.heap.size, o, none⟩ = #[Value.int .i64 s.hl, .int .i64 s.hh, .int .i64 s.gl, .int .i64 s.gh, .int .i64 s.dr, .int .i64 s.rd, .int .i64 s.ea, .int .i64 s.sl, .slice A k c][o]?)) ((exact (fun hF : Frm w [(w3.heap.size, (.cells #[.int .i64 g0, .int .i64 g1, .int .i64 g2, .int .i64 g3, .int .i64 g4, .int .i64 g5] 66)), (w.heap.size + 1, (rdBox r)), (w.heap.size, (stBox s (.slice A k c)))] _ => ⟨hF.cells (List.mem_cons_of_mem _ (List.mem_cons_self ..)), hF.cells (List.mem_cons_of_mem _ (List.mem_cons_of_mem _ (List.mem_cons_self ..)))⟩) (by (repeat (with_reducible first | exact HR.out | apply Frm.drew | apply Frm.alloc | (refine Frm.set ?_ (by simp <;> omega) (by simp <;> omega) _)))))) (first | (go_at_call 39; refine (HE.out _ (by first | exact HC.out | exact HC.out.drew | exact HC.out.below (below_al (Below.refl _ _) _) | exact HC.out.drew.below (below_al (Below.refl _ _) _) | exact (HC.out.below (below_al (Below.refl _ _) _)).drew)).mono ?_; rintro e wa ⟨rfl, hba⟩; have HCq := Lib.hid (Chks.below (cs := cs) (by first | exact HC.out | exact HC.out.drew | exact HC.out.below (below_al (Below.refl _ _) _) | exact HC.out.drew.below (below_al (Below.refl _ _) _) | exact (HC.out.below (below_al (Below.refl _ _) _)).drew) hba); have HRq := Lib.hid (Frm.below (w := w) (bs := [(w3.heap.size, (.cells #[.int .i64 g0, .int .i64 g1, .int .i64 g2, .int .i64 g3, .int .i64 g4, .int .i64 g5] 66)), (w.heap.size + 1, (rdBox r)), (w.heap.size, (stBox s (.slice A k c)))]) (by (repeat (with_reducible first | exact HR.out | apply Frm.drew | apply Frm.alloc))) hba); clear HR HC; have HR := HRq; have HC := HCq; clear HRq HCq; (first | (have HZq := Lib.hid (blk_below HZ.out hba); clear HZ; have HZ := HZq; clear HZq) | (have HZ := Lib.hid (blk_at hN0.out hba)) | (have HZ := Lib.hid (blk_at rfl hba)) | skip); (first | (have zc := (boxCells HZ.out).1; have zf := (boxCells HZ.out).2; have zn := lt_of_blk HZ.out) | skip); have zs := HR.out.size; have zl0 := HR.out.lt (List.mem_cons_self ..); have zl1 := HR.out.lt (List.mem_cons_of_mem _ (List.mem_cons_self ..)); have zl2 := HR.out.lt (List.mem_cons_of_mem _ (List.mem_cons_of_mem _ (List.mem_cons_self ..))); clear hba) | (go_at_call 32; refine (HP.out _ (by first | exact HC.out | exact HC.out.drew | exact HC.out.below (below_al (Below.refl _ _) _) | exact HC.out.drew.below (below_al (Below.refl _ _) _) | exact (HC.out.below (below_al (Below.refl _ _) _)).drew) (HH.out.below (Frm.b (w := w) (bs := [(w3.heap.size, (.cells #[.int .i64 g0, .int .i64 g1, .int .i64 g2, .int .i64 g3, .int .i64 g4, .int .i64 g5] 66)), (w.heap.size + 1, (rdBox r)), (w.heap.size, (stBox s (.slice A k c)))]) (by (repeat (with_reducible first | exact HR.out | apply Frm.drew | apply Frm.alloc)))))).mono ?_; rintro e wa ⟨rfl, hba⟩; have HCq := Lib.hid (Chks.below (cs := cs) (by first | exact HC.out | exact HC.out.drew | exact HC.out.below (below_al (Below.refl _ _) _) | exact HC.out.drew.below (below_al (Below.refl _ _) _) | exact (HC.out.below (below_al (Below.refl _ _) _)).drew) hba); have HRq := Lib.hid (Frm.below (w := w) (bs := [(w3.heap.size, (.cells #[.int .i64 g0, .int .i64 g1, .int .i64 g2, .int .i64 g3, .int .i64 g4, .int .i64 g5] 66)), (w.heap.size + 1, (rdBox r)), (w.heap.size, (stBox s (.slice A k c)))]) (by (repeat (with_reducible first | exact HR.out | apply Frm.drew | apply Frm.alloc))) hba); clear HR HC; have HR := HRq; have HC := HCq; clear HRq HCq; (first | (have HZq := Lib.hid (blk_below HZ.out hba); clear HZ; have HZ := HZq; clear HZq) | (have HZ := Lib.hid (blk_at hN0.out hba)) | (have HZ := Lib.hid (blk_at rfl hba)) | skip); (first | (have zc := (boxCells HZ.out).1; have zf := (boxCells HZ.out).2; have zn := lt_of_blk HZ.out) | skip); have zs := HR.out.size; have zl0 := HR.out.lt (List.mem_cons_self ..); have zl1 := HR.out.lt (List.mem_cons_of_mem _ (List.mem_cons_self ..)); have zl2 := HR.out.lt (List.mem_cons_of_mem _ (List.mem_cons_of_mem _ (List.mem_cons_self ..))); clear hba))
      all_goals
        go_wp2_with fail
        go_meet
        refine ⟨_, rfl, rfl, ?_, ?_, ?_⟩
        · have zs := HR.out.size
          simp <;> omega
        · simp <;> omega
        · first
            | exact HR.out.add _ rfl
            | exact (HR.out.add _ rfl).drew
            | exact (Frm.put (Frm.put (Frm.put (Frm.cons HR.out HZ.out) (by first | omega | (simp <;> omega)) (by simp <;> omega) 0 _) (by first | omega | (simp <;> omega)) (by simp <;> omega) 1 _) (by first | omega | (simp <;> omega)) (by simp <;> omega) 2 _)
    case rest =>
      obtain ⟨P, rfl, rfl, hP1, hP2, hF⟩ := hcut
      clear HR HC x0 x1 x2
      have HR := Lib.hid hF
      have HC := Lib.hid (HC0.out.below HR.out.b)
      clear hF
      have x0 := HR.out.cells (List.mem_cons_self ..)
      have x1 := HR.out.cells (List.mem_cons_of_mem _ (List.mem_cons_self ..))
      have x2 := HR.out.cells (List.mem_cons_of_mem _ (List.mem_cons_of_mem _ (List.mem_cons_self ..)))
      have x3 := HR.out.cells (List.mem_cons_of_mem _ (List.mem_cons_of_mem _ (List.mem_cons_of_mem _ (List.mem_cons_self ..))))
      go_wp2_with fail
      refine (known_ex _ (HH.out.below (Frm.b (w := w) (bs := [(P, (.cells #[.int .i64 p, .int .i64 g3, .int .i64 u] 59)), (w3.heap.size, (.cells #[.int .i64 g0, .int .i64 g1, .int .i64 g2, .int .i64 g3, .int .i64 g4, .int .i64 g5] 66)), (w.heap.size + 1, (rdBox r)), (w.heap.size, (stBox s (.slice A k c)))]) (by (repeat (with_reducible first | exact HR.out | apply Frm.drew | apply Frm.alloc))))) (HT.out.below (Frm.b (w := w) (bs := [(P, (.cells #[.int .i64 p, .int .i64 g3, .int .i64 u] 59)), (w3.heap.size, (.cells #[.int .i64 g0, .int .i64 g1, .int .i64 g2, .int .i64 g3, .int .i64 g4, .int .i64 g5] 66)), (w.heap.size + 1, (rdBox r)), (w.heap.size, (stBox s (.slice A k c)))]) (by (repeat (with_reducible first | exact HR.out | apply Frm.drew | apply Frm.alloc)))))).mono ?_
      rintro e wz ⟨rfl, hbz⟩
      have HZ := Lib.hid (Frm.below (w := w) (bs := [(P, (.cells #[.int .i64 p, .int .i64 g3, .int .i64 u] 59)), (w3.heap.size, (.cells #[.int .i64 g0, .int .i64 g1, .int .i64 g2, .int .i64 g3, .int .i64 g4, .int .i64 g5] 66)), (w.heap.size + 1, (rdBox r)), (w.heap.size, (stBox s (.slice A k c)))]) (by (repeat (with_reducible first | exact HR.out | apply Frm.drew | apply Frm.alloc))) hbz).b
      clear hbz x0 x1 x2 x3
      go_wp2_with fail
      go_ret
      exact ⟨rfl, HZ.out⟩
  · have HP : Hid (∀ W, Chks W (.slice A k c) cs → Holds W → Calls Tryd.prog 32 #[stV s (.slice A k c), rdV r, trV (etF s cs r 4)] W fun x w' => x = .returned (.tuple #[weV (hereF r.me (etF s cs r 4)) (loweredF (hereF r.me (etF s cs r 4)) (etF s cs r 4)) (humidF (hereF r.me (etF s cs r 4)) (etF s cs r 4)), .int .i64 0]) ∧ Below W.heap.size W w') := Lib.hid (fun W h h' => play_ok h HS.out HD.out h' HA.out (et_allowed hg hr HA.out 4))
    have HE : Hid (∀ W, Chks W (.slice A k c) cs → Calls Tryd.prog 39 #[stV s (.slice A k c), rdV r, .int .i64 4] W fun x w' => x = .returned (trV (etF s cs r 4)) ∧ Below W.heap.size W w') := Lib.hid (fun W h => rEnd_4 h hg hr)
    have HK : Hid (∀ W, Chks W (.slice A k c) cs → Holds W → Calls Tryd.prog 36 #[stV s (.slice A k c), rdV r] W fun x w' => x = .returned (.tuple #[knV s cs r, .int .i64 0]) ∧ Below W.heap.size W w') := Lib.hid (fun W h h' => know_ok h HS.out HD.out h' HA.out)
    rw [know_same] at HK
    generalize humidF (hereF r.me (etF s cs r 5)) (etF s cs r 5) = g5 at *
    generalize humidF (hereF r.me (etF s cs r 4)) (etF s cs r 4) = g4 at *
    generalize loweredF (hereF r.me (etF s cs r 3)) (etF s cs r 3) = g3 at *
    generalize loweredF (hereF r.me (etF s cs r 2)) (etF s cs r 2) = g2 at *
    generalize hereF r.me (etF s cs r 1) = g1 at *
    generalize hereF r.me (etF s cs r 0) = g0 at *
    generalize loweredF (hereF r.me (etF s cs r 4)) (etF s cs r 4) = z at *
    generalize hereF r.me (etF s cs r 4) = p at *
    generalize (etF s cs r 4) = t at *
    go_wp2_with fail
    refine (HK.out _ (by first | exact HC.out | exact HC.out.drew | exact HC.out.below (below_al (Below.refl _ _) _) | exact HC.out.drew.below (below_al (Below.refl _ _) _) | exact (HC.out.below (below_al (Below.refl _ _) _)).drew) (HH.out.below (Frm.b (w := w) (bs := [(w.heap.size + 1, (rdBox r)), (w.heap.size, (stBox s (.slice A k c)))]) (by (repeat (with_reducible first | exact HR.out | apply Frm.drew | apply Frm.alloc)))))).mono ?_
    rintro e w3 ⟨rfl, hb⟩
    have HRq := Lib.hid ((Frm.below (w := w) (bs := [(w.heap.size + 1, (rdBox r)), (w.heap.size, (stBox s (.slice A k c)))]) (by (repeat (with_reducible first | exact HR.out | apply Frm.drew | apply Frm.alloc))) hb).add (.cells #[.int .i64 g0, .int .i64 g1, .int .i64 g2, .int .i64 g3, .int .i64 g4, .int .i64 g5] 66) rfl)
    have HCq := Lib.hid (Chks.below (cs := cs) (by first | exact HC.out | exact HC.out.drew | exact HC.out.below (below_al (Below.refl _ _) _) | exact HC.out.drew.below (below_al (Below.refl _ _) _) | exact (HC.out.below (below_al (Below.refl _ _) _)).drew) hb |>.below (below_al (Below.refl _ _) (.cells #[.int .i64 g0, .int .i64 g1, .int .i64 g2, .int .i64 g3, .int .i64 g4, .int .i64 g5] 66)))
    clear HR HC hb x0 x1
    have HR := HRq
    have HC := HCq
    clear HRq HCq
    have x0 := HR.out.cells (List.mem_cons_self ..)
    have x1 := HR.out.cells (List.mem_cons_of_mem _ (List.mem_cons_self ..))
    have x2 := HR.out.cells (List.mem_cons_of_mem _ (List.mem_cons_of_mem _ (List.mem_cons_self ..)))
    have zl0 := HR.out.lt (List.mem_cons_self ..)
    (try simp at zl0)
    have zl1 := HR.out.lt (List.mem_cons_of_mem _ (List.mem_cons_self ..))
    (try simp at zl1)
    have zl2 := HR.out.lt (List.mem_cons_of_mem _ (List.mem_cons_of_mem _ (List.mem_cons_self ..)))
    (try simp at zl2)
    have hN0 := Lib.hid (show w3.heap.size + 1 = ((w3.alloc (.cells #[.int .i64 g0, .int .i64 g1, .int .i64 g2, .int .i64 g3, .int .i64 g4, .int .i64 g5] 66)).drew).heap.size by simp)
    go_upto_region 4 with fail
    go_cut [9, 10] (fun s9 s10 wx => ∃ P : Nat, s9 = .pointer (some ⟨P, 0, none⟩) ∧ s10 = .int .i64 0 ∧ w.heap.size ≤ P ∧ (∀ p ∈ ([(w3.heap.size, (.cells #[.int .i64 g0, .int .i64 g1, .int .i64 g2, .int .i64 g3, .int .i64 g4, .int .i64 g5] 66)), (w.heap.size + 1, (rdBox r)), (w.heap.size, (stBox s (.slice A k c)))] : List (Nat × Obj)), p.1 ≠ P) ∧ Frm w [(P, (.cells #[.int .i64 p, .int .i64 z, .int .i64 g4] 59)), (w3.heap.size, (.cells #[.int .i64 g0, .int .i64 g1, .int .i64 g2, .int .i64 g3, .int .i64 g4, .int .i64 g5] 66)), (w.heap.size + 1, (rdBox r)), (w.heap.size, (stBox s (.slice A k c)))] wx)
    case first =>
      go_region_held3 (fun w' => (∀ o, w'.cell? ⟨w.heap.size + 1, o, none⟩ = #[Value.int .i64 r.day, .int .i64 r.mi, .int .i64 r.cl, .int .i64 r.me, .int .i64 r.al, .int .i64 r.ah, .int .i64 r.dl, .int .i64 r.dh, .int .i64 r.wl, .int .i64 r.wh][o]?) ∧ (∀ o, w'.cell? ⟨w.heap.size, o, none⟩ = #[Value.int .i64 s.hl, .int .i64 s.hh, .int .i64 s.gl, .int .i64 s.gh, .int .i64 s.dr, .int .i64 s.rd, .int .i64 s.ea, .int .i64 s.sl, .slice A k c][o]?)) ((exact (fun hF : Frm w [(w3.heap.size, (.cells #[.int .i64 g0, .int .i64 g1, .int .i64 g2, .int .i64 g3, .int .i64 g4, .int .i64 g5] 66)), (w.heap.size + 1, (rdBox r)), (w.heap.size, (stBox s (.slice A k c)))] _ => ⟨hF.cells (List.mem_cons_of_mem _ (List.mem_cons_self ..)), hF.cells (List.mem_cons_of_mem _ (List.mem_cons_of_mem _ (List.mem_cons_self ..)))⟩) (by (repeat (with_reducible first | exact HR.out | apply Frm.drew | apply Frm.alloc | (refine Frm.set ?_ (by simp <;> omega) (by simp <;> omega) _)))))) (first | (go_at_call 39; refine (HE.out _ (by first | exact HC.out | exact HC.out.drew | exact HC.out.below (below_al (Below.refl _ _) _) | exact HC.out.drew.below (below_al (Below.refl _ _) _) | exact (HC.out.below (below_al (Below.refl _ _) _)).drew)).mono ?_; rintro e wa ⟨rfl, hba⟩; have HCq := Lib.hid (Chks.below (cs := cs) (by first | exact HC.out | exact HC.out.drew | exact HC.out.below (below_al (Below.refl _ _) _) | exact HC.out.drew.below (below_al (Below.refl _ _) _) | exact (HC.out.below (below_al (Below.refl _ _) _)).drew) hba); have HRq := Lib.hid (Frm.below (w := w) (bs := [(w3.heap.size, (.cells #[.int .i64 g0, .int .i64 g1, .int .i64 g2, .int .i64 g3, .int .i64 g4, .int .i64 g5] 66)), (w.heap.size + 1, (rdBox r)), (w.heap.size, (stBox s (.slice A k c)))]) (by (repeat (with_reducible first | exact HR.out | apply Frm.drew | apply Frm.alloc))) hba); clear HR HC; have HR := HRq; have HC := HCq; clear HRq HCq; (first | (have HZq := Lib.hid (blk_below HZ.out hba); clear HZ; have HZ := HZq; clear HZq) | (have HZ := Lib.hid (blk_at hN0.out hba)) | (have HZ := Lib.hid (blk_at rfl hba)) | skip); (first | (have zc := (boxCells HZ.out).1; have zf := (boxCells HZ.out).2; have zn := lt_of_blk HZ.out) | skip); have zs := HR.out.size; have zl0 := HR.out.lt (List.mem_cons_self ..); have zl1 := HR.out.lt (List.mem_cons_of_mem _ (List.mem_cons_self ..)); have zl2 := HR.out.lt (List.mem_cons_of_mem _ (List.mem_cons_of_mem _ (List.mem_cons_self ..))); clear hba) | (go_at_call 32; refine (HP.out _ (by first | exact HC.out | exact HC.out.drew | exact HC.out.below (below_al (Below.refl _ _) _) | exact HC.out.drew.below (below_al (Below.refl _ _) _) | exact (HC.out.below (below_al (Below.refl _ _) _)).drew) (HH.out.below (Frm.b (w := w) (bs := [(w3.heap.size, (.cells #[.int .i64 g0, .int .i64 g1, .int .i64 g2, .int .i64 g3, .int .i64 g4, .int .i64 g5] 66)), (w.heap.size + 1, (rdBox r)), (w.heap.size, (stBox s (.slice A k c)))]) (by (repeat (with_reducible first | exact HR.out | apply Frm.drew | apply Frm.alloc)))))).mono ?_; rintro e wa ⟨rfl, hba⟩; have HCq := Lib.hid (Chks.below (cs := cs) (by first | exact HC.out | exact HC.out.drew | exact HC.out.below (below_al (Below.refl _ _) _) | exact HC.out.drew.below (below_al (Below.refl _ _) _) | exact (HC.out.below (below_al (Below.refl _ _) _)).drew) hba); have HRq := Lib.hid (Frm.below (w := w) (bs := [(w3.heap.size, (.cells #[.int .i64 g0, .int .i64 g1, .int .i64 g2, .int .i64 g3, .int .i64 g4, .int .i64 g5] 66)), (w.heap.size + 1, (rdBox r)), (w.heap.size, (stBox s (.slice A k c)))]) (by (repeat (with_reducible first | exact HR.out | apply Frm.drew | apply Frm.alloc))) hba); clear HR HC; have HR := HRq; have HC := HCq; clear HRq HCq; (first | (have HZq := Lib.hid (blk_below HZ.out hba); clear HZ; have HZ := HZq; clear HZq) | (have HZ := Lib.hid (blk_at hN0.out hba)) | (have HZ := Lib.hid (blk_at rfl hba)) | skip); (first | (have zc := (boxCells HZ.out).1; have zf := (boxCells HZ.out).2; have zn := lt_of_blk HZ.out) | skip); have zs := HR.out.size; have zl0 := HR.out.lt (List.mem_cons_self ..); have zl1 := HR.out.lt (List.mem_cons_of_mem _ (List.mem_cons_self ..)); have zl2 := HR.out.lt (List.mem_cons_of_mem _ (List.mem_cons_of_mem _ (List.mem_cons_self ..))); clear hba))
      all_goals
        go_wp2_with fail
        go_meet
        refine ⟨_, rfl, rfl, ?_, ?_, ?_⟩
        · have zs := HR.out.size
          simp <;> omega
        · simp <;> omega
        · first
            | exact HR.out.add _ rfl
            | exact (HR.out.add _ rfl).drew
            | exact (Frm.put (Frm.put (Frm.put (Frm.cons HR.out HZ.out) (by first | omega | (simp <;> omega)) (by simp <;> omega) 0 _) (by first | omega | (simp <;> omega)) (by simp <;> omega) 1 _) (by first | omega | (simp <;> omega)) (by simp <;> omega) 2 _)
    case rest =>
      obtain ⟨P, rfl, rfl, hP1, hP2, hF⟩ := hcut
      clear HR HC x0 x1 x2
      have HR := Lib.hid hF
      have HC := Lib.hid (HC0.out.below HR.out.b)
      clear hF
      have x0 := HR.out.cells (List.mem_cons_self ..)
      have x1 := HR.out.cells (List.mem_cons_of_mem _ (List.mem_cons_self ..))
      have x2 := HR.out.cells (List.mem_cons_of_mem _ (List.mem_cons_of_mem _ (List.mem_cons_self ..)))
      have x3 := HR.out.cells (List.mem_cons_of_mem _ (List.mem_cons_of_mem _ (List.mem_cons_of_mem _ (List.mem_cons_self ..))))
      go_wp2_with fail
      refine (known_ex _ (HH.out.below (Frm.b (w := w) (bs := [(P, (.cells #[.int .i64 p, .int .i64 z, .int .i64 g4] 59)), (w3.heap.size, (.cells #[.int .i64 g0, .int .i64 g1, .int .i64 g2, .int .i64 g3, .int .i64 g4, .int .i64 g5] 66)), (w.heap.size + 1, (rdBox r)), (w.heap.size, (stBox s (.slice A k c)))]) (by (repeat (with_reducible first | exact HR.out | apply Frm.drew | apply Frm.alloc))))) (HT.out.below (Frm.b (w := w) (bs := [(P, (.cells #[.int .i64 p, .int .i64 z, .int .i64 g4] 59)), (w3.heap.size, (.cells #[.int .i64 g0, .int .i64 g1, .int .i64 g2, .int .i64 g3, .int .i64 g4, .int .i64 g5] 66)), (w.heap.size + 1, (rdBox r)), (w.heap.size, (stBox s (.slice A k c)))]) (by (repeat (with_reducible first | exact HR.out | apply Frm.drew | apply Frm.alloc)))))).mono ?_
      rintro e wz ⟨rfl, hbz⟩
      have HZ := Lib.hid (Frm.below (w := w) (bs := [(P, (.cells #[.int .i64 p, .int .i64 z, .int .i64 g4] 59)), (w3.heap.size, (.cells #[.int .i64 g0, .int .i64 g1, .int .i64 g2, .int .i64 g3, .int .i64 g4, .int .i64 g5] 66)), (w.heap.size + 1, (rdBox r)), (w.heap.size, (stBox s (.slice A k c)))]) (by (repeat (with_reducible first | exact HR.out | apply Frm.drew | apply Frm.alloc))) hbz).b
      clear hbz x0 x1 x2 x3
      go_wp2_with fail
      go_ret
      exact ⟨rfl, HZ.out⟩
  · have HP : Hid (∀ W, Chks W (.slice A k c) cs → Holds W → Calls Tryd.prog 32 #[stV s (.slice A k c), rdV r, trV (etF s cs r 5)] W fun x w' => x = .returned (.tuple #[weV (hereF r.me (etF s cs r 5)) (loweredF (hereF r.me (etF s cs r 5)) (etF s cs r 5)) (humidF (hereF r.me (etF s cs r 5)) (etF s cs r 5)), .int .i64 0]) ∧ Below W.heap.size W w') := Lib.hid (fun W h h' => play_ok h HS.out HD.out h' HA.out (et_allowed hg hr HA.out 5))
    have HE : Hid (∀ W, Chks W (.slice A k c) cs → Calls Tryd.prog 39 #[stV s (.slice A k c), rdV r, .int .i64 5] W fun x w' => x = .returned (trV (etF s cs r 5)) ∧ Below W.heap.size W w') := Lib.hid (fun W h => rEnd_5 h hg hr)
    have HK : Hid (∀ W, Chks W (.slice A k c) cs → Holds W → Calls Tryd.prog 36 #[stV s (.slice A k c), rdV r] W fun x w' => x = .returned (.tuple #[knV s cs r, .int .i64 0]) ∧ Below W.heap.size W w') := Lib.hid (fun W h h' => know_ok h HS.out HD.out h' HA.out)
    rw [know_same] at HK
    generalize humidF (hereF r.me (etF s cs r 5)) (etF s cs r 5) = g5 at *
    generalize humidF (hereF r.me (etF s cs r 4)) (etF s cs r 4) = g4 at *
    generalize loweredF (hereF r.me (etF s cs r 3)) (etF s cs r 3) = g3 at *
    generalize loweredF (hereF r.me (etF s cs r 2)) (etF s cs r 2) = g2 at *
    generalize hereF r.me (etF s cs r 1) = g1 at *
    generalize hereF r.me (etF s cs r 0) = g0 at *
    generalize loweredF (hereF r.me (etF s cs r 5)) (etF s cs r 5) = z at *
    generalize hereF r.me (etF s cs r 5) = p at *
    generalize (etF s cs r 5) = t at *
    go_wp2_with fail
    refine (HK.out _ (by first | exact HC.out | exact HC.out.drew | exact HC.out.below (below_al (Below.refl _ _) _) | exact HC.out.drew.below (below_al (Below.refl _ _) _) | exact (HC.out.below (below_al (Below.refl _ _) _)).drew) (HH.out.below (Frm.b (w := w) (bs := [(w.heap.size + 1, (rdBox r)), (w.heap.size, (stBox s (.slice A k c)))]) (by (repeat (with_reducible first | exact HR.out | apply Frm.drew | apply Frm.alloc)))))).mono ?_
    rintro e w3 ⟨rfl, hb⟩
    have HRq := Lib.hid ((Frm.below (w := w) (bs := [(w.heap.size + 1, (rdBox r)), (w.heap.size, (stBox s (.slice A k c)))]) (by (repeat (with_reducible first | exact HR.out | apply Frm.drew | apply Frm.alloc))) hb).add (.cells #[.int .i64 g0, .int .i64 g1, .int .i64 g2, .int .i64 g3, .int .i64 g4, .int .i64 g5] 66) rfl)
    have HCq := Lib.hid (Chks.below (cs := cs) (by first | exact HC.out | exact HC.out.drew | exact HC.out.below (below_al (Below.refl _ _) _) | exact HC.out.drew.below (below_al (Below.refl _ _) _) | exact (HC.out.below (below_al (Below.refl _ _) _)).drew) hb |>.below (below_al (Below.refl _ _) (.cells #[.int .i64 g0, .int .i64 g1, .int .i64 g2, .int .i64 g3, .int .i64 g4, .int .i64 g5] 66)))
    clear HR HC hb x0 x1
    have HR := HRq
    have HC := HCq
    clear HRq HCq
    have x0 := HR.out.cells (List.mem_cons_self ..)
    have x1 := HR.out.cells (List.mem_cons_of_mem _ (List.mem_cons_self ..))
    have x2 := HR.out.cells (List.mem_cons_of_mem _ (List.mem_cons_of_mem _ (List.mem_cons_self ..)))
    have zl0 := HR.out.lt (List.mem_cons_self ..)
    (try simp at zl0)
    have zl1 := HR.out.lt (List.mem_cons_of_mem _ (List.mem_cons_self ..))
    (try simp at zl1)
    have zl2 := HR.out.lt (List.mem_cons_of_mem _ (List.mem_cons_of_mem _ (List.mem_cons_self ..)))
    (try simp at zl2)
    have hN0 := Lib.hid (show w3.heap.size + 1 = ((w3.alloc (.cells #[.int .i64 g0, .int .i64 g1, .int .i64 g2, .int .i64 g3, .int .i64 g4, .int .i64 g5] 66)).drew).heap.size by simp)
    go_upto_region 4 with fail
    go_cut [9, 10] (fun s9 s10 wx => ∃ P : Nat, s9 = .pointer (some ⟨P, 0, none⟩) ∧ s10 = .int .i64 0 ∧ w.heap.size ≤ P ∧ (∀ p ∈ ([(w3.heap.size, (.cells #[.int .i64 g0, .int .i64 g1, .int .i64 g2, .int .i64 g3, .int .i64 g4, .int .i64 g5] 66)), (w.heap.size + 1, (rdBox r)), (w.heap.size, (stBox s (.slice A k c)))] : List (Nat × Obj)), p.1 ≠ P) ∧ Frm w [(P, (.cells #[.int .i64 p, .int .i64 z, .int .i64 g5] 59)), (w3.heap.size, (.cells #[.int .i64 g0, .int .i64 g1, .int .i64 g2, .int .i64 g3, .int .i64 g4, .int .i64 g5] 66)), (w.heap.size + 1, (rdBox r)), (w.heap.size, (stBox s (.slice A k c)))] wx)
    case first =>
      go_region_held3 (fun w' => (∀ o, w'.cell? ⟨w.heap.size + 1, o, none⟩ = #[Value.int .i64 r.day, .int .i64 r.mi, .int .i64 r.cl, .int .i64 r.me, .int .i64 r.al, .int .i64 r.ah, .int .i64 r.dl, .int .i64 r.dh, .int .i64 r.wl, .int .i64 r.wh][o]?) ∧ (∀ o, w'.cell? ⟨w.heap.size, o, none⟩ = #[Value.int .i64 s.hl, .int .i64 s.hh, .int .i64 s.gl, .int .i64 s.gh, .int .i64 s.dr, .int .i64 s.rd, .int .i64 s.ea, .int .i64 s.sl, .slice A k c][o]?)) ((exact (fun hF : Frm w [(w3.heap.size, (.cells #[.int .i64 g0, .int .i64 g1, .int .i64 g2, .int .i64 g3, .int .i64 g4, .int .i64 g5] 66)), (w.heap.size + 1, (rdBox r)), (w.heap.size, (stBox s (.slice A k c)))] _ => ⟨hF.cells (List.mem_cons_of_mem _ (List.mem_cons_self ..)), hF.cells (List.mem_cons_of_mem _ (List.mem_cons_of_mem _ (List.mem_cons_self ..)))⟩) (by (repeat (with_reducible first | exact HR.out | apply Frm.drew | apply Frm.alloc | (refine Frm.set ?_ (by simp <;> omega) (by simp <;> omega) _)))))) (first | (go_at_call 39; refine (HE.out _ (by first | exact HC.out | exact HC.out.drew | exact HC.out.below (below_al (Below.refl _ _) _) | exact HC.out.drew.below (below_al (Below.refl _ _) _) | exact (HC.out.below (below_al (Below.refl _ _) _)).drew)).mono ?_; rintro e wa ⟨rfl, hba⟩; have HCq := Lib.hid (Chks.below (cs := cs) (by first | exact HC.out | exact HC.out.drew | exact HC.out.below (below_al (Below.refl _ _) _) | exact HC.out.drew.below (below_al (Below.refl _ _) _) | exact (HC.out.below (below_al (Below.refl _ _) _)).drew) hba); have HRq := Lib.hid (Frm.below (w := w) (bs := [(w3.heap.size, (.cells #[.int .i64 g0, .int .i64 g1, .int .i64 g2, .int .i64 g3, .int .i64 g4, .int .i64 g5] 66)), (w.heap.size + 1, (rdBox r)), (w.heap.size, (stBox s (.slice A k c)))]) (by (repeat (with_reducible first | exact HR.out | apply Frm.drew | apply Frm.alloc))) hba); clear HR HC; have HR := HRq; have HC := HCq; clear HRq HCq; (first | (have HZq := Lib.hid (blk_below HZ.out hba); clear HZ; have HZ := HZq; clear HZq) | (have HZ := Lib.hid (blk_at hN0.out hba)) | (have HZ := Lib.hid (blk_at rfl hba)) | skip); (first | (have zc := (boxCells HZ.out).1; have zf := (boxCells HZ.out).2; have zn := lt_of_blk HZ.out) | skip); have zs := HR.out.size; have zl0 := HR.out.lt (List.mem_cons_self ..); have zl1 := HR.out.lt (List.mem_cons_of_mem _ (List.mem_cons_self ..)); have zl2 := HR.out.lt (List.mem_cons_of_mem _ (List.mem_cons_of_mem _ (List.mem_cons_self ..))); clear hba) | (go_at_call 32; refine (HP.out _ (by first | exact HC.out | exact HC.out.drew | exact HC.out.below (below_al (Below.refl _ _) _) | exact HC.out.drew.below (below_al (Below.refl _ _) _) | exact (HC.out.below (below_al (Below.refl _ _) _)).drew) (HH.out.below (Frm.b (w := w) (bs := [(w3.heap.size, (.cells #[.int .i64 g0, .int .i64 g1, .int .i64 g2, .int .i64 g3, .int .i64 g4, .int .i64 g5] 66)), (w.heap.size + 1, (rdBox r)), (w.heap.size, (stBox s (.slice A k c)))]) (by (repeat (with_reducible first | exact HR.out | apply Frm.drew | apply Frm.alloc)))))).mono ?_; rintro e wa ⟨rfl, hba⟩; have HCq := Lib.hid (Chks.below (cs := cs) (by first | exact HC.out | exact HC.out.drew | exact HC.out.below (below_al (Below.refl _ _) _) | exact HC.out.drew.below (below_al (Below.refl _ _) _) | exact (HC.out.below (below_al (Below.refl _ _) _)).drew) hba); have HRq := Lib.hid (Frm.below (w := w) (bs := [(w3.heap.size, (.cells #[.int .i64 g0, .int .i64 g1, .int .i64 g2, .int .i64 g3, .int .i64 g4, .int .i64 g5] 66)), (w.heap.size + 1, (rdBox r)), (w.heap.size, (stBox s (.slice A k c)))]) (by (repeat (with_reducible first | exact HR.out | apply Frm.drew | apply Frm.alloc))) hba); clear HR HC; have HR := HRq; have HC := HCq; clear HRq HCq; (first | (have HZq := Lib.hid (blk_below HZ.out hba); clear HZ; have HZ := HZq; clear HZq) | (have HZ := Lib.hid (blk_at hN0.out hba)) | (have HZ := Lib.hid (blk_at rfl hba)) | skip); (first | (have zc := (boxCells HZ.out).1; have zf := (boxCells HZ.out).2; have zn := lt_of_blk HZ.out) | skip); have zs := HR.out.size; have zl0 := HR.out.lt (List.mem_cons_self ..); have zl1 := HR.out.lt (List.mem_cons_of_mem _ (List.mem_cons_self ..)); have zl2 := HR.out.lt (List.mem_cons_of_mem _ (List.mem_cons_of_mem _ (List.mem_cons_self ..))); clear hba))
      all_goals
        go_wp2_with fail
        go_meet
        refine ⟨_, rfl, rfl, ?_, ?_, ?_⟩
        · have zs := HR.out.size
          simp <;> omega
        · simp <;> omega
        · first
            | exact HR.out.add _ rfl
            | exact (HR.out.add _ rfl).drew
            | exact (Frm.put (Frm.put (Frm.put (Frm.cons HR.out HZ.out) (by first | omega | (simp <;> omega)) (by simp <;> omega) 0 _) (by first | omega | (simp <;> omega)) (by simp <;> omega) 1 _) (by first | omega | (simp <;> omega)) (by simp <;> omega) 2 _)
    case rest =>
      obtain ⟨P, rfl, rfl, hP1, hP2, hF⟩ := hcut
      clear HR HC x0 x1 x2
      have HR := Lib.hid hF
      have HC := Lib.hid (HC0.out.below HR.out.b)
      clear hF
      have x0 := HR.out.cells (List.mem_cons_self ..)
      have x1 := HR.out.cells (List.mem_cons_of_mem _ (List.mem_cons_self ..))
      have x2 := HR.out.cells (List.mem_cons_of_mem _ (List.mem_cons_of_mem _ (List.mem_cons_self ..)))
      have x3 := HR.out.cells (List.mem_cons_of_mem _ (List.mem_cons_of_mem _ (List.mem_cons_of_mem _ (List.mem_cons_self ..))))
      go_wp2_with fail
      refine (known_ex _ (HH.out.below (Frm.b (w := w) (bs := [(P, (.cells #[.int .i64 p, .int .i64 z, .int .i64 g5] 59)), (w3.heap.size, (.cells #[.int .i64 g0, .int .i64 g1, .int .i64 g2, .int .i64 g3, .int .i64 g4, .int .i64 g5] 66)), (w.heap.size + 1, (rdBox r)), (w.heap.size, (stBox s (.slice A k c)))]) (by (repeat (with_reducible first | exact HR.out | apply Frm.drew | apply Frm.alloc))))) (HT.out.below (Frm.b (w := w) (bs := [(P, (.cells #[.int .i64 p, .int .i64 z, .int .i64 g5] 59)), (w3.heap.size, (.cells #[.int .i64 g0, .int .i64 g1, .int .i64 g2, .int .i64 g3, .int .i64 g4, .int .i64 g5] 66)), (w.heap.size + 1, (rdBox r)), (w.heap.size, (stBox s (.slice A k c)))]) (by (repeat (with_reducible first | exact HR.out | apply Frm.drew | apply Frm.alloc)))))).mono ?_
      rintro e wz ⟨rfl, hbz⟩
      have HZ := Lib.hid (Frm.below (w := w) (bs := [(P, (.cells #[.int .i64 p, .int .i64 z, .int .i64 g5] 59)), (w3.heap.size, (.cells #[.int .i64 g0, .int .i64 g1, .int .i64 g2, .int .i64 g3, .int .i64 g4, .int .i64 g5] 66)), (w.heap.size + 1, (rdBox r)), (w.heap.size, (stBox s (.slice A k c)))]) (by (repeat (with_reducible first | exact HR.out | apply Frm.drew | apply Frm.alloc))) hbz).b
      clear hbz x0 x1 x2 x3
      go_wp2_with fail
      go_ret
      exact ⟨rfl, HZ.out⟩
end Go.Proofs.YtipckgojoanokaaDoor
