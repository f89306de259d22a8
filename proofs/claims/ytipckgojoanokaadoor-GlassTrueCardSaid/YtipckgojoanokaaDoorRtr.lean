/- The reference's Truth. -/
import Derived.Test.YtipckgojoanokaaDoorRri
set_option linter.unusedVariables false
set_option linter.unusedSimpArgs false
namespace Go.Proofs.YtipckgojoanokaaDoor
open Go.RowKit Go.Maps

theorem agreed_is {s : Stn} {v : Value} {cs : List Chk} {b : Bool} {w : World} (hc : Chks w v cs) (h : (soundB s cs && agB s cs) = b) :
    Calls Tryd.prog 24 #[stV s v] w fun e w' => e = .returned (.bool b) ∧ Below w.heap.size w w' := by
  rw [← h]; exact agreed_any hc

set_option maxHeartbeats 400000 in
theorem lwithin_yes {n a b : Int} (h1 : a ≤ n) (h2 : n ≤ b) (w : World) :
    Calls Tryd.prog 38 #[.int .i64 n, .agg #[.int .i64 a, .int .i64 b]] w fun e w' => e = .returned (.bool true) ∧ Below w.heap.size w w' := by
  go_enter Tryd.func38, Tryd.ntmps38
  go_wp2
  go_ret
  exact ⟨rfl, below_al (Below.refl _ _) _⟩

set_option maxHeartbeats 2000000 in
set_option maxRecDepth 100000 in
theorem rTruth_any {s : Stn} {v : Value} {cs : List Chk} {r : Rdg} {t : Tru} {w : World} (hc : Chks w v cs) (hg : Good s cs) (hr : r.Good) :
    Calls Tryd.prog 34 #[stV s v, rdV r, trV t] w fun e w' => e = .returned (.bool (allowB s cs r t)) ∧ Below w.heap.size w w' := by
  obtain ⟨A, k, c, rfl⟩ := hc.shape
  have r0 := hg.r0
  have r1 := hg.r1
  have HV := Lib.hid (show (betw t.ix (lowF s r.day cs) (highF s r.day cs) && betw t.er (-s.rd) s.rd && betw t.gr s.gl s.gh && betw t.he s.hl s.hh && betw t.aT r.al r.ah && betw t.dT r.dl r.dh && betw t.wT r.wl r.wh) = allowB s cs r t from rfl)
  have HX : Hid (∀ W, Chks W (.slice A k c) cs → Calls Tryd.prog 22 #[stV s (.slice A k c), .int .i64 r.day] W fun x w' => x = .returned (spV (lowF s r.day cs) (highF s r.day cs)) ∧ Below W.heap.size W w') := Lib.hid (fun W h => rIndex_any h hg.sane hr.d0 hr.d1)
  generalize allowB s cs r t = al at *
  generalize lowF s r.day cs = lo at *
  generalize highF s r.day cs = hi at *
  have HR : Hid (Frm w [(w.heap.size + 1 + 1, (.cells #[.int .i64 t.ix, .int .i64 t.er, .int .i64 t.gr, .int .i64 t.he, .int .i64 t.aT, .int .i64 t.dT, .int .i64 t.wT] 57)), (w.heap.size + 1, (rdBox r)), (w.heap.size, (stBox s (.slice A k c)))] (((w.alloc (stBox s (.slice A k c))).alloc (rdBox r)).alloc (.cells #[.int .i64 t.ix, .int .i64 t.er, .int .i64 t.gr, .int .i64 t.he, .int .i64 t.aT, .int .i64 t.dT, .int .i64 t.wT] 57))) := Lib.hid ((((Frm.nil w).add _ (by simp)).add _ (by simp)).add _ (by simp))
  have HC := Lib.hid (hc.below HR.out.b)
  clear hc
  have x0 := HR.out.cells (List.mem_cons_self ..)
  have x1 := HR.out.cells (List.mem_cons_of_mem _ (List.mem_cons_self ..))
  have x2 := HR.out.cells (List.mem_cons_of_mem _ (List.mem_cons_of_mem _ (List.mem_cons_self ..)))
  go_enter Tryd.func34, Tryd.ntmps34
  go_wp2_with fail
  refine (HX.out _ (by first | exact HC.out | exact HC.out.drew | exact HC.out.below (below_al (Below.refl _ _) _) | exact HC.out.drew.below (below_al (Below.refl _ _) _) | exact (HC.out.below (below_al (Below.refl _ _) _)).drew)).mono ?_
  rintro e w1 ⟨rfl, hb⟩
  have HRq := Lib.hid ((Frm.below (w := w) (bs := [(w.heap.size + 1 + 1, (.cells #[.int .i64 t.ix, .int .i64 t.er, .int .i64 t.gr, .int .i64 t.he, .int .i64 t.aT, .int .i64 t.dT, .int .i64 t.wT] 57)), (w.heap.size + 1, (rdBox r)), (w.heap.size, (stBox s (.slice A k c)))]) (by (repeat (with_reducible first | exact HR.out | apply Frm.drew | apply Frm.alloc))) hb).add (spBox lo hi) rfl)
  have HCq := Lib.hid (Chks.below (cs := cs) (by first | exact HC.out | exact HC.out.drew | exact HC.out.below (below_al (Below.refl _ _) _) | exact HC.out.drew.below (below_al (Below.refl _ _) _) | exact (HC.out.below (below_al (Below.refl _ _) _)).drew) hb |>.below (below_al (Below.refl _ _) (spBox lo hi)))
  clear HR HC hb x0 x1 x2
  have HR := HRq
  have HC := HCq
  clear HRq HCq
  have x0 := HR.out.cells (List.mem_cons_self ..)
  have x1 := HR.out.cells (List.mem_cons_of_mem _ (List.mem_cons_self ..))
  have x2 := HR.out.cells (List.mem_cons_of_mem _ (List.mem_cons_of_mem _ (List.mem_cons_self ..)))
  have x3 := HR.out.cells (List.mem_cons_of_mem _ (List.mem_cons_of_mem _ (List.mem_cons_of_mem _ (List.mem_cons_self ..))))
  go_wp2_with fail
  simp only [List.append_eq, List.cons_append, List.nil_append] at *
  cases q0 : betw t.ix lo hi
  · have Q0 := Lib.hid q0
    have HE := Lib.hid (show false = al by rw [← HV.out, q0]; simp)
    clear q0
    refine (in_is Q0.out _).mono ?_
    rintro e w' ⟨rfl, rfl⟩
    go_wp2_with fail
    go_ret
    exact ⟨ret_bool HE.out, HR.out.b⟩
  have Q0 := Lib.hid q0
  clear q0
  refine (in_is Q0.out _).mono ?_
  rintro e w' ⟨rfl, rfl⟩
  go_wp2_with fail
  cases q1 : betw t.er (-s.rd) s.rd
  · have Q1 := Lib.hid q1
    have HE := Lib.hid (show false = al by rw [← HV.out, Q0.out, q1]; simp)
    clear q1
    refine (in_is Q1.out _).mono ?_
    rintro e w' ⟨rfl, rfl⟩
    go_wp2_with fail
    go_ret
    exact ⟨ret_bool HE.out, HR.out.b⟩
  have Q1 := Lib.hid q1
  clear q1
  refine (in_is Q1.out _).mono ?_
  rintro e w' ⟨rfl, rfl⟩
  go_wp2_with fail
  cases q2 : betw t.gr s.gl s.gh
  · have Q2 := Lib.hid q2
    have HE := Lib.hid (show false = al by rw [← HV.out, Q0.out, Q1.out, q2]; simp)
    clear q2
    refine (in_is Q2.out _).mono ?_
    rintro e w' ⟨rfl, rfl⟩
    go_wp2_with fail
    go_ret
    exact ⟨ret_bool HE.out, HR.out.b⟩
  have Q2 := Lib.hid q2
  clear q2
  refine (in_is Q2.out _).mono ?_
  rintro e w' ⟨rfl, rfl⟩
  go_wp2_with fail
  cases q3 : betw t.he s.hl s.hh
  · have Q3 := Lib.hid q3
    have HE := Lib.hid (show false = al by rw [← HV.out, Q0.out, Q1.out, Q2.out, q3]; simp)
    clear q3
    refine (in_is Q3.out _).mono ?_
    rintro e w' ⟨rfl, rfl⟩
    go_wp2_with fail
    go_ret
    exact ⟨ret_bool HE.out, HR.out.b⟩
  have Q3 := Lib.hid q3
  clear q3
  refine (in_is Q3.out _).mono ?_
  rintro e w' ⟨rfl, rfl⟩
  go_wp2_with fail
  cases q4 : betw t.aT r.al r.ah
  · have Q4 := Lib.hid q4
    have HE := Lib.hid (show false = al by rw [← HV.out, Q0.out, Q1.out, Q2.out, Q3.out, q4]; simp)
    clear q4
    refine (in_is Q4.out _).mono ?_
    rintro e w' ⟨rfl, rfl⟩
    go_wp2_with fail
    go_ret
    exact ⟨ret_bool HE.out, HR.out.b⟩
  have Q4 := Lib.hid q4
  clear q4
  refine (in_is Q4.out _).mono ?_
  rintro e w' ⟨rfl, rfl⟩
  go_wp2_with fail
  cases q5 : betw t.dT r.dl r.dh
  · have Q5 := Lib.hid q5
    have HE := Lib.hid (show false = al by rw [← HV.out, Q0.out, Q1.out, Q2.out, Q3.out, Q4.out, q5]; simp)
    clear q5
    refine (in_is Q5.out _).mono ?_
    rintro e w' ⟨rfl, rfl⟩
    go_wp2_with fail
    go_ret
    exact ⟨ret_bool HE.out, HR.out.b⟩
  have Q5 := Lib.hid q5
  clear q5
  refine (in_is Q5.out _).mono ?_
  rintro e w' ⟨rfl, rfl⟩
  go_wp2_with fail
  cases q6 : betw t.wT r.wl r.wh
  · have Q6 := Lib.hid q6
    have HE := Lib.hid (show false = al by rw [← HV.out, Q0.out, Q1.out, Q2.out, Q3.out, Q4.out, Q5.out, q6]; simp)
    clear q6
    refine (in_is Q6.out _).mono ?_
    rintro e w' ⟨rfl, rfl⟩
    go_wp2_with fail
    go_ret
    exact ⟨ret_bool HE.out, HR.out.b⟩
  have Q6 := Lib.hid q6
  clear q6
  refine (in_is Q6.out _).mono ?_
  rintro e w' ⟨rfl, rfl⟩
  go_wp2_with fail
  have HE := Lib.hid (show true = al by rw [← HV.out, Q0.out, Q1.out, Q2.out, Q3.out, Q4.out, Q5.out, Q6.out]; rfl)
  go_ret
  exact ⟨ret_bool HE.out, HR.out.b⟩

theorem rTruth_is {s : Stn} {v : Value} {cs : List Chk} {r : Rdg} {t : Tru} {b : Bool} {w : World} (hc : Chks w v cs) (hg : Good s cs) (hr : r.Good) (h : allowB s cs r t = b) :
    Calls Tryd.prog 34 #[stV s v, rdV r, trV t] w fun e w' => e = .returned (.bool b) ∧ Below w.heap.size w w' := by
  rw [← h]; exact rTruth_any hc hg hr
end Go.Proofs.YtipckgojoanokaaDoor
