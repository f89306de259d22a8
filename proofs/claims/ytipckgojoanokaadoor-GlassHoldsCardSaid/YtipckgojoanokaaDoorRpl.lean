/- The reference's quotients, air and weather. -/
import Derived.Test.YtipckgojoanokaaDoorRag
set_option linter.unusedVariables false
set_option linter.unusedSimpArgs false
namespace Go.Proofs.YtipckgojoanokaaDoor
open Go.RowKit Go.Maps

set_option maxHeartbeats 400000 in
theorem rDown_any (n b : Int) (w : World) (hn : -1000000000000000 ≤ n) (hn' : n ≤ 1000000000000000) (hb : 1 ≤ b) (hb' : b ≤ 1000000000) :
    Calls Tryd.prog 64 #[.int .i64 n, .int .i64 b] w fun e w' => e = .returned (.int .i64 (n / b)) ∧ w = w' := by
  obtain ⟨t0, t1⟩ := tdiv_bounds hb hn hn'
  by_cases h : n.tmod b < 0
  · have Hq := Lib.hid (quot_neg hb h)
    go_enter Tryd.func64, Tryd.ntmps64
    go_wp2
    go_ret
    exact ⟨ret_int Hq.out, rfl⟩
  · have Hq := Lib.hid (quot_pos hb (by omega : 0 ≤ n.tmod b))
    go_enter Tryd.func64, Tryd.ntmps64
    go_wp2
    go_ret
    exact ⟨ret_int Hq.out, rfl⟩

theorem air_cells (w : World) : ∀ i : Nat, i < 17 → (w.alloc (.cells #[Value.int .i64 38, Value.int .i64 61, Value.int .i64 96, Value.int .i64 144, Value.int .i64 216, Value.int .i64 316, Value.int .i64 458, Value.int .i64 654, Value.int .i64 921, Value.int .i64 1279, Value.int .i64 1753, Value.int .i64 2376, Value.int .i64 3182, Value.int .i64 4218, Value.int .i64 5532, Value.int .i64 7188, Value.int .i64 9251] 3)).cell? ⟨w.heap.size, i, none⟩ = some (.int .i64 (tabL.getD i 0)) := fun i hi => by
  rw [(boxCells (heap_new w (.cells #[Value.int .i64 38, Value.int .i64 61, Value.int .i64 96, Value.int .i64 144, Value.int .i64 216, Value.int .i64 316, Value.int .i64 458, Value.int .i64 654, Value.int .i64 921, Value.int .i64 1279, Value.int .i64 1753, Value.int .i64 2376, Value.int .i64 3182, Value.int .i64 4218, Value.int .i64 5532, Value.int .i64 7188, Value.int .i64 9251] 3) rfl)).1 i]
  have : ∀ i : Nat, i < 17 → (#[Value.int .i64 38, Value.int .i64 61, Value.int .i64 96, Value.int .i64 144, Value.int .i64 216, Value.int .i64 316, Value.int .i64 458, Value.int .i64 654, Value.int .i64 921, Value.int .i64 1279, Value.int .i64 1753, Value.int .i64 2376, Value.int .i64 3182, Value.int .i64 4218, Value.int .i64 5532, Value.int .i64 7188, Value.int .i64 9251] : Array Value)[i]? = some (.int .i64 (tabL.getD i 0)) := fun i hi => by
    match i, hi with
    | 0, _ => rfl
    | 1, _ => rfl
    | 2, _ => rfl
    | 3, _ => rfl
    | 4, _ => rfl
    | 5, _ => rfl
    | 6, _ => rfl
    | 7, _ => rfl
    | 8, _ => rfl
    | 9, _ => rfl
    | 10, _ => rfl
    | 11, _ => rfl
    | 12, _ => rfl
    | 13, _ => rfl
    | 14, _ => rfl
    | 15, _ => rfl
    | 16, _ => rfl
    | n + 17, h => omega
  exact this i hi

set_option maxHeartbeats 800000 in
theorem rAir_any (t : Int) (w : World) (h0 : -300 ≤ t) (h1 : t ≤ 500) :
    Calls Tryd.prog 65 #[.int .i64 t] w fun e w' => e = .returned (.int .i64 (airF t)) ∧ Below w.heap.size w w' := by
  obtain ⟨a, ha⟩ : ∃ a : Nat, t + 300 = a := ⟨(t + 300).toNat, by omega⟩
  obtain rfl : t = (a : Int) - 300 := by omega
  have HB := Lib.hid (below_al (Below.refl w.heap.size w) (.cells #[Value.int .i64 38, Value.int .i64 61, Value.int .i64 96, Value.int .i64 144, Value.int .i64 216, Value.int .i64 316, Value.int .i64 458, Value.int .i64 654, Value.int .i64 921, Value.int .i64 1279, Value.int .i64 1753, Value.int .i64 2376, Value.int .i64 3182, Value.int .i64 4218, Value.int .i64 5532, Value.int .i64 7188, Value.int .i64 9251] 3))
  have c0 := air_cells w (a / 50) (by omega)
  have p0 := tab_pos (a / 50) (by omega)
  by_cases hr : a % 50 = 0
  · have Hf := Lib.hid (show tabL.getD (a / 50) 0 = airF ((a : Int) - 300) by
      unfold airF tabF
      rw [if_pos (by omega)]
      congr 1
      omega)
    go_enter Tryd.func65, Tryd.ntmps65
    generalize tabL.getD (a / 50) 0 = x at *
    go_wp2
    go_ret
    exact ⟨ret_int Hf.out, HB.out⟩
  · have c1 := air_cells w (a / 50 + 1) (by omega)
    have p1 := tab_pos (a / 50 + 1) (by omega)
    have pm := tab_mono (a / 50) (by omega)
    have hnb : ((a : Int) % 50 == 0) = false := by simp; omega
    have hf : tabL.getD (a / 50) 0 + (tabL.getD (a / 50 + 1) 0 - tabL.getD (a / 50) 0) * ((a : Int) % 50) / 50 = airF ((a : Int) - 300) := by
      unfold airF tabF
      rw [if_neg (by omega), show ((a : Int) - 300 + 300) = a by omega, show ((a : Int) / 50).toNat = a / 50 by omega, show ((a : Int) / 50 + 1).toNat = a / 50 + 1 by omega]
    have Hf := Lib.hid hf
    clear hf
    generalize tabL.getD (a / 50) 0 = x at *
    generalize tabL.getD (a / 50 + 1) 0 = y at *
    have m0 : 0 ≤ (y - x) * ((a : Int) % 50) := Int.mul_nonneg (by omega) (by omega)
    have m1 : (y - x) * ((a : Int) % 50) ≤ 9251 * 50 := Int.mul_le_mul (by omega) (by omega) (by omega) (by omega)
    go_enter Tryd.func65, Tryd.ntmps65
    go_wp2_with fail
    have i1 : IntKind.i64.wrap ((a : Int) / 50 + 1) = (a : Int) / 50 + 1 := IntWalk.i64_in _ (by omega)
    have i2 : (0 : Int) ≤ (a : Int) / 50 := by omega
    have i3 : (a : Int) / 50 < 17 := by omega
    have i4 : (a : Int) / 50 + 1 < 17 := by omega
    have i5 : ((a : Int) / 50).toNat = a / 50 := by omega
    have i6 : ((a : Int) / 50 + 1).toNat = a / 50 + 1 := by omega
    have i7 : (0 : Int) ≤ (a : Int) / 50 + 1 := by omega
    have w1 : IntKind.i64.wrap (y - x) = y - x := IntWalk.i64_in _ (by omega)
    have w2 : IntKind.i64.wrap ((y - x) * ((a : Int) % 50)) = (y - x) * ((a : Int) % 50) := IntWalk.i64_in _ (by omega)
    have w3 : ((y - x) * ((a : Int) % 50)).tdiv 50 = (y - x) * ((a : Int) % 50) / 50 := Int.tdiv_eq_ediv_of_nonneg m0
    have w4 : IntKind.i64.wrap ((y - x) * ((a : Int) % 50) / 50) = (y - x) * ((a : Int) % 50) / 50 := IntWalk.i64_in _ (by omega)
    have w5 : IntKind.i64.wrap (x + (y - x) * ((a : Int) % 50) / 50) = x + (y - x) * ((a : Int) % 50) / 50 := IntWalk.i64_in _ (by omega)
    go_quiet (fail)
    go_wp2_with fail
    go_ret
    exact ⟨ret_int Hf.out, below_drewN HB.out _⟩

set_option maxHeartbeats 2000000 in
set_option maxRecDepth 100000 in
theorem rPlay_any (r : Rdg) (t : Tru) (w : World) (ht : t.Sane) (h0 : 40000 ≤ r.me) (h1 : r.me ≤ 90000) :
    Calls Tryd.prog 35 #[rdV r, trV t] w fun e w' => e = .returned (weF r.me t) ∧ Below w.heap.size w w' := by
  have HR : Hid (Frm w [(w.heap.size + 1 + 1, (.cells #[.int .i64 0, .int .i64 0, .int .i64 0] 59)), (w.heap.size + 1, (.cells #[.int .i64 t.ix, .int .i64 t.er, .int .i64 t.gr, .int .i64 t.he, .int .i64 t.aT, .int .i64 t.dT, .int .i64 t.wT] 57)), (w.heap.size, (rdBox r))] (((w.alloc (rdBox r)).alloc (.cells #[.int .i64 t.ix, .int .i64 t.er, .int .i64 t.gr, .int .i64 t.he, .int .i64 t.aT, .int .i64 t.dT, .int .i64 t.wT] 57)).alloc (.cells #[.int .i64 0, .int .i64 0, .int .i64 0] 59))) := Lib.hid ((((Frm.nil w).add _ (by simp)).add _ (by simp)).add _ (by simp))
  obtain ⟨hx, hy, hz⟩ := here_bd ht h0 h1
  obtain ⟨i0, i1, e0, e1, g0, g1, l0, l1, a0, a1, d0, d1, w0, w1⟩ := ht
  have HC := Lib.hid (show (r.me - t.ix - t.er) - (r.me - t.ix - t.er) * t.aT * 163 / 10000000 = cooledF (exactF r.me t) t from rfl)
  have HH := Lib.hid (show cooledF (exactF r.me t) t + cooledF (exactF r.me t) t * t.gr / 1000000 = hereF r.me t from rfl)
  have HL := Lib.hid (show hereF r.me t + hereF r.me t * t.he * 10 / (79900 + 29 * t.dT) = loweredF (hereF r.me t) t from rfl)
  have HV := Lib.hid (show max 0 (airF (bulbF t) - hereF r.me t * (t.dT - bulbF t) * 8 / 100000) = max (vapourF (hereF r.me t) t) 0 from Int.max_comm _ _)
  have HU := Lib.hid (show 100 * max (vapourF (hereF r.me t) t) 0 / airF t.dT = humidF (hereF r.me t) t from rfl)
  have HB := Lib.hid (show min t.wT t.dT = bulbF t from rfl)
  have hx2 : 30000 ≤ r.me - t.ix - t.er ∧ r.me - t.ix - t.er ≤ 95000 := hx
  have b0 : -300 ≤ bulbF t := by unfold bulbF; omega
  have b1 : bulbF t ≤ 500 := by unfold bulbF; omega
  have b2 : bulbF t ≤ t.dT := by unfold bulbF; omega
  obtain ⟨m0, m1⟩ := mul_bd (show 0 ≤ r.me - t.ix - t.er by omega) hx2.2 (show -500 ≤ t.aT by omega) a1
  obtain ⟨m2, m3⟩ := mul_bd (show 0 ≤ cooledF (exactF r.me t) t by omega) hy.2 g0 g1
  obtain ⟨m4, m5⟩ := mul_bd (show 0 ≤ hereF r.me t by omega) hz.2 (show -3000 ≤ t.he by omega) l1
  obtain ⟨m6, m7⟩ := mul_bd (show 0 ≤ hereF r.me t by omega) hz.2 (show -800 ≤ t.dT - bulbF t by omega) (show t.dT - bulbF t ≤ 800 by omega)
  obtain ⟨A0, A1⟩ := airF_bd b0 b1
  obtain ⟨D0, D1⟩ := airF_bd d0 d1
  obtain ⟨r0, r1⟩ := ediv_bd (n := hereF r.me t * t.he * 10) (b := 79900 + 29 * t.dT) (N := 10000000000) (by omega) (by omega) (by omega)
  obtain ⟨q0, q1⟩ := ediv_bd (n := hereF r.me t * (t.dT - bulbF t) * 8) (b := 100000) (N := 2000000000) (by omega) (by omega) (by omega)
  have v0 : 0 ≤ max (vapourF (hereF r.me t) t) 0 := by omega
  have v1 : max (vapourF (hereF r.me t) t) 0 ≤ 3000000000 := by unfold vapourF; omega
  obtain ⟨u0, u1⟩ := ediv_bd (n := 100 * max (vapourF (hereF r.me t) t) 0) (b := airF t.dT) (N := 300000000000) (by omega) (by omega) (by omega)
  have HAb : Hid (∀ W, Calls Tryd.prog 65 #[.int .i64 (bulbF t)] W fun e w' => e = .returned (.int .i64 (airF (bulbF t))) ∧ Below W.heap.size W w') := Lib.hid (fun W => rAir_any _ W b0 b1)
  have HAd : Hid (∀ W, Calls Tryd.prog 65 #[.int .i64 t.dT] W fun e w' => e = .returned (.int .i64 (airF t.dT)) ∧ Below W.heap.size W w') := Lib.hid (fun W => rAir_any _ W d0 d1)
  have HW := Lib.hid (show weF r.me t = weV (hereF r.me t) (loweredF (hereF r.me t) t) (humidF (hereF r.me t) t) from rfl)
  clear hx
  generalize weF r.me t = we at *
  generalize humidF (hereF r.me t) t = hu at *
  generalize loweredF (hereF r.me t) t = lo at *
  generalize max (vapourF (hereF r.me t) t) 0 = vp at *
  generalize hereF r.me t = z at *
  generalize cooledF (exactF r.me t) t = y at *
  generalize airF (bulbF t) = ab at *
  generalize airF t.dT = ad at *
  generalize bulbF t = bb at *
  have n2 : -(97000 * 3000) ≤ (r.me - t.ix - t.er - (r.me - t.ix - t.er) * t.aT * 163 / 10000000) * t.gr := by rw [HC.out]; exact m2
  have n3 : (r.me - t.ix - t.er - (r.me - t.ix - t.er) * t.aT * 163 / 10000000) * t.gr ≤ 97000 * 3000 := by rw [HC.out]; exact m3
  have n4 : -(100000 * 3000) ≤ (y + y * t.gr / 1000000) * t.he := by rw [HH.out]; exact m4
  have n5 : (y + y * t.gr / 1000000) * t.he ≤ 100000 * 3000 := by rw [HH.out]; exact m5
  go_enter Tryd.func35, Tryd.ntmps35
  go_wp2_with fail
  refine (rDown_any _ _ _ (by omega) (by omega) (by omega) (by omega)).mono ?_
  rintro e w' ⟨rfl, rfl⟩
  go_wp2_with fail
  rw [HC.out]
  clear n2 n3
  refine (rDown_any _ _ _ (by omega) (by omega) (by omega) (by omega)).mono ?_
  rintro e w' ⟨rfl, rfl⟩
  go_wp2_with fail
  rw [HH.out]
  clear n4 n5
  refine (rDown_any _ _ _ (by omega) (by omega) (by omega) (by omega)).mono ?_
  rintro e w' ⟨rfl, rfl⟩
  go_wp2_with fail
  rw [HL.out, HB.out]
  have x1 := HR.out.cells (List.mem_cons_of_mem _ (List.mem_cons_self ..))
  have s1 : IntKind.i64.wrap (t.dT - bb) = t.dT - bb := IntWalk.i64_in _ (by omega)
  have s2 : IntKind.i64.wrap (z * (t.dT - bb)) = z * (t.dT - bb) := IntWalk.i64_in _ (by omega)
  have s3 : IntKind.i64.wrap (z * (t.dT - bb) * 8) = z * (t.dT - bb) * 8 := IntWalk.i64_in _ (by omega)
  have s4 : IntKind.i64.wrap (ab - z * (t.dT - bb) * 8 / 100000) = ab - z * (t.dT - bb) * 8 / 100000 := IntWalk.i64_in _ (by omega)
  go_region_held3 (fun w' => (∀ o, w'.cell? ⟨w.heap.size + 1, o, none⟩ = #[Value.int .i64 t.ix, .int .i64 t.er, .int .i64 t.gr, .int .i64 t.he, .int .i64 t.aT, .int .i64 t.dT, .int .i64 t.wT][o]?)) ((exact (fun hF : Frm w [(w.heap.size + 1 + 1, (.cells #[.int .i64 0, .int .i64 0, .int .i64 0] 59)), (w.heap.size + 1, (.cells #[.int .i64 t.ix, .int .i64 t.er, .int .i64 t.gr, .int .i64 t.he, .int .i64 t.aT, .int .i64 t.dT, .int .i64 t.wT] 57)), (w.heap.size, (rdBox r))] _ => hF.cells (List.mem_cons_of_mem _ (List.mem_cons_self ..))) (by (repeat (with_reducible first | exact HR.out | apply Frm.drew | apply Frm.alloc))))) (first | (go_at_call 65; refine (HAb.out _).mono ?_; rintro e wa ⟨rfl, hba⟩; have HRq := Lib.hid (Frm.below (w := w) (bs := [(w.heap.size + 1 + 1, (.cells #[.int .i64 0, .int .i64 0, .int .i64 0] 59)), (w.heap.size + 1, (.cells #[.int .i64 t.ix, .int .i64 t.er, .int .i64 t.gr, .int .i64 t.he, .int .i64 t.aT, .int .i64 t.dT, .int .i64 t.wT] 57)), (w.heap.size, (rdBox r))]) (by (repeat (with_reducible first | exact HR.out | apply Frm.drew | apply Frm.alloc))) hba); clear HR; have HR := HRq; clear HRq hba) | (go_at_call 64; refine (rDown_any _ 100000 _ (by omega) (by omega) (by omega) (by omega)).mono ?_; rintro e wq ⟨rfl, rfl⟩))
  all_goals
    clear s1 s2 s3 s4 x1
    have x1 := HR.out.cells (List.mem_cons_of_mem _ (List.mem_cons_self ..))
    have x2 := HR.out.cells (List.mem_cons_self ..)
    have xf := HR.out.free (List.mem_cons_self ..)
    have xl := HR.out.lt (List.mem_cons_self ..)
    go_wp2_with fail
    rw [HV.out]
    refine (HAd.out _).mono ?_
    rintro e wd ⟨rfl, hbd⟩
    have HD := Lib.hid (HR.out.below hbd)
    clear hbd x1 x2 xf xl
    have x2 := HD.out.cells (List.mem_cons_self ..)
    have xf := HD.out.free (List.mem_cons_self ..)
    have xl := HD.out.lt (List.mem_cons_self ..)
    go_wp2_with fail
    refine (rDown_any _ _ _ (by omega) (by omega) (by omega) (by omega)).mono ?_
    rintro e wq ⟨rfl, rfl⟩
    rw [HU.out]
    go_wp2_with fail
    have u0 := (boxCells (heap_setCell_same (o := 2) (heap_setCell_same (o := 1) (heap_setCell_same (o := 0) (HD.out.h _ (List.mem_cons_self ..)) (.int .i64 z)) (.int .i64 lo)) (.int .i64 hu))).1
    refine bodyPost_ret (v := weV z lo hu) (by simp [results, Tryd.results35, go_sem, u0]) rfl ⟨by rw [HW.out], ?_⟩
    exact (below_set (below_set (below_set HD.out.b (by simp <;> omega) _) (by simp <;> omega) _) (by simp <;> omega) _)
end Go.Proofs.YtipckgojoanokaaDoor
