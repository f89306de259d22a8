/- The reference's minutes of a reading. -/
import Derived.Test.YtkdbfpllibjniaaDoorRtr
import Derived.Test.YtkdbfpllibjniaaDoorWhn
set_option linter.unusedVariables false
set_option linter.unusedSimpArgs false
namespace Go.Proofs.YtkdbfpllibjniaaDoor
open Go.RowKit Go.Maps

theorem spCells_at : ∀ (l : List (Int × Int)) (i : Nat) (p : Int × Int), l[i]? = some p → (spCells l)[i * 2]? = some (.int .i64 p.1) ∧ (spCells l)[i * 2 + 1]? = some (.int .i64 p.2)
  | [], i, p, h => by simp at h
  | x :: r, 0, p, h => by
    obtain rfl : x = p := by simpa using h
    exact ⟨rfl, rfl⟩
  | x :: r, i + 1, p, h => by
    obtain ⟨a, b⟩ := spCells_at r i p (by simpa using h)
    rw [show (i + 1) * 2 = i * 2 + 2 by omega, show i * 2 + 2 + 1 = (i * 2 + 1) + 2 by omega]
    exact ⟨by simpa [spCells] using a, by simpa [spCells] using b⟩
theorem spsAt_of {W : World} {g : Nat} {l : List (Int × Int)} {T : TypeId} (h : W.heap[g]? = some (.cells (spCells l).toArray T)) : SpsAt W g 0 l := fun i p hi => by
  obtain ⟨hc, _⟩ := boxCells h
  obtain ⟨a, b⟩ := spCells_at l i p hi
  simp only [Nat.zero_add]
  exact ⟨(hc _).trans (by simpa using a), (hc _).trans (by simpa using b)⟩
set_option maxHeartbeats 800000 in
theorem rRail_at {r : Rdg} {w : World} (hr : r.Good) :
    Calls Tryd.prog 21 #[rdV r] w fun e w' => e = .returned (.int .i64 (railF r)) ∧ w.alloc (rdBox r) = w' := by
  have d0 := hr.d0; have d1 := hr.d1; have m0 := hr.m0; have m1 := hr.m1
  have HV := Lib.hid (show 1440 * r.day + r.mi = railF r from rfl)
  go_enter Tryd.func21, Tryd.ntmps21
  go_wp2
  go_ret
  exact ⟨ret_int HV.out, rfl⟩
set_option maxHeartbeats 800000 in
theorem rAround_at {s : Stn} {A : Option Addr} {k c : Nat} {n : Int} {w : World} (h0 : 0 ≤ s.sl) (h1 : s.sl ≤ 60) (n0 : -10000000 ≤ n) (n1 : n ≤ 10000000) :
    Calls Tryd.prog 45 #[stV s (.slice A k c), .int .i64 n] w fun e w' => e = .returned (spV (n - s.sl) (n + s.sl)) ∧ (w.alloc (stBox s (.slice A k c))).alloc (spBox (n - s.sl) (n + s.sl)) = w' := by
  go_enter Tryd.func45, Tryd.ntmps45
  go_wp2_with fail
  have u0 := (boxCells (heap_new (w.alloc (stBox s (.slice A k c))) (spBox (n - s.sl) (n + s.sl)) (k := w.heap.size + 1) (by simp))).1
  refine bodyPost_ret (v := spV (n - s.sl) (n + s.sl)) (by simp [results, Tryd.results45, go_sem, u0]) rfl ⟨rfl, rfl⟩
set_option maxHeartbeats 800000 in
theorem rSun_at {s : Stn} {r : Rdg} {A : Option Addr} {k c : Nat} {w : World} (hr : r.Good) (e0 : -720 ≤ s.ea) (e1 : s.ea ≤ 720) :
    Calls Tryd.prog 22 #[stV s (.slice A k c), rdV r] w fun e w' => e = .returned (.int .i64 (sunF s r)) ∧ (((w.alloc (stBox s (.slice A k c))).alloc (rdBox r)).drew).alloc (rdBox r) = w' := by
  have d0 := hr.d0; have d1 := hr.d1; have m0 := hr.m0; have m1 := hr.m1
  have HV := Lib.hid (show railF r - s.ea = sunF s r from by unfold railF sunF; omega)
  have hb : 0 ≤ railF r ∧ railF r ≤ 600000 := by unfold railF; omega
  have HX : Hid (∀ W, Calls Tryd.prog 21 #[rdV r] W fun e w' => e = .returned (.int .i64 (railF r)) ∧ W.alloc (rdBox r) = w') := Lib.hid (fun W => rRail_at hr)
  generalize railF r = ra at *
  obtain ⟨hb0, hb1⟩ := hb
  have HR : Hid (Frm w [(w.heap.size + 1, (rdBox r)), (w.heap.size, (stBox s (.slice A k c)))] ((w.alloc (stBox s (.slice A k c))).alloc (rdBox r))) := Lib.hid (((Frm.nil w).add _ (by simp)).add _ (by simp))
  have x0 := HR.out.cells (List.mem_cons_self ..)
  have x1 := HR.out.cells (List.mem_cons_of_mem _ (List.mem_cons_self ..))
  go_enter Tryd.func22, Tryd.ntmps22
  go_wp2_with fail
  go_region_held3 (fun w' => (∀ o, w'.cell? ⟨w.heap.size + 1, o, none⟩ = #[Value.int .i64 r.day, .int .i64 r.mi, .int .i64 r.cl, .int .i64 r.me, .int .i64 r.al, .int .i64 r.ah, .int .i64 r.dl, .int .i64 r.dh, .int .i64 r.wl, .int .i64 r.wh][o]?) ∧ (∀ o, w'.cell? ⟨w.heap.size, o, none⟩ = #[Value.int .i64 s.hl, .int .i64 s.hh, .int .i64 s.gl, .int .i64 s.gh, .int .i64 s.dr, .int .i64 s.rd, .int .i64 s.ea, .int .i64 s.sl, .slice A k c][o]?)) ((exact (fun hF : Frm w [(w.heap.size + 1, (rdBox r)), (w.heap.size, (stBox s (.slice A k c)))] _ => ⟨hF.cells (List.mem_cons_self ..), hF.cells (List.mem_cons_of_mem _ (List.mem_cons_self ..))⟩) (by (repeat (with_reducible first | exact HR.out | apply Frm.drew | apply Frm.alloc | apply Frm.drewN))))) ((go_at_call 21; refine (HX.out _).mono ?_; rintro e wa ⟨rfl, rfl⟩))
  all_goals
    go_wp2_with fail
    go_ret
    exact ⟨ret_int (by rw [IntWalk.i64_in _ (by omega)]; exact HV.out), rfl⟩

theorem Frm.swap2 {w W : World} {p q : Nat × Obj} {bs : List (Nat × Obj)} (h : Frm w (p :: q :: bs) W) : Frm w (q :: p :: bs) W := h.less (fun x hx => by simp only [List.mem_cons] at hx ⊢; rcases hx with h | h | h <;> simp [h])
set_option maxHeartbeats 4000000 in
set_option maxRecDepth 100000 in
theorem rWhen_any {s : Stn} {v : Value} {cs : List Chk} {r : Rdg} {w : World} (hc : Chks w v cs) (hg : Good s cs) (hr : r.Good) :
    Calls Tryd.prog 20 #[stV s v, rdV r] w fun x w' => OwnSpans w w' x (whenL s r) := by
  obtain ⟨A, k, c, rfl⟩ := hc.shape
  clear hc
  have e0 := hg.e0; have e1 := hg.e1; have s0 := hg.s0; have s1 := hg.s1
  have c0 := hr.c0; have c1 := hr.c1
  have d0 := hr.d0; have d1 := hr.d1; have m0 := hr.m0; have m1 := hr.m1
  have hra : 0 ≤ railF r ∧ railF r ≤ 600000 := by unfold railF; omega
  have hsu : -720 ≤ sunF s r ∧ sunF s r ≤ 600720 := by unfold sunF; omega
  obtain ⟨a0, a1⟩ := hra
  obtain ⟨b0, b1⟩ := hsu
  have HL : Hid (whenL s r = if r.cl = 1 then [(railF r - s.sl, railF r + s.sl)] else if r.cl = 2 then [(sunF s r - s.sl, sunF s r + s.sl)] else if max (railF r) (sunF s r) - s.sl ≤ min (railF r) (sunF s r) + s.sl + 1 then [(min (railF r) (sunF s r) - s.sl, max (railF r) (sunF s r) + s.sl)] else [(min (railF r) (sunF s r) - s.sl, min (railF r) (sunF s r) + s.sl), (max (railF r) (sunF s r) - s.sl, max (railF r) (sunF s r) + s.sl)]) := Lib.hid rfl
  have HRA : Hid (∀ W, Calls Tryd.prog 21 #[rdV r] W fun e w' => e = .returned (.int .i64 (railF r)) ∧ W.alloc (rdBox r) = w') := Lib.hid (fun W => rRail_at hr)
  have HSU : Hid (∀ W, Calls Tryd.prog 22 #[stV s (.slice A k c), rdV r] W fun e w' => e = .returned (.int .i64 (sunF s r)) ∧ (((W.alloc (stBox s (.slice A k c))).alloc (rdBox r)).drew).alloc (rdBox r) = w') := Lib.hid (fun W => rSun_at hr e0 e1)
  have HA1 : Hid (∀ W, Calls Tryd.prog 45 #[stV s (.slice A k c), .int .i64 (railF r)] W fun e w' => e = .returned (spV (railF r - s.sl) (railF r + s.sl)) ∧ (W.alloc (stBox s (.slice A k c))).alloc (spBox (railF r - s.sl) (railF r + s.sl)) = w') := Lib.hid (fun W => rAround_at s0 s1 (by omega) (by omega))
  have HA2 : Hid (∀ W, Calls Tryd.prog 45 #[stV s (.slice A k c), .int .i64 (sunF s r)] W fun e w' => e = .returned (spV (sunF s r - s.sl) (sunF s r + s.sl)) ∧ (W.alloc (stBox s (.slice A k c))).alloc (spBox (sunF s r - s.sl) (sunF s r + s.sl)) = w') := Lib.hid (fun W => rAround_at s0 s1 (by omega) (by omega))
  generalize whenL s r = l at *
  generalize railF r = ra at *
  generalize sunF s r = su at *
  have HR : Hid (Frm w [(w.heap.size + 1, (rdBox r)), (w.heap.size, (stBox s (.slice A k c)))] ((w.alloc (stBox s (.slice A k c))).alloc (rdBox r))) := Lib.hid (((Frm.nil w).add _ (by simp)).add _ (by simp))
  have x0 := HR.out.cells (List.mem_cons_self ..)
  have x1 := HR.out.cells (List.mem_cons_of_mem _ (List.mem_cons_self ..))
  clear d0 d1 m0 m1 hg hr
  go_enter Tryd.func20, Tryd.ntmps20
  go_wp2_with fail
  go_cut [5, 6] (fun s5 s6 wx => ∃ P Q : Nat, P ≠ Q ∧ w.heap.size + 1 < P ∧ w.heap.size + 1 < Q ∧ s5 = .pointer (some ⟨P, 0, none⟩) ∧ s6 = .pointer (some ⟨Q, 0, none⟩) ∧ Frm w [(P, (spBox (ra - s.sl) (ra + s.sl))), (Q, (spBox (su - s.sl) (su + s.sl))), (w.heap.size + 1, (rdBox r)), (w.heap.size, (stBox s (.slice A k c)))] wx)
  case first =>
    go_region_held3 (fun w' => (∀ o, w'.cell? ⟨w.heap.size + 1, o, none⟩ = #[Value.int .i64 r.day, .int .i64 r.mi, .int .i64 r.cl, .int .i64 r.me, .int .i64 r.al, .int .i64 r.ah, .int .i64 r.dl, .int .i64 r.dh, .int .i64 r.wl, .int .i64 r.wh][o]?) ∧ (∀ o, w'.cell? ⟨w.heap.size, o, none⟩ = #[Value.int .i64 s.hl, .int .i64 s.hh, .int .i64 s.gl, .int .i64 s.gh, .int .i64 s.dr, .int .i64 s.rd, .int .i64 s.ea, .int .i64 s.sl, .slice A k c][o]?)) ((exact (fun hF : Frm w [(w.heap.size + 1, (rdBox r)), (w.heap.size, (stBox s (.slice A k c)))] _ => ⟨hF.cells (List.mem_cons_self ..), hF.cells (List.mem_cons_of_mem _ (List.mem_cons_self ..))⟩) (by (repeat (with_reducible first | exact HR.out | apply Frm.drew | apply Frm.alloc | apply Frm.drewN))))) (first | (go_at_call 21; refine (HRA.out _).mono ?_; rintro e wa ⟨rfl, rfl⟩) | (go_at_call 22; refine (HSU.out _).mono ?_; rintro e wa ⟨rfl, rfl⟩) | (go_at_call 45; (first | (with_reducible refine (HA1.out _).mono ?_) | (with_reducible refine (HA2.out _).mono ?_)); rintro e wa ⟨rfl, rfl⟩))
    all_goals
      go_wp2_with fail
      go_meet
      refine ⟨_, _, ?_, ?_, ?_, rfl, rfl, ⟨?_, fun p hp => ?_⟩⟩
      · simp <;> omega
      · simp <;> omega
      · simp <;> omega
      · (repeat (with_reducible first | exact HR.out.b | apply below_dr | apply below_al))
      · simp only [List.mem_cons, List.not_mem_nil, or_false] at hp
        rcases hp with rfl | rfl | rfl | rfl
        · (repeat (with_reducible first | (refine heap_new _ _ ?_; (simp; done)) | apply blk_dr | apply blk_alloc))
        · (repeat (with_reducible first | (refine heap_new _ _ ?_; (simp; done)) | apply blk_dr | apply blk_alloc))
        · (repeat (with_reducible first | exact HR.out.h _ (List.mem_cons_self ..) | apply blk_dr | apply blk_alloc))
        · (repeat (with_reducible first | exact HR.out.h _ (List.mem_cons_of_mem _ (List.mem_cons_self ..)) | apply blk_dr | apply blk_alloc))
  case rest =>
  obtain ⟨P, Q, hPQ, hP, hQ, rfl, rfl, hF⟩ := hcut
  clear HR x0 x1 HRA HSU HA1 HA2
  have HR := Lib.hid hF
  clear hF
  have x0 := HR.out.cells (List.mem_cons_self ..)
  have x1 := HR.out.cells (List.mem_cons_of_mem _ (List.mem_cons_self ..))
  have x2 := HR.out.cells (List.mem_cons_of_mem _ (List.mem_cons_of_mem _ (List.mem_cons_self ..)))
  have x3 := HR.out.cells (List.mem_cons_of_mem _ (List.mem_cons_of_mem _ (List.mem_cons_of_mem _ (List.mem_cons_self ..))))
  have f0 := HR.out.free (List.mem_cons_self ..)
  have f1 := HR.out.free (List.mem_cons_of_mem _ (List.mem_cons_self ..))
  by_cases k1 : r.cl = 1
  · have HE := Lib.hid (show l = [(ra - s.sl, ra + s.sl)] by rw [HL.out, if_pos k1])
    go_wp2_with fail
    go_ret
    exact ⟨_, HR.out.size, by rw [HE.out]; rfl, by rw [HE.out]; exact heap_new _ _ rfl, HR.out.b.alloc HR.out.size _⟩
  by_cases k2 : r.cl = 2
  · have HE := Lib.hid (show l = [(su - s.sl, su + s.sl)] by rw [HL.out, if_neg k1, if_pos k2])
    go_wp2_with fail
    go_ret
    exact ⟨_, HR.out.size, by rw [HE.out]; rfl, by rw [HE.out]; exact heap_new _ _ rfl, HR.out.b.alloc HR.out.size _⟩
  by_cases o1 : su < ra
  · have hmx : max ra su = ra := by omega
    have hmn : min ra su = su := by omega
    have HM := Lib.hid (And.intro hmx hmn)
    clear hmx hmn
    by_cases o2 : ra - s.sl ≤ su + s.sl + 1
    · have HE := Lib.hid (show l = [(su - s.sl, ra + s.sl)] by rw [HL.out, if_neg k1, if_neg k2, HM.out.1, HM.out.2, if_pos o2])
      go_upto_region 8 with fail
      have HRq : Hid (Frm w [(P, (spBox (su - s.sl) (su + s.sl))), (Q, (spBox (ra - s.sl) (ra + s.sl))), (w.heap.size + 1, (rdBox r)), (w.heap.size, (stBox s (.slice A k c)))] _) := Lib.hid (show Frm w [(P, (spBox (su - s.sl) (su + s.sl))), (Q, (spBox (ra - s.sl) (ra + s.sl))), (w.heap.size + 1, (rdBox r)), (w.heap.size, (stBox s (.slice A k c)))] _ from Frm.swap2 (Frm.put (Frm.put (Frm.swap2 (Frm.put (Frm.put HR.out (by omega) (by simp <;> omega) 0 _) (by omega) (by simp <;> omega) 1 _)) (by omega) (by simp <;> omega) 0 _) (by omega) (by simp <;> omega) 1 _))
      have hwc : w.heap.size ≤ wc.heap.size := HR.out.size
      clear HR x0 x1 x2 x3 f0 f1
      have HR := HRq
      clear HRq
      have x0 := HR.out.cells (List.mem_cons_self ..)
      have x1 := HR.out.cells (List.mem_cons_of_mem _ (List.mem_cons_self ..))
      have x2 := HR.out.cells (List.mem_cons_of_mem _ (List.mem_cons_of_mem _ (List.mem_cons_self ..)))
      have x3 := HR.out.cells (List.mem_cons_of_mem _ (List.mem_cons_of_mem _ (List.mem_cons_of_mem _ (List.mem_cons_self ..))))
      go_wp2_with fail
      go_ret
      exact ⟨wc.heap.size, hwc, by rw [HE.out]; rfl, by rw [HE.out]; exact heap_new _ _ (by simp), HR.out.b.alloc HR.out.size _⟩
    · have HE := Lib.hid (show l = [(su - s.sl, su + s.sl), (ra - s.sl, ra + s.sl)] by rw [HL.out, if_neg k1, if_neg k2, HM.out.1, HM.out.2, if_neg o2])
      go_upto_region 8 with fail
      have HRq : Hid (Frm w [(P, (spBox (su - s.sl) (su + s.sl))), (Q, (spBox (ra - s.sl) (ra + s.sl))), (w.heap.size + 1, (rdBox r)), (w.heap.size, (stBox s (.slice A k c)))] _) := Lib.hid (show Frm w [(P, (spBox (su - s.sl) (su + s.sl))), (Q, (spBox (ra - s.sl) (ra + s.sl))), (w.heap.size + 1, (rdBox r)), (w.heap.size, (stBox s (.slice A k c)))] _ from Frm.swap2 (Frm.put (Frm.put (Frm.swap2 (Frm.put (Frm.put HR.out (by omega) (by simp <;> omega) 0 _) (by omega) (by simp <;> omega) 1 _)) (by omega) (by simp <;> omega) 0 _) (by omega) (by simp <;> omega) 1 _))
      have hwc : w.heap.size ≤ wc.heap.size := HR.out.size
      clear HR x0 x1 x2 x3 f0 f1
      have HR := HRq
      clear HRq
      have x0 := HR.out.cells (List.mem_cons_self ..)
      have x1 := HR.out.cells (List.mem_cons_of_mem _ (List.mem_cons_self ..))
      have x2 := HR.out.cells (List.mem_cons_of_mem _ (List.mem_cons_of_mem _ (List.mem_cons_self ..)))
      have x3 := HR.out.cells (List.mem_cons_of_mem _ (List.mem_cons_of_mem _ (List.mem_cons_of_mem _ (List.mem_cons_self ..))))
      go_wp2_with fail
      go_ret
      exact ⟨wc.heap.size, hwc, by rw [HE.out]; rfl, by rw [HE.out]; exact heap_new _ _ (by simp), HR.out.b.alloc HR.out.size _⟩
  · have hmx : max ra su = su := by omega
    have hmn : min ra su = ra := by omega
    have HM := Lib.hid (And.intro hmx hmn)
    clear hmx hmn
    by_cases o2 : su - s.sl ≤ ra + s.sl + 1
    · have HE := Lib.hid (show l = [(ra - s.sl, su + s.sl)] by rw [HL.out, if_neg k1, if_neg k2, HM.out.1, HM.out.2, if_pos o2])
      go_wp2_with fail
      go_ret
      exact ⟨_, HR.out.size, by rw [HE.out]; rfl, by rw [HE.out]; exact heap_new _ _ rfl, HR.out.b.alloc HR.out.size _⟩
    · have HE := Lib.hid (show l = [(ra - s.sl, ra + s.sl), (su - s.sl, su + s.sl)] by rw [HL.out, if_neg k1, if_neg k2, HM.out.1, HM.out.2, if_neg o2])
      go_wp2_with fail
      go_ret
      exact ⟨_, HR.out.size, by rw [HE.out]; rfl, by rw [HE.out]; exact heap_new _ _ rfl, HR.out.b.alloc HR.out.size _⟩
end Go.Proofs.YtkdbfpllibjniaaDoor
