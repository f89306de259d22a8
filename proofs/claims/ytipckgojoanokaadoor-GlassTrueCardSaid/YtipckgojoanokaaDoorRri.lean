/- The reference's Fall and Rise. -/
import Derived.Test.YtipckgojoanokaaDoorRag
set_option linter.unusedVariables false
set_option linter.unusedSimpArgs false
namespace Go.Proofs.YtipckgojoanokaaDoor
open Go.RowKit Go.Maps

theorem fallHi_bd {s : Stn} {cs : List Chk} {a b : Int} (hs : Sane s cs) (a0 : 0 ≤ a) (a1 : a ≤ 400) (b0 : 0 ≤ b) (b1 : b ≤ 400) : -10000000 ≤ fallHi s cs a b ∧ fallHi s cs a b ≤ 10000000 := by
  have h := change_bounds hs.d0 hs.d1 a0 (show a ≤ 10000 by omega) b0 (show b ≤ 10000 by omega)
  have A1 := lowF_bd hs a0 a1; have A2 := highF_bd hs a0 a1; have B1 := lowF_bd hs b0 b1; have B2 := highF_bd hs b0 b1
  unfold fallHi
  omega
theorem fallLo_eq (s : Stn) (cs : List Chk) (a b : Int) : fallLo s cs a b = -fallHi s cs b a := by
  have : farI b a = farI a b := by unfold farI; omega
  unfold fallLo fallHi
  rw [this]
  omega

set_option maxHeartbeats 2000000 in
set_option maxRecDepth 100000 in
theorem rFall_any {s : Stn} {v : Value} {cs : List Chk} {a b : Int} {w : World} (hc : Chks w v cs) (hs : Sane s cs) (a0 : 0 ≤ a) (a1 : a ≤ 400) (b0 : 0 ≤ b) (b1 : b ≤ 400) :
    Calls Tryd.prog 69 #[stV s v, .int .i64 a, .int .i64 b] w fun e w' => e = .returned (.int .i64 (fallHi s cs a b)) ∧ Below w.heap.size w w' := by
  obtain ⟨A, k, c, rfl⟩ := hc.shape
  have hp := change_bounds hs.d0 hs.d1 a0 (show a ≤ 10000 by omega) b0 (show b ≤ 10000 by omega)
  have hfb := farI_bounds a0 (show a ≤ 10000 by omega) b0 (show b ≤ 10000 by omega)
  have A1 := lowF_bd hs a0 a1; have A2 := highF_bd hs a0 a1; have B1 := lowF_bd hs b0 b1; have B2 := highF_bd hs b0 b1
  have HV := Lib.hid (show min (highF s a cs - lowF s b cs) (s.dr * farI a b) = fallHi s cs a b from rfl)
  have HX : Hid (∀ W d, Chks W (.slice A k c) cs → 0 ≤ d → d ≤ 400 → Calls Tryd.prog 22 #[stV s (.slice A k c), .int .i64 d] W fun x w' => x = .returned (spV (lowF s d cs) (highF s d cs)) ∧ Below W.heap.size W w') := Lib.hid (fun W d h h0 h1 => rIndex_any h hs h0 h1)
  have HFa : Hid (∀ W, Calls Tryd.prog 55 #[.int .i64 a, .int .i64 b] W fun e w' => e = .returned (.int .i64 (farI a b)) ∧ W = w') := Lib.hid (fun W => far_any _ _ W (by omega) (by omega) (by omega) (by omega))
  generalize fallHi s cs a b = fv at *
  generalize farI a b = fd at *
  have e1 : IntKind.i64.wrap (highF s a cs - lowF s b cs) = highF s a cs - lowF s b cs := IntWalk.i64_in _ (by omega)
  have e2 : IntKind.i64.wrap (s.dr * fd) = s.dr * fd := IntWalk.i64_in _ (by omega)
  have HR : Hid (Frm w [(w.heap.size, (stBox s (.slice A k c)))] (w.alloc (stBox s (.slice A k c)))) := Lib.hid ((Frm.nil w).add _ rfl)
  have HC := Lib.hid (hc.below HR.out.b)
  clear hc
  have x0 := HR.out.cells (List.mem_cons_self ..)
  go_enter Tryd.func69, Tryd.ntmps69
  go_wp2_with fail
  have hf0 : ∀ (a b : Value) (W : World), (Instr.field 23 (.agg #[a, b]) 0).run Tryd.prog W = .ok a W := fun _ _ _ => by kernel_rfl
  have hf1 : ∀ (a b : Value) (W : World), (Instr.field 23 (.agg #[a, b]) 1).run Tryd.prog W = .ok b W := fun _ _ _ => by kernel_rfl
  go_region_held3 (fun w' => (∀ o, w'.cell? ⟨w.heap.size, o, none⟩ = #[Value.int .i64 s.hl, .int .i64 s.hh, .int .i64 s.gl, .int .i64 s.gh, .int .i64 s.dr, .int .i64 s.rd, .int .i64 s.ea, .int .i64 s.sl, .slice A k c][o]?)) ((exact (fun hF : Frm w [(w.heap.size, (stBox s (.slice A k c)))] _ => hF.cells (List.mem_cons_self ..)) (by (repeat (with_reducible first | exact HR.out | apply Frm.drew | apply Frm.alloc))))) (first | (go_at_call 22; refine (HX.out _ _ (by first | exact HC.out | exact HC.out.drew | exact HC.out.below (below_al (Below.refl _ _) _) | exact HC.out.drew.below (below_al (Below.refl _ _) _) | exact (HC.out.below (below_al (Below.refl _ _) _)).drew) (by omega) (by omega)).mono ?_; rintro e wa ⟨rfl, hba⟩; have HCq := Lib.hid (Chks.below (cs := cs) (by first | exact HC.out | exact HC.out.drew | exact HC.out.below (below_al (Below.refl _ _) _) | exact HC.out.drew.below (below_al (Below.refl _ _) _) | exact (HC.out.below (below_al (Below.refl _ _) _)).drew) hba); have HRq := Lib.hid (Frm.below (w := w) (bs := [(w.heap.size, (stBox s (.slice A k c)))]) (by (repeat (with_reducible first | exact HR.out | apply Frm.drew | apply Frm.alloc))) hba); clear HR HC; have HR := HRq; have HC := HCq; clear HRq HCq hba) | (go_at_call 55; refine (HFa.out _).mono ?_; rintro e wq ⟨rfl, rfl⟩))
  clear e1 e2 x0
  all_goals
    go_wp2_with fail
    go_ret
    exact ⟨ret_int HV.out, HR.out.b⟩

set_option maxHeartbeats 2000000 in
set_option maxRecDepth 100000 in
theorem rRise_any {s : Stn} {v : Value} {cs : List Chk} {ra rb : Rdg} {w : World} (hc : Chks w v cs) (hg : Good s cs) (ha : ra.Good) (hb : rb.Good) :
    Calls Tryd.prog 41 #[stV s v, rdV ra, rdV rb] w fun e w' => e = .returned (spV (riseF ra rb (fallLo s cs ra.day rb.day) (fallHi s cs ra.day rb.day) (-2 * s.rd) (2 * s.rd) 0) (riseF ra rb (fallLo s cs ra.day rb.day) (fallHi s cs ra.day rb.day) (-2 * s.rd) (2 * s.rd) 1)) ∧ Below w.heap.size w w' := by
  obtain ⟨A, k, c, rfl⟩ := hc.shape
  have a0 := ha.d0; have a1 := ha.d1; have b0 := hb.d0; have b1 := hb.d1; have ma0 := ha.b0; have ma1 := ha.b1; have mb0 := hb.b0; have mb1 := hb.b1; have r0 := hg.r0; have r1 := hg.r1
  have F1 := fallHi_bd hg.sane a0 a1 b0 b1
  have F2 := fallHi_bd hg.sane b0 b1 a0 a1
  have HX : Hid (∀ W d e, Chks W (.slice A k c) cs → 0 ≤ d → d ≤ 400 → 0 ≤ e → e ≤ 400 → Calls Tryd.prog 69 #[stV s (.slice A k c), .int .i64 d, .int .i64 e] W fun x w' => x = .returned (.int .i64 (fallHi s cs d e)) ∧ Below W.heap.size W w') := Lib.hid (fun W d e h h0 h1 h2 h3 => rFall_any h hg.sane h0 h1 h2 h3)
  have HV1 := Lib.hid (show rb.me - ra.me - fallHi s cs rb.day ra.day - 2 * s.rd = riseF ra rb (fallLo s cs ra.day rb.day) (fallHi s cs ra.day rb.day) (-2 * s.rd) (2 * s.rd) 0 by rw [fallLo_eq]; simp only [riseF, ofF, if_true]; omega)
  have HV2 := Lib.hid (show rb.me - ra.me + fallHi s cs ra.day rb.day + 2 * s.rd = riseF ra rb (fallLo s cs ra.day rb.day) (fallHi s cs ra.day rb.day) (-2 * s.rd) (2 * s.rd) 1 by simp [riseF, ofF])
  generalize riseF ra rb (fallLo s cs ra.day rb.day) (fallHi s cs ra.day rb.day) (-2 * s.rd) (2 * s.rd) 0 = v1 at *
  generalize riseF ra rb (fallLo s cs ra.day rb.day) (fallHi s cs ra.day rb.day) (-2 * s.rd) (2 * s.rd) 1 = v2 at *
  have HR : Hid (Frm w [(w.heap.size + 1 + 1 + 1, (spBox 0 0)), (w.heap.size + 1 + 1, (rdBox rb)), (w.heap.size + 1, (rdBox ra)), (w.heap.size, (stBox s (.slice A k c)))] ((((w.alloc (stBox s (.slice A k c))).alloc (rdBox ra)).alloc (rdBox rb)).alloc (spBox 0 0))) := Lib.hid (((((Frm.nil w).add _ (by simp)).add _ (by simp)).add _ (by simp)).add _ (by simp))
  have HC := Lib.hid (hc.below HR.out.b)
  clear hc
  have x0 := HR.out.cells (List.mem_cons_self ..)
  have x1 := HR.out.cells (List.mem_cons_of_mem _ (List.mem_cons_self ..))
  have x2 := HR.out.cells (List.mem_cons_of_mem _ (List.mem_cons_of_mem _ (List.mem_cons_self ..)))
  have x3 := HR.out.cells (List.mem_cons_of_mem _ (List.mem_cons_of_mem _ (List.mem_cons_of_mem _ (List.mem_cons_self ..))))
  go_enter Tryd.func41, Tryd.ntmps41
  go_upto_region 2 with fail
  have e1 : IntKind.i64.wrap (rb.me - ra.me - fallHi s cs rb.day ra.day) = rb.me - ra.me - fallHi s cs rb.day ra.day := IntWalk.i64_in _ (by omega)
  have e2 : IntKind.i64.wrap (2 * s.rd) = 2 * s.rd := IntWalk.i64_in _ (by omega)
  have e3 : IntKind.i64.wrap (rb.me - ra.me - fallHi s cs rb.day ra.day - 2 * s.rd) = rb.me - ra.me - fallHi s cs rb.day ra.day - 2 * s.rd := IntWalk.i64_in _ (by omega)
  have e4 : IntKind.i64.wrap (rb.me - ra.me + fallHi s cs ra.day rb.day) = rb.me - ra.me + fallHi s cs ra.day rb.day := IntWalk.i64_in _ (by omega)
  have e5 : IntKind.i64.wrap (rb.me - ra.me + fallHi s cs ra.day rb.day + 2 * s.rd) = rb.me - ra.me + fallHi s cs ra.day rb.day + 2 * s.rd := IntWalk.i64_in _ (by omega)
  go_region_held3 (fun w' => (∀ o, w'.cell? ⟨w.heap.size + 1 + 1, o, none⟩ = #[Value.int .i64 rb.day, .int .i64 rb.mi, .int .i64 rb.cl, .int .i64 rb.me, .int .i64 rb.al, .int .i64 rb.ah, .int .i64 rb.dl, .int .i64 rb.dh, .int .i64 rb.wl, .int .i64 rb.wh][o]?) ∧ (∀ o, w'.cell? ⟨w.heap.size + 1, o, none⟩ = #[Value.int .i64 ra.day, .int .i64 ra.mi, .int .i64 ra.cl, .int .i64 ra.me, .int .i64 ra.al, .int .i64 ra.ah, .int .i64 ra.dl, .int .i64 ra.dh, .int .i64 ra.wl, .int .i64 ra.wh][o]?) ∧ (∀ o, w'.cell? ⟨w.heap.size, o, none⟩ = #[Value.int .i64 s.hl, .int .i64 s.hh, .int .i64 s.gl, .int .i64 s.gh, .int .i64 s.dr, .int .i64 s.rd, .int .i64 s.ea, .int .i64 s.sl, .slice A k c][o]?)) ((exact (fun hF : Frm w [(w.heap.size + 1 + 1, (rdBox rb)), (w.heap.size + 1, (rdBox ra)), (w.heap.size, (stBox s (.slice A k c)))] _ => ⟨hF.cells (List.mem_cons_self ..), hF.cells (List.mem_cons_of_mem _ (List.mem_cons_self ..)), hF.cells (List.mem_cons_of_mem _ (List.mem_cons_of_mem _ (List.mem_cons_self ..)))⟩) (by (repeat (with_reducible first | exact HR.out | exact HR.out.less (fun p hp => List.mem_cons_of_mem _ hp) | apply Frm.drew | apply Frm.alloc | (refine Frm.set ?_ (by simp <;> omega) (by simp <;> omega) _)))))) ((go_at_call 69; refine (HX.out _ _ _ (by first | exact HC.out | exact HC.out.drew | exact HC.out.below (below_al (Below.refl _ _) _) | exact HC.out.drew.below (below_al (Below.refl _ _) _) | exact (HC.out.below (below_al (Below.refl _ _) _)).drew) (by omega) (by omega) (by omega) (by omega)).mono ?_; rintro e wa ⟨rfl, hba⟩; have HCq := Lib.hid (Chks.below (cs := cs) (by first | exact HC.out | exact HC.out.drew | exact HC.out.below (below_al (Below.refl _ _) _) | exact HC.out.drew.below (below_al (Below.refl _ _) _) | exact (HC.out.below (below_al (Below.refl _ _) _)).drew) hba); have HRq := Lib.hid (Frm.below (w := w) (bs := [(w.heap.size + 1 + 1 + 1, (spBox 0 0)), (w.heap.size + 1 + 1, (rdBox rb)), (w.heap.size + 1, (rdBox ra)), (w.heap.size, (stBox s (.slice A k c)))]) (by (repeat (with_reducible first | exact HR.out | apply Frm.drew | apply Frm.alloc))) hba); have zf := HRq.out.free (List.mem_cons_self ..); have zl := HRq.out.lt (List.mem_cons_self ..); have zc := HRq.out.cells (List.mem_cons_self ..); clear HR HC; have HR := HRq; have HC := HCq; clear HRq HCq hba))
  clear e1 e2 e3 e4 e5 x0 x1 x2 x3
  all_goals
    go_wp2_with fail
    have u0 := (boxCells (heap_setCell_same (o := 1) (heap_setCell_same (o := 0) (HR.out.h _ (List.mem_cons_self ..)) (.int .i64 (rb.me - ra.me - fallHi s cs rb.day ra.day - 2 * s.rd))) (.int .i64 (rb.me - ra.me + fallHi s cs ra.day rb.day + 2 * s.rd)))).1
    refine bodyPost_ret (v := spV (rb.me - ra.me - fallHi s cs rb.day ra.day - 2 * s.rd) (rb.me - ra.me + fallHi s cs ra.day rb.day + 2 * s.rd)) (by simp [results, Tryd.results41, go_sem, u0]) rfl ⟨by rw [HV1.out, HV2.out], ?_⟩
    exact (below_set (below_set HR.out.b (by simp <;> omega) _) (by simp <;> omega) _)
end Go.Proofs.YtipckgojoanokaaDoor
