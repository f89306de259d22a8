/- The humidity and the whole weather of a reading, by the program. -/
import Derived.Test.YtffgcphmakfikaaDoorTru
set_option linter.unusedVariables false
set_option linter.unusedSimpArgs false
namespace Go.Proofs.YtffgcphmakfikaaDoor
open Go.RowKit

theorem Holds.alloc {w : World} (h : Holds w) (o : Obj) : Holds (w.alloc o) := h.below ((Below.refl _ _).alloc (Nat.le_refl _) o)
theorem Holds.drew {w : World} (h : Holds w) : Holds w.drew := h.below (Below.refl _ _).drew
theorem Holds.drewN {w : World} (h : Holds w) : ∀ n : Nat, Holds (w.drewN n) := fun _ => ⟨h.1, h.2⟩
theorem Holds.setCell {w : World} (h : Holds w) {a : Addr} (ha : a.block ≠ 0) (v : Value) : Holds (w.setCell a v) :=
  ⟨by simpa [World.setCell] using h.1, fun i hi => (World.cell?_of_block (Below.heap_setCell w a v 0 (Ne.symm ha))).trans (h.2 i hi)⟩
attribute [local simp] Holds.alloc Holds.drew
theorem quiet_left {P : Program} {f : FuncId} {args : Array Value} {w : World} {n : Nat} {v : Value}
    (h : Calls P f args (w.drewN n) fun e w' => e = .returned v ∧ w.drewN n = w') : Calls P f args (w.drewN n) fun e w'' => e = .returned v ∧ ∃ m, w'' = w.drewN m :=
  h.mono fun _ _ ⟨he, hm⟩ => ⟨he, n, hm.symm⟩
theorem below_drewN {B : Nat} {a w : World} (h : Below B a w) (n : Nat) : Below B a (w.drewN n) := ⟨h.os, h.tape, h.output, h.size, h.block⟩

set_option maxHeartbeats 800000 in
theorem humidity_any (m : Int) (t : Tru) (w : World) (ht : t.Sane) (hw : Holds w) (h0 : 0 ≤ m) (h1 : m ≤ 200000) :
    Calls Tryd.prog 62 #[trV t, .int .i64 m] w fun e w' => e = .returned (.int .i64 (humidF m t)) ∧ Below w.heap.size w w' := by
  have d0 := ht.d0; have d1 := ht.d1; have w0 := ht.w0; have w1 := ht.w1
  have b0 : -300 ≤ bulbF t := by unfold bulbF; omega
  have b1 : bulbF t ≤ 500 := by unfold bulbF; omega
  have b2 : bulbF t ≤ t.dT := by unfold bulbF; omega
  obtain ⟨p0, p1⟩ := mul_bd h0 h1 (show -800 ≤ t.dT - bulbF t by omega) (show t.dT - bulbF t ≤ 800 by omega)
  obtain ⟨a0, a1⟩ := airF_bd b0 b1
  obtain ⟨c0, c1⟩ := airF_bd d0 d1
  obtain ⟨q0, q1⟩ := ediv_bd (n := m * (t.dT - bulbF t) * 8) (b := 100000) (N := 2000000000) (by omega) (by omega) (by omega)
  have v0 : -3000000000 ≤ vapourF m t := by unfold vapourF; omega
  have v1 : vapourF m t ≤ 3000000000 := by unfold vapourF; omega
  have Hb := Lib.hid (show min t.wT t.dT = bulbF t from rfl)
  have Hv := Lib.hid (show airF (bulbF t) - m * (t.dT - bulbF t) * 8 / 100000 = vapourF m t from rfl)
  have Hh := Lib.hid (show 100 * max (vapourF m t) 0 / airF t.dT = humidF m t from rfl)
  generalize bulbF t = bb at *
  go_enter Tryd.func62, Tryd.ntmps62
  go_wp2_with (go_at_call 54; refine (least_two _ t.dT _ _ _ (by go_simp)).mono ?_; rintro e w' ⟨rfl, rfl⟩; rw [Hb.out])
  have HW := Lib.hid ((hw.alloc (.cells #[.int .i64 t.ix, .int .i64 t.er, .int .i64 t.gr, .int .i64 t.he, .int .i64 t.aT, .int .i64 t.dT, .int .i64 t.wT] 82)).alloc (.cells #[.int .i64 t.dT] 3))
  have e1 : IntKind.i64.wrap (t.dT - bb) = t.dT - bb := IntWalk.i64_in _ (by omega)
  have e2 : IntKind.i64.wrap (m * (t.dT - bb)) = m * (t.dT - bb) := IntWalk.i64_in _ (by omega)
  have e3 : IntKind.i64.wrap (m * (t.dT - bb) * 8) = m * (t.dT - bb) * 8 := IntWalk.i64_in _ (by omega)
  have e4 : IntKind.i64.wrap (airF bb - m * (t.dT - bb) * 8 / 100000) = airF bb - m * (t.dT - bb) * 8 / 100000 := IntWalk.i64_in _ (by omega)
  go_quiet ((first | (go_at_call 74; exact quiet_left (hold_any bb _ (HW.out.drewN _) b0 b1)) | (go_at_call 73; exact quiet_left (quotient_any _ 100000 _ (by omega) (by omega) (by omega) (by omega)))))
  clear e1 e2 e3 e4
  go_wp2_with fail
  rw [Hv.out]
  rename_i nq _ _
  have HW2 := Lib.hid (HW.out.drewN nq)
  have c5 : (((w.alloc (.cells #[.int .i64 t.ix, .int .i64 t.er, .int .i64 t.gr, .int .i64 t.he, .int .i64 t.aT, .int .i64 t.dT, .int .i64 t.wT] 82)).alloc (.cells #[.int .i64 t.dT] 3)).drewN nq).cell? ⟨w.heap.size, 5, none⟩ = some (.int .i64 t.dT) := by go_simp
  have hB2 : Below w.heap.size w (((w.alloc (.cells #[.int .i64 t.ix, .int .i64 t.er, .int .i64 t.gr, .int .i64 t.he, .int .i64 t.aT, .int .i64 t.dT, .int .i64 t.wT] 82)).alloc (.cells #[.int .i64 t.dT] 3)).drewN nq) := below_drewN (((Below.refl _ _).alloc (Nat.le_refl _) _).alloc (by simp) _) nq
  have hz2 : w.heap.size < (((w.alloc (.cells #[.int .i64 t.ix, .int .i64 t.er, .int .i64 t.gr, .int .i64 t.he, .int .i64 t.aT, .int .i64 t.dT, .int .i64 t.wT] 82)).alloc (.cells #[.int .i64 t.dT] 3)).drewN nq).heap.size := by show w.heap.size < ((w.alloc _).alloc _).heap.size; simp; omega
  generalize (((w.alloc (.cells #[.int .i64 t.ix, .int .i64 t.er, .int .i64 t.gr, .int .i64 t.he, .int .i64 t.aT, .int .i64 t.dT, .int .i64 t.wT] 82)).alloc (.cells #[.int .i64 t.dT] 3)).drewN nq) = W2 at *
  have HB2 := Lib.hid hB2
  clear hB2
  generalize vapourF m t = vp at *
  generalize hA : airF t.dT = ad at *
  have HA := Lib.hid hA
  clear hA
  have hm0 : 0 ≤ max vp 0 := by omega
  have hm1 : max vp 0 ≤ 3000000000 := by omega
  have e2 : (100 * max vp 0).tdiv ad = 100 * max vp 0 / ad := Int.tdiv_eq_ediv_of_nonneg (by omega)
  obtain ⟨r0, r1⟩ := ediv_bd (n := 100 * max vp 0) (b := ad) (N := 300000000000) (by omega) (by omega) (by omega)
  have e1 : IntKind.i64.wrap (100 * max vp 0) = 100 * max vp 0 := IntWalk.i64_in _ (by omega)
  have e3 : IntKind.i64.wrap (100 * max vp 0 / ad) = 100 * max vp 0 / ad := IntWalk.i64_in _ (by omega)
  have e4 : (ad == 0) = false := by simp; omega
  have e5 : ¬ ad = 0 := by omega
  have HS := HW2.out
  go_region_held3 (fun w' => w'.cell? ⟨w.heap.size, 5, none⟩ = some (.int .i64 t.dT) ∧ Holds w') (go_keep)
    ((first | (go_at_call 53; refine (greatest_two _ 0 _ _ _ (by go_simp)).mono ?_; rintro e w' ⟨rfl, rfl⟩) | (go_at_call 74; refine (hold_any t.dT _ (by first | (simp [*]; done) | assumption) d0 d1).mono ?_; rintro e w' ⟨rfl, rfl⟩; rw [HA.out])))
  go_wp2
  go_ret
  exact ⟨ret_int Hh.out, HB2.out.trans (((Below.refl _ _).alloc (by omega) _).drew)⟩
end Go.Proofs.YtffgcphmakfikaaDoor
