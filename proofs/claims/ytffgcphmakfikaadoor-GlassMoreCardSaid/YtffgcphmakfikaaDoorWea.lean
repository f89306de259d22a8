/- The weather of a reading in truth, by the program. -/
import Derived.Test.YtffgcphmakfikaaDoorHum
set_option linter.unusedVariables false
set_option linter.unusedSimpArgs false
namespace Go.Proofs.YtffgcphmakfikaaDoor
open Go.RowKit
attribute [local simp] Holds.alloc Holds.drew Holds.setCell

theorem here_bd {m : Int} {t : Tru} (ht : t.Sane) (h0 : 40000 ≤ m) (h1 : m ≤ 90000) :
    (30000 ≤ exactF m t ∧ exactF m t ≤ 95000) ∧ (20000 ≤ cooledF (exactF m t) t ∧ cooledF (exactF m t) t ≤ 97000) ∧ (10000 ≤ hereF m t ∧ hereF m t ≤ 100000) := by
  obtain ⟨i0, i1, e0, e1, g0, g1, -, -, a0, a1, -⟩ := ht
  have h2 : 30000 ≤ exactF m t ∧ exactF m t ≤ 95000 := by unfold exactF; omega
  unfold hereF
  generalize exactF m t = x at *
  obtain ⟨p0, p1⟩ := mul_bd (show 0 ≤ x by omega) h2.2 (show -500 ≤ t.aT by omega) a1
  have h3 : 20000 ≤ cooledF x t ∧ cooledF x t ≤ 97000 := by unfold cooledF; omega
  generalize cooledF x t = y at *
  obtain ⟨r0, r1⟩ := mul_bd (show 0 ≤ y by omega) h3.2 g0 g1
  refine ⟨h2, h3, ?_⟩
  unfold weighedF
  omega

def f3 (f : FuncId) (t : Tru) : Value := .func (.func f) #[trV t] #[]
set_option maxHeartbeats 1600000 in
set_option maxRecDepth 100000 in
theorem weather_any (m : Int) (t : Tru) (w : World) (ht : t.Sane) (hw : Holds w) (h0 : 40000 ≤ m) (h1 : m ≤ 90000) :
    Calls Tryd.prog 39 #[.int .i64 m, trV t] w fun e w' => e = .returned (weV (hereF m t) (loweredF (hereF m t) t) (humidF (hereF m t) t)) ∧ Below w.heap.size w w' := by
  obtain ⟨⟨x0, x1⟩, ⟨y0, y1⟩, ⟨z0, z1⟩⟩ := here_bd ht h0 h1
  go_enter Tryd.func39, Tryd.ntmps39
  go_wp2_with fail
  have i0 : ∀ (a b c : Value) (w : World), (Instr.index 105 (.agg #[a, b, c]) (.int .i64 0)).run Tryd.prog w = .ok a w := fun _ _ _ _ => by kernel_rfl
  have i1 : ∀ (a b c : Value) (w : World), (Instr.index 105 (.agg #[a, b, c]) (.int .i64 1)).run Tryd.prog w = .ok b w := fun _ _ _ _ => by kernel_rfl
  have i2 : ∀ (a b c : Value) (w : World), (Instr.index 105 (.agg #[a, b, c]) (.int .i64 2)).run Tryd.prog w = .ok c w := fun _ _ _ _ => by kernel_rfl
  go_loopw [5, 16] (fun h k wr => ((k = .int .i64 0 ∧ h = .int .i64 m) ∨ (k = .int .i64 1 ∧ h = .int .i64 (exactF m t)) ∨ (k = .int .i64 2 ∧ h = .int .i64 (cooledF (exactF m t) t)) ∨ (k = .int .i64 3 ∧ h = .int .i64 (hereF m t))) ∧ Below (w.heap.size + 2) ((w.alloc (.cells #[.int .i64 t.ix, .int .i64 t.er, .int .i64 t.gr, .int .i64 t.he, .int .i64 t.aT, .int .i64 t.dT, .int .i64 t.wT] 82)).alloc (.cells #[.int .i64 0, .int .i64 0, .int .i64 0] 53)) wr) (fun _ k _ => (3 - intOf k).toNat)
  case atStart => exact ⟨.inl ⟨rfl, rfl⟩, Below.refl _ _⟩
  case round =>
    obtain ⟨hk, hB⟩ := hrel
    have hB' := hB.size
    rcases hk with ⟨rfl, rfl⟩ | ⟨rfl, rfl⟩ | ⟨rfl, rfl⟩ | ⟨rfl, rfl⟩
    · go_wp2_with (go_at_call 58; refine (exact_any _ t _ ht (by omega) (by omega)).mono ?_; rintro e w1 ⟨rfl, hb1⟩)
      go_roundw
      case rel => exact ⟨.inr (.inl ⟨rfl, rfl⟩), hB.trans (hb1.mono (by simp at hB'; omega))⟩
      case measure => simp [intOf]
    · go_wp2_with (go_at_call 59; refine (cooled_any _ t _ ht (by omega) (by omega)).mono ?_; rintro e w1 ⟨rfl, hb1⟩)
      go_roundw
      case rel => exact ⟨.inr (.inr (.inl ⟨rfl, rfl⟩)), hB.trans (hb1.mono (by simp at hB'; omega))⟩
      case measure => simp [intOf]
    · go_wp2_with (go_at_call 60; refine (weighed_any _ t _ ht (by omega) (by omega)).mono ?_; rintro e w1 ⟨rfl, hb1⟩)
      go_roundw
      case rel => exact ⟨.inr (.inr (.inr ⟨rfl, rfl⟩)), hB.trans (hb1.mono (by simp at hB'; omega))⟩
      case measure => simp [intOf]
    · have hHo : Holds wr := (hw.below (((Below.refl _ _).alloc (Nat.le_refl _) _).alloc (by simp) _)).below (hB.mono (by simp))
      have HB0 := Lib.hid (((((Below.refl w.heap.size w).alloc (Nat.le_refl _) _).alloc (by simp) _).trans (hB.mono (by omega))) : Below w.heap.size w wr)
      have hcx : ∀ b o, b < w.heap.size + 2 → wr.cell? ⟨b, o, none⟩ = ((w.alloc (.cells #[.int .i64 t.ix, .int .i64 t.er, .int .i64 t.gr, .int .i64 t.he, .int .i64 t.aT, .int .i64 t.dT, .int .i64 t.wT] 82)).alloc (.cells #[.int .i64 0, .int .i64 0, .int .i64 0] 53)).cell? ⟨b, o, none⟩ := fun b o h => hB.cell (p := ⟨b, o, none⟩) h
      have hfx : ∀ b o, b < w.heap.size + 2 → wr.frozen? ⟨b, o, none⟩ = ((w.alloc (.cells #[.int .i64 t.ix, .int .i64 t.er, .int .i64 t.gr, .int .i64 t.he, .int .i64 t.aT, .int .i64 t.dT, .int .i64 t.wT] 82)).alloc (.cells #[.int .i64 0, .int .i64 0, .int .i64 0] 53)).frozen? ⟨b, o, none⟩ := fun b o h => hB.frozen (p := ⟨b, o, none⟩) h
      have d0 : wr.cell? ⟨w.heap.size, 0, none⟩ = some (.int .i64 t.ix) := (hcx _ _ (by omega)).trans (by go_simp)
      have d1 : wr.cell? ⟨w.heap.size, 1, none⟩ = some (.int .i64 t.er) := (hcx _ _ (by omega)).trans (by go_simp)
      have d2 : wr.cell? ⟨w.heap.size, 2, none⟩ = some (.int .i64 t.gr) := (hcx _ _ (by omega)).trans (by go_simp)
      have d3 : wr.cell? ⟨w.heap.size, 3, none⟩ = some (.int .i64 t.he) := (hcx _ _ (by omega)).trans (by go_simp)
      have d4 : wr.cell? ⟨w.heap.size, 4, none⟩ = some (.int .i64 t.aT) := (hcx _ _ (by omega)).trans (by go_simp)
      have d5 : wr.cell? ⟨w.heap.size, 5, none⟩ = some (.int .i64 t.dT) := (hcx _ _ (by omega)).trans (by go_simp)
      have d6 : wr.cell? ⟨w.heap.size, 6, none⟩ = some (.int .i64 t.wT) := (hcx _ _ (by omega)).trans (by go_simp)
      have q0 : wr.cell? ⟨w.heap.size + 1, 0, none⟩ = some (.int .i64 0) := (hcx _ _ (by omega)).trans (by go_simp)
      have r0 : wr.frozen? ⟨w.heap.size + 1, 0, none⟩ = false := (hfx _ _ (by omega)).trans (by go_simp)
      have q1 : wr.cell? ⟨w.heap.size + 1, 1, none⟩ = some (.int .i64 0) := (hcx _ _ (by omega)).trans (by go_simp)
      have r1 : wr.frozen? ⟨w.heap.size + 1, 1, none⟩ = false := (hfx _ _ (by omega)).trans (by go_simp)
      have q2 : wr.cell? ⟨w.heap.size + 1, 2, none⟩ = some (.int .i64 0) := (hcx _ _ (by omega)).trans (by go_simp)
      have r2 : wr.frozen? ⟨w.heap.size + 1, 2, none⟩ = false := (hfx _ _ (by omega)).trans (by go_simp)
      have hy1 : w.heap.size < wr.heap.size := by simp at hB'; omega
      have hy2 : w.heap.size + 1 < wr.heap.size := by simp at hB'; omega
      clear hcx hfx hB hB' i0 i1 i2
      generalize hx : hereF m t = x at *
      have Hx := Lib.hid hx
      clear hx
      go_wp2_with fail
      go_region_held3 (fun w' => w'.cell? ⟨w.heap.size, 0, none⟩ = some (.int .i64 t.ix) ∧ w'.cell? ⟨w.heap.size, 1, none⟩ = some (.int .i64 t.er) ∧ w'.cell? ⟨w.heap.size, 2, none⟩ = some (.int .i64 t.gr) ∧ w'.cell? ⟨w.heap.size, 3, none⟩ = some (.int .i64 t.he) ∧ w'.cell? ⟨w.heap.size, 4, none⟩ = some (.int .i64 t.aT) ∧ w'.cell? ⟨w.heap.size, 5, none⟩ = some (.int .i64 t.dT) ∧ w'.cell? ⟨w.heap.size, 6, none⟩ = some (.int .i64 t.wT) ∧ Holds w') ((simp (maxDischargeDepth := 10) [*, World.cell?_alloc_some, World.cell?_setCell_far])) ((first | (go_at_call 61; refine (lowered_any x t _ ht (by omega) (by omega)).mono ?_; rintro e w1 ⟨rfl, hb1⟩; have hHo := Holds.below (by first | assumption | (simp [*]; done)) hb1; have hN := fun o => hb1.cell (p := ⟨w.heap.size, o, none⟩) (by first | assumption | (simp <;> omega)); have hM := fun o => hb1.cell (p := ⟨w.heap.size + 1, o, none⟩) (by first | assumption | (simp <;> omega)); have hF := fun o => hb1.frozen (p := ⟨w.heap.size + 1, o, none⟩) (by first | assumption | (simp <;> omega)); have hz1 := hb1.size; (try simp at hz1); have hy1 : w.heap.size < w1.heap.size := (by omega); have hy2 : w.heap.size + 1 < w1.heap.size := (by omega); have HBx : Hid (Below w.heap.size w w1) := (by first | exact HB0.out.trans (hb1.mono HB0.out.size) | exact HB0.out.drew.trans (hb1.mono HB0.out.drew.size)); clear HB0; have HB0 := HBx; clear HBx hb1) | (go_at_call 62; refine (humidity_any x t _ ht (by first | assumption | (simp [*]; done)) (by omega) (by omega)).mono ?_; rintro e w1 ⟨rfl, hb1⟩; have hHo := Holds.below (by first | assumption | (simp [*]; done)) hb1; have hN := fun o => hb1.cell (p := ⟨w.heap.size, o, none⟩) (by first | assumption | (simp <;> omega)); have hM := fun o => hb1.cell (p := ⟨w.heap.size + 1, o, none⟩) (by first | assumption | (simp <;> omega)); have hF := fun o => hb1.frozen (p := ⟨w.heap.size + 1, o, none⟩) (by first | assumption | (simp <;> omega)); have hz1 := hb1.size; (try simp at hz1); have hy1 : w.heap.size < w1.heap.size := (by omega); have hy2 : w.heap.size + 1 < w1.heap.size := (by omega); have HBx : Hid (Below w.heap.size w w1) := (by first | exact HB0.out.trans (hb1.mono HB0.out.size) | exact HB0.out.drew.trans (hb1.mono HB0.out.drew.size)); clear HB0; have HB0 := HBx; clear HBx hb1)))
      go_wp2
      refine bodyPost_ret (v := weV x (loweredF x t) (humidF x t)) (by simp [results, Tryd.results39, go_sem, *]) rfl ⟨by rw [Hx.out], ?_⟩
      have hh := HB0.out
      exact ((hh.setCell (p := ⟨w.heap.size + 1, 0, none⟩) (by simp) _).setCell (p := ⟨w.heap.size + 1, 1, none⟩) (by simp) _).setCell (p := ⟨w.heap.size + 1, 2, none⟩) (by simp) _
end Go.Proofs.YtffgcphmakfikaaDoor
