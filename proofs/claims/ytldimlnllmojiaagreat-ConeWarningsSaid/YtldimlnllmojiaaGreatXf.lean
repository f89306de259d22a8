/- Part of a claim on cone. -/
import Derived.Test.YtldimlnllmojiaaGreatXc
import Derived.Test.YtldimlnllmojiaaGreatXo
set_option linter.unusedVariables false
set_option linter.unusedSimpArgs false
namespace Go.Proofs.YtldimlnllmojiaaGreat
open Go.RowKit
open Go.Shelf
open Go.Maps
set_option maxHeartbeats 2000000 in
set_option maxRecDepth 100000 in
theorem rBoat_is {llo lhi alo ahi : Int} {w : World} {v : Bool} (hv : boatB llo lhi alo ahi = v) :
    Calls Tryz.prog 41 #[.agg #[.int .i64 llo, .int .i64 lhi, .int .i64 alo, .int .i64 ahi]] w fun e w' => e = .returned (.bool v) ∧ Below w.heap.size w w' := by
  subst hv
  unfold boatB
  cases hs1 : spanB llo lhi 20000
  · have HS1 := Lib.hid hs1
    have HS2 := HS1
    simp only [Bool.false_and]
    go_enter Tryz.func41, Tryz.ntmps41
    have HR := Lib.hid ((Frm.nil w).add (.cells #[.int .i64 llo, .int .i64 lhi, .int .i64 alo, .int .i64 ahi] 63) rfl)
    have x0 := HR.out.cells mZ
    go_wp2_with (go_at_call 62; refine (rSpan_any _ _ _ _).mono ?_; rintro e wq ⟨rfl, rfl⟩; first | rw [HS1.out] | rw [HS2.out])
    all_goals exact bodyPost_ret (v := .bool false) (by simp [results, Tryz.results41, go_sem]) rfl ⟨rfl, (Frm.b (w := w) (by (repeat (with_reducible first | exact HR.out | apply Frm.drew | apply Frm.alloc | apply Frm.drewN))))⟩
  have HS1 := Lib.hid hs1
  have hb : 0 ≤ llo ∧ llo ≤ lhi ∧ lhi ≤ 20000 := by simpa [spanB, and_assoc] using hs1
  have e1 : IntKind.i64.wrap (lhi - llo) = lhi - llo := IntWalk.i64_in _ (by omega)
  clear hs1
  by_cases hna : lhi - llo ≤ 300
  rotate_left
  · have HS2 := HS1
    rw [show decide (lhi - llo ≤ 300) = false by simp [hna]]
    simp only [Bool.true_and, Bool.false_and]
    go_enter Tryz.func41, Tryz.ntmps41
    have HR := Lib.hid ((Frm.nil w).add (.cells #[.int .i64 llo, .int .i64 lhi, .int .i64 alo, .int .i64 ahi] 63) rfl)
    have x0 := HR.out.cells mZ
    go_wp2_with (go_at_call 62; refine (rSpan_any _ _ _ _).mono ?_; rintro e wq ⟨rfl, rfl⟩; first | rw [HS1.out] | rw [HS2.out])
    all_goals exact bodyPost_ret (v := .bool false) (by simp [results, Tryz.results41, go_sem]) rfl ⟨rfl, (Frm.b (w := w) (by (repeat (with_reducible first | exact HR.out | apply Frm.drew | apply Frm.alloc | apply Frm.drewN))))⟩
  rw [show decide (lhi - llo ≤ 300) = true by simp [hna]]
  cases hs2 : spanB alo ahi 50000
  · have HS2 := Lib.hid hs2
    clear hs2
    simp only [Bool.true_and]
    go_enter Tryz.func41, Tryz.ntmps41
    have HR := Lib.hid ((Frm.nil w).add (.cells #[.int .i64 llo, .int .i64 lhi, .int .i64 alo, .int .i64 ahi] 63) rfl)
    have x0 := HR.out.cells mZ
    go_wp2_with (go_at_call 62; refine (rSpan_any _ _ _ _).mono ?_; rintro e wq ⟨rfl, rfl⟩; first | rw [HS1.out] | rw [HS2.out])
    all_goals exact bodyPost_ret (v := .bool false) (by simp [results, Tryz.results41, go_sem]) rfl ⟨rfl, (Frm.b (w := w) (by (repeat (with_reducible first | exact HR.out | apply Frm.drew | apply Frm.alloc | apply Frm.drewN))))⟩
  have HS2 := Lib.hid hs2
  clear hs2
  simp only [Bool.true_and]
  go_enter Tryz.func41, Tryz.ntmps41
  have HR := Lib.hid ((Frm.nil w).add (.cells #[.int .i64 llo, .int .i64 lhi, .int .i64 alo, .int .i64 ahi] 63) rfl)
  have x0 := HR.out.cells mZ
  go_wp2_with (go_at_call 62; refine (rSpan_any _ _ _ _).mono ?_; rintro e wq ⟨rfl, rfl⟩; first | rw [HS1.out] | rw [HS2.out])
  all_goals exact bodyPost_ret (v := .bool true) (by simp [results, Tryz.results41, go_sem]) rfl ⟨rfl, (Frm.b (w := w) (by (repeat (with_reducible first | exact HR.out | apply Frm.drew | apply Frm.alloc | apply Frm.drewN))))⟩
def warI (m : Wn) (rs : List Rep) (ls : List Lnk) (x : Prt) (llo lhi alo ahi : Int) : Int := wordI ((minsL llo lhi).all (fun t => decide (upI m rs ls x t = 3) && decide (ahi ≤ farB m x t))) ((minsL llo lhi).any (fun t => !decide (upI m rs ls x t = 1) && decide (alo ≤ farB m x t)))
theorem wordI_is (a s : Bool) : wordI a s = 1 ∨ wordI a s = 2 ∨ wordI a s = 3 := by cases a <;> cases s <;> simp [wordI]
set_option maxHeartbeats 8000000 in
set_option maxRecDepth 100000 in
theorem rWarned_any {m : Wn} {A1 A2 A3 : Option Addr} {rs : List Rep} {ls : List Lnk} {ps : List Prt} {c1 c2 c3 : Nat} {j : Nat} {x : Prt} {llo lhi alo ahi : Int} {w : World} (h1 : Reps w (.slice A1 rs.length c1) rs) (h2 : Lnks w (.slice A2 ls.length c2) ls) (h3 : Prts w (.slice A3 ps.length c3) ps) (hx : ps[j]? = some x) (hs : Sane m rs ls ps) (hbt : boatB llo lhi alo ahi = true) :
    Calls Tryz.prog 42 #[wtV m (.slice A1 rs.length c1) (.slice A2 ls.length c2) (.slice A3 ps.length c3), .int .i64 j, .agg #[.int .i64 llo, .int .i64 lhi, .int .i64 alo, .int .i64 ahi]] w fun e w' => e = .returned (.int .i64 (warI m rs ls x llo lhi alo ahi)) ∧ Below w.heap.size w w' := by
  have hb := boat_bounds hbt
  have HSI : Hid (∀ V, Below w.heap.size w V → ∀ t, 0 ≤ t ∧ t ≤ 20000 → Calls Tryz.prog 38 #[wtV m (.slice A1 rs.length c1) (.slice A2 ls.length c2) (.slice A3 ps.length c3), .int .i64 j, .int .i64 t] V fun e w' => e = .returned (.int .i64 (farB m x t)) ∧ Below V.heap.size V w') := Lib.hid fun V hV t ht => rSight_is (Rws.below h3 hV (Nat.le_refl _)) hx (by have := hs.d0; have := hs.d1; have := hs.d2; omega) ht rfl
  have HUP : Hid (∀ V, Below w.heap.size w V → ∀ t, 0 ≤ t ∧ t ≤ 20000 → Calls Tryz.prog 35 #[wtV m (.slice A1 rs.length c1) (.slice A2 ls.length c2) (.slice A3 ps.length c3), .int .i64 j, .int .i64 t] V fun e w' => e = .returned (.int .i64 (upI m rs ls x t)) ∧ Below V.heap.size V w') := Lib.hid fun V hV t ht => rUp_any (Rws.below h1 hV (Nat.le_refl _)) (Rws.below h2 hV (Nat.le_refl _)) (Rws.below h3 hV (Nat.le_refl _)) hx hs ht
  clear h1 h2 h3 hx hs hbt
  go_enter Tryz.func42, Tryz.ntmps42
  go_upto_region 1 with fail
  have HR := Lib.hid ((((Frm.nil w).add (.cells #[.int .i64 m.n, (.slice A1 rs.length c1), (.slice A2 ls.length c2), (.slice A3 ps.length c3), .int .i64 m.fall, .int .i64 m.win, .int .i64 m.hold, .int .i64 m.dawn, .int .i64 m.dusk] 26) rfl).add (k := w.heap.size + 1) (.cells #[.int .i64 llo, .int .i64 lhi, .int .i64 alo, .int .i64 ahi] 63) (by simp)).less (bs' := [(w.heap.size + 1, (.cells #[.int .i64 llo, .int .i64 lhi, .int .i64 alo, .int .i64 ahi] 63)), (w.heap.size, (.cells #[.int .i64 m.n, (.slice A1 rs.length c1), (.slice A2 ls.length c2), (.slice A3 ps.length c3), .int .i64 m.fall, .int .i64 m.win, .int .i64 m.hold, .int .i64 m.dawn, .int .i64 m.dusk] 26))]) (by simp))
  have x0 := HR.out.cells mZ
  have x1 := HR.out.cells (mS mZ)
  go_wp2_with fail
  have hz : w.heap.size + 2 ≤ ((w.alloc (.cells #[.int .i64 m.n, (.slice A1 rs.length c1), (.slice A2 ls.length c2), (.slice A3 ps.length c3), .int .i64 m.fall, .int .i64 m.win, .int .i64 m.hold, .int .i64 m.dawn, .int .i64 m.dusk] 26)).alloc (.cells #[.int .i64 llo, .int .i64 lhi, .int .i64 alo, .int .i64 ahi] 63)).heap.size := by simp
  go_loopw [7, 8, 9] (fun a s n wr => ∃ p : Nat, (p : Int) ≤ lhi - llo + 1 ∧ n = .int .i64 (llo + p) ∧ a = .bool (((minsL llo lhi).take p).all (fun t => decide (upI m rs ls x t = 3) && decide (ahi ≤ farB m x t))) ∧ s = .bool (((minsL llo lhi).take p).any (fun t => !decide (upI m rs ls x t = 1) && decide (alo ≤ farB m x t))) ∧ Frm w [(w.heap.size + 1, (.cells #[.int .i64 llo, .int .i64 lhi, .int .i64 alo, .int .i64 ahi] 63)), (w.heap.size, (.cells #[.int .i64 m.n, (.slice A1 rs.length c1), (.slice A2 ls.length c2), (.slice A3 ps.length c3), .int .i64 m.fall, .int .i64 m.win, .int .i64 m.hold, .int .i64 m.dawn, .int .i64 m.dusk] 26))] wr) (fun _ _ n _ => (lhi + 1 - intOf n).toNat)
  case atStart => exact ⟨0, by omega, by simp, by simp, by simp, (by (repeat (with_reducible first | exact HR.out | apply Frm.drew | apply Frm.alloc | apply Frm.drewN)))⟩
  case round =>
    obtain ⟨p, hp, rfl, rfl, rfl, hF⟩ := hrel
    clear HR x0 x1
    have HR := Lib.hid hF
    clear hF
    have x0 := HR.out.cells mZ
    have x1 := HR.out.cells (mS mZ)
    by_cases hpl : llo + (p : Int) ≤ lhi
    · have hg := minsL_get (lo := llo) (hi := lhi) (p := p) (by omega)
      have HA1 := Lib.hid (all_take (f := (fun t => decide (upI m rs ls x t = 3) && decide (ahi ≤ farB m x t))) hg)
      have HA2 := Lib.hid (any_take (f := (fun t => !decide (upI m rs ls x t = 1) && decide (alo ≤ farB m x t))) hg)
      clear hg
      have e2 : IntKind.i64.wrap (llo + p + 1) = llo + p + 1 := IntWalk.i64_in _ (by omega)
      have hUp := HUP.out
      have hSi := HSI.out
      have HUPq := Lib.hid (fun V hV => hUp V hV (llo + p) (by omega))
      have HSIq := Lib.hid (fun V hV => hSi V hV (llo + p) (by omega))
      clear HUP HSI hUp hSi
      have HUP := HUPq
      have HSI := HSIq
      clear HUPq HSIq
      have hu3 := wordI_is ((minsL x.olo x.ohi).all (fun n => seenB (siL m ls rs (hiD rs)) (llo + p - n))) ((minsL x.olo x.ohi).any (fun n => seenB (siL m ls rs (loD rs)) (llo + p - n)))
      change upI m rs ls x (llo + p) = 1 ∨ upI m rs ls x (llo + p) = 2 ∨ upI m rs ls x (llo + p) = 3 at hu3
      generalize ((minsL llo lhi).take p).all (fun t => decide (upI m rs ls x t = 3) && decide (ahi ≤ farB m x t)) = al at *
      generalize ((minsL llo lhi).take p).any (fun t => !decide (upI m rs ls x t = 1) && decide (alo ≤ farB m x t)) = so at *
      generalize farB m x (llo + p) = fv at *
      generalize upI m rs ls x (llo + p) = uv at *
      rcases hu3 with rfl | rfl | rfl
      · rw [show (decide ((1 : Int) = 3) && decide (ahi ≤ fv)) = false by simp, Bool.and_false] at HA1
        rw [show (!decide ((1 : Int) = 1) && decide (alo ≤ fv)) = false by simp, Bool.or_false] at HA2
        cases al <;> cases so
        all_goals
          go_upto_region 5 with fail
          go_region_held3 (fun w' => (∀ o, w'.cell? ⟨w.heap.size, o, none⟩ = #[Value.int .i64 m.n, (.slice A1 rs.length c1), (.slice A2 ls.length c2), (.slice A3 ps.length c3), .int .i64 m.fall, .int .i64 m.win, .int .i64 m.hold, .int .i64 m.dawn, .int .i64 m.dusk][o]?)) ((exact (fun hF : Frm w [(w.heap.size + 1, (.cells #[.int .i64 llo, .int .i64 lhi, .int .i64 alo, .int .i64 ahi] 63)), (w.heap.size, (.cells #[.int .i64 m.n, (.slice A1 rs.length c1), (.slice A2 ls.length c2), (.slice A3 ps.length c3), .int .i64 m.fall, .int .i64 m.win, .int .i64 m.hold, .int .i64 m.dawn, .int .i64 m.dusk] 26))] _ => hF.cells (mS mZ)) (by (repeat (with_reducible first | exact HR.out | apply Frm.drew | apply Frm.alloc | apply Frm.drewN))))) (first | (go_at_call 35; with_reducible refine (HUP.out _ (Frm.b (w := w) (by (repeat (with_reducible first | exact HR.out | apply Frm.drew | apply Frm.alloc | apply Frm.drewN))))).mono ?_; rintro e wa ⟨rfl, hbq⟩; have HRq := Lib.hid (Frm.below (w := w) (by (repeat (with_reducible first | exact HR.out | apply Frm.drew | apply Frm.alloc | apply Frm.drewN))) hbq); clear HR x0 x1; have HR := HRq; clear HRq hbq; have x0 := HR.out.cells mZ; have x1 := HR.out.cells (mS mZ)) | (go_at_call 38; with_reducible refine (HSI.out _ (Frm.b (w := w) (by (repeat (with_reducible first | exact HR.out | apply Frm.drew | apply Frm.alloc | apply Frm.drewN))))).mono ?_; rintro e wa ⟨rfl, hbq⟩; have HRq := Lib.hid (Frm.below (w := w) (by (repeat (with_reducible first | exact HR.out | apply Frm.drew | apply Frm.alloc | apply Frm.drewN))) hbq); clear HR x0 x1; have HR := HRq; clear HRq hbq; have x0 := HR.out.cells mZ; have x1 := HR.out.cells (mS mZ)))
          all_goals
            go_wp2_with fail
            go_roundw
            case rel => exact ⟨p + 1, by omega, by first | (congr 1; omega) | (simp; omega), by first | (rw [HA1.out]; done) | (rw [HA1.out]; rfl) | (rw [HA1.out]; simp; omega) | (rw [HA1.out]; simp; done), by first | (rw [HA2.out]; done) | (rw [HA2.out]; rfl) | (rw [HA2.out]; simp; omega) | (rw [HA2.out]; simp; done), (by (repeat (with_reducible first | exact HR.out | apply Frm.drew | apply Frm.alloc | apply Frm.drewN)))⟩
            case measure => simp [intOf]; omega
      · rw [show (decide ((2 : Int) = 3) && decide (ahi ≤ fv)) = false by simp, Bool.and_false] at HA1
        rw [show (!decide ((2 : Int) = 1) && decide (alo ≤ fv)) = decide (alo ≤ fv) by simp] at HA2
        by_cases hal : alo ≤ fv <;> cases al <;> cases so
        all_goals
          simp only [hal, decide_true, decide_false] at HA2
          go_upto_region 5 with fail
          go_region_held3 (fun w' => (∀ o, w'.cell? ⟨w.heap.size, o, none⟩ = #[Value.int .i64 m.n, (.slice A1 rs.length c1), (.slice A2 ls.length c2), (.slice A3 ps.length c3), .int .i64 m.fall, .int .i64 m.win, .int .i64 m.hold, .int .i64 m.dawn, .int .i64 m.dusk][o]?)) ((exact (fun hF : Frm w [(w.heap.size + 1, (.cells #[.int .i64 llo, .int .i64 lhi, .int .i64 alo, .int .i64 ahi] 63)), (w.heap.size, (.cells #[.int .i64 m.n, (.slice A1 rs.length c1), (.slice A2 ls.length c2), (.slice A3 ps.length c3), .int .i64 m.fall, .int .i64 m.win, .int .i64 m.hold, .int .i64 m.dawn, .int .i64 m.dusk] 26))] _ => hF.cells (mS mZ)) (by (repeat (with_reducible first | exact HR.out | apply Frm.drew | apply Frm.alloc | apply Frm.drewN))))) (first | (go_at_call 35; with_reducible refine (HUP.out _ (Frm.b (w := w) (by (repeat (with_reducible first | exact HR.out | apply Frm.drew | apply Frm.alloc | apply Frm.drewN))))).mono ?_; rintro e wa ⟨rfl, hbq⟩; have HRq := Lib.hid (Frm.below (w := w) (by (repeat (with_reducible first | exact HR.out | apply Frm.drew | apply Frm.alloc | apply Frm.drewN))) hbq); clear HR x0 x1; have HR := HRq; clear HRq hbq; have x0 := HR.out.cells mZ; have x1 := HR.out.cells (mS mZ)) | (go_at_call 38; with_reducible refine (HSI.out _ (Frm.b (w := w) (by (repeat (with_reducible first | exact HR.out | apply Frm.drew | apply Frm.alloc | apply Frm.drewN))))).mono ?_; rintro e wa ⟨rfl, hbq⟩; have HRq := Lib.hid (Frm.below (w := w) (by (repeat (with_reducible first | exact HR.out | apply Frm.drew | apply Frm.alloc | apply Frm.drewN))) hbq); clear HR x0 x1; have HR := HRq; clear HRq hbq; have x0 := HR.out.cells mZ; have x1 := HR.out.cells (mS mZ)))
          all_goals
            go_wp2_with fail
            go_roundw
            case rel => exact ⟨p + 1, by omega, by first | (congr 1; omega) | (simp; omega), by first | (rw [HA1.out]; done) | (rw [HA1.out]; rfl) | (rw [HA1.out]; simp; omega) | (rw [HA1.out]; simp; done), by first | (rw [HA2.out]; done) | (rw [HA2.out]; rfl) | (rw [HA2.out]; simp; omega) | (rw [HA2.out]; simp; done), (by (repeat (with_reducible first | exact HR.out | apply Frm.drew | apply Frm.alloc | apply Frm.drewN)))⟩
            case measure => simp [intOf]; omega
      · rw [show (decide ((3 : Int) = 3) && decide (ahi ≤ fv)) = decide (ahi ≤ fv) by simp] at HA1
        rw [show (!decide ((3 : Int) = 1) && decide (alo ≤ fv)) = decide (alo ≤ fv) by simp] at HA2
        by_cases hal : alo ≤ fv <;> by_cases hah : ahi ≤ fv
        all_goals first | (exfalso; omega) | skip
        all_goals (cases al <;> cases so)
        all_goals
          simp only [hal, hah, decide_true, decide_false] at HA1 HA2
          go_upto_region 5 with fail
          go_region_held3 (fun w' => (∀ o, w'.cell? ⟨w.heap.size, o, none⟩ = #[Value.int .i64 m.n, (.slice A1 rs.length c1), (.slice A2 ls.length c2), (.slice A3 ps.length c3), .int .i64 m.fall, .int .i64 m.win, .int .i64 m.hold, .int .i64 m.dawn, .int .i64 m.dusk][o]?)) ((exact (fun hF : Frm w [(w.heap.size + 1, (.cells #[.int .i64 llo, .int .i64 lhi, .int .i64 alo, .int .i64 ahi] 63)), (w.heap.size, (.cells #[.int .i64 m.n, (.slice A1 rs.length c1), (.slice A2 ls.length c2), (.slice A3 ps.length c3), .int .i64 m.fall, .int .i64 m.win, .int .i64 m.hold, .int .i64 m.dawn, .int .i64 m.dusk] 26))] _ => hF.cells (mS mZ)) (by (repeat (with_reducible first | exact HR.out | apply Frm.drew | apply Frm.alloc | apply Frm.drewN))))) (first | (go_at_call 35; with_reducible refine (HUP.out _ (Frm.b (w := w) (by (repeat (with_reducible first | exact HR.out | apply Frm.drew | apply Frm.alloc | apply Frm.drewN))))).mono ?_; rintro e wa ⟨rfl, hbq⟩; have HRq := Lib.hid (Frm.below (w := w) (by (repeat (with_reducible first | exact HR.out | apply Frm.drew | apply Frm.alloc | apply Frm.drewN))) hbq); clear HR x0 x1; have HR := HRq; clear HRq hbq; have x0 := HR.out.cells mZ; have x1 := HR.out.cells (mS mZ)) | (go_at_call 38; with_reducible refine (HSI.out _ (Frm.b (w := w) (by (repeat (with_reducible first | exact HR.out | apply Frm.drew | apply Frm.alloc | apply Frm.drewN))))).mono ?_; rintro e wa ⟨rfl, hbq⟩; have HRq := Lib.hid (Frm.below (w := w) (by (repeat (with_reducible first | exact HR.out | apply Frm.drew | apply Frm.alloc | apply Frm.drewN))) hbq); clear HR x0 x1; have HR := HRq; clear HRq hbq; have x0 := HR.out.cells mZ; have x1 := HR.out.cells (mS mZ)))
          all_goals
            go_wp2_with fail
            go_roundw
            case rel => exact ⟨p + 1, by omega, by first | (congr 1; omega) | (simp; omega), by first | (rw [HA1.out]; done) | (rw [HA1.out]; rfl) | (rw [HA1.out]; simp; omega) | (rw [HA1.out]; simp; done), by first | (rw [HA2.out]; done) | (rw [HA2.out]; rfl) | (rw [HA2.out]; simp; omega) | (rw [HA2.out]; simp; done), (by (repeat (with_reducible first | exact HR.out | apply Frm.drew | apply Frm.alloc | apply Frm.drewN)))⟩
            case measure => simp [intOf]; omega
    · have HT1 : Hid (((minsL llo lhi).take p).all (fun t => decide (upI m rs ls x t = 3) && decide (ahi ≤ farB m x t)) = (minsL llo lhi).all (fun t => decide (upI m rs ls x t = 3) && decide (ahi ≤ farB m x t))) := Lib.hid (by rw [List.take_of_length_le (by rw [minsL_length]; omega)])
      have HT2 : Hid (((minsL llo lhi).take p).any (fun t => !decide (upI m rs ls x t = 1) && decide (alo ≤ farB m x t)) = (minsL llo lhi).any (fun t => !decide (upI m rs ls x t = 1) && decide (alo ≤ farB m x t))) := Lib.hid (by rw [List.take_of_length_le (by rw [minsL_length]; omega)])
      rw [HT1.out, HT2.out]
      have HU : Hid (warI m rs ls x llo lhi alo ahi = wordI ((minsL llo lhi).all (fun t => decide (upI m rs ls x t = 3) && decide (ahi ≤ farB m x t))) ((minsL llo lhi).any (fun t => !decide (upI m rs ls x t = 1) && decide (alo ≤ farB m x t)))) := Lib.hid rfl
      generalize (minsL llo lhi).all (fun t => decide (upI m rs ls x t = 3) && decide (ahi ≤ farB m x t)) = al at *
      generalize (minsL llo lhi).any (fun t => !decide (upI m rs ls x t = 1) && decide (alo ≤ farB m x t)) = so at *
      clear HT1 HT2
      go_wp2_with (go_at_call 69; refine (rWord_any _ _ _).mono ?_; rintro e wa ⟨rfl, rfl⟩)
      go_ret
      exact ⟨ret_int HU.out.symm, (Frm.b (w := w) (by (repeat (with_reducible first | exact HR.out | apply Frm.drew | apply Frm.alloc | apply Frm.drewN))))⟩
end Go.Proofs.YtldimlnllmojiaaGreat
