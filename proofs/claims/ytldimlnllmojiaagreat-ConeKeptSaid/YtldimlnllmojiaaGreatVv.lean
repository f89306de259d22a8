/- Part of a claim on cone. -/
import Derived.Test.YtldimlnllmojiaaGreatVh
set_option linter.unusedVariables false
set_option linter.unusedSimpArgs false
namespace Go.Proofs.YtldimlnllmojiaaGreat
open Go.RowKit
theorem rSpan_b (lo hi most : Int) (w : World) :
    Calls Tryz.prog 62 #[.agg #[.int .i64 lo, .int .i64 hi], .int .i64 most] w fun e w' => e = .returned (.bool (spanB lo hi most)) ∧ Below w.heap.size w w' := by
  refine (rSpan_any lo hi most w).mono ?_
  rintro e w' ⟨rfl, rfl⟩
  exact ⟨rfl, (Below.refl _ _).alloc (Nat.le_refl _) _⟩
theorem station_gen (m : Wn) (R L P : Value) (x : Int) (w : World) :
    Calls Tryz.prog 60 #[wtV m R L P, .int .i64 x] w fun e w' => e = .returned (.bool (betw x 0 (IntKind.i64.wrap (m.n - 1)))) ∧ Below w.heap.size w w' := by
  obtain ⟨s, hs⟩ : ∃ s, IntKind.i64.wrap (m.n - 1) = s := ⟨_, rfl⟩
  rw [hs]
  go_enter Tryz.func60, Tryz.ntmps60
  go_wp2_with (go_at_call 61; refine (in_any _ _ _ _).mono ?_; rintro e wq ⟨rfl, rfl⟩)
  go_ret
  exact ⟨rfl, (Below.refl _ _).alloc (Nat.le_refl _) _⟩
def repS (r : Rep) (s : Int) : Bool := betw r.st 0 s && betw r.tk 0 10080 && betw r.pr 0 99999 && spanB r.dlo r.dhi 2880 && betw r.ur 0 2880 && betw r.co 0 10000
def lnkS (l : Lnk) (s : Int) : Bool := betw l.a 0 s && betw l.b 0 s && decide (l.a ≠ l.b) && betw l.df 1 99999
theorem watch_eq (m : Wn) (rs : List Rep) (ls : List Lnk) (ps : List Prt) (s : Int) (hs : IntKind.i64.wrap (m.n - 1) = s) : (rs.all (fun x => repS x s) && ls.all (fun x => lnkS x s) && ps.all (fun x => prtB x) && ruleB m rs.length ls.length ps.length) = watchB m rs ls ps := by
  unfold watchB
  cases h : ruleB m rs.length ls.length ps.length
  · simp
  · have hm : 1 ≤ m.n ∧ m.n ≤ 6 := by
      simp only [ruleB, Bool.and_eq_true, betw, decide_eq_true_eq] at h
      omega
    have e : IntKind.i64.wrap (m.n - 1) = m.n - 1 := IntWalk.i64_in _ (by omega)
    rw [e] at hs
    subst hs
    simp only [Bool.and_true, Bool.true_and]
    rfl
set_option maxHeartbeats 16000000 in
set_option maxRecDepth 100000 in
theorem rWatch_any (m : Wn) (A1 A2 A3 : Option Addr) (rs : List Rep) (ls : List Lnk) (ps : List Prt) (c1 c2 c3 : Nat) (w : World) (h1 : Reps w (.slice A1 rs.length c1) rs) (h2 : Lnks w (.slice A2 ls.length c2) ls) (h3 : Prts w (.slice A3 ps.length c3) ps) :
    Calls Tryz.prog 21 #[wtV m (.slice A1 rs.length c1) (.slice A2 ls.length c2) (.slice A3 ps.length c3)] w fun e w' => e = .returned (.bool (watchB m rs ls ps)) ∧ Below w.heap.size w w' := by
  have HC1 := Lib.hid h1
  have HC2 := Lib.hid h2
  have HC3 := Lib.hid h3
  clear h1 h2 h3
  have HR := Lib.hid ((Frm.nil w).add (.cells #[.int .i64 m.n, .slice A1 rs.length c1, .slice A2 ls.length c2, .slice A3 ps.length c3, .int .i64 m.fall, .int .i64 m.win, .int .i64 m.hold, .int .i64 m.dawn, .int .i64 m.dusk] 26) rfl)
  have x0 := HR.out.cells mZ
  obtain ⟨s, hs⟩ : ∃ s, IntKind.i64.wrap (m.n - 1) = s := ⟨_, rfl⟩
  rw [← watch_eq m rs ls ps s hs]
  go_enter Tryz.func21, Tryz.ntmps21
  go_wp2_with fail
  go_loopw [3, 4] (fun i _ wr => ∃ n : Nat, n ≤ rs.length ∧ i = .int .i64 n ∧ (rs.take n).all (fun x => repS x s) = true ∧ Frm w [(w.heap.size, (.cells #[.int .i64 m.n, .slice A1 rs.length c1, .slice A2 ls.length c2, .slice A3 ps.length c3, .int .i64 m.fall, .int .i64 m.win, .int .i64 m.hold, .int .i64 m.dawn, .int .i64 m.dusk] 26))] wr) (fun i _ _ => rs.length - (intOf i).toNat)
  case atStart => exact ⟨0, Nat.zero_le _, rfl, by simp, (by (repeat (with_reducible first | exact HR.out | apply Frm.drew | apply Frm.alloc | apply Frm.drewN)))⟩
  case round =>
    obtain ⟨n, hn, rfl, hall, hF⟩ := hrel
    clear HR x0
    have HR := Lib.hid hF
    have HA := Lib.hid hall
    have HC := Lib.hid (HC1.out.below HR.out.b (Nat.le_refl _))
    clear hF hall
    have x0 := HR.out.cells mZ
    by_cases hnl : n < rs.length
    · obtain ⟨x, hx⟩ : ∃ x, rs[n]? = some x := ⟨_, List.getElem?_eq_getElem hnl⟩
      obtain ⟨b, off, hA, hcap, hmx, c00, c10, c20, c30, c40, c50, c60⟩ := rep_cells HC.out hx
      unfold maxLen at hmx
      subst hA
      have HX := Lib.hid hx
      clear hx HC
      go_upto_region 5 with fail
      have HRq := Lib.hid (HR.out.add (repBox x) rfl)
      clear HR x0 c00 c10 c20 c30 c40 c50 c60
      have HR := HRq
      clear HRq
      have x0 := HR.out.cells mZ
      have x1 := HR.out.cells (mS mZ)
      cases g0 : betw x.st 0 s
      · have HN := Lib.hid (show (rs.all (fun x => repS x s) && ls.all (fun x => lnkS x s) && ps.all (fun x => prtB x) && ruleB m rs.length ls.length ps.length) = false by have : rs.all (fun x => repS x s) = false := (by rw [List.all_eq_false]; exact ⟨x, List.mem_of_getElem? HX.out, by simp [repS, g0]⟩); simp only [this, Bool.false_and, Bool.and_false])
        go_wp2_with (first | (go_at_call 60; refine (station_gen _ _ _ _ _ _).mono ?_; rintro e wa ⟨rfl, hba⟩; have HRq := Lib.hid (Frm.below (w := w) (by (repeat (with_reducible first | exact HR.out | apply Frm.drew | apply Frm.alloc | apply Frm.drewN))) hba); clear HR x0 x1; have HR := HRq; clear HRq hba; have x0 := HR.out.cells mZ; have x1 := HR.out.cells (mS mZ)) | (go_at_call 61; refine (in_any _ _ _ _).mono ?_; rintro e wq ⟨rfl, rfl⟩) | (go_at_call 62; refine (rSpan_b _ _ _ _).mono ?_; rintro e wa ⟨rfl, hba⟩; have HRq := Lib.hid (Frm.below (w := w) (by (repeat (with_reducible first | exact HR.out | apply Frm.drew | apply Frm.alloc | apply Frm.drewN))) hba); clear HR x0 x1; have HR := HRq; clear HRq hba; have x0 := HR.out.cells mZ; have x1 := HR.out.cells (mS mZ)))
        go_ret
        exact ⟨ret_bool HN.out.symm, Frm.b (w := w) (by (repeat (with_reducible first | exact HR.out | apply Frm.drew | apply Frm.alloc | apply Frm.drewN)))⟩
      cases g1 : betw x.tk 0 10080
      · have HN := Lib.hid (show (rs.all (fun x => repS x s) && ls.all (fun x => lnkS x s) && ps.all (fun x => prtB x) && ruleB m rs.length ls.length ps.length) = false by have : rs.all (fun x => repS x s) = false := (by rw [List.all_eq_false]; exact ⟨x, List.mem_of_getElem? HX.out, by simp [repS, g0, g1]⟩); simp only [this, Bool.false_and, Bool.and_false])
        go_wp2_with (first | (go_at_call 60; refine (station_gen _ _ _ _ _ _).mono ?_; rintro e wa ⟨rfl, hba⟩; have HRq := Lib.hid (Frm.below (w := w) (by (repeat (with_reducible first | exact HR.out | apply Frm.drew | apply Frm.alloc | apply Frm.drewN))) hba); clear HR x0 x1; have HR := HRq; clear HRq hba; have x0 := HR.out.cells mZ; have x1 := HR.out.cells (mS mZ)) | (go_at_call 61; refine (in_any _ _ _ _).mono ?_; rintro e wq ⟨rfl, rfl⟩) | (go_at_call 62; refine (rSpan_b _ _ _ _).mono ?_; rintro e wa ⟨rfl, hba⟩; have HRq := Lib.hid (Frm.below (w := w) (by (repeat (with_reducible first | exact HR.out | apply Frm.drew | apply Frm.alloc | apply Frm.drewN))) hba); clear HR x0 x1; have HR := HRq; clear HRq hba; have x0 := HR.out.cells mZ; have x1 := HR.out.cells (mS mZ)))
        go_ret
        exact ⟨ret_bool HN.out.symm, Frm.b (w := w) (by (repeat (with_reducible first | exact HR.out | apply Frm.drew | apply Frm.alloc | apply Frm.drewN)))⟩
      cases g2 : betw x.pr 0 99999
      · have HN := Lib.hid (show (rs.all (fun x => repS x s) && ls.all (fun x => lnkS x s) && ps.all (fun x => prtB x) && ruleB m rs.length ls.length ps.length) = false by have : rs.all (fun x => repS x s) = false := (by rw [List.all_eq_false]; exact ⟨x, List.mem_of_getElem? HX.out, by simp [repS, g0, g1, g2]⟩); simp only [this, Bool.false_and, Bool.and_false])
        go_wp2_with (first | (go_at_call 60; refine (station_gen _ _ _ _ _ _).mono ?_; rintro e wa ⟨rfl, hba⟩; have HRq := Lib.hid (Frm.below (w := w) (by (repeat (with_reducible first | exact HR.out | apply Frm.drew | apply Frm.alloc | apply Frm.drewN))) hba); clear HR x0 x1; have HR := HRq; clear HRq hba; have x0 := HR.out.cells mZ; have x1 := HR.out.cells (mS mZ)) | (go_at_call 61; refine (in_any _ _ _ _).mono ?_; rintro e wq ⟨rfl, rfl⟩) | (go_at_call 62; refine (rSpan_b _ _ _ _).mono ?_; rintro e wa ⟨rfl, hba⟩; have HRq := Lib.hid (Frm.below (w := w) (by (repeat (with_reducible first | exact HR.out | apply Frm.drew | apply Frm.alloc | apply Frm.drewN))) hba); clear HR x0 x1; have HR := HRq; clear HRq hba; have x0 := HR.out.cells mZ; have x1 := HR.out.cells (mS mZ)))
        go_ret
        exact ⟨ret_bool HN.out.symm, Frm.b (w := w) (by (repeat (with_reducible first | exact HR.out | apply Frm.drew | apply Frm.alloc | apply Frm.drewN)))⟩
      cases g3 : spanB x.dlo x.dhi 2880
      · have HN := Lib.hid (show (rs.all (fun x => repS x s) && ls.all (fun x => lnkS x s) && ps.all (fun x => prtB x) && ruleB m rs.length ls.length ps.length) = false by have : rs.all (fun x => repS x s) = false := (by rw [List.all_eq_false]; exact ⟨x, List.mem_of_getElem? HX.out, by simp [repS, g0, g1, g2, g3]⟩); simp only [this, Bool.false_and, Bool.and_false])
        go_wp2_with (first | (go_at_call 60; refine (station_gen _ _ _ _ _ _).mono ?_; rintro e wa ⟨rfl, hba⟩; have HRq := Lib.hid (Frm.below (w := w) (by (repeat (with_reducible first | exact HR.out | apply Frm.drew | apply Frm.alloc | apply Frm.drewN))) hba); clear HR x0 x1; have HR := HRq; clear HRq hba; have x0 := HR.out.cells mZ; have x1 := HR.out.cells (mS mZ)) | (go_at_call 61; refine (in_any _ _ _ _).mono ?_; rintro e wq ⟨rfl, rfl⟩) | (go_at_call 62; refine (rSpan_b _ _ _ _).mono ?_; rintro e wa ⟨rfl, hba⟩; have HRq := Lib.hid (Frm.below (w := w) (by (repeat (with_reducible first | exact HR.out | apply Frm.drew | apply Frm.alloc | apply Frm.drewN))) hba); clear HR x0 x1; have HR := HRq; clear HRq hba; have x0 := HR.out.cells mZ; have x1 := HR.out.cells (mS mZ)))
        go_ret
        exact ⟨ret_bool HN.out.symm, Frm.b (w := w) (by (repeat (with_reducible first | exact HR.out | apply Frm.drew | apply Frm.alloc | apply Frm.drewN)))⟩
      cases g4 : betw x.ur 0 2880
      · have HN := Lib.hid (show (rs.all (fun x => repS x s) && ls.all (fun x => lnkS x s) && ps.all (fun x => prtB x) && ruleB m rs.length ls.length ps.length) = false by have : rs.all (fun x => repS x s) = false := (by rw [List.all_eq_false]; exact ⟨x, List.mem_of_getElem? HX.out, by simp [repS, g0, g1, g2, g3, g4]⟩); simp only [this, Bool.false_and, Bool.and_false])
        go_wp2_with (first | (go_at_call 60; refine (station_gen _ _ _ _ _ _).mono ?_; rintro e wa ⟨rfl, hba⟩; have HRq := Lib.hid (Frm.below (w := w) (by (repeat (with_reducible first | exact HR.out | apply Frm.drew | apply Frm.alloc | apply Frm.drewN))) hba); clear HR x0 x1; have HR := HRq; clear HRq hba; have x0 := HR.out.cells mZ; have x1 := HR.out.cells (mS mZ)) | (go_at_call 61; refine (in_any _ _ _ _).mono ?_; rintro e wq ⟨rfl, rfl⟩) | (go_at_call 62; refine (rSpan_b _ _ _ _).mono ?_; rintro e wa ⟨rfl, hba⟩; have HRq := Lib.hid (Frm.below (w := w) (by (repeat (with_reducible first | exact HR.out | apply Frm.drew | apply Frm.alloc | apply Frm.drewN))) hba); clear HR x0 x1; have HR := HRq; clear HRq hba; have x0 := HR.out.cells mZ; have x1 := HR.out.cells (mS mZ)))
        go_ret
        exact ⟨ret_bool HN.out.symm, Frm.b (w := w) (by (repeat (with_reducible first | exact HR.out | apply Frm.drew | apply Frm.alloc | apply Frm.drewN)))⟩
      cases g5 : betw x.co 0 10000
      · have HN := Lib.hid (show (rs.all (fun x => repS x s) && ls.all (fun x => lnkS x s) && ps.all (fun x => prtB x) && ruleB m rs.length ls.length ps.length) = false by have : rs.all (fun x => repS x s) = false := (by rw [List.all_eq_false]; exact ⟨x, List.mem_of_getElem? HX.out, by simp [repS, g0, g1, g2, g3, g4, g5]⟩); simp only [this, Bool.false_and, Bool.and_false])
        go_wp2_with (first | (go_at_call 60; refine (station_gen _ _ _ _ _ _).mono ?_; rintro e wa ⟨rfl, hba⟩; have HRq := Lib.hid (Frm.below (w := w) (by (repeat (with_reducible first | exact HR.out | apply Frm.drew | apply Frm.alloc | apply Frm.drewN))) hba); clear HR x0 x1; have HR := HRq; clear HRq hba; have x0 := HR.out.cells mZ; have x1 := HR.out.cells (mS mZ)) | (go_at_call 61; refine (in_any _ _ _ _).mono ?_; rintro e wq ⟨rfl, rfl⟩) | (go_at_call 62; refine (rSpan_b _ _ _ _).mono ?_; rintro e wa ⟨rfl, hba⟩; have HRq := Lib.hid (Frm.below (w := w) (by (repeat (with_reducible first | exact HR.out | apply Frm.drew | apply Frm.alloc | apply Frm.drewN))) hba); clear HR x0 x1; have HR := HRq; clear HRq hba; have x0 := HR.out.cells mZ; have x1 := HR.out.cells (mS mZ)))
        go_ret
        exact ⟨ret_bool HN.out.symm, Frm.b (w := w) (by (repeat (with_reducible first | exact HR.out | apply Frm.drew | apply Frm.alloc | apply Frm.drewN)))⟩
      have HN := Lib.hid (show (rs.take (n + 1)).all (fun x => repS x s) = true by rw [List.take_add_one, HX.out]; simp only [List.all_append, HA.out, Option.toList, List.all_cons, List.all_nil, Bool.and_true, Bool.true_and]; simp [repS, g0, g1, g2, g3, g4, g5])
      go_wp2_with (first | (go_at_call 60; refine (station_gen _ _ _ _ _ _).mono ?_; rintro e wa ⟨rfl, hba⟩; have HRq := Lib.hid (Frm.below (w := w) (by (repeat (with_reducible first | exact HR.out | apply Frm.drew | apply Frm.alloc | apply Frm.drewN))) hba); clear HR x0 x1; have HR := HRq; clear HRq hba; have x0 := HR.out.cells mZ; have x1 := HR.out.cells (mS mZ)) | (go_at_call 61; refine (in_any _ _ _ _).mono ?_; rintro e wq ⟨rfl, rfl⟩) | (go_at_call 62; refine (rSpan_b _ _ _ _).mono ?_; rintro e wa ⟨rfl, hba⟩; have HRq := Lib.hid (Frm.below (w := w) (by (repeat (with_reducible first | exact HR.out | apply Frm.drew | apply Frm.alloc | apply Frm.drewN))) hba); clear HR x0 x1; have HR := HRq; clear HRq hba; have x0 := HR.out.cells mZ; have x1 := HR.out.cells (mS mZ)))
      go_roundw
      case rel => exact ⟨n + 1, by omega, by go_num, HN.out, Frm.less (by (repeat (with_reducible first | exact HR.out | apply Frm.drew | apply Frm.alloc | apply Frm.drewN))) (fun p hp => by simp only [List.mem_cons, List.not_mem_nil, or_false] at hp; subst hp; simp)⟩
      case measure => simp [intOf]; omega
    · obtain rfl : n = rs.length := by omega
      have HT0 := Lib.hid (show rs.all (fun x => repS x s) = true by have := HA.out; rwa [List.take_length] at this)
      clear HA HC
      go_wp2_with fail
      go_loopw [5, 6] (fun i _ wr => ∃ n : Nat, n ≤ ls.length ∧ i = .int .i64 n ∧ (ls.take n).all (fun x => lnkS x s) = true ∧ Frm w [(w.heap.size, (.cells #[.int .i64 m.n, .slice A1 rs.length c1, .slice A2 ls.length c2, .slice A3 ps.length c3, .int .i64 m.fall, .int .i64 m.win, .int .i64 m.hold, .int .i64 m.dawn, .int .i64 m.dusk] 26))] wr) (fun i _ _ => ls.length - (intOf i).toNat)
      case atStart => exact ⟨0, Nat.zero_le _, rfl, by simp, (by (repeat (with_reducible first | exact HR.out | apply Frm.drew | apply Frm.alloc | apply Frm.drewN)))⟩
      case round =>
        obtain ⟨n, hn, rfl, hall, hF⟩ := hrel
        clear HR x0
        have HR := Lib.hid hF
        have HA := Lib.hid hall
        have HC := Lib.hid (HC2.out.below HR.out.b (Nat.le_refl _))
        clear hF hall
        have x0 := HR.out.cells mZ
        by_cases hnl : n < ls.length
        · obtain ⟨x, hx⟩ : ∃ x, ls[n]? = some x := ⟨_, List.getElem?_eq_getElem hnl⟩
          obtain ⟨b, off, hA, hcap, hmx, c00, c10, c20⟩ := lnk_cells HC.out hx
          unfold maxLen at hmx
          subst hA
          have HX := Lib.hid hx
          clear hx HC
          go_upto_region 11 with fail
          have HRq := Lib.hid (HR.out.add (lnkBox x) rfl)
          clear HR x0 c00 c10 c20
          have HR := HRq
          clear HRq
          have x0 := HR.out.cells mZ
          have x1 := HR.out.cells (mS mZ)
          cases g0 : betw x.a 0 s
          · have HN := Lib.hid (show (rs.all (fun x => repS x s) && ls.all (fun x => lnkS x s) && ps.all (fun x => prtB x) && ruleB m rs.length ls.length ps.length) = false by have : ls.all (fun x => lnkS x s) = false := (by rw [List.all_eq_false]; exact ⟨x, List.mem_of_getElem? HX.out, by simp [lnkS, g0]⟩); simp only [this, Bool.false_and, Bool.and_false])
            go_wp2_with (first | (go_at_call 60; refine (station_gen _ _ _ _ _ _).mono ?_; rintro e wa ⟨rfl, hba⟩; have HRq := Lib.hid (Frm.below (w := w) (by (repeat (with_reducible first | exact HR.out | apply Frm.drew | apply Frm.alloc | apply Frm.drewN))) hba); clear HR x0 x1; have HR := HRq; clear HRq hba; have x0 := HR.out.cells mZ; have x1 := HR.out.cells (mS mZ)) | (go_at_call 61; refine (in_any _ _ _ _).mono ?_; rintro e wq ⟨rfl, rfl⟩) | (go_at_call 62; refine (rSpan_b _ _ _ _).mono ?_; rintro e wa ⟨rfl, hba⟩; have HRq := Lib.hid (Frm.below (w := w) (by (repeat (with_reducible first | exact HR.out | apply Frm.drew | apply Frm.alloc | apply Frm.drewN))) hba); clear HR x0 x1; have HR := HRq; clear HRq hba; have x0 := HR.out.cells mZ; have x1 := HR.out.cells (mS mZ)))
            go_ret
            exact ⟨ret_bool HN.out.symm, Frm.b (w := w) (by (repeat (with_reducible first | exact HR.out | apply Frm.drew | apply Frm.alloc | apply Frm.drewN)))⟩
          cases g1 : betw x.b 0 s
          · have HN := Lib.hid (show (rs.all (fun x => repS x s) && ls.all (fun x => lnkS x s) && ps.all (fun x => prtB x) && ruleB m rs.length ls.length ps.length) = false by have : ls.all (fun x => lnkS x s) = false := (by rw [List.all_eq_false]; exact ⟨x, List.mem_of_getElem? HX.out, by simp [lnkS, g0, g1]⟩); simp only [this, Bool.false_and, Bool.and_false])
            go_wp2_with (first | (go_at_call 60; refine (station_gen _ _ _ _ _ _).mono ?_; rintro e wa ⟨rfl, hba⟩; have HRq := Lib.hid (Frm.below (w := w) (by (repeat (with_reducible first | exact HR.out | apply Frm.drew | apply Frm.alloc | apply Frm.drewN))) hba); clear HR x0 x1; have HR := HRq; clear HRq hba; have x0 := HR.out.cells mZ; have x1 := HR.out.cells (mS mZ)) | (go_at_call 61; refine (in_any _ _ _ _).mono ?_; rintro e wq ⟨rfl, rfl⟩) | (go_at_call 62; refine (rSpan_b _ _ _ _).mono ?_; rintro e wa ⟨rfl, hba⟩; have HRq := Lib.hid (Frm.below (w := w) (by (repeat (with_reducible first | exact HR.out | apply Frm.drew | apply Frm.alloc | apply Frm.drewN))) hba); clear HR x0 x1; have HR := HRq; clear HRq hba; have x0 := HR.out.cells mZ; have x1 := HR.out.cells (mS mZ)))
            go_ret
            exact ⟨ret_bool HN.out.symm, Frm.b (w := w) (by (repeat (with_reducible first | exact HR.out | apply Frm.drew | apply Frm.alloc | apply Frm.drewN)))⟩
          by_cases g2e : x.a = x.b
          · have g2 : (x.a == x.b) = true := by simp [g2e]
            have HN := Lib.hid (show (rs.all (fun x => repS x s) && ls.all (fun x => lnkS x s) && ps.all (fun x => prtB x) && ruleB m rs.length ls.length ps.length) = false by have : ls.all (fun x => lnkS x s) = false := (by rw [List.all_eq_false]; exact ⟨x, List.mem_of_getElem? HX.out, by simp [lnkS, g0, g1, g2e]⟩); simp only [this, Bool.false_and, Bool.and_false])
            have Hg2e := Lib.hid g2e
            clear g2e
            go_wp2_with (first | (go_at_call 60; refine (station_gen _ _ _ _ _ _).mono ?_; rintro e wa ⟨rfl, hba⟩; have HRq := Lib.hid (Frm.below (w := w) (by (repeat (with_reducible first | exact HR.out | apply Frm.drew | apply Frm.alloc | apply Frm.drewN))) hba); clear HR x0 x1; have HR := HRq; clear HRq hba; have x0 := HR.out.cells mZ; have x1 := HR.out.cells (mS mZ)) | (go_at_call 61; refine (in_any _ _ _ _).mono ?_; rintro e wq ⟨rfl, rfl⟩) | (go_at_call 62; refine (rSpan_b _ _ _ _).mono ?_; rintro e wa ⟨rfl, hba⟩; have HRq := Lib.hid (Frm.below (w := w) (by (repeat (with_reducible first | exact HR.out | apply Frm.drew | apply Frm.alloc | apply Frm.drewN))) hba); clear HR x0 x1; have HR := HRq; clear HRq hba; have x0 := HR.out.cells mZ; have x1 := HR.out.cells (mS mZ)))
            go_ret
            exact ⟨ret_bool HN.out.symm, Frm.b (w := w) (by (repeat (with_reducible first | exact HR.out | apply Frm.drew | apply Frm.alloc | apply Frm.drewN)))⟩
          have g2 : (x.a == x.b) = false := by simp [g2e]
          have Hg2e := Lib.hid g2e
          clear g2e
          cases g3 : betw x.df 1 99999
          · have HN := Lib.hid (show (rs.all (fun x => repS x s) && ls.all (fun x => lnkS x s) && ps.all (fun x => prtB x) && ruleB m rs.length ls.length ps.length) = false by have : ls.all (fun x => lnkS x s) = false := (by rw [List.all_eq_false]; exact ⟨x, List.mem_of_getElem? HX.out, by simp [lnkS, g0, g1, g2, Hg2e.out, g3]⟩); simp only [this, Bool.false_and, Bool.and_false])
            go_wp2_with (first | (go_at_call 60; refine (station_gen _ _ _ _ _ _).mono ?_; rintro e wa ⟨rfl, hba⟩; have HRq := Lib.hid (Frm.below (w := w) (by (repeat (with_reducible first | exact HR.out | apply Frm.drew | apply Frm.alloc | apply Frm.drewN))) hba); clear HR x0 x1; have HR := HRq; clear HRq hba; have x0 := HR.out.cells mZ; have x1 := HR.out.cells (mS mZ)) | (go_at_call 61; refine (in_any _ _ _ _).mono ?_; rintro e wq ⟨rfl, rfl⟩) | (go_at_call 62; refine (rSpan_b _ _ _ _).mono ?_; rintro e wa ⟨rfl, hba⟩; have HRq := Lib.hid (Frm.below (w := w) (by (repeat (with_reducible first | exact HR.out | apply Frm.drew | apply Frm.alloc | apply Frm.drewN))) hba); clear HR x0 x1; have HR := HRq; clear HRq hba; have x0 := HR.out.cells mZ; have x1 := HR.out.cells (mS mZ)))
            go_ret
            exact ⟨ret_bool HN.out.symm, Frm.b (w := w) (by (repeat (with_reducible first | exact HR.out | apply Frm.drew | apply Frm.alloc | apply Frm.drewN)))⟩
          have HN := Lib.hid (show (ls.take (n + 1)).all (fun x => lnkS x s) = true by rw [List.take_add_one, HX.out]; simp only [List.all_append, HA.out, Option.toList, List.all_cons, List.all_nil, Bool.and_true, Bool.true_and]; simp [lnkS, g0, g1, g2, Hg2e.out, g3])
          go_wp2_with (first | (go_at_call 60; refine (station_gen _ _ _ _ _ _).mono ?_; rintro e wa ⟨rfl, hba⟩; have HRq := Lib.hid (Frm.below (w := w) (by (repeat (with_reducible first | exact HR.out | apply Frm.drew | apply Frm.alloc | apply Frm.drewN))) hba); clear HR x0 x1; have HR := HRq; clear HRq hba; have x0 := HR.out.cells mZ; have x1 := HR.out.cells (mS mZ)) | (go_at_call 61; refine (in_any _ _ _ _).mono ?_; rintro e wq ⟨rfl, rfl⟩) | (go_at_call 62; refine (rSpan_b _ _ _ _).mono ?_; rintro e wa ⟨rfl, hba⟩; have HRq := Lib.hid (Frm.below (w := w) (by (repeat (with_reducible first | exact HR.out | apply Frm.drew | apply Frm.alloc | apply Frm.drewN))) hba); clear HR x0 x1; have HR := HRq; clear HRq hba; have x0 := HR.out.cells mZ; have x1 := HR.out.cells (mS mZ)))
          go_roundw
          case rel => exact ⟨n + 1, by omega, by go_num, HN.out, Frm.less (by (repeat (with_reducible first | exact HR.out | apply Frm.drew | apply Frm.alloc | apply Frm.drewN))) (fun p hp => by simp only [List.mem_cons, List.not_mem_nil, or_false] at hp; subst hp; simp)⟩
          case measure => simp [intOf]; omega
        · obtain rfl : n = ls.length := by omega
          have HT1 := Lib.hid (show ls.all (fun x => lnkS x s) = true by have := HA.out; rwa [List.take_length] at this)
          clear HA HC
          go_wp2_with fail
          go_loopw [7, 8] (fun i _ wr => ∃ n : Nat, n ≤ ps.length ∧ i = .int .i64 n ∧ (ps.take n).all (fun x => prtB x) = true ∧ Frm w [(w.heap.size, (.cells #[.int .i64 m.n, .slice A1 rs.length c1, .slice A2 ls.length c2, .slice A3 ps.length c3, .int .i64 m.fall, .int .i64 m.win, .int .i64 m.hold, .int .i64 m.dawn, .int .i64 m.dusk] 26))] wr) (fun i _ _ => ps.length - (intOf i).toNat)
          case atStart => exact ⟨0, Nat.zero_le _, rfl, by simp, (by (repeat (with_reducible first | exact HR.out | apply Frm.drew | apply Frm.alloc | apply Frm.drewN)))⟩
          case round =>
            obtain ⟨n, hn, rfl, hall, hF⟩ := hrel
            clear HR x0
            have HR := Lib.hid hF
            have HA := Lib.hid hall
            have HC := Lib.hid (HC3.out.below HR.out.b (Nat.le_refl _))
            clear hF hall
            have x0 := HR.out.cells mZ
            by_cases hnl : n < ps.length
            · obtain ⟨x, hx⟩ : ∃ x, ps[n]? = some x := ⟨_, List.getElem?_eq_getElem hnl⟩
              obtain ⟨b, off, hA, hcap, hmx, c00, c10, c20, c30⟩ := prt_cells HC.out hx
              unfold maxLen at hmx
              subst hA
              have HX := Lib.hid hx
              clear hx HC
              go_upto_region 17 with fail
              have HRq := Lib.hid (HR.out.add (prtBox x) rfl)
              clear HR x0 c00 c10 c20 c30
              have HR := HRq
              clear HRq
              have x0 := HR.out.cells mZ
              have x1 := HR.out.cells (mS mZ)
              cases g0 : spanB x.olo x.ohi 2880
              · have HN := Lib.hid (show (rs.all (fun x => repS x s) && ls.all (fun x => lnkS x s) && ps.all (fun x => prtB x) && ruleB m rs.length ls.length ps.length) = false by have : ps.all (fun x => prtB x) = false := (by rw [List.all_eq_false]; exact ⟨x, List.mem_of_getElem? HX.out, by simp [prtB, g0]⟩); simp only [this, Bool.false_and, Bool.and_false])
                go_wp2_with (first | (go_at_call 60; refine (station_gen _ _ _ _ _ _).mono ?_; rintro e wa ⟨rfl, hba⟩; have HRq := Lib.hid (Frm.below (w := w) (by (repeat (with_reducible first | exact HR.out | apply Frm.drew | apply Frm.alloc | apply Frm.drewN))) hba); clear HR x0 x1; have HR := HRq; clear HRq hba; have x0 := HR.out.cells mZ; have x1 := HR.out.cells (mS mZ)) | (go_at_call 61; refine (in_any _ _ _ _).mono ?_; rintro e wq ⟨rfl, rfl⟩) | (go_at_call 62; refine (rSpan_b _ _ _ _).mono ?_; rintro e wa ⟨rfl, hba⟩; have HRq := Lib.hid (Frm.below (w := w) (by (repeat (with_reducible first | exact HR.out | apply Frm.drew | apply Frm.alloc | apply Frm.drewN))) hba); clear HR x0 x1; have HR := HRq; clear HRq hba; have x0 := HR.out.cells mZ; have x1 := HR.out.cells (mS mZ)))
                go_ret
                exact ⟨ret_bool HN.out.symm, Frm.b (w := w) (by (repeat (with_reducible first | exact HR.out | apply Frm.drew | apply Frm.alloc | apply Frm.drewN)))⟩
              have hsp : 0 ≤ x.olo ∧ x.olo ≤ x.ohi ∧ x.ohi ≤ 2880 := by unfold spanB at g0; simp only [Bool.and_eq_true, decide_eq_true_eq] at g0; omega
              have ww : IntKind.i64.wrap (x.ohi - x.olo) = x.ohi - x.olo := IntWalk.i64_in _ (by omega)
              by_cases g1 : x.ohi - x.olo ≤ 300
              rotate_left
              · have HN := Lib.hid (show (rs.all (fun x => repS x s) && ls.all (fun x => lnkS x s) && ps.all (fun x => prtB x) && ruleB m rs.length ls.length ps.length) = false by have : ps.all (fun x => prtB x) = false := (by rw [List.all_eq_false]; exact ⟨x, List.mem_of_getElem? HX.out, by simp [prtB, g0, g1]⟩); simp only [this, Bool.false_and, Bool.and_false])
                go_wp2_with (first | (go_at_call 60; refine (station_gen _ _ _ _ _ _).mono ?_; rintro e wa ⟨rfl, hba⟩; have HRq := Lib.hid (Frm.below (w := w) (by (repeat (with_reducible first | exact HR.out | apply Frm.drew | apply Frm.alloc | apply Frm.drewN))) hba); clear HR x0 x1; have HR := HRq; clear HRq hba; have x0 := HR.out.cells mZ; have x1 := HR.out.cells (mS mZ)) | (go_at_call 61; refine (in_any _ _ _ _).mono ?_; rintro e wq ⟨rfl, rfl⟩) | (go_at_call 62; refine (rSpan_b _ _ _ _).mono ?_; rintro e wa ⟨rfl, hba⟩; have HRq := Lib.hid (Frm.below (w := w) (by (repeat (with_reducible first | exact HR.out | apply Frm.drew | apply Frm.alloc | apply Frm.drewN))) hba); clear HR x0 x1; have HR := HRq; clear HRq hba; have x0 := HR.out.cells mZ; have x1 := HR.out.cells (mS mZ)))
                go_ret
                exact ⟨ret_bool HN.out.symm, Frm.b (w := w) (by (repeat (with_reducible first | exact HR.out | apply Frm.drew | apply Frm.alloc | apply Frm.drewN)))⟩
              cases g2 : betw x.dy 0 50000
              · have HN := Lib.hid (show (rs.all (fun x => repS x s) && ls.all (fun x => lnkS x s) && ps.all (fun x => prtB x) && ruleB m rs.length ls.length ps.length) = false by have : ps.all (fun x => prtB x) = false := (by rw [List.all_eq_false]; exact ⟨x, List.mem_of_getElem? HX.out, by simp [prtB, g0, g1, g2]⟩); simp only [this, Bool.false_and, Bool.and_false])
                go_wp2_with (first | (go_at_call 60; refine (station_gen _ _ _ _ _ _).mono ?_; rintro e wa ⟨rfl, hba⟩; have HRq := Lib.hid (Frm.below (w := w) (by (repeat (with_reducible first | exact HR.out | apply Frm.drew | apply Frm.alloc | apply Frm.drewN))) hba); clear HR x0 x1; have HR := HRq; clear HRq hba; have x0 := HR.out.cells mZ; have x1 := HR.out.cells (mS mZ)) | (go_at_call 61; refine (in_any _ _ _ _).mono ?_; rintro e wq ⟨rfl, rfl⟩) | (go_at_call 62; refine (rSpan_b _ _ _ _).mono ?_; rintro e wa ⟨rfl, hba⟩; have HRq := Lib.hid (Frm.below (w := w) (by (repeat (with_reducible first | exact HR.out | apply Frm.drew | apply Frm.alloc | apply Frm.drewN))) hba); clear HR x0 x1; have HR := HRq; clear HRq hba; have x0 := HR.out.cells mZ; have x1 := HR.out.cells (mS mZ)))
                go_ret
                exact ⟨ret_bool HN.out.symm, Frm.b (w := w) (by (repeat (with_reducible first | exact HR.out | apply Frm.drew | apply Frm.alloc | apply Frm.drewN)))⟩
              cases g3 : betw x.nt 0 50000
              · have HN := Lib.hid (show (rs.all (fun x => repS x s) && ls.all (fun x => lnkS x s) && ps.all (fun x => prtB x) && ruleB m rs.length ls.length ps.length) = false by have : ps.all (fun x => prtB x) = false := (by rw [List.all_eq_false]; exact ⟨x, List.mem_of_getElem? HX.out, by simp [prtB, g0, g1, g2, g3]⟩); simp only [this, Bool.false_and, Bool.and_false])
                go_wp2_with (first | (go_at_call 60; refine (station_gen _ _ _ _ _ _).mono ?_; rintro e wa ⟨rfl, hba⟩; have HRq := Lib.hid (Frm.below (w := w) (by (repeat (with_reducible first | exact HR.out | apply Frm.drew | apply Frm.alloc | apply Frm.drewN))) hba); clear HR x0 x1; have HR := HRq; clear HRq hba; have x0 := HR.out.cells mZ; have x1 := HR.out.cells (mS mZ)) | (go_at_call 61; refine (in_any _ _ _ _).mono ?_; rintro e wq ⟨rfl, rfl⟩) | (go_at_call 62; refine (rSpan_b _ _ _ _).mono ?_; rintro e wa ⟨rfl, hba⟩; have HRq := Lib.hid (Frm.below (w := w) (by (repeat (with_reducible first | exact HR.out | apply Frm.drew | apply Frm.alloc | apply Frm.drewN))) hba); clear HR x0 x1; have HR := HRq; clear HRq hba; have x0 := HR.out.cells mZ; have x1 := HR.out.cells (mS mZ)))
                go_ret
                exact ⟨ret_bool HN.out.symm, Frm.b (w := w) (by (repeat (with_reducible first | exact HR.out | apply Frm.drew | apply Frm.alloc | apply Frm.drewN)))⟩
              have HN := Lib.hid (show (ps.take (n + 1)).all (fun x => prtB x) = true by rw [List.take_add_one, HX.out]; simp only [List.all_append, HA.out, Option.toList, List.all_cons, List.all_nil, Bool.and_true, Bool.true_and]; simp [prtB, g0, g1, g2, g3])
              go_wp2_with (first | (go_at_call 60; refine (station_gen _ _ _ _ _ _).mono ?_; rintro e wa ⟨rfl, hba⟩; have HRq := Lib.hid (Frm.below (w := w) (by (repeat (with_reducible first | exact HR.out | apply Frm.drew | apply Frm.alloc | apply Frm.drewN))) hba); clear HR x0 x1; have HR := HRq; clear HRq hba; have x0 := HR.out.cells mZ; have x1 := HR.out.cells (mS mZ)) | (go_at_call 61; refine (in_any _ _ _ _).mono ?_; rintro e wq ⟨rfl, rfl⟩) | (go_at_call 62; refine (rSpan_b _ _ _ _).mono ?_; rintro e wa ⟨rfl, hba⟩; have HRq := Lib.hid (Frm.below (w := w) (by (repeat (with_reducible first | exact HR.out | apply Frm.drew | apply Frm.alloc | apply Frm.drewN))) hba); clear HR x0 x1; have HR := HRq; clear HRq hba; have x0 := HR.out.cells mZ; have x1 := HR.out.cells (mS mZ)))
              go_roundw
              case rel => exact ⟨n + 1, by omega, by go_num, HN.out, Frm.less (by (repeat (with_reducible first | exact HR.out | apply Frm.drew | apply Frm.alloc | apply Frm.drewN))) (fun p hp => by simp only [List.mem_cons, List.not_mem_nil, or_false] at hp; subst hp; simp)⟩
              case measure => simp [intOf]; omega
            · obtain rfl : n = ps.length := by omega
              have HT2 := Lib.hid (show ps.all (fun x => prtB x) = true by have := HA.out; rwa [List.take_length] at this)
              clear HA HC
              cases g0 : betw m.n 1 6
              · have HE := Lib.hid (show (rs.all (fun x => repS x s) && ls.all (fun x => lnkS x s) && ps.all (fun x => prtB x) && ruleB m rs.length ls.length ps.length) = false by rw [HT0.out, HT1.out, HT2.out]; simp only [Bool.true_and]; unfold ruleB; simp [g0])
                go_upto_region 19 with fail
                (try simp only [List.append_eq, List.cons_append, List.nil_append])
                go_wp2_with (first | (go_at_call 60; refine (station_gen _ _ _ _ _ _).mono ?_; rintro e wa ⟨rfl, hba⟩; have HRq := Lib.hid (Frm.below (w := w) (by (repeat (with_reducible first | exact HR.out | apply Frm.drew | apply Frm.alloc | apply Frm.drewN))) hba); clear HR x0; have HR := HRq; clear HRq hba; have x0 := HR.out.cells mZ) | (go_at_call 61; refine (in_any _ _ _ _).mono ?_; rintro e wq ⟨rfl, rfl⟩) | (go_at_call 62; refine (rSpan_b _ _ _ _).mono ?_; rintro e wa ⟨rfl, hba⟩; have HRq := Lib.hid (Frm.below (w := w) (by (repeat (with_reducible first | exact HR.out | apply Frm.drew | apply Frm.alloc | apply Frm.drewN))) hba); clear HR x0; have HR := HRq; clear HRq hba; have x0 := HR.out.cells mZ))
                go_ret
                exact ⟨ret_bool (by first | exact HE.out.symm | (rw [HE.out]; simpa using n9)), Frm.b (w := w) (by (repeat (with_reducible first | exact HR.out | apply Frm.drew | apply Frm.alloc | apply Frm.drewN)))⟩
              by_cases n1 : (rs.length : Int) ≤ 9
              rotate_left
              · have HE := Lib.hid (show (rs.all (fun x => repS x s) && ls.all (fun x => lnkS x s) && ps.all (fun x => prtB x) && ruleB m rs.length ls.length ps.length) = false by rw [HT0.out, HT1.out, HT2.out]; simp only [Bool.true_and]; unfold ruleB; simp [g0, n1])
                go_upto_region 19 with fail
                (try simp only [List.append_eq, List.cons_append, List.nil_append])
                go_wp2_with (first | (go_at_call 60; refine (station_gen _ _ _ _ _ _).mono ?_; rintro e wa ⟨rfl, hba⟩; have HRq := Lib.hid (Frm.below (w := w) (by (repeat (with_reducible first | exact HR.out | apply Frm.drew | apply Frm.alloc | apply Frm.drewN))) hba); clear HR x0; have HR := HRq; clear HRq hba; have x0 := HR.out.cells mZ) | (go_at_call 61; refine (in_any _ _ _ _).mono ?_; rintro e wq ⟨rfl, rfl⟩) | (go_at_call 62; refine (rSpan_b _ _ _ _).mono ?_; rintro e wa ⟨rfl, hba⟩; have HRq := Lib.hid (Frm.below (w := w) (by (repeat (with_reducible first | exact HR.out | apply Frm.drew | apply Frm.alloc | apply Frm.drewN))) hba); clear HR x0; have HR := HRq; clear HRq hba; have x0 := HR.out.cells mZ))
                go_ret
                exact ⟨ret_bool (by first | exact HE.out.symm | (rw [HE.out]; simpa using n9)), Frm.b (w := w) (by (repeat (with_reducible first | exact HR.out | apply Frm.drew | apply Frm.alloc | apply Frm.drewN)))⟩
              by_cases n2 : (ls.length : Int) ≤ 8
              rotate_left
              · have HE := Lib.hid (show (rs.all (fun x => repS x s) && ls.all (fun x => lnkS x s) && ps.all (fun x => prtB x) && ruleB m rs.length ls.length ps.length) = false by rw [HT0.out, HT1.out, HT2.out]; simp only [Bool.true_and]; unfold ruleB; simp [g0, n1, n2])
                go_upto_region 19 with fail
                (try simp only [List.append_eq, List.cons_append, List.nil_append])
                go_wp2_with (first | (go_at_call 60; refine (station_gen _ _ _ _ _ _).mono ?_; rintro e wa ⟨rfl, hba⟩; have HRq := Lib.hid (Frm.below (w := w) (by (repeat (with_reducible first | exact HR.out | apply Frm.drew | apply Frm.alloc | apply Frm.drewN))) hba); clear HR x0; have HR := HRq; clear HRq hba; have x0 := HR.out.cells mZ) | (go_at_call 61; refine (in_any _ _ _ _).mono ?_; rintro e wq ⟨rfl, rfl⟩) | (go_at_call 62; refine (rSpan_b _ _ _ _).mono ?_; rintro e wa ⟨rfl, hba⟩; have HRq := Lib.hid (Frm.below (w := w) (by (repeat (with_reducible first | exact HR.out | apply Frm.drew | apply Frm.alloc | apply Frm.drewN))) hba); clear HR x0; have HR := HRq; clear HRq hba; have x0 := HR.out.cells mZ))
                go_ret
                exact ⟨ret_bool (by first | exact HE.out.symm | (rw [HE.out]; simpa using n9)), Frm.b (w := w) (by (repeat (with_reducible first | exact HR.out | apply Frm.drew | apply Frm.alloc | apply Frm.drewN)))⟩
              by_cases n3 : (ps.length : Int) ≤ 4
              rotate_left
              · have HE := Lib.hid (show (rs.all (fun x => repS x s) && ls.all (fun x => lnkS x s) && ps.all (fun x => prtB x) && ruleB m rs.length ls.length ps.length) = false by rw [HT0.out, HT1.out, HT2.out]; simp only [Bool.true_and]; unfold ruleB; simp [g0, n1, n2, n3])
                go_upto_region 19 with fail
                (try simp only [List.append_eq, List.cons_append, List.nil_append])
                go_wp2_with (first | (go_at_call 60; refine (station_gen _ _ _ _ _ _).mono ?_; rintro e wa ⟨rfl, hba⟩; have HRq := Lib.hid (Frm.below (w := w) (by (repeat (with_reducible first | exact HR.out | apply Frm.drew | apply Frm.alloc | apply Frm.drewN))) hba); clear HR x0; have HR := HRq; clear HRq hba; have x0 := HR.out.cells mZ) | (go_at_call 61; refine (in_any _ _ _ _).mono ?_; rintro e wq ⟨rfl, rfl⟩) | (go_at_call 62; refine (rSpan_b _ _ _ _).mono ?_; rintro e wa ⟨rfl, hba⟩; have HRq := Lib.hid (Frm.below (w := w) (by (repeat (with_reducible first | exact HR.out | apply Frm.drew | apply Frm.alloc | apply Frm.drewN))) hba); clear HR x0; have HR := HRq; clear HRq hba; have x0 := HR.out.cells mZ))
                go_ret
                exact ⟨ret_bool (by first | exact HE.out.symm | (rw [HE.out]; simpa using n9)), Frm.b (w := w) (by (repeat (with_reducible first | exact HR.out | apply Frm.drew | apply Frm.alloc | apply Frm.drewN)))⟩
              cases g4 : betw m.fall 1 99999
              · have HE := Lib.hid (show (rs.all (fun x => repS x s) && ls.all (fun x => lnkS x s) && ps.all (fun x => prtB x) && ruleB m rs.length ls.length ps.length) = false by rw [HT0.out, HT1.out, HT2.out]; simp only [Bool.true_and]; unfold ruleB; simp [g0, n1, n2, n3, g4])
                go_upto_region 19 with fail
                (try simp only [List.append_eq, List.cons_append, List.nil_append])
                go_wp2_with (first | (go_at_call 60; refine (station_gen _ _ _ _ _ _).mono ?_; rintro e wa ⟨rfl, hba⟩; have HRq := Lib.hid (Frm.below (w := w) (by (repeat (with_reducible first | exact HR.out | apply Frm.drew | apply Frm.alloc | apply Frm.drewN))) hba); clear HR x0; have HR := HRq; clear HRq hba; have x0 := HR.out.cells mZ) | (go_at_call 61; refine (in_any _ _ _ _).mono ?_; rintro e wq ⟨rfl, rfl⟩) | (go_at_call 62; refine (rSpan_b _ _ _ _).mono ?_; rintro e wa ⟨rfl, hba⟩; have HRq := Lib.hid (Frm.below (w := w) (by (repeat (with_reducible first | exact HR.out | apply Frm.drew | apply Frm.alloc | apply Frm.drewN))) hba); clear HR x0; have HR := HRq; clear HRq hba; have x0 := HR.out.cells mZ))
                go_ret
                exact ⟨ret_bool (by first | exact HE.out.symm | (rw [HE.out]; simpa using n9)), Frm.b (w := w) (by (repeat (with_reducible first | exact HR.out | apply Frm.drew | apply Frm.alloc | apply Frm.drewN)))⟩
              cases g5 : betw m.win 1 2880
              · have HE := Lib.hid (show (rs.all (fun x => repS x s) && ls.all (fun x => lnkS x s) && ps.all (fun x => prtB x) && ruleB m rs.length ls.length ps.length) = false by rw [HT0.out, HT1.out, HT2.out]; simp only [Bool.true_and]; unfold ruleB; simp [g0, n1, n2, n3, g4, g5])
                go_upto_region 19 with fail
                (try simp only [List.append_eq, List.cons_append, List.nil_append])
                go_wp2_with (first | (go_at_call 60; refine (station_gen _ _ _ _ _ _).mono ?_; rintro e wa ⟨rfl, hba⟩; have HRq := Lib.hid (Frm.below (w := w) (by (repeat (with_reducible first | exact HR.out | apply Frm.drew | apply Frm.alloc | apply Frm.drewN))) hba); clear HR x0; have HR := HRq; clear HRq hba; have x0 := HR.out.cells mZ) | (go_at_call 61; refine (in_any _ _ _ _).mono ?_; rintro e wq ⟨rfl, rfl⟩) | (go_at_call 62; refine (rSpan_b _ _ _ _).mono ?_; rintro e wa ⟨rfl, hba⟩; have HRq := Lib.hid (Frm.below (w := w) (by (repeat (with_reducible first | exact HR.out | apply Frm.drew | apply Frm.alloc | apply Frm.drewN))) hba); clear HR x0; have HR := HRq; clear HRq hba; have x0 := HR.out.cells mZ))
                go_ret
                exact ⟨ret_bool (by first | exact HE.out.symm | (rw [HE.out]; simpa using n9)), Frm.b (w := w) (by (repeat (with_reducible first | exact HR.out | apply Frm.drew | apply Frm.alloc | apply Frm.drewN)))⟩
              cases g6 : betw m.hold 1 2880
              · have HE := Lib.hid (show (rs.all (fun x => repS x s) && ls.all (fun x => lnkS x s) && ps.all (fun x => prtB x) && ruleB m rs.length ls.length ps.length) = false by rw [HT0.out, HT1.out, HT2.out]; simp only [Bool.true_and]; unfold ruleB; simp [g0, n1, n2, n3, g4, g5, g6])
                go_upto_region 19 with fail
                (try simp only [List.append_eq, List.cons_append, List.nil_append])
                go_wp2_with (first | (go_at_call 60; refine (station_gen _ _ _ _ _ _).mono ?_; rintro e wa ⟨rfl, hba⟩; have HRq := Lib.hid (Frm.below (w := w) (by (repeat (with_reducible first | exact HR.out | apply Frm.drew | apply Frm.alloc | apply Frm.drewN))) hba); clear HR x0; have HR := HRq; clear HRq hba; have x0 := HR.out.cells mZ) | (go_at_call 61; refine (in_any _ _ _ _).mono ?_; rintro e wq ⟨rfl, rfl⟩) | (go_at_call 62; refine (rSpan_b _ _ _ _).mono ?_; rintro e wa ⟨rfl, hba⟩; have HRq := Lib.hid (Frm.below (w := w) (by (repeat (with_reducible first | exact HR.out | apply Frm.drew | apply Frm.alloc | apply Frm.drewN))) hba); clear HR x0; have HR := HRq; clear HRq hba; have x0 := HR.out.cells mZ))
                go_ret
                exact ⟨ret_bool (by first | exact HE.out.symm | (rw [HE.out]; simpa using n9)), Frm.b (w := w) (by (repeat (with_reducible first | exact HR.out | apply Frm.drew | apply Frm.alloc | apply Frm.drewN)))⟩
              by_cases n7 : 0 ≤ m.dawn
              rotate_left
              · have HE := Lib.hid (show (rs.all (fun x => repS x s) && ls.all (fun x => lnkS x s) && ps.all (fun x => prtB x) && ruleB m rs.length ls.length ps.length) = false by rw [HT0.out, HT1.out, HT2.out]; simp only [Bool.true_and]; unfold ruleB; simp [g0, n1, n2, n3, g4, g5, g6, n7])
                go_upto_region 19 with fail
                (try simp only [List.append_eq, List.cons_append, List.nil_append])
                go_wp2_with (first | (go_at_call 60; refine (station_gen _ _ _ _ _ _).mono ?_; rintro e wa ⟨rfl, hba⟩; have HRq := Lib.hid (Frm.below (w := w) (by (repeat (with_reducible first | exact HR.out | apply Frm.drew | apply Frm.alloc | apply Frm.drewN))) hba); clear HR x0; have HR := HRq; clear HRq hba; have x0 := HR.out.cells mZ) | (go_at_call 61; refine (in_any _ _ _ _).mono ?_; rintro e wq ⟨rfl, rfl⟩) | (go_at_call 62; refine (rSpan_b _ _ _ _).mono ?_; rintro e wa ⟨rfl, hba⟩; have HRq := Lib.hid (Frm.below (w := w) (by (repeat (with_reducible first | exact HR.out | apply Frm.drew | apply Frm.alloc | apply Frm.drewN))) hba); clear HR x0; have HR := HRq; clear HRq hba; have x0 := HR.out.cells mZ))
                go_ret
                exact ⟨ret_bool (by first | exact HE.out.symm | (rw [HE.out]; simpa using n9)), Frm.b (w := w) (by (repeat (with_reducible first | exact HR.out | apply Frm.drew | apply Frm.alloc | apply Frm.drewN)))⟩
              by_cases n8 : m.dawn ≤ m.dusk
              rotate_left
              · have HE := Lib.hid (show (rs.all (fun x => repS x s) && ls.all (fun x => lnkS x s) && ps.all (fun x => prtB x) && ruleB m rs.length ls.length ps.length) = false by rw [HT0.out, HT1.out, HT2.out]; simp only [Bool.true_and]; unfold ruleB; simp [g0, n1, n2, n3, g4, g5, g6, n7, n8])
                go_upto_region 19 with fail
                (try simp only [List.append_eq, List.cons_append, List.nil_append])
                go_wp2_with (first | (go_at_call 60; refine (station_gen _ _ _ _ _ _).mono ?_; rintro e wa ⟨rfl, hba⟩; have HRq := Lib.hid (Frm.below (w := w) (by (repeat (with_reducible first | exact HR.out | apply Frm.drew | apply Frm.alloc | apply Frm.drewN))) hba); clear HR x0; have HR := HRq; clear HRq hba; have x0 := HR.out.cells mZ) | (go_at_call 61; refine (in_any _ _ _ _).mono ?_; rintro e wq ⟨rfl, rfl⟩) | (go_at_call 62; refine (rSpan_b _ _ _ _).mono ?_; rintro e wa ⟨rfl, hba⟩; have HRq := Lib.hid (Frm.below (w := w) (by (repeat (with_reducible first | exact HR.out | apply Frm.drew | apply Frm.alloc | apply Frm.drewN))) hba); clear HR x0; have HR := HRq; clear HRq hba; have x0 := HR.out.cells mZ))
                go_ret
                exact ⟨ret_bool (by first | exact HE.out.symm | (rw [HE.out]; simpa using n9)), Frm.b (w := w) (by (repeat (with_reducible first | exact HR.out | apply Frm.drew | apply Frm.alloc | apply Frm.drewN)))⟩
              by_cases n9 : m.dusk ≤ 1440
              rotate_left
              · have HE := Lib.hid (show (rs.all (fun x => repS x s) && ls.all (fun x => lnkS x s) && ps.all (fun x => prtB x) && ruleB m rs.length ls.length ps.length) = false by rw [HT0.out, HT1.out, HT2.out]; simp only [Bool.true_and]; unfold ruleB; simp [g0, n1, n2, n3, g4, g5, g6, n7, n8, n9])
                go_upto_region 19 with fail
                (try simp only [List.append_eq, List.cons_append, List.nil_append])
                go_wp2_with (first | (go_at_call 60; refine (station_gen _ _ _ _ _ _).mono ?_; rintro e wa ⟨rfl, hba⟩; have HRq := Lib.hid (Frm.below (w := w) (by (repeat (with_reducible first | exact HR.out | apply Frm.drew | apply Frm.alloc | apply Frm.drewN))) hba); clear HR x0; have HR := HRq; clear HRq hba; have x0 := HR.out.cells mZ) | (go_at_call 61; refine (in_any _ _ _ _).mono ?_; rintro e wq ⟨rfl, rfl⟩) | (go_at_call 62; refine (rSpan_b _ _ _ _).mono ?_; rintro e wa ⟨rfl, hba⟩; have HRq := Lib.hid (Frm.below (w := w) (by (repeat (with_reducible first | exact HR.out | apply Frm.drew | apply Frm.alloc | apply Frm.drewN))) hba); clear HR x0; have HR := HRq; clear HRq hba; have x0 := HR.out.cells mZ))
                go_ret
                exact ⟨ret_bool (by first | exact HE.out.symm | (rw [HE.out]; simpa using n9)), Frm.b (w := w) (by (repeat (with_reducible first | exact HR.out | apply Frm.drew | apply Frm.alloc | apply Frm.drewN)))⟩
              have HE := Lib.hid (show (rs.all (fun x => repS x s) && ls.all (fun x => lnkS x s) && ps.all (fun x => prtB x) && ruleB m rs.length ls.length ps.length) = true by rw [HT0.out, HT1.out, HT2.out]; simp only [Bool.true_and]; unfold ruleB; simp [g0, n1, n2, n3, g4, g5, g6, n7, n8, n9])
              go_upto_region 19 with fail
              (try simp only [List.append_eq, List.cons_append, List.nil_append])
              go_wp2_with (first | (go_at_call 60; refine (station_gen _ _ _ _ _ _).mono ?_; rintro e wa ⟨rfl, hba⟩; have HRq := Lib.hid (Frm.below (w := w) (by (repeat (with_reducible first | exact HR.out | apply Frm.drew | apply Frm.alloc | apply Frm.drewN))) hba); clear HR x0; have HR := HRq; clear HRq hba; have x0 := HR.out.cells mZ) | (go_at_call 61; refine (in_any _ _ _ _).mono ?_; rintro e wq ⟨rfl, rfl⟩) | (go_at_call 62; refine (rSpan_b _ _ _ _).mono ?_; rintro e wa ⟨rfl, hba⟩; have HRq := Lib.hid (Frm.below (w := w) (by (repeat (with_reducible first | exact HR.out | apply Frm.drew | apply Frm.alloc | apply Frm.drewN))) hba); clear HR x0; have HR := HRq; clear HRq hba; have x0 := HR.out.cells mZ))
              go_ret
              exact ⟨ret_bool (by first | exact HE.out.symm | (rw [HE.out]; simpa using n9)), Frm.b (w := w) (by (repeat (with_reducible first | exact HR.out | apply Frm.drew | apply Frm.alloc | apply Frm.drewN)))⟩
end Go.Proofs.YtldimlnllmojiaaGreat
