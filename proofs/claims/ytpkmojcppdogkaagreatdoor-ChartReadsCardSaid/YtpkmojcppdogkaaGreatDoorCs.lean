/- The small functions of the chart and of its reference: numbers, values, points, sizes, distances. -/
import Derived.Test.YtpkmojcppdogkaaGreatDoorCg
set_option linter.unusedVariables false
set_option linter.unusedSimpArgs false
namespace Go.Proofs.YtpkmojcppdogkaaGreatDoor
open Go.RowKit
theorem between_any (n lo hi : Int) (w : World) :
    Calls Tryz.prog 86 #[.int .i64 n, .int .i64 lo, .int .i64 hi] w fun e w' => e = .returned (.bool (betw n lo hi)) ∧ w = w' := by
  by_cases h1 : lo ≤ n
  · by_cases h2 : n ≤ hi
    · rw [betw_1 h1 h2]
      go_enter Tryz.func86, Tryz.ntmps86
      go_wp2
      go_ret
      exact ⟨rfl, rfl⟩
    · rw [betw_3 h2]
      go_enter Tryz.func86, Tryz.ntmps86
      go_wp2
      go_ret
      exact ⟨rfl, rfl⟩
  · rw [betw_2 h1]
    go_enter Tryz.func86, Tryz.ntmps86
    go_wp2
    go_ret
    exact ⟨rfl, rfl⟩
theorem between_is {n lo hi : Int} {b : Bool} (h : betw n lo hi = b) (w : World) :
    Calls Tryz.prog 86 #[.int .i64 n, .int .i64 lo, .int .i64 hi] w fun e w' => e = .returned (.bool b) ∧ w = w' := by
  rw [← h]; exact between_any n lo hi w
theorem in_any (n lo hi : Int) (w : World) :
    Calls Tryz.prog 44 #[.int .i64 n, .int .i64 lo, .int .i64 hi] w fun e w' => e = .returned (.bool (betw n lo hi)) ∧ w = w' := by
  by_cases h1 : lo ≤ n
  · by_cases h2 : n ≤ hi
    · rw [betw_1 h1 h2]
      go_enter Tryz.func44, Tryz.ntmps44
      go_wp2
      go_ret
      exact ⟨rfl, rfl⟩
    · rw [betw_3 h2]
      go_enter Tryz.func44, Tryz.ntmps44
      go_wp2
      go_ret
      exact ⟨rfl, rfl⟩
  · rw [betw_2 h1]
    go_enter Tryz.func44, Tryz.ntmps44
    go_wp2
    go_ret
    exact ⟨rfl, rfl⟩
theorem in_is {n lo hi : Int} {b : Bool} (h : betw n lo hi = b) (w : World) :
    Calls Tryz.prog 44 #[.int .i64 n, .int .i64 lo, .int .i64 hi] w fun e w' => e = .returned (.bool b) ∧ w = w' := by
  rw [← h]; exact in_any n lo hi w
theorem value_any (n : Int) (w : World) :
    Calls Tryz.prog 88 #[.int .i64 n] w fun e w' => e = .returned (.bool (betw n 0 99999)) ∧ w = w' := by
  go_enter Tryz.func88, Tryz.ntmps88
  go_wp2_with (go_at_call 86; refine (between_any _ _ _ _).mono ?_; rintro e wq ⟨rfl, rfl⟩)
  go_ret
  exact ⟨rfl, rfl⟩
theorem rValue_any (n : Int) (w : World) :
    Calls Tryz.prog 45 #[.int .i64 n] w fun e w' => e = .returned (.bool (betw n 0 99999)) ∧ w = w' := by
  go_enter Tryz.func45, Tryz.ntmps45
  go_wp2_with (go_at_call 44; refine (in_any _ _ _ _).mono ?_; rintro e wq ⟨rfl, rfl⟩)
  go_ret
  exact ⟨rfl, rfl⟩
theorem point_any (m : Mp) (hm : m.Ok) (S : Value) (n : Int) (w : World) :
    Calls Tryz.prog 87 #[mpV m S, .int .i64 n] w fun e w' => e = .returned (.bool (betw n 0 (m.wd * m.rw - 1))) ∧ Below w.heap.size w w' := by
  have a1 := hm.a1
  have a2 := hm.a2
  have e1 : IntKind.i64.wrap (m.wd * m.rw) = m.wd * m.rw := IntWalk.i64_in _ (by omega)
  have e2 : IntKind.i64.wrap (m.wd * m.rw - 1) = m.wd * m.rw - 1 := IntWalk.i64_in _ (by omega)
  go_enter Tryz.func87, Tryz.ntmps87
  go_wp2_with (go_at_call 86; refine (between_any _ _ _ _).mono ?_; rintro e wq ⟨rfl, rfl⟩)
  go_ret
  exact ⟨rfl, (Below.refl _ _).alloc (Nat.le_refl _) _⟩
theorem rPoint_any (m : Mp) (hm : m.Ok) (S : Value) (n : Int) (w : World) :
    Calls Tryz.prog 32 #[mpV m S, .int .i64 n] w fun e w' => e = .returned (.bool (betw n 0 (m.wd * m.rw - 1))) ∧ Below w.heap.size w w' := by
  have a1 := hm.a1
  have a2 := hm.a2
  have e1 : IntKind.i64.wrap (m.wd * m.rw) = m.wd * m.rw := IntWalk.i64_in _ (by omega)
  have e2 : IntKind.i64.wrap (m.wd * m.rw - 1) = m.wd * m.rw - 1 := IntWalk.i64_in _ (by omega)
  go_enter Tryz.func32, Tryz.ntmps32
  go_wp2_with (go_at_call 44; refine (in_any _ _ _ _).mono ?_; rintro e wq ⟨rfl, rfl⟩)
  go_ret
  exact ⟨rfl, (Below.refl _ _).alloc (Nat.le_refl _) _⟩
theorem rSize_any (m : Mp) (w : World) :
    Calls Tryz.prog 43 #[.int .i64 m.wd, .int .i64 m.rw] w fun e w' => e = .returned (.bool (sizeB m)) ∧ w = w' := by
  unfold sizeB
  cases h1 : betw m.wd 1 6
  · go_enter Tryz.func43, Tryz.ntmps43
    go_wp2_with (go_at_call 44; refine (in_any _ _ _ _).mono ?_; rintro e wq ⟨rfl, rfl⟩)
    go_ret
    exact ⟨rfl, rfl⟩
  · go_enter Tryz.func43, Tryz.ntmps43
    go_wp2_with (go_at_call 44; refine (in_any _ _ _ _).mono ?_; rintro e wq ⟨rfl, rfl⟩)
    go_ret
    exact ⟨rfl, rfl⟩
theorem far_any (a b : Int) (w : World) (ha : -1000000000 ≤ a) (ha' : a ≤ 1000000000) (hb : -1000000000 ≤ b) (hb' : b ≤ 1000000000) :
    Calls Tryz.prog 75 #[.int .i64 a, .int .i64 b] w fun e w' => e = .returned (.int .i64 (farI a b)) ∧ w = w' := by
  have e1 : IntKind.i64.wrap (a - b) = a - b := IntWalk.i64_in _ (by omega)
  have e2 : IntKind.i64.wrap (b - a) = b - a := IntWalk.i64_in _ (by omega)
  go_enter Tryz.func75, Tryz.ntmps75
  go_wp2
  all_goals
    go_ret
    exact ⟨ret_int (by unfold farI; omega), rfl⟩
set_option maxHeartbeats 4000000 in
theorem rDistance_any (wd a b : Int) (w : World) (h1 : 1 ≤ wd) (h2 : wd ≤ 1000) (ha : 0 ≤ a) (ha' : a ≤ 1000000) (hb : 0 ≤ b) (hb' : b ≤ 1000000) :
    Calls Tryz.prog 65 #[.int .i64 wd, .int .i64 a, .int .i64 b] w fun e w' => e = .returned (.int .i64 (distI wd a b)) ∧ Below w.heap.size w w' := by
  obtain ⟨d0, d1, d2, d3⟩ := dist_bd h1 ha ha' hb hb'
  have q0 : 0 ≤ a / wd := Int.ediv_nonneg ha (by omega)
  have q1 : a / wd ≤ a := Int.ediv_le_self _ ha
  have q2 : 0 ≤ b / wd := Int.ediv_nonneg hb (by omega)
  have q3 : b / wd ≤ b := Int.ediv_le_self _ hb
  have m0 : 0 ≤ a % wd := Int.emod_nonneg _ (by omega)
  have m1 : a % wd < wd := Int.emod_lt_of_pos _ (by omega)
  have m2 : 0 ≤ b % wd := Int.emod_nonneg _ (by omega)
  have m3 : b % wd < wd := Int.emod_lt_of_pos _ (by omega)
  have D1 := fun W => far_any (a / wd) (b / wd) W (by omega) (by omega) (by omega) (by omega)
  have D2 := fun W => far_any (a % wd) (b % wd) W (by omega) (by omega) (by omega) (by omega)
  have e1 : a.tdiv wd = a / wd := Int.tdiv_eq_ediv_of_nonneg ha
  have e2 : b.tdiv wd = b / wd := Int.tdiv_eq_ediv_of_nonneg hb
  have e3 : a.tmod wd = a % wd := Int.tmod_eq_emod_of_nonneg ha
  have e4 : b.tmod wd = b % wd := Int.tmod_eq_emod_of_nonneg hb
  have e5 : IntKind.i64.wrap (a / wd) = a / wd := IntWalk.i64_in _ (by omega)
  have e6 : IntKind.i64.wrap (b / wd) = b / wd := IntWalk.i64_in _ (by omega)
  have e7 : IntKind.i64.wrap (a % wd) = a % wd := IntWalk.i64_in _ (by omega)
  have e8 : IntKind.i64.wrap (b % wd) = b % wd := IntWalk.i64_in _ (by omega)
  have e9 : (wd == 0) = false := by simp; omega
  have e10 : ¬ wd = 0 := by omega
  have e11 : IntKind.i64.wrap (rowsI wd a b + colsI wd a b) = rowsI wd a b + colsI wd a b := IntWalk.i64_in _ (by omega)
  unfold distI
  unfold rowsI colsI at *
  go_enter Tryz.func65, Tryz.ntmps65
  go_wp2_with fail
  go_region_held3 (fun w' => True) ((exact trivial)) ((go_at_call 75; (first | (with_reducible refine (D1 _).mono ?_) | (with_reducible refine (D2 _).mono ?_)); rintro e wq ⟨rfl, rfl⟩))
  all_goals
    go_wp2_with fail
    go_ret
    exact ⟨rfl, (Below.refl _ _).drew⟩
end Go.Proofs.YtpkmojcppdogkaaGreatDoor
