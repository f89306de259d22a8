/- Part of a claim on cone. -/
import Derived.Test.YtldimlnllmojiaaGreatVf
set_option linter.unusedVariables false
set_option linter.unusedSimpArgs false
namespace Go.Proofs.YtldimlnllmojiaaGreat
open Go.RowKit
structure Wn where
  n : Int
  fall : Int
  win : Int
  hold : Int
  dawn : Int
  dusk : Int
@[reducible] def wtV (m : Wn) (R L P : Value) : Value := .agg #[.int .i64 m.n, R, L, P, .int .i64 m.fall, .int .i64 m.win, .int .i64 m.hold, .int .i64 m.dawn, .int .i64 m.dusk]
def ruleB (m : Wn) (r l p : Nat) : Bool := betw m.n 1 6 && decide ((r : Int) ≤ 9) && decide ((l : Int) ≤ 8) && decide ((p : Int) ≤ 4) && betw m.fall 1 99999 && betw m.win 1 2880 && betw m.hold 1 2880 && decide (0 ≤ m.dawn) && decide (m.dawn ≤ m.dusk) && decide (m.dusk ≤ 1440)
set_option maxHeartbeats 4000000 in
set_option maxRecDepth 100000 in
theorem soundRule_any (m : Wn) (A1 A2 A3 : Option Addr) (r l p c1 c2 c3 : Nat) (w : World) :
    Calls Tryz.prog 82 #[wtV m (.slice A1 r c1) (.slice A2 l c2) (.slice A3 p c3)] w fun e w' => e = .returned (.bool (ruleB m r l p)) ∧ Below w.heap.size w w' := by
  cases h1 : betw m.n 1 6
  · go_enter Tryz.func82, Tryz.ntmps82
    go_wp2_with (first | (go_at_call 72; refine (between_any _ _ _ _).mono ?_; rintro e wq ⟨rfl, rfl⟩))
    go_ret
    exact ⟨ret_bool (by first | (simp [ruleB, h1]; done) | (simp [ruleB, h1]; intros; omega)), by first | exact (Below.refl _ _).alloc (Nat.le_refl _) _ | exact ((Below.refl _ w).alloc (Nat.le_refl _) _).alloc (by simp) _ | exact (((Below.refl _ w).alloc (Nat.le_refl _) _).alloc (by simp) _).alloc (by simp <;> omega) _⟩
  · by_cases h2 : (r : Int) ≤ 9
    · by_cases h3 : (l : Int) ≤ 8
      · by_cases h4 : (p : Int) ≤ 4
        · cases h5 : betw m.fall 1 99999
          · go_enter Tryz.func82, Tryz.ntmps82
            go_wp2_with (first | (go_at_call 72; refine (between_any _ _ _ _).mono ?_; rintro e wq ⟨rfl, rfl⟩))
            go_ret
            exact ⟨ret_bool (by first | (simp [ruleB, h1, h2, h3, h4, h5]; done) | (simp [ruleB, h1, h2, h3, h4, h5]; intros; omega)), by first | exact (Below.refl _ _).alloc (Nat.le_refl _) _ | exact ((Below.refl _ w).alloc (Nat.le_refl _) _).alloc (by simp) _ | exact (((Below.refl _ w).alloc (Nat.le_refl _) _).alloc (by simp) _).alloc (by simp <;> omega) _⟩
          · cases h6 : betw m.win 1 2880
            · go_enter Tryz.func82, Tryz.ntmps82
              go_wp2_with (first | (go_at_call 72; refine (between_any _ _ _ _).mono ?_; rintro e wq ⟨rfl, rfl⟩))
              go_ret
              exact ⟨ret_bool (by first | (simp [ruleB, h1, h2, h3, h4, h5, h6]; done) | (simp [ruleB, h1, h2, h3, h4, h5, h6]; intros; omega)), by first | exact (Below.refl _ _).alloc (Nat.le_refl _) _ | exact ((Below.refl _ w).alloc (Nat.le_refl _) _).alloc (by simp) _ | exact (((Below.refl _ w).alloc (Nat.le_refl _) _).alloc (by simp) _).alloc (by simp <;> omega) _⟩
            · cases h7 : betw m.hold 1 2880
              · go_enter Tryz.func82, Tryz.ntmps82
                go_wp2_with (first | (go_at_call 72; refine (between_any _ _ _ _).mono ?_; rintro e wq ⟨rfl, rfl⟩))
                go_ret
                exact ⟨ret_bool (by first | (simp [ruleB, h1, h2, h3, h4, h5, h6, h7]; done) | (simp [ruleB, h1, h2, h3, h4, h5, h6, h7]; intros; omega)), by first | exact (Below.refl _ _).alloc (Nat.le_refl _) _ | exact ((Below.refl _ w).alloc (Nat.le_refl _) _).alloc (by simp) _ | exact (((Below.refl _ w).alloc (Nat.le_refl _) _).alloc (by simp) _).alloc (by simp <;> omega) _⟩
              · by_cases h8 : 0 ≤ m.dawn
                · by_cases h9 : m.dawn ≤ m.dusk
                  · by_cases h10 : m.dusk ≤ 1440
                    · go_enter Tryz.func82, Tryz.ntmps82
                      go_wp2_with (first | (go_at_call 72; refine (between_any _ _ _ _).mono ?_; rintro e wq ⟨rfl, rfl⟩))
                      go_ret
                      exact ⟨ret_bool (by first | (simp [ruleB, h1, h2, h3, h4, h5, h6, h7, h8, h9, h10]; done) | (simp [ruleB, h1, h2, h3, h4, h5, h6, h7, h8, h9, h10]; intros; omega)), by first | exact (Below.refl _ _).alloc (Nat.le_refl _) _ | exact ((Below.refl _ w).alloc (Nat.le_refl _) _).alloc (by simp) _ | exact (((Below.refl _ w).alloc (Nat.le_refl _) _).alloc (by simp) _).alloc (by simp <;> omega) _⟩
                    · go_enter Tryz.func82, Tryz.ntmps82
                      go_wp2_with (first | (go_at_call 72; refine (between_any _ _ _ _).mono ?_; rintro e wq ⟨rfl, rfl⟩))
                      go_ret
                      exact ⟨ret_bool (by first | (simp [ruleB, h1, h2, h3, h4, h5, h6, h7, h8, h9, h10]; done) | (simp [ruleB, h1, h2, h3, h4, h5, h6, h7, h8, h9, h10]; intros; omega)), by first | exact (Below.refl _ _).alloc (Nat.le_refl _) _ | exact ((Below.refl _ w).alloc (Nat.le_refl _) _).alloc (by simp) _ | exact (((Below.refl _ w).alloc (Nat.le_refl _) _).alloc (by simp) _).alloc (by simp <;> omega) _⟩
                  · go_enter Tryz.func82, Tryz.ntmps82
                    go_wp2_with (first | (go_at_call 72; refine (between_any _ _ _ _).mono ?_; rintro e wq ⟨rfl, rfl⟩))
                    go_ret
                    exact ⟨ret_bool (by first | (simp [ruleB, h1, h2, h3, h4, h5, h6, h7, h8, h9]; done) | (simp [ruleB, h1, h2, h3, h4, h5, h6, h7, h8, h9]; intros; omega)), by first | exact (Below.refl _ _).alloc (Nat.le_refl _) _ | exact ((Below.refl _ w).alloc (Nat.le_refl _) _).alloc (by simp) _ | exact (((Below.refl _ w).alloc (Nat.le_refl _) _).alloc (by simp) _).alloc (by simp <;> omega) _⟩
                · go_enter Tryz.func82, Tryz.ntmps82
                  go_wp2_with (first | (go_at_call 72; refine (between_any _ _ _ _).mono ?_; rintro e wq ⟨rfl, rfl⟩))
                  go_ret
                  exact ⟨ret_bool (by first | (simp [ruleB, h1, h2, h3, h4, h5, h6, h7, h8]; done) | (simp [ruleB, h1, h2, h3, h4, h5, h6, h7, h8]; intros; omega)), by first | exact (Below.refl _ _).alloc (Nat.le_refl _) _ | exact ((Below.refl _ w).alloc (Nat.le_refl _) _).alloc (by simp) _ | exact (((Below.refl _ w).alloc (Nat.le_refl _) _).alloc (by simp) _).alloc (by simp <;> omega) _⟩
        · go_enter Tryz.func82, Tryz.ntmps82
          go_wp2_with (first | (go_at_call 72; refine (between_any _ _ _ _).mono ?_; rintro e wq ⟨rfl, rfl⟩))
          go_ret
          exact ⟨ret_bool (by first | (simp [ruleB, h1, h2, h3, h4]; done) | (simp [ruleB, h1, h2, h3, h4]; intros; omega)), by first | exact (Below.refl _ _).alloc (Nat.le_refl _) _ | exact ((Below.refl _ w).alloc (Nat.le_refl _) _).alloc (by simp) _ | exact (((Below.refl _ w).alloc (Nat.le_refl _) _).alloc (by simp) _).alloc (by simp <;> omega) _⟩
      · go_enter Tryz.func82, Tryz.ntmps82
        go_wp2_with (first | (go_at_call 72; refine (between_any _ _ _ _).mono ?_; rintro e wq ⟨rfl, rfl⟩))
        go_ret
        exact ⟨ret_bool (by first | (simp [ruleB, h1, h2, h3]; done) | (simp [ruleB, h1, h2, h3]; intros; omega)), by first | exact (Below.refl _ _).alloc (Nat.le_refl _) _ | exact ((Below.refl _ w).alloc (Nat.le_refl _) _).alloc (by simp) _ | exact (((Below.refl _ w).alloc (Nat.le_refl _) _).alloc (by simp) _).alloc (by simp <;> omega) _⟩
    · go_enter Tryz.func82, Tryz.ntmps82
      go_wp2_with (first | (go_at_call 72; refine (between_any _ _ _ _).mono ?_; rintro e wq ⟨rfl, rfl⟩))
      go_ret
      exact ⟨ret_bool (by first | (simp [ruleB, h1, h2]; done) | (simp [ruleB, h1, h2]; intros; omega)), by first | exact (Below.refl _ _).alloc (Nat.le_refl _) _ | exact ((Below.refl _ w).alloc (Nat.le_refl _) _).alloc (by simp) _ | exact (((Below.refl _ w).alloc (Nat.le_refl _) _).alloc (by simp) _).alloc (by simp <;> omega) _⟩
theorem in_any (n lo hi : Int) (w : World) :
    Calls Tryz.prog 61 #[.int .i64 n, .int .i64 lo, .int .i64 hi] w fun e w' => e = .returned (.bool (betw n lo hi)) ∧ w = w' := by
  by_cases h1 : lo ≤ n
  · by_cases h2 : n ≤ hi
    · rw [betw_1 h1 h2]
      go_enter Tryz.func61, Tryz.ntmps61
      go_wp2
      go_ret
      exact ⟨rfl, rfl⟩
    · rw [betw_3 h2]
      go_enter Tryz.func61, Tryz.ntmps61
      go_wp2
      go_ret
      exact ⟨rfl, rfl⟩
  · rw [betw_2 h1]
    go_enter Tryz.func61, Tryz.ntmps61
    go_wp2
    go_ret
    exact ⟨rfl, rfl⟩
theorem rSpan_any (lo hi most : Int) (w : World) :
    Calls Tryz.prog 62 #[.agg #[.int .i64 lo, .int .i64 hi], .int .i64 most] w fun e w' => e = .returned (.bool (spanB lo hi most)) ∧ w' = w.alloc (.cells #[.int .i64 lo, .int .i64 hi] 56) := by
  by_cases h1 : 0 ≤ lo
  · by_cases h2 : lo ≤ hi
    · by_cases h3 : hi ≤ most
      · go_enter Tryz.func62, Tryz.ntmps62
        go_wp2
        go_ret
        exact ⟨ret_bool (by first | (simp [spanB, h1, h2, h3]; done) | (simp [spanB, h1, h2, h3]; intros; omega)), rfl⟩
      · go_enter Tryz.func62, Tryz.ntmps62
        go_wp2
        go_ret
        exact ⟨ret_bool (by first | (simp [spanB, h1, h2, h3]; done) | (simp [spanB, h1, h2, h3]; intros; omega)), rfl⟩
    · go_enter Tryz.func62, Tryz.ntmps62
      go_wp2
      go_ret
      exact ⟨ret_bool (by first | (simp [spanB, h1, h2]; done) | (simp [spanB, h1, h2]; intros; omega)), rfl⟩
  · go_enter Tryz.func62, Tryz.ntmps62
    go_wp2
    go_ret
    exact ⟨ret_bool (by first | (simp [spanB, h1]; done) | (simp [spanB, h1]; intros; omega)), rfl⟩
end Go.Proofs.YtldimlnllmojiaaGreat
