/- Part of a claim on cone. -/
import Derived.Test.YtldimlnllmojiaaGreatVa
set_option linter.unusedVariables false
set_option linter.unusedSimpArgs false
namespace Go.Proofs.YtldimlnllmojiaaGreat
open Go.RowKit
def spanB (lo hi most : Int) : Bool := decide (0 ≤ lo) && decide (lo ≤ hi) && decide (hi ≤ most)
theorem soundSpan_any (lo hi most : Int) (w : World) :
    Calls Tryz.prog 99 #[.agg #[.int .i64 lo, .int .i64 hi], .int .i64 most] w fun e w' => e = .returned (.bool (spanB lo hi most)) ∧ w' = w.alloc (.cells #[.int .i64 lo, .int .i64 hi] 56) := by
  by_cases h1 : 0 ≤ lo
  · by_cases h2 : lo ≤ hi
    · by_cases h3 : hi ≤ most
      · go_enter Tryz.func99, Tryz.ntmps99
        go_wp2
        go_ret
        exact ⟨ret_bool (by simp [spanB, h1, h2, h3]), rfl⟩
      · go_enter Tryz.func99, Tryz.ntmps99
        go_wp2
        go_ret
        exact ⟨ret_bool (by simp [spanB, h1, h2, h3]), rfl⟩
    · go_enter Tryz.func99, Tryz.ntmps99
      go_wp2
      go_ret
      exact ⟨ret_bool (by simp [spanB]; omega), rfl⟩
  · go_enter Tryz.func99, Tryz.ntmps99
    go_wp2
    go_ret
    exact ⟨ret_bool (by simp [spanB]; omega), rfl⟩
theorem narrow_any (lo hi : Int) (w : World) (h1 : 0 ≤ lo) (h2 : lo ≤ hi) (h3 : hi ≤ 1000000) :
    Calls Tryz.prog 100 #[.agg #[.int .i64 lo, .int .i64 hi]] w fun e w' => e = .returned (.bool (decide (hi - lo ≤ 300))) ∧ w' = w.alloc (.cells #[.int .i64 lo, .int .i64 hi] 56) := by
  have e1 : IntKind.i64.wrap (hi - lo) = hi - lo := IntWalk.i64_in _ (by omega)
  by_cases h4 : hi - lo ≤ 300
  · go_enter Tryz.func100, Tryz.ntmps100
    go_wp2
    go_ret
    exact ⟨ret_bool (by simp [h4]), rfl⟩
  · go_enter Tryz.func100, Tryz.ntmps100
    go_wp2
    go_ret
    exact ⟨ret_bool (by simp [h4]), rfl⟩
structure Rep where
  st : Int
  tk : Int
  pr : Int
  dlo : Int
  dhi : Int
  ur : Int
  co : Int
structure Lnk where
  a : Int
  b : Int
  df : Int
@[reducible] def repV (r : Rep) : Value := .agg #[.int .i64 r.st, .int .i64 r.tk, .int .i64 r.pr, .int .i64 r.dlo, .int .i64 r.dhi, .int .i64 r.ur, .int .i64 r.co]
@[reducible] def lnkV (l : Lnk) : Value := .agg #[.int .i64 l.a, .int .i64 l.b, .int .i64 l.df]
def repB (r : Rep) (n : Int) : Bool := betw r.st 0 (n - 1) && betw r.tk 0 10080 && betw r.pr 0 99999 && spanB r.dlo r.dhi 2880 && betw r.ur 0 2880 && betw r.co 0 10000
def lnkB (l : Lnk) (n : Int) : Bool := betw l.a 0 (n - 1) && betw l.b 0 (n - 1) && decide (l.a ≠ l.b) && betw l.df 1 99999
set_option maxHeartbeats 2000000 in
set_option maxRecDepth 100000 in
theorem soundReport_any (r : Rep) (n : Int) (w : World) (hn : 0 ≤ n) (hn' : n ≤ 1000000) :
    Calls Tryz.prog 83 #[repV r, .int .i64 n] w fun e w' => e = .returned (.bool (repB r n)) ∧ Below w.heap.size w w' := by
  have w1 : IntKind.i64.wrap (n - 1) = n - 1 := IntWalk.i64_in _ (by omega)
  cases h1 : betw r.st 0 (n - 1)
  · go_enter Tryz.func83, Tryz.ntmps83
    go_wp2_with (first | (go_at_call 72; refine (between_any _ _ _ _).mono ?_; rintro e wq ⟨rfl, rfl⟩) | (go_at_call 99; refine (soundSpan_any _ _ _ _).mono ?_; rintro e wq ⟨rfl, rfl⟩))
    go_ret
    exact ⟨ret_bool (by simp [repB, h1]), by first | exact (Below.refl _ _).alloc (Nat.le_refl _) _ | exact ((Below.refl _ w).alloc (Nat.le_refl _) _).alloc (by simp) _ | exact (((Below.refl _ w).alloc (Nat.le_refl _) _).alloc (by simp) _).alloc (by simp <;> omega) _⟩
  · cases h2 : betw r.tk 0 10080
    · go_enter Tryz.func83, Tryz.ntmps83
      go_wp2_with (first | (go_at_call 72; refine (between_any _ _ _ _).mono ?_; rintro e wq ⟨rfl, rfl⟩) | (go_at_call 99; refine (soundSpan_any _ _ _ _).mono ?_; rintro e wq ⟨rfl, rfl⟩))
      go_ret
      exact ⟨ret_bool (by simp [repB, h1, h2]), by first | exact (Below.refl _ _).alloc (Nat.le_refl _) _ | exact ((Below.refl _ w).alloc (Nat.le_refl _) _).alloc (by simp) _ | exact (((Below.refl _ w).alloc (Nat.le_refl _) _).alloc (by simp) _).alloc (by simp <;> omega) _⟩
    · cases h3 : betw r.pr 0 99999
      · go_enter Tryz.func83, Tryz.ntmps83
        go_wp2_with (first | (go_at_call 72; refine (between_any _ _ _ _).mono ?_; rintro e wq ⟨rfl, rfl⟩) | (go_at_call 99; refine (soundSpan_any _ _ _ _).mono ?_; rintro e wq ⟨rfl, rfl⟩))
        go_ret
        exact ⟨ret_bool (by simp [repB, h1, h2, h3]), by first | exact (Below.refl _ _).alloc (Nat.le_refl _) _ | exact ((Below.refl _ w).alloc (Nat.le_refl _) _).alloc (by simp) _ | exact (((Below.refl _ w).alloc (Nat.le_refl _) _).alloc (by simp) _).alloc (by simp <;> omega) _⟩
      · cases h4 : spanB r.dlo r.dhi 2880
        · go_enter Tryz.func83, Tryz.ntmps83
          go_wp2_with (first | (go_at_call 72; refine (between_any _ _ _ _).mono ?_; rintro e wq ⟨rfl, rfl⟩) | (go_at_call 99; refine (soundSpan_any _ _ _ _).mono ?_; rintro e wq ⟨rfl, rfl⟩))
          go_ret
          exact ⟨ret_bool (by simp [repB, h1, h2, h3, h4]), by first | exact (Below.refl _ _).alloc (Nat.le_refl _) _ | exact ((Below.refl _ w).alloc (Nat.le_refl _) _).alloc (by simp) _ | exact (((Below.refl _ w).alloc (Nat.le_refl _) _).alloc (by simp) _).alloc (by simp <;> omega) _⟩
        · cases h5 : betw r.ur 0 2880
          · go_enter Tryz.func83, Tryz.ntmps83
            go_wp2_with (first | (go_at_call 72; refine (between_any _ _ _ _).mono ?_; rintro e wq ⟨rfl, rfl⟩) | (go_at_call 99; refine (soundSpan_any _ _ _ _).mono ?_; rintro e wq ⟨rfl, rfl⟩))
            go_ret
            exact ⟨ret_bool (by simp [repB, h1, h2, h3, h4, h5]), by first | exact (Below.refl _ _).alloc (Nat.le_refl _) _ | exact ((Below.refl _ w).alloc (Nat.le_refl _) _).alloc (by simp) _ | exact (((Below.refl _ w).alloc (Nat.le_refl _) _).alloc (by simp) _).alloc (by simp <;> omega) _⟩
          · cases h6 : betw r.co 0 10000
            · go_enter Tryz.func83, Tryz.ntmps83
              go_wp2_with (first | (go_at_call 72; refine (between_any _ _ _ _).mono ?_; rintro e wq ⟨rfl, rfl⟩) | (go_at_call 99; refine (soundSpan_any _ _ _ _).mono ?_; rintro e wq ⟨rfl, rfl⟩))
              go_ret
              exact ⟨ret_bool (by simp [repB, h1, h2, h3, h4, h5, h6]), by first | exact (Below.refl _ _).alloc (Nat.le_refl _) _ | exact ((Below.refl _ w).alloc (Nat.le_refl _) _).alloc (by simp) _ | exact (((Below.refl _ w).alloc (Nat.le_refl _) _).alloc (by simp) _).alloc (by simp <;> omega) _⟩
            · go_enter Tryz.func83, Tryz.ntmps83
              go_wp2_with (first | (go_at_call 72; refine (between_any _ _ _ _).mono ?_; rintro e wq ⟨rfl, rfl⟩) | (go_at_call 99; refine (soundSpan_any _ _ _ _).mono ?_; rintro e wq ⟨rfl, rfl⟩))
              go_ret
              exact ⟨ret_bool (by simp [repB, h1, h2, h3, h4, h5, h6]), by first | exact (Below.refl _ _).alloc (Nat.le_refl _) _ | exact ((Below.refl _ w).alloc (Nat.le_refl _) _).alloc (by simp) _ | exact (((Below.refl _ w).alloc (Nat.le_refl _) _).alloc (by simp) _).alloc (by simp <;> omega) _⟩
set_option maxHeartbeats 2000000 in
set_option maxRecDepth 100000 in
theorem soundLink_any (l : Lnk) (n : Int) (w : World) (hn : 0 ≤ n) (hn' : n ≤ 1000000) :
    Calls Tryz.prog 84 #[lnkV l, .int .i64 n] w fun e w' => e = .returned (.bool (lnkB l n)) ∧ Below w.heap.size w w' := by
  have w1 : IntKind.i64.wrap (n - 1) = n - 1 := IntWalk.i64_in _ (by omega)
  cases h1 : betw l.a 0 (n - 1)
  · go_enter Tryz.func84, Tryz.ntmps84
    go_wp2_with (first | (go_at_call 72; refine (between_any _ _ _ _).mono ?_; rintro e wq ⟨rfl, rfl⟩))
    go_ret
    exact ⟨ret_bool (by simp [lnkB, h1]), by first | exact (Below.refl _ _).alloc (Nat.le_refl _) _ | exact ((Below.refl _ w).alloc (Nat.le_refl _) _).alloc (by simp) _ | exact (((Below.refl _ w).alloc (Nat.le_refl _) _).alloc (by simp) _).alloc (by simp <;> omega) _⟩
  · cases h2 : betw l.b 0 (n - 1)
    · go_enter Tryz.func84, Tryz.ntmps84
      go_wp2_with (first | (go_at_call 72; refine (between_any _ _ _ _).mono ?_; rintro e wq ⟨rfl, rfl⟩))
      go_ret
      exact ⟨ret_bool (by simp [lnkB, h1, h2]), by first | exact (Below.refl _ _).alloc (Nat.le_refl _) _ | exact ((Below.refl _ w).alloc (Nat.le_refl _) _).alloc (by simp) _ | exact (((Below.refl _ w).alloc (Nat.le_refl _) _).alloc (by simp) _).alloc (by simp <;> omega) _⟩
    · by_cases h3 : l.a = l.b
      · go_enter Tryz.func84, Tryz.ntmps84
        go_wp2_with (first | (go_at_call 72; refine (between_any _ _ _ _).mono ?_; rintro e wq ⟨rfl, rfl⟩))
        go_ret
        exact ⟨ret_bool (by simp [lnkB, h1, h2, h3]), by first | exact (Below.refl _ _).alloc (Nat.le_refl _) _ | exact ((Below.refl _ w).alloc (Nat.le_refl _) _).alloc (by simp) _ | exact (((Below.refl _ w).alloc (Nat.le_refl _) _).alloc (by simp) _).alloc (by simp <;> omega) _⟩
      · cases h4 : betw l.df 1 99999
        · go_enter Tryz.func84, Tryz.ntmps84
          go_wp2_with (first | (go_at_call 72; refine (between_any _ _ _ _).mono ?_; rintro e wq ⟨rfl, rfl⟩))
          go_ret
          exact ⟨ret_bool (by simp [lnkB, h1, h2, h3, h4]), by first | exact (Below.refl _ _).alloc (Nat.le_refl _) _ | exact ((Below.refl _ w).alloc (Nat.le_refl _) _).alloc (by simp) _ | exact (((Below.refl _ w).alloc (Nat.le_refl _) _).alloc (by simp) _).alloc (by simp <;> omega) _⟩
        · go_enter Tryz.func84, Tryz.ntmps84
          go_wp2_with (first | (go_at_call 72; refine (between_any _ _ _ _).mono ?_; rintro e wq ⟨rfl, rfl⟩))
          go_ret
          exact ⟨ret_bool (by simp [lnkB, h1, h2, h3, h4]), by first | exact (Below.refl _ _).alloc (Nat.le_refl _) _ | exact ((Below.refl _ w).alloc (Nat.le_refl _) _).alloc (by simp) _ | exact (((Below.refl _ w).alloc (Nat.le_refl _) _).alloc (by simp) _).alloc (by simp <;> omega) _⟩
structure Prt where
  olo : Int
  ohi : Int
  dy : Int
  nt : Int
@[reducible] def prtV (p : Prt) : Value := .agg #[.int .i64 p.olo, .int .i64 p.ohi, .int .i64 p.dy, .int .i64 p.nt]
def prtB (p : Prt) : Bool := spanB p.olo p.ohi 2880 && decide (p.ohi - p.olo ≤ 300) && betw p.dy 0 50000 && betw p.nt 0 50000
set_option maxHeartbeats 2000000 in
set_option maxRecDepth 100000 in
theorem soundSignal_any (p : Prt) (w : World) :
    Calls Tryz.prog 85 #[prtV p] w fun e w' => e = .returned (.bool (prtB p)) ∧ Below w.heap.size w w' := by
  have HN : ∀ (W : World), spanB p.olo p.ohi 2880 = true → Calls Tryz.prog 100 #[.agg #[.int .i64 p.olo, .int .i64 p.ohi]] W fun e w' => e = .returned (.bool (decide (p.ohi - p.olo ≤ 300))) ∧ w' = W.alloc (.cells #[.int .i64 p.olo, .int .i64 p.ohi] 56) := fun W h => by
    simp only [spanB, Bool.and_eq_true, decide_eq_true_eq] at h
    exact narrow_any _ _ W (by omega) (by omega) (by omega)
  have HN := Lib.hid HN
  cases h1 : spanB p.olo p.ohi 2880
  · go_enter Tryz.func85, Tryz.ntmps85
    go_wp2_with (first | (go_at_call 72; refine (between_any _ _ _ _).mono ?_; rintro e wq ⟨rfl, rfl⟩) | (go_at_call 99; refine (soundSpan_any _ _ _ _).mono ?_; rintro e wq ⟨rfl, rfl⟩) | (go_at_call 100; refine (HN.out _ h1).mono ?_; rintro e wq ⟨rfl, rfl⟩))
    go_ret
    exact ⟨ret_bool (by simp [prtB, h1]), by first | exact (Below.refl _ _).alloc (Nat.le_refl _) _ | exact ((Below.refl _ w).alloc (Nat.le_refl _) _).alloc (by simp) _ | exact (((Below.refl _ w).alloc (Nat.le_refl _) _).alloc (by simp) _).alloc (by simp <;> omega) _⟩
  · cases h2 : decide (p.ohi - p.olo ≤ 300)
    · go_enter Tryz.func85, Tryz.ntmps85
      go_wp2_with (first | (go_at_call 72; refine (between_any _ _ _ _).mono ?_; rintro e wq ⟨rfl, rfl⟩) | (go_at_call 99; refine (soundSpan_any _ _ _ _).mono ?_; rintro e wq ⟨rfl, rfl⟩) | (go_at_call 100; refine (HN.out _ h1).mono ?_; rintro e wq ⟨rfl, rfl⟩))
      go_ret
      exact ⟨ret_bool (by simp [prtB, h1, h2]), by first | exact (Below.refl _ _).alloc (Nat.le_refl _) _ | exact ((Below.refl _ w).alloc (Nat.le_refl _) _).alloc (by simp) _ | exact (((Below.refl _ w).alloc (Nat.le_refl _) _).alloc (by simp) _).alloc (by simp <;> omega) _⟩
    · cases h3 : betw p.dy 0 50000
      · go_enter Tryz.func85, Tryz.ntmps85
        go_wp2_with (first | (go_at_call 72; refine (between_any _ _ _ _).mono ?_; rintro e wq ⟨rfl, rfl⟩) | (go_at_call 99; refine (soundSpan_any _ _ _ _).mono ?_; rintro e wq ⟨rfl, rfl⟩) | (go_at_call 100; refine (HN.out _ h1).mono ?_; rintro e wq ⟨rfl, rfl⟩))
        go_ret
        exact ⟨ret_bool (by simp [prtB, h1, h2, h3]), by first | exact (Below.refl _ _).alloc (Nat.le_refl _) _ | exact ((Below.refl _ w).alloc (Nat.le_refl _) _).alloc (by simp) _ | exact (((Below.refl _ w).alloc (Nat.le_refl _) _).alloc (by simp) _).alloc (by simp <;> omega) _⟩
      · cases h4 : betw p.nt 0 50000
        · go_enter Tryz.func85, Tryz.ntmps85
          go_wp2_with (first | (go_at_call 72; refine (between_any _ _ _ _).mono ?_; rintro e wq ⟨rfl, rfl⟩) | (go_at_call 99; refine (soundSpan_any _ _ _ _).mono ?_; rintro e wq ⟨rfl, rfl⟩) | (go_at_call 100; refine (HN.out _ h1).mono ?_; rintro e wq ⟨rfl, rfl⟩))
          go_ret
          exact ⟨ret_bool (by simp [prtB, h1, h2, h3, h4]), by first | exact (Below.refl _ _).alloc (Nat.le_refl _) _ | exact ((Below.refl _ w).alloc (Nat.le_refl _) _).alloc (by simp) _ | exact (((Below.refl _ w).alloc (Nat.le_refl _) _).alloc (by simp) _).alloc (by simp <;> omega) _⟩
        · go_enter Tryz.func85, Tryz.ntmps85
          go_wp2_with (first | (go_at_call 72; refine (between_any _ _ _ _).mono ?_; rintro e wq ⟨rfl, rfl⟩) | (go_at_call 99; refine (soundSpan_any _ _ _ _).mono ?_; rintro e wq ⟨rfl, rfl⟩) | (go_at_call 100; refine (HN.out _ h1).mono ?_; rintro e wq ⟨rfl, rfl⟩))
          go_ret
          exact ⟨ret_bool (by simp [prtB, h1, h2, h3, h4]), by first | exact (Below.refl _ _).alloc (Nat.le_refl _) _ | exact ((Below.refl _ w).alloc (Nat.le_refl _) _).alloc (by simp) _ | exact (((Below.refl _ w).alloc (Nat.le_refl _) _).alloc (by simp) _).alloc (by simp <;> omega) _⟩
end Go.Proofs.YtldimlnllmojiaaGreat
