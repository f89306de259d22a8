/- The reference's Station and Reading. -/
import Derived.Test.YtffgcphmakfikaaDoorRefa
set_option linter.unusedVariables false
set_option linter.unusedSimpArgs false
namespace Go.Proofs.YtffgcphmakfikaaDoor
open Go.RowKit

set_option maxHeartbeats 800000 in
set_option maxRecDepth 100000 in
theorem rStation_some (s : Stn) (cs : List Chk) (b off cap : Nat) (w : World) (hcap : cs.length ≤ cap) (hm : cap ≤ maxLen) (hb : b < w.heap.size) (hc : ChksAt w b off cs) :
    Calls Tryd.prog 8 #[stV s (.slice (some ⟨b, off, none⟩) cs.length cap)] w fun e w' => e = .returned (.bool (soundB s cs)) ∧ Below w.heap.size w w' := by
  unfold maxLen at hm
  go_enter Tryd.func8, Tryd.ntmps8
  go_wp2_with fail
  go_loopw [3] (fun k wr => ∃ n : Nat, n ≤ cs.length ∧ k = .int .i64 n ∧ (cs.take n).all chkB = true ∧ Below (w.heap.size + 1) (w.alloc (.cells #[.int .i64 s.hl, .int .i64 s.hh, .int .i64 s.gl, .int .i64 s.gh, .int .i64 s.dr, .int .i64 s.rd, .int .i64 s.ea, .int .i64 s.sl, .slice (some ⟨b, off, none⟩) cs.length cap] 26)) wr) (fun k _ => cs.length - (intOf k).toNat)
  case atStart => exact ⟨0, Nat.zero_le _, rfl, by simp, Below.refl _ _⟩
  case round =>
    obtain ⟨n, hn, rfl, hall, hB⟩ := hrel
    have hbw : ∀ o, wr.cell? ⟨b, o, none⟩ = w.cell? ⟨b, o, none⟩ := fun o => (hB.cell (p := ⟨b, o, none⟩) (by show b < _; omega)).trans (World.cell?_of_block (Below.heap_alloc _ _ _ hb))
    have hz : w.heap.size + 1 ≤ wr.heap.size := by have := hB.size; simpa using this
    obtain ⟨hbc, hbf⟩ := bcell hB
    have hbox : ∀ o, wr.cell? ⟨w.heap.size, o, none⟩ = (w.alloc (.cells #[.int .i64 s.hl, .int .i64 s.hh, .int .i64 s.gl, .int .i64 s.gh, .int .i64 s.dr, .int .i64 s.rd, .int .i64 s.ea, .int .i64 s.sl, .slice (some ⟨b, off, none⟩) cs.length cap] 26)).cell? ⟨w.heap.size, o, none⟩ := fun o => hbc _ _ (by omega)
    by_cases hlt : n < cs.length
    · obtain ⟨c0, c1, c2⟩ := hc n cs[n] (List.getElem?_eq_getElem hlt)
      replace c0 := (hbw _).trans c0; replace c1 := (hbw _).trans c1; replace c2 := (hbw _).trans c2
      have hcn : cs[n]? = some cs[n] := List.getElem?_eq_getElem hlt
      have Hcn := Lib.hid hcn
      have Hall := Lib.hid hall
      generalize cs[n] = c at *
      clear hcn hall hc hbc hbf hbw
      by_cases hd : betw c.day 0 400 = true
      · by_cases hw : withinB c.lo c.hi (-2000) 2000 = true
        · go_wp2_with (first | (go_at_call 14; refine (rDay_any _ _).mono ?_; rintro e w' ⟨rfl, rfl⟩) | (go_at_call 27; refine (rSpan_any _ _ _ _ _).mono ?_; rintro e w1 ⟨rfl, hb1⟩))
          go_roundw
          case rel => exact ⟨n + 1, by omega, by go_num, all_take_succ Hcn.out Hall.out (by simp [chkB, hd, hw]), hB.trans (hb1.mono (by omega))⟩
          case measure => simp [intOf]; omega
        · have hw' := Bool.not_eq_true _ ▸ hw
          go_wp2_with (first | (go_at_call 14; refine (rDay_any _ _).mono ?_; rintro e w' ⟨rfl, rfl⟩) | (go_at_call 27; refine (rSpan_any _ _ _ _ _).mono ?_; rintro e w1 ⟨rfl, hb1⟩))
          go_ret
          exact ⟨ret_bool (by rw [soundB, all_false Hcn.out (by simp [chkB, hd, hw'])]; simp), (((Below.refl _ _).alloc (Nat.le_refl _) _).trans (hB.mono (by omega))).trans (hb1.mono (by omega))⟩
      · have hd' := Bool.not_eq_true _ ▸ hd
        go_wp2_with (first | (go_at_call 14; refine (rDay_any _ _).mono ?_; rintro e w' ⟨rfl, rfl⟩) | (go_at_call 27; refine (rSpan_any _ _ _ _ _).mono ?_; rintro e w1 ⟨rfl, hb1⟩))
        go_ret
        exact ⟨ret_bool (by rw [soundB, all_false Hcn.out (by simp [chkB, hd'])]; simp), ((Below.refl _ _).alloc (Nat.le_refl _) _).trans (hB.mono (by omega))⟩
    · obtain rfl : n = cs.length := by omega
      rw [List.take_length] at hall
      have Hs := Lib.hid (show soundB s cs = (lastB s && decide (cs.length ≤ 12)) by simp [soundB, lastB, hall, Bool.and_comm, Bool.and_assoc, Bool.and_left_comm])
      have H0 : Below w.heap.size w wr := ((Below.refl _ _).alloc (Nat.le_refl _) _).trans (hB.mono (by omega))
      clear hall hc hbw hbc hbf hB
      cases q0 : withinB s.hl s.hh 0 3000
      · have Hl := Lib.hid (show false = soundB s cs by rw [Hs.out]; simp [lastB, q0])
        go_wp2_with (first | (go_at_call 15; refine (in_any _ _ _ _).mono ?_; rintro e w' ⟨rfl, rfl⟩) | (go_at_call 27; refine (rSpan_any _ _ _ _ _).mono ?_; rintro e w1 ⟨rfl, hb1⟩; replace hbox := fun o => (hb1.cell (p := ⟨w.heap.size, o, none⟩) (by show w.heap.size < _; omega)).trans (hbox o); have hz1 := hb1.size; replace H0 := H0.trans (hb1.mono H0.size); clear hb1))
        go_ret
        exact ⟨ret_bool Hl.out, H0⟩
      cases q1 : withinB s.gl s.gh (-3000) 3000
      · have Hl := Lib.hid (show false = soundB s cs by rw [Hs.out]; simp [lastB, q0, q1])
        go_wp2_with (first | (go_at_call 15; refine (in_any _ _ _ _).mono ?_; rintro e w' ⟨rfl, rfl⟩) | (go_at_call 27; refine (rSpan_any _ _ _ _ _).mono ?_; rintro e w1 ⟨rfl, hb1⟩; replace hbox := fun o => (hb1.cell (p := ⟨w.heap.size, o, none⟩) (by show w.heap.size < _; omega)).trans (hbox o); have hz1 := hb1.size; replace H0 := H0.trans (hb1.mono H0.size); clear hb1))
        go_ret
        exact ⟨ret_bool Hl.out, H0⟩
      cases q2 : betw s.dr 0 100
      · have Hl := Lib.hid (show false = soundB s cs by rw [Hs.out]; simp [lastB, q0, q1, q2])
        go_wp2_with (first | (go_at_call 15; refine (in_any _ _ _ _).mono ?_; rintro e w' ⟨rfl, rfl⟩) | (go_at_call 27; refine (rSpan_any _ _ _ _ _).mono ?_; rintro e w1 ⟨rfl, hb1⟩; replace hbox := fun o => (hb1.cell (p := ⟨w.heap.size, o, none⟩) (by show w.heap.size < _; omega)).trans (hbox o); have hz1 := hb1.size; replace H0 := H0.trans (hb1.mono H0.size); clear hb1))
        go_ret
        exact ⟨ret_bool Hl.out, H0⟩
      cases q3 : betw s.rd 0 200
      · have Hl := Lib.hid (show false = soundB s cs by rw [Hs.out]; simp [lastB, q0, q1, q2, q3])
        go_wp2_with (first | (go_at_call 15; refine (in_any _ _ _ _).mono ?_; rintro e w' ⟨rfl, rfl⟩) | (go_at_call 27; refine (rSpan_any _ _ _ _ _).mono ?_; rintro e w1 ⟨rfl, hb1⟩; replace hbox := fun o => (hb1.cell (p := ⟨w.heap.size, o, none⟩) (by show w.heap.size < _; omega)).trans (hbox o); have hz1 := hb1.size; replace H0 := H0.trans (hb1.mono H0.size); clear hb1))
        go_ret
        exact ⟨ret_bool Hl.out, H0⟩
      cases q4 : betw s.ea (-720) 720
      · have Hl := Lib.hid (show false = soundB s cs by rw [Hs.out]; simp [lastB, q0, q1, q2, q3, q4])
        go_wp2_with (first | (go_at_call 15; refine (in_any _ _ _ _).mono ?_; rintro e w' ⟨rfl, rfl⟩) | (go_at_call 27; refine (rSpan_any _ _ _ _ _).mono ?_; rintro e w1 ⟨rfl, hb1⟩; replace hbox := fun o => (hb1.cell (p := ⟨w.heap.size, o, none⟩) (by show w.heap.size < _; omega)).trans (hbox o); have hz1 := hb1.size; replace H0 := H0.trans (hb1.mono H0.size); clear hb1))
        go_ret
        exact ⟨ret_bool Hl.out, H0⟩
      cases q5 : betw s.sl 0 60
      · have Hl := Lib.hid (show false = soundB s cs by rw [Hs.out]; simp [lastB, q0, q1, q2, q3, q4, q5])
        go_wp2_with (first | (go_at_call 15; refine (in_any _ _ _ _).mono ?_; rintro e w' ⟨rfl, rfl⟩) | (go_at_call 27; refine (rSpan_any _ _ _ _ _).mono ?_; rintro e w1 ⟨rfl, hb1⟩; replace hbox := fun o => (hb1.cell (p := ⟨w.heap.size, o, none⟩) (by show w.heap.size < _; omega)).trans (hbox o); have hz1 := hb1.size; replace H0 := H0.trans (hb1.mono H0.size); clear hb1))
        go_ret
        exact ⟨ret_bool Hl.out, H0⟩
      have Hl := Lib.hid (show decide ((cs.length : Int) ≤ 12) = soundB s cs by rw [Hs.out]; simp only [lastB, q0, q1, q2, q3, q4, q5, Bool.and_self, Bool.true_and]; exact decide_eq_decide.2 (by omega))
      go_wp2_with (first | (go_at_call 15; refine (in_any _ _ _ _).mono ?_; rintro e w' ⟨rfl, rfl⟩) | (go_at_call 27; refine (rSpan_any _ _ _ _ _).mono ?_; rintro e w1 ⟨rfl, hb1⟩; replace hbox := fun o => (hb1.cell (p := ⟨w.heap.size, o, none⟩) (by show w.heap.size < _; omega)).trans (hbox o); have hz1 := hb1.size; replace H0 := H0.trans (hb1.mono H0.size); clear hb1))
      go_ret
      exact ⟨ret_bool Hl.out, H0⟩

set_option maxHeartbeats 800000 in
theorem rStation_nil (s : Stn) (A : Option Addr) (cap : Nat) (w : World) :
    Calls Tryd.prog 8 #[stV s (.slice A 0 cap)] w fun e w' => e = .returned (.bool (soundB s [])) ∧ Below w.heap.size w w' := by
  go_enter Tryd.func8, Tryd.ntmps8
  go_wp2_with fail
  go_loopw [3] (fun k wr => k = .int .i64 0 ∧ Below (w.heap.size + 1) (w.alloc (.cells #[.int .i64 s.hl, .int .i64 s.hh, .int .i64 s.gl, .int .i64 s.gh, .int .i64 s.dr, .int .i64 s.rd, .int .i64 s.ea, .int .i64 s.sl, .slice A 0 cap] 26)) wr) (fun k _ => (0 - intOf k).toNat)
  case atStart => exact ⟨rfl, Below.refl _ _⟩
  case round =>
    obtain ⟨rfl, hB⟩ := hrel
    have hz : w.heap.size + 1 ≤ wr.heap.size := by have := hB.size; simpa using this
    have hbox : ∀ o, wr.cell? ⟨w.heap.size, o, none⟩ = (w.alloc (.cells #[.int .i64 s.hl, .int .i64 s.hh, .int .i64 s.gl, .int .i64 s.gh, .int .i64 s.dr, .int .i64 s.rd, .int .i64 s.ea, .int .i64 s.sl, .slice A 0 cap] 26)).cell? ⟨w.heap.size, o, none⟩ := fun o => hB.cell (p := ⟨w.heap.size, o, none⟩) (by show w.heap.size < _; omega)
    have Hs := Lib.hid (show soundB s [] = lastB s by simp [soundB, lastB])
    have H0 : Below w.heap.size w wr := ((Below.refl _ _).alloc (Nat.le_refl _) _).trans (hB.mono (by omega))
    clear hB
    cases q0 : withinB s.hl s.hh 0 3000
    · have Hl := Lib.hid (show false = soundB s [] by rw [Hs.out]; simp [lastB, q0])
      go_wp2_with (first | (go_at_call 15; refine (in_any _ _ _ _).mono ?_; rintro e w' ⟨rfl, rfl⟩) | (go_at_call 27; refine (rSpan_any _ _ _ _ _).mono ?_; rintro e w1 ⟨rfl, hb1⟩; replace hbox := fun o => (hb1.cell (p := ⟨w.heap.size, o, none⟩) (by show w.heap.size < _; omega)).trans (hbox o); have hz1 := hb1.size; replace H0 := H0.trans (hb1.mono H0.size); clear hb1))
      go_ret
      exact ⟨ret_bool Hl.out, H0⟩
    cases q1 : withinB s.gl s.gh (-3000) 3000
    · have Hl := Lib.hid (show false = soundB s [] by rw [Hs.out]; simp [lastB, q0, q1])
      go_wp2_with (first | (go_at_call 15; refine (in_any _ _ _ _).mono ?_; rintro e w' ⟨rfl, rfl⟩) | (go_at_call 27; refine (rSpan_any _ _ _ _ _).mono ?_; rintro e w1 ⟨rfl, hb1⟩; replace hbox := fun o => (hb1.cell (p := ⟨w.heap.size, o, none⟩) (by show w.heap.size < _; omega)).trans (hbox o); have hz1 := hb1.size; replace H0 := H0.trans (hb1.mono H0.size); clear hb1))
      go_ret
      exact ⟨ret_bool Hl.out, H0⟩
    cases q2 : betw s.dr 0 100
    · have Hl := Lib.hid (show false = soundB s [] by rw [Hs.out]; simp [lastB, q0, q1, q2])
      go_wp2_with (first | (go_at_call 15; refine (in_any _ _ _ _).mono ?_; rintro e w' ⟨rfl, rfl⟩) | (go_at_call 27; refine (rSpan_any _ _ _ _ _).mono ?_; rintro e w1 ⟨rfl, hb1⟩; replace hbox := fun o => (hb1.cell (p := ⟨w.heap.size, o, none⟩) (by show w.heap.size < _; omega)).trans (hbox o); have hz1 := hb1.size; replace H0 := H0.trans (hb1.mono H0.size); clear hb1))
      go_ret
      exact ⟨ret_bool Hl.out, H0⟩
    cases q3 : betw s.rd 0 200
    · have Hl := Lib.hid (show false = soundB s [] by rw [Hs.out]; simp [lastB, q0, q1, q2, q3])
      go_wp2_with (first | (go_at_call 15; refine (in_any _ _ _ _).mono ?_; rintro e w' ⟨rfl, rfl⟩) | (go_at_call 27; refine (rSpan_any _ _ _ _ _).mono ?_; rintro e w1 ⟨rfl, hb1⟩; replace hbox := fun o => (hb1.cell (p := ⟨w.heap.size, o, none⟩) (by show w.heap.size < _; omega)).trans (hbox o); have hz1 := hb1.size; replace H0 := H0.trans (hb1.mono H0.size); clear hb1))
      go_ret
      exact ⟨ret_bool Hl.out, H0⟩
    cases q4 : betw s.ea (-720) 720
    · have Hl := Lib.hid (show false = soundB s [] by rw [Hs.out]; simp [lastB, q0, q1, q2, q3, q4])
      go_wp2_with (first | (go_at_call 15; refine (in_any _ _ _ _).mono ?_; rintro e w' ⟨rfl, rfl⟩) | (go_at_call 27; refine (rSpan_any _ _ _ _ _).mono ?_; rintro e w1 ⟨rfl, hb1⟩; replace hbox := fun o => (hb1.cell (p := ⟨w.heap.size, o, none⟩) (by show w.heap.size < _; omega)).trans (hbox o); have hz1 := hb1.size; replace H0 := H0.trans (hb1.mono H0.size); clear hb1))
      go_ret
      exact ⟨ret_bool Hl.out, H0⟩
    cases q5 : betw s.sl 0 60
    · have Hl := Lib.hid (show false = soundB s [] by rw [Hs.out]; simp [lastB, q0, q1, q2, q3, q4, q5])
      go_wp2_with (first | (go_at_call 15; refine (in_any _ _ _ _).mono ?_; rintro e w' ⟨rfl, rfl⟩) | (go_at_call 27; refine (rSpan_any _ _ _ _ _).mono ?_; rintro e w1 ⟨rfl, hb1⟩; replace hbox := fun o => (hb1.cell (p := ⟨w.heap.size, o, none⟩) (by show w.heap.size < _; omega)).trans (hbox o); have hz1 := hb1.size; replace H0 := H0.trans (hb1.mono H0.size); clear hb1))
      go_ret
      exact ⟨ret_bool Hl.out, H0⟩
    have Hl := Lib.hid (show true = soundB s [] by rw [Hs.out]; simp [lastB, q0, q1, q2, q3, q4, q5])
    go_wp2_with (first | (go_at_call 15; refine (in_any _ _ _ _).mono ?_; rintro e w' ⟨rfl, rfl⟩) | (go_at_call 27; refine (rSpan_any _ _ _ _ _).mono ?_; rintro e w1 ⟨rfl, hb1⟩; replace hbox := fun o => (hb1.cell (p := ⟨w.heap.size, o, none⟩) (by show w.heap.size < _; omega)).trans (hbox o); have hz1 := hb1.size; replace H0 := H0.trans (hb1.mono H0.size); clear hb1))
    go_ret
    exact ⟨ret_bool Hl.out, H0⟩

theorem rStation_any {s : Stn} {v : Value} {cs : List Chk} {w : World} (h : Chks w v cs) :
    Calls Tryd.prog 8 #[stV s v] w fun e w' => e = .returned (.bool (soundB s cs)) ∧ Below w.heap.size w w' := by
  obtain ⟨A, cap, rfl, hl, hm, h⟩ := h
  rcases h with rfl | ⟨b, off, rfl, hlt, hc⟩
  · exact rStation_nil s A cap w
  · exact rStation_some s cs b off cap w hl hm hlt hc
end Go.Proofs.YtffgcphmakfikaaDoor
