/- The reference's Reading. -/
import Derived.Test.YtffgcphmakfikaaDoorRefs
set_option linter.unusedVariables false
set_option linter.unusedSimpArgs false
namespace Go.Proofs.YtffgcphmakfikaaDoor
open Go.RowKit
set_option maxHeartbeats 1600000 in
theorem rReading_any (r : Rdg) (w : World) :
    Calls Tryd.prog 5 #[rdV r] w fun x w' => x = .returned (.bool (readB r)) ∧ Below w.heap.size w w' := by
  have H0 : Below w.heap.size w (w.alloc (rdBox r)) := (Below.refl _ _).alloc (Nat.le_refl _) _
  have Hs := Lib.hid (show readB r = (betw r.day 0 400 && betw r.mi 0 1439 && decide (1 ≤ r.cl) && decide (r.cl ≤ 3) && betw r.me 40000 90000 && withinB r.al r.ah (-300) 500 && withinB r.dl r.dh (-300) 500 && withinB r.wl r.wh (-300) 500) by simp only [readB, restB]; ac_rfl)
  cases q0 : betw r.day 0 400
  · have Hl := Lib.hid (show false = readB r by rw [Hs.out]; simp [q0])
    go_enter Tryd.func5, Tryd.ntmps5
    go_wp2_with (first | (go_at_call 14; refine (rDay_any _ _).mono ?_; rintro e w' ⟨rfl, rfl⟩) | (go_at_call 15; refine (in_any _ _ _ _).mono ?_; rintro e w' ⟨rfl, rfl⟩) | (go_at_call 16; (refine (rWarm_any _ _ _).mono ?_; rintro e w1 ⟨rfl, hb1⟩; have hz0 := H0.size; (first | replace hbox := fun o => (hb1.cell (p := ⟨w.heap.size, o, none⟩) (by show w.heap.size < _; omega)).trans (hbox o) | have hbox := fun o => hb1.cell (p := ⟨w.heap.size, o, none⟩) (by show w.heap.size < _; simp)); have hz1 := hb1.size; (try simp at hz1); replace H0 := H0.trans (hb1.mono H0.size); clear hb1)))
    go_ret
    exact ⟨ret_bool Hl.out, H0⟩
  cases q1 : betw r.mi 0 1439
  · have Hl := Lib.hid (show false = readB r by rw [Hs.out]; simp [q0, q1])
    go_enter Tryd.func5, Tryd.ntmps5
    go_wp2_with (first | (go_at_call 14; refine (rDay_any _ _).mono ?_; rintro e w' ⟨rfl, rfl⟩) | (go_at_call 15; refine (in_any _ _ _ _).mono ?_; rintro e w' ⟨rfl, rfl⟩) | (go_at_call 16; (refine (rWarm_any _ _ _).mono ?_; rintro e w1 ⟨rfl, hb1⟩; have hz0 := H0.size; (first | replace hbox := fun o => (hb1.cell (p := ⟨w.heap.size, o, none⟩) (by show w.heap.size < _; omega)).trans (hbox o) | have hbox := fun o => hb1.cell (p := ⟨w.heap.size, o, none⟩) (by show w.heap.size < _; simp)); have hz1 := hb1.size; (try simp at hz1); replace H0 := H0.trans (hb1.mono H0.size); clear hb1)))
    go_ret
    exact ⟨ret_bool Hl.out, H0⟩
  by_cases p2 : 1 ≤ r.cl; rotate_left
  · have Hl := Lib.hid (show false = readB r by rw [Hs.out]; simp [q0, q1]; omega)
    go_enter Tryd.func5, Tryd.ntmps5
    go_wp2_with (first | (go_at_call 14; refine (rDay_any _ _).mono ?_; rintro e w' ⟨rfl, rfl⟩) | (go_at_call 15; refine (in_any _ _ _ _).mono ?_; rintro e w' ⟨rfl, rfl⟩) | (go_at_call 16; (refine (rWarm_any _ _ _).mono ?_; rintro e w1 ⟨rfl, hb1⟩; have hz0 := H0.size; (first | replace hbox := fun o => (hb1.cell (p := ⟨w.heap.size, o, none⟩) (by show w.heap.size < _; omega)).trans (hbox o) | have hbox := fun o => hb1.cell (p := ⟨w.heap.size, o, none⟩) (by show w.heap.size < _; simp)); have hz1 := hb1.size; (try simp at hz1); replace H0 := H0.trans (hb1.mono H0.size); clear hb1)))
    go_ret
    exact ⟨ret_bool Hl.out, H0⟩
  by_cases p3 : r.cl ≤ 3; rotate_left
  · have Hl := Lib.hid (show false = readB r by rw [Hs.out]; simp [q0, q1, p2]; omega)
    go_enter Tryd.func5, Tryd.ntmps5
    go_wp2_with (first | (go_at_call 14; refine (rDay_any _ _).mono ?_; rintro e w' ⟨rfl, rfl⟩) | (go_at_call 15; refine (in_any _ _ _ _).mono ?_; rintro e w' ⟨rfl, rfl⟩) | (go_at_call 16; (refine (rWarm_any _ _ _).mono ?_; rintro e w1 ⟨rfl, hb1⟩; have hz0 := H0.size; (first | replace hbox := fun o => (hb1.cell (p := ⟨w.heap.size, o, none⟩) (by show w.heap.size < _; omega)).trans (hbox o) | have hbox := fun o => hb1.cell (p := ⟨w.heap.size, o, none⟩) (by show w.heap.size < _; simp)); have hz1 := hb1.size; (try simp at hz1); replace H0 := H0.trans (hb1.mono H0.size); clear hb1)))
    go_ret
    exact ⟨ret_bool Hl.out, H0⟩
  cases q4 : betw r.me 40000 90000
  · have Hl := Lib.hid (show false = readB r by rw [Hs.out]; simp [q0, q1, p2, p3, q4])
    go_enter Tryd.func5, Tryd.ntmps5
    go_wp2_with (first | (go_at_call 14; refine (rDay_any _ _).mono ?_; rintro e w' ⟨rfl, rfl⟩) | (go_at_call 15; refine (in_any _ _ _ _).mono ?_; rintro e w' ⟨rfl, rfl⟩) | (go_at_call 16; (refine (rWarm_any _ _ _).mono ?_; rintro e w1 ⟨rfl, hb1⟩; have hz0 := H0.size; (first | replace hbox := fun o => (hb1.cell (p := ⟨w.heap.size, o, none⟩) (by show w.heap.size < _; omega)).trans (hbox o) | have hbox := fun o => hb1.cell (p := ⟨w.heap.size, o, none⟩) (by show w.heap.size < _; simp)); have hz1 := hb1.size; (try simp at hz1); replace H0 := H0.trans (hb1.mono H0.size); clear hb1)))
    go_ret
    exact ⟨ret_bool Hl.out, H0⟩
  cases q5 : withinB r.al r.ah (-300) 500
  · have Hl := Lib.hid (show false = readB r by rw [Hs.out]; simp [q0, q1, p2, p3, q4, q5])
    go_enter Tryd.func5, Tryd.ntmps5
    go_wp2_with (first | (go_at_call 14; refine (rDay_any _ _).mono ?_; rintro e w' ⟨rfl, rfl⟩) | (go_at_call 15; refine (in_any _ _ _ _).mono ?_; rintro e w' ⟨rfl, rfl⟩) | (go_at_call 16; (refine (rWarm_any _ _ _).mono ?_; rintro e w1 ⟨rfl, hb1⟩; have hz0 := H0.size; (first | replace hbox := fun o => (hb1.cell (p := ⟨w.heap.size, o, none⟩) (by show w.heap.size < _; omega)).trans (hbox o) | have hbox := fun o => hb1.cell (p := ⟨w.heap.size, o, none⟩) (by show w.heap.size < _; simp)); have hz1 := hb1.size; (try simp at hz1); replace H0 := H0.trans (hb1.mono H0.size); clear hb1)))
    go_ret
    exact ⟨ret_bool Hl.out, H0⟩
  cases q6 : withinB r.dl r.dh (-300) 500
  · have Hl := Lib.hid (show false = readB r by rw [Hs.out]; simp [q0, q1, p2, p3, q4, q5, q6])
    go_enter Tryd.func5, Tryd.ntmps5
    go_wp2_with (first | (go_at_call 14; refine (rDay_any _ _).mono ?_; rintro e w' ⟨rfl, rfl⟩) | (go_at_call 15; refine (in_any _ _ _ _).mono ?_; rintro e w' ⟨rfl, rfl⟩) | (go_at_call 16; (refine (rWarm_any _ _ _).mono ?_; rintro e w1 ⟨rfl, hb1⟩; have hz0 := H0.size; (first | replace hbox := fun o => (hb1.cell (p := ⟨w.heap.size, o, none⟩) (by show w.heap.size < _; omega)).trans (hbox o) | have hbox := fun o => hb1.cell (p := ⟨w.heap.size, o, none⟩) (by show w.heap.size < _; simp)); have hz1 := hb1.size; (try simp at hz1); replace H0 := H0.trans (hb1.mono H0.size); clear hb1)))
    go_ret
    exact ⟨ret_bool Hl.out, H0⟩
  cases q7 : withinB r.wl r.wh (-300) 500
  · have Hl := Lib.hid (show false = readB r by rw [Hs.out]; simp [q0, q1, p2, p3, q4, q5, q6, q7])
    go_enter Tryd.func5, Tryd.ntmps5
    go_wp2_with (first | (go_at_call 14; refine (rDay_any _ _).mono ?_; rintro e w' ⟨rfl, rfl⟩) | (go_at_call 15; refine (in_any _ _ _ _).mono ?_; rintro e w' ⟨rfl, rfl⟩) | (go_at_call 16; (refine (rWarm_any _ _ _).mono ?_; rintro e w1 ⟨rfl, hb1⟩; have hz0 := H0.size; (first | replace hbox := fun o => (hb1.cell (p := ⟨w.heap.size, o, none⟩) (by show w.heap.size < _; omega)).trans (hbox o) | have hbox := fun o => hb1.cell (p := ⟨w.heap.size, o, none⟩) (by show w.heap.size < _; simp)); have hz1 := hb1.size; (try simp at hz1); replace H0 := H0.trans (hb1.mono H0.size); clear hb1)))
    go_ret
    exact ⟨ret_bool Hl.out, H0⟩
  have Hl := Lib.hid (show true = readB r by rw [Hs.out]; simp [q0, q1, p2, p3, q4, q5, q6, q7])
  go_enter Tryd.func5, Tryd.ntmps5
  go_wp2_with (first | (go_at_call 14; refine (rDay_any _ _).mono ?_; rintro e w' ⟨rfl, rfl⟩) | (go_at_call 15; refine (in_any _ _ _ _).mono ?_; rintro e w' ⟨rfl, rfl⟩) | (go_at_call 16; (refine (rWarm_any _ _ _).mono ?_; rintro e w1 ⟨rfl, hb1⟩; have hz0 := H0.size; (first | replace hbox := fun o => (hb1.cell (p := ⟨w.heap.size, o, none⟩) (by show w.heap.size < _; omega)).trans (hbox o) | have hbox := fun o => hb1.cell (p := ⟨w.heap.size, o, none⟩) (by show w.heap.size < _; simp)); have hz1 := hb1.size; (try simp at hz1); replace H0 := H0.trans (hb1.mono H0.size); clear hb1)))
  go_ret
  exact ⟨ret_bool Hl.out, H0⟩
end Go.Proofs.YtffgcphmakfikaaDoor
