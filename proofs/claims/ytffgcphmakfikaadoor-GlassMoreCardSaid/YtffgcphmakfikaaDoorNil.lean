/- Stations without comparisons; and the contracts over any slice that reads as a list of comparisons. -/
import Derived.Test.YtffgcphmakfikaaDoorClashY
set_option linter.unusedVariables false
set_option linter.unusedSimpArgs false
namespace Go.Proofs.YtffgcphmakfikaaDoor
open Go.RowKit
set_option maxHeartbeats 800000 in
theorem clash_nil (s : Stn) (m : Value) (A : Option Addr) (cap : Nat) (w : World) :
    Calls Tryd.prog 46 #[vwV s (.slice A 0 cap) m] w fun e w' => e = .returned (.tuple #[.int .i64 0, .int .i64 0, .bool false]) ∧ Below w.heap.size w w' := by
  go_enter Tryd.func46, Tryd.ntmps46
  go_wp2_with fail
  go_step3
  go_wp2_with fail
  go_step3
  go_wp2_with fail
  go_loopg [5, 6, 7, 16] 0 (fun g a1 a2 a3 k wr => a1 = .int .i64 0 ∧ a2 = .int .i64 0 ∧ a3 = .bool false ∧ k = .int .i64 0 ∧ Below w.heap.size w wr)
  case atStart => exact ⟨rfl, rfl, rfl, rfl, (Below.refl _ _).alloc (Nat.le_refl _) _⟩
  case round =>
    obtain ⟨rfl, rfl, rfl, rfl, hB⟩ := hrel
    go_wp2_with fail
    try rw [Exit.noGoto_ret]
    go_ret3
    exact ⟨rfl, hB⟩

set_option maxHeartbeats 800000 in
theorem soundStation_nil (s : Stn) (A : Option Addr) (cap : Nat) (w : World) :
    Calls Tryd.prog 28 #[stV s (.slice A 0 cap)] w fun e w' => e = .returned (.bool (soundB s [])) ∧ Below w.heap.size w w' := by
  go_enter Tryd.func28, Tryd.ntmps28
  go_wp2_with fail
  go_loopw [4, 12] (fun _ k wr => k = .int .i64 0 ∧ Below (w.heap.size + 1) (w.alloc (.cells #[.int .i64 s.hl, .int .i64 s.hh, .int .i64 s.gl, .int .i64 s.gh, .int .i64 s.dr, .int .i64 s.rd, .int .i64 s.ea, .int .i64 s.sl, .slice A 0 cap] 26)) wr) (fun _ k _ => (0 - intOf k).toNat)
  case atStart => exact ⟨rfl, Below.refl _ _⟩
  case round =>
    obtain ⟨rfl, hB⟩ := hrel
    have hz : w.heap.size + 1 ≤ wr.heap.size := by have := hB.size; simpa using this
    have hbox : ∀ o, wr.cell? ⟨w.heap.size, o, none⟩ = (w.alloc (.cells #[.int .i64 s.hl, .int .i64 s.hh, .int .i64 s.gl, .int .i64 s.gh, .int .i64 s.dr, .int .i64 s.rd, .int .i64 s.ea, .int .i64 s.sl, .slice A 0 cap] 26)).cell? ⟨w.heap.size, o, none⟩ := fun o => hB.cell (p := ⟨w.heap.size, o, none⟩) (by show w.heap.size < _; omega)
    have Hs := Lib.hid (show soundB s [] = lastB s by simp [soundB, lastB])
    have H0 : Below w.heap.size w wr := ((Below.refl _ _).alloc (Nat.le_refl _) _).trans (hB.mono (by omega))
    clear hB
    cases q0 : withinB s.hl s.hh 0 3000
    · have Hl := Lib.hid (show false = soundB s [] by rw [Hs.out]; simp [lastB, q0])
      go_wp2_with (first | (go_at_call 36; refine (between_any _ _ _ _).mono ?_; rintro e w' ⟨rfl, rfl⟩) | (go_at_call 45; refine (within_any _ _ _ _ _).mono ?_; rintro e w1 ⟨rfl, hb1⟩; replace hbox := fun o => (hb1.cell (p := ⟨w.heap.size, o, none⟩) (by show w.heap.size < _; omega)).trans (hbox o); have hz1 := hb1.size; replace H0 := H0.trans (hb1.mono H0.size); clear hb1))
      go_ret
      exact ⟨ret_bool Hl.out, H0⟩
    cases q1 : withinB s.gl s.gh (-3000) 3000
    · have Hl := Lib.hid (show false = soundB s [] by rw [Hs.out]; simp [lastB, q0, q1])
      go_wp2_with (first | (go_at_call 36; refine (between_any _ _ _ _).mono ?_; rintro e w' ⟨rfl, rfl⟩) | (go_at_call 45; refine (within_any _ _ _ _ _).mono ?_; rintro e w1 ⟨rfl, hb1⟩; replace hbox := fun o => (hb1.cell (p := ⟨w.heap.size, o, none⟩) (by show w.heap.size < _; omega)).trans (hbox o); have hz1 := hb1.size; replace H0 := H0.trans (hb1.mono H0.size); clear hb1))
      go_ret
      exact ⟨ret_bool Hl.out, H0⟩
    cases q2 : betw s.dr 0 100
    · have Hl := Lib.hid (show false = soundB s [] by rw [Hs.out]; simp [lastB, q0, q1, q2])
      go_wp2_with (first | (go_at_call 36; refine (between_any _ _ _ _).mono ?_; rintro e w' ⟨rfl, rfl⟩) | (go_at_call 45; refine (within_any _ _ _ _ _).mono ?_; rintro e w1 ⟨rfl, hb1⟩; replace hbox := fun o => (hb1.cell (p := ⟨w.heap.size, o, none⟩) (by show w.heap.size < _; omega)).trans (hbox o); have hz1 := hb1.size; replace H0 := H0.trans (hb1.mono H0.size); clear hb1))
      go_ret
      exact ⟨ret_bool Hl.out, H0⟩
    cases q3 : betw s.rd 0 200
    · have Hl := Lib.hid (show false = soundB s [] by rw [Hs.out]; simp [lastB, q0, q1, q2, q3])
      go_wp2_with (first | (go_at_call 36; refine (between_any _ _ _ _).mono ?_; rintro e w' ⟨rfl, rfl⟩) | (go_at_call 45; refine (within_any _ _ _ _ _).mono ?_; rintro e w1 ⟨rfl, hb1⟩; replace hbox := fun o => (hb1.cell (p := ⟨w.heap.size, o, none⟩) (by show w.heap.size < _; omega)).trans (hbox o); have hz1 := hb1.size; replace H0 := H0.trans (hb1.mono H0.size); clear hb1))
      go_ret
      exact ⟨ret_bool Hl.out, H0⟩
    cases q4 : betw s.ea (-720) 720
    · have Hl := Lib.hid (show false = soundB s [] by rw [Hs.out]; simp [lastB, q0, q1, q2, q3, q4])
      go_wp2_with (first | (go_at_call 36; refine (between_any _ _ _ _).mono ?_; rintro e w' ⟨rfl, rfl⟩) | (go_at_call 45; refine (within_any _ _ _ _ _).mono ?_; rintro e w1 ⟨rfl, hb1⟩; replace hbox := fun o => (hb1.cell (p := ⟨w.heap.size, o, none⟩) (by show w.heap.size < _; omega)).trans (hbox o); have hz1 := hb1.size; replace H0 := H0.trans (hb1.mono H0.size); clear hb1))
      go_ret
      exact ⟨ret_bool Hl.out, H0⟩
    cases q5 : betw s.sl 0 60
    · have Hl := Lib.hid (show false = soundB s [] by rw [Hs.out]; simp [lastB, q0, q1, q2, q3, q4, q5])
      go_wp2_with (first | (go_at_call 36; refine (between_any _ _ _ _).mono ?_; rintro e w' ⟨rfl, rfl⟩) | (go_at_call 45; refine (within_any _ _ _ _ _).mono ?_; rintro e w1 ⟨rfl, hb1⟩; replace hbox := fun o => (hb1.cell (p := ⟨w.heap.size, o, none⟩) (by show w.heap.size < _; omega)).trans (hbox o); have hz1 := hb1.size; replace H0 := H0.trans (hb1.mono H0.size); clear hb1))
      go_ret
      exact ⟨ret_bool Hl.out, H0⟩
    · have Hl := Lib.hid (show true = soundB s [] by rw [Hs.out]; simp [lastB, q0, q1, q2, q3, q4, q5])
      go_wp2_with (first | (go_at_call 36; refine (between_any _ _ _ _).mono ?_; rintro e w' ⟨rfl, rfl⟩) | (go_at_call 45; refine (within_any _ _ _ _ _).mono ?_; rintro e w1 ⟨rfl, hb1⟩; replace hbox := fun o => (hb1.cell (p := ⟨w.heap.size, o, none⟩) (by show w.heap.size < _; omega)).trans (hbox o); have hz1 := hb1.size; replace H0 := H0.trans (hb1.mono H0.size); clear hb1))
      go_ret
      exact ⟨ret_bool Hl.out, H0⟩

theorem soundStation_any {s : Stn} {v : Value} {cs : List Chk} {w : World} (h : Chks w v cs) :
    Calls Tryd.prog 28 #[stV s v] w fun e w' => e = .returned (.bool (soundB s cs)) ∧ Below w.heap.size w w' := by
  obtain ⟨A, cap, rfl, hl, hm, h⟩ := h
  rcases h with rfl | ⟨b, off, rfl, hlt, hc⟩
  · exact soundStation_nil s A cap w
  · exact soundStation_some s cs b off cap w hl hm hlt hc

theorem clash_agreed {s : Stn} {v m : Value} {cs : List Chk} {w : World} (h : Chks w v cs) (hs : Sane s cs) (hag : Agreed s cs) :
    Calls Tryd.prog 46 #[vwV s v m] w fun e w' => e = .returned (.tuple #[.int .i64 0, .int .i64 0, .bool false]) ∧ Below w.heap.size w w' := by
  obtain ⟨A, cap, rfl, hl, hm, h⟩ := h
  rcases h with rfl | ⟨b, off, rfl, hlt, hc⟩
  · exact clash_nil s m A cap w
  · exact clash_no s cs m b off cap w hs hl hm hlt hc hag

theorem clash_first {s : Stn} {v m : Value} {cs : List Chk} {w : World} (h : Chks w v cs) (hs : Sane s cs) {i j : Nat} (hf : First s cs i j) :
    Calls Tryd.prog 46 #[vwV s v m] w fun e w' => e = .returned (.tuple #[.int .i64 i, .int .i64 j, .bool true]) ∧ Below w.heap.size w w' := by
  have hj : j < cs.length := by obtain ⟨_, ⟨_, _, _, hb, _⟩, _⟩ := hf; exact (List.getElem?_eq_some_iff.1 hb).1
  obtain ⟨A, cap, rfl, hl, hm, h⟩ := h
  rcases h with rfl | ⟨b, off, rfl, hlt, hc⟩
  · cases hj
  · exact clash_yes s cs m b off cap w hs hl hm hlt hc i j hf hj

theorem least_of {p : Nat → Prop} (h : ∃ n, p n) : ∃ n, p n ∧ ∀ m, p m → n ≤ m := by
  obtain ⟨n, hn⟩ := h
  induction n using Nat.strongRecOn with
  | ind n ih =>
    by_cases hx : ∃ m, m < n ∧ p m
    · obtain ⟨m, hm, hp⟩ := hx
      exact ih m hm hp
    · exact ⟨n, hn, fun m hm => Nat.le_of_not_lt fun hlt => hx ⟨m, hlt, hm⟩⟩

/-- Either all agree, or there is a first contradiction. -/
theorem agreed_or (s : Stn) (cs : List Chk) : Agreed s cs ∨ ∃ i j, First s cs i j := by
  by_cases h : Agreed s cs
  · exact .inl h
  · refine .inr ?_
    have h1 : ∃ i, ∃ j, i < j ∧ Contra s cs i j :=
      Classical.byContradiction fun hn => h fun i j hij hc => hn ⟨i, j, hij, hc⟩
    obtain ⟨i, h2, hi⟩ := least_of h1
    obtain ⟨j, ⟨hij, hc⟩, hj⟩ := least_of h2
    refine ⟨i, j, hij, hc, fun i' j' h3 h4 => ?_⟩
    have h5 := hi i' ⟨j', h3, h4⟩
    by_cases h6 : i = i'
    · subst h6
      exact .inr ⟨rfl, hj j' ⟨h3, h4⟩⟩
    · exact .inl (by omega)
end Go.Proofs.YtffgcphmakfikaaDoor
