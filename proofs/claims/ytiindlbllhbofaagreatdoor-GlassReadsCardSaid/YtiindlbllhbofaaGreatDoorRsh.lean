/- The reference's Sheet. -/
import Derived.Test.YtiindlbllhbofaaGreatDoorRdc
import Derived.Test.YtiindlbllhbofaaGreatDoorRefr
set_option linter.unusedVariables false
set_option linter.unusedSimpArgs false
namespace Go.Proofs.YtiindlbllhbofaaGreatDoor
open Go.RowKit Go.Maps
set_option maxHeartbeats 2000000 in
set_option maxRecDepth 100000 in
theorem rSheet_some (rs : List Rdg) (b off cap : Nat) (w : World) (hcap : rs.length ≤ cap) (hm : cap ≤ maxLen) (hb : b < w.heap.size) (hc : RdgsAt w b off rs) :
    Calls Tryz.prog 7 #[.slice (some ⟨b, off, none⟩) rs.length cap] w fun e w' => e = .returned (.bool (rs.all readB)) ∧ Below w.heap.size w w' := by
  unfold maxLen at hm
  go_enter Tryz.func7, Tryz.ntmps7
  go_wp2_with fail
  go_loopw [3] (fun k wr => ∃ n : Nat, n ≤ rs.length ∧ k = .int .i64 n ∧ (rs.take n).all readB = true ∧ Below w.heap.size w wr) (fun k _ => rs.length - (intOf k).toNat)
  case atStart => exact ⟨0, Nat.zero_le _, rfl, by simp, Below.refl _ _⟩
  case round =>
    obtain ⟨n, hn, rfl, hall, hB⟩ := hrel
    have hbw : ∀ o, wr.cell? ⟨b, o, none⟩ = w.cell? ⟨b, o, none⟩ := fun o => hB.cell (p := ⟨b, o, none⟩) hb
    by_cases hlt : n < rs.length
    · obtain ⟨h0, h1, h2, h3, h4, h5, h6, h7, h8, h9⟩ := hc n rs[n] (List.getElem?_eq_getElem hlt)
      have g0 := (hbw _).trans h0; have g1 := (hbw _).trans h1; have g2 := (hbw _).trans h2; have g3 := (hbw _).trans h3; have g4 := (hbw _).trans h4; have g5 := (hbw _).trans h5; have g6 := (hbw _).trans h6; have g7 := (hbw _).trans h7; have g8 := (hbw _).trans h8; have g9 := (hbw _).trans h9
      have hcn : rs[n]? = some rs[n] := List.getElem?_eq_getElem hlt
      have Hcn := Lib.hid hcn
      have Hall := Lib.hid hall
      have HB := Lib.hid hB
      have hz := hB.size
      generalize rs[n] = r at *
      clear hcn hall hc hbw hB h0 h1 h2 h3 h4 h5 h6 h7 h8 h9
      cases hq : readB r
      · have Hq := Lib.hid hq
        have HV := Lib.hid (allR_false Hcn.out Hq.out)
        go_wp2_with (go_at_call 26; refine (rReading_any r _).mono ?_; rintro e w1 ⟨rfl, hb1⟩)
        go_ret
        exact ⟨ret_bool HV.out.symm, below_step HB.out hb1⟩
      · have Hq := Lib.hid hq
        go_wp2_with (go_at_call 26; refine (rReading_any r _).mono ?_; rintro e w1 ⟨rfl, hb1⟩)
        go_roundw
        case rel => exact ⟨n + 1, by omega, by go_num, allR_take Hcn.out Hall.out Hq.out, below_step HB.out hb1⟩
        case measure => simp [intOf]; omega
    · obtain rfl : n = rs.length := by omega
      rw [List.take_length] at hall
      have HALL := Lib.hid hall
      clear hall hc hbw
      go_wp2
      go_ret
      exact ⟨ret_bool HALL.out.symm, hB⟩
set_option maxHeartbeats 800000 in
theorem rSheet_nil (A : Option Addr) (cap : Nat) (w : World) :
    Calls Tryz.prog 7 #[.slice A 0 cap] w fun e w' => e = .returned (.bool true) ∧ Below w.heap.size w w' := by
  go_enter Tryz.func7, Tryz.ntmps7
  go_wp2_with fail
  go_loopw [3] (fun k wr => k = .int .i64 0 ∧ Below w.heap.size w wr) (fun k _ => (0 - intOf k).toNat)
  case atStart => exact ⟨rfl, Below.refl _ _⟩
  case round =>
    obtain ⟨rfl, hB⟩ := hrel
    go_wp2
    go_ret
    exact ⟨rfl, hB⟩
theorem rSheet_any {v : Value} {rs : List Rdg} {w : World} (h : Rdgs w v rs) :
    Calls Tryz.prog 7 #[v] w fun e w' => e = .returned (.bool (rs.all readB)) ∧ Below w.heap.size w w' := by
  obtain ⟨A, cap, rfl, hl, hm, h⟩ := h
  rcases h with rfl | ⟨b, off, rfl, hlt, hc⟩
  · exact rSheet_nil A cap w
  · exact rSheet_some rs b off cap w hl hm hlt hc
end Go.Proofs.YtiindlbllhbofaaGreatDoor
