/- The reference's SameReadings, of one list twice. -/
import Derived.Test.YtiindlbllhbofaaGreatDoorRsh
set_option linter.unusedVariables false
set_option linter.unusedSimpArgs false
namespace Go.Proofs.YtiindlbllhbofaaGreatDoor
open Go.RowKit Go.Maps
set_option maxHeartbeats 4000000 in
set_option maxRecDepth 100000 in
theorem rSame_some (rs : List Rdg) (b off cap c of2 cap2 : Nat) (w : World) (h1 : rs.length ≤ cap) (hm : cap ≤ maxLen) (hb : b < w.heap.size) (hc : RdgsAt w b off rs) (h2 : rs.length ≤ cap2) (hm2 : cap2 ≤ maxLen) (hd : c < w.heap.size) (hc2 : RdgsAt w c of2 rs) :
    Calls Tryz.prog 10 #[.slice (some ⟨b, off, none⟩) rs.length cap, .slice (some ⟨c, of2, none⟩) rs.length cap2] w fun e w' => e = .returned (.bool true) ∧ Below w.heap.size w w' := by
  unfold maxLen at hm hm2
  go_enter Tryz.func10, Tryz.ntmps10
  go_wp2_with fail
  go_loopw [5] (fun k wr => ∃ n : Nat, n ≤ rs.length ∧ k = .int .i64 n ∧ Below w.heap.size w wr) (fun k _ => rs.length - (intOf k).toNat)
  case atStart => exact ⟨0, Nat.zero_le _, rfl, Below.refl _ _⟩
  case round =>
    obtain ⟨n, hn, rfl, hB⟩ := hrel
    by_cases hlt : n < rs.length
    · have HB := Lib.hid hB
      obtain ⟨h0, h1, h2, h3, h4, h5, h6, h7, h8, h9⟩ := hc n rs[n] (List.getElem?_eq_getElem hlt)
      have g0 := (hB.cell (p := ⟨b, _, none⟩) hb).trans h0
      have g1 := (hB.cell (p := ⟨b, _, none⟩) hb).trans h1
      have g2 := (hB.cell (p := ⟨b, _, none⟩) hb).trans h2
      have g3 := (hB.cell (p := ⟨b, _, none⟩) hb).trans h3
      have g4 := (hB.cell (p := ⟨b, _, none⟩) hb).trans h4
      have g5 := (hB.cell (p := ⟨b, _, none⟩) hb).trans h5
      have g6 := (hB.cell (p := ⟨b, _, none⟩) hb).trans h6
      have g7 := (hB.cell (p := ⟨b, _, none⟩) hb).trans h7
      have g8 := (hB.cell (p := ⟨b, _, none⟩) hb).trans h8
      have g9 := (hB.cell (p := ⟨b, _, none⟩) hb).trans h9
      clear h0 h1 h2 h3 h4 h5 h6 h7 h8 h9
      obtain ⟨h0, h1, h2, h3, h4, h5, h6, h7, h8, h9⟩ := hc2 n rs[n] (List.getElem?_eq_getElem hlt)
      have k0 := (hB.cell (p := ⟨c, _, none⟩) hd).trans h0
      have k1 := (hB.cell (p := ⟨c, _, none⟩) hd).trans h1
      have k2 := (hB.cell (p := ⟨c, _, none⟩) hd).trans h2
      have k3 := (hB.cell (p := ⟨c, _, none⟩) hd).trans h3
      have k4 := (hB.cell (p := ⟨c, _, none⟩) hd).trans h4
      have k5 := (hB.cell (p := ⟨c, _, none⟩) hd).trans h5
      have k6 := (hB.cell (p := ⟨c, _, none⟩) hd).trans h6
      have k7 := (hB.cell (p := ⟨c, _, none⟩) hd).trans h7
      have k8 := (hB.cell (p := ⟨c, _, none⟩) hd).trans h8
      have k9 := (hB.cell (p := ⟨c, _, none⟩) hd).trans h9
      clear h0 h1 h2 h3 h4 h5 h6 h7 h8 h9
      generalize rs[n] = r at *
      clear hc hc2 hB
      go_upto_region 6 with fail
      go_quiet (fail)
      go_wp2_with fail
      go_roundw
      case rel => exact ⟨n + 1, by omega, by go_num, below_dn HB.out _⟩
      case measure => simp [intOf]; omega
    · obtain rfl : n = rs.length := by omega
      clear hc hc2
      go_wp2
      go_ret
      exact ⟨rfl, hB⟩
set_option maxHeartbeats 800000 in
theorem rSame_nil (A B : Option Addr) (c d : Nat) (w : World) :
    Calls Tryz.prog 10 #[.slice A 0 c, .slice B 0 d] w fun e w' => e = .returned (.bool true) ∧ Below w.heap.size w w' := by
  go_enter Tryz.func10, Tryz.ntmps10
  go_wp2_with fail
  go_loopw [5] (fun k wr => k = .int .i64 0 ∧ Below w.heap.size w wr) (fun k _ => (0 - intOf k).toNat)
  case atStart => exact ⟨rfl, Below.refl _ _⟩
  case round =>
    obtain ⟨rfl, hB⟩ := hrel
    go_wp2
    go_ret
    exact ⟨rfl, hB⟩
theorem rSame_any {v1 v2 : Value} {rs : List Rdg} {w : World} (h1 : Rdgs w v1 rs) (h2 : Rdgs w v2 rs) :
    Calls Tryz.prog 10 #[v1, v2] w fun e w' => e = .returned (.bool true) ∧ Below w.heap.size w w' := by
  obtain ⟨A, c, rfl, hl, hm, h1⟩ := h1
  obtain ⟨B, d, rfl, hl2, hm2, h2⟩ := h2
  rcases h1 with rfl | ⟨b, off, rfl, hlt, hc⟩
  · exact rSame_nil A B c d w
  · rcases h2 with rfl | ⟨b2, of2, rfl, hlt2, hc2⟩
    · exact rSame_nil _ B c d w
    · exact rSame_some rs b off c b2 of2 d w hl hm hlt hc hl2 hm2 hlt2 hc2
end Go.Proofs.YtiindlbllhbofaaGreatDoor
