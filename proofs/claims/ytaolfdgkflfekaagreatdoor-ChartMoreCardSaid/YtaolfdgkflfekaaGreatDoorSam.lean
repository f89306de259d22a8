/- Lists and fields that are the same, by the reference. -/
import Derived.Test.YtaolfdgkflfekaaGreatDoorCdd
import Derived.BigRegion
set_option linter.unusedVariables false
set_option linter.unusedSimpArgs false
namespace Go.Proofs.YtaolfdgkflfekaaGreatDoor
open Go.RowKit
open Go.Maps
theorem row_ints_at {w : World} {g cap n : Nat} {zs : List Int} {cur : Array Value} (h : w.heap[g]? = some (.cells cur 3)) (hr : RowI zs cur) (hn : zs.length = n) (h1 : n ≤ cap) (h2 : cap ≤ maxLen) : Ints w (.slice (some ⟨g, 0, none⟩) n cap) zs := row_ints h hr hn h1 h2
theorem Ints.nil (w : World) : Ints w (.slice none 0 0) [] := ⟨none, 0, rfl, Nat.le_refl _, by unfold maxLen; omega, .inl rfl⟩
set_option maxHeartbeats 4000000 in
set_option maxRecDepth 100000 in
theorem rSame_yes (A A' : Option Addr) (c c' N : Nat) (zs : List Int) (w : World) (hn : zs.length = N) (hN : N ≤ 1000) (h1 : Ints w (.slice A N c) zs) (h2 : Ints w (.slice A' N c') zs) :
    Calls Tryz.prog 51 #[.slice A N c, .slice A' N c'] w fun e w' => e = .returned (.bool true) ∧ Below w.heap.size w w' := by
  subst hn
  have H1 := Lib.hid h1
  have H2 := Lib.hid h2
  clear h1 h2
  go_enter Tryz.func51, Tryz.ntmps51
  go_wp2_with fail
  go_loopw [5] (fun i wr => ∃ n : Nat, n ≤ zs.length ∧ i = .int .i64 n ∧ Below w.heap.size w wr) (fun i _ => zs.length - (intOf i).toNat)
  case atStart => exact ⟨0, Nat.zero_le _, rfl, Below.refl _ _⟩
  case round =>
    obtain ⟨n, hn, rfl, hb⟩ := hrel
    by_cases hnl : n < zs.length
    · obtain ⟨x, hx⟩ : ∃ x, zs[n]? = some x := ⟨_, List.getElem?_eq_getElem hnl⟩
      obtain ⟨b, off, hA, hcap, hm, c0⟩ := ints_cells (H1.out.below hb) hx
      obtain ⟨b', off', hA', hcap', hm', d0⟩ := ints_cells (H2.out.below hb) hx
      unfold maxLen at hm hm'
      subst hA hA'
      have HB := Lib.hid hb
      clear hb hx
      go_upto_region 6 with fail
      go_region
      all_goals
        go_wp2_with fail
        go_roundw
        case rel => exact ⟨n + 1, by omega, by go_num, by first | exact HB.out | exact HB.out.drew | (repeat (first | exact HB.out | apply Below.drew))⟩
        case measure => simp [intOf]; omega
    · obtain rfl : n = zs.length := by omega
      go_wp2_with fail
      go_ret
      exact ⟨rfl, hb⟩
set_option maxHeartbeats 1000000 in
theorem rSameField_yes (wd : Int) (A A' : Option Addr) (c c' N : Nat) (zs : List Int) (w : World) (hn : zs.length = N) (hN : N ≤ 1000) (h1 : Ints w (.slice A N c) zs) (h2 : Ints w (.slice A' N c') zs) :
    Calls Tryz.prog 25 #[.agg #[.int .i64 wd, .slice A N c], .agg #[.int .i64 wd, .slice A' N c']] w fun e w' => e = .returned (.bool true) ∧ Below w.heap.size w w' := by
  have HR := Lib.hid (((Frm.nil w).add (.cells #[.int .i64 wd, .slice A N c] 27) rfl).add (k := w.heap.size + 1) (.cells #[.int .i64 wd, .slice A' N c'] 27) (by simp))
  have H1 := Lib.hid h1
  have H2 := Lib.hid h2
  clear h1 h2
  have x0 := HR.out.cells (List.mem_cons_self ..)
  have x1 := HR.out.cells (List.mem_cons_of_mem _ (List.mem_cons_self ..))
  go_enter Tryz.func25, Tryz.ntmps25
  go_wp2_with fail
  refine (rSame_yes A A' c c' N zs _ hn hN (H1.out.below HR.out.b) (H2.out.below HR.out.b)).mono ?_
  rintro e wa ⟨rfl, hba⟩
  have HB := Lib.hid (HR.out.below hba).b
  clear hba
  go_wp2_with fail
  go_ret
  exact ⟨rfl, HB.out⟩
end Go.Proofs.YtaolfdgkflfekaaGreatDoor
