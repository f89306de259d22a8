/- The reference's Bounds and SameSpans. -/
import Derived.Test.YtaolfdgkflfekaaGreatDoorCw
import Derived.BigRegion
set_option linter.unusedVariables false
set_option linter.unusedSimpArgs false
namespace Go.Proofs.YtaolfdgkflfekaaGreatDoor
open Go.RowKit
open Go.Maps
theorem eqSpan (a b c d : Int) (W : World) : (Op.equal 41 (.agg #[.int .i64 a, .int .i64 b]) (.agg #[.int .i64 c, .int .i64 d])).run Tryz.prog W = .ok (decide ([a, b] = [c, d])) W :=
  GX.equal_pair (P := Tryz.prog) (kt := 41) Tryz.underlying41 (by kernel_rfl) (by decide) (by decide) rfl rfl (by kernel_rfl) (by kernel_rfl) a b c d W
set_option maxHeartbeats 4000000 in
set_option maxRecDepth 100000 in
theorem rSameSpans_yes (A A' : Option Addr) (c c' N : Nat) (zs : List Sp) (w : World) (hn : zs.length = N) (hN : N ≤ 1000) (h1 : Sps w (.slice A N c) zs) (h2 : Sps w (.slice A' N c') zs) :
    Calls Tryz.prog 28 #[.slice A N c, .slice A' N c'] w fun e w' => e = .returned (.bool true) ∧ Below w.heap.size w w' := by
  subst hn
  have H1 := Lib.hid h1
  have H2 := Lib.hid h2
  clear h1 h2
  go_enter Tryz.func28, Tryz.ntmps28
  go_wp2_with fail
  go_loopw [5] (fun i wr => ∃ n : Nat, n ≤ zs.length ∧ i = .int .i64 n ∧ Below w.heap.size w wr) (fun i _ => zs.length - (intOf i).toNat)
  case atStart => exact ⟨0, Nat.zero_le _, rfl, Below.refl _ _⟩
  case round =>
    obtain ⟨n, hn, rfl, hb⟩ := hrel
    by_cases hnl : n < zs.length
    · obtain ⟨x, hx⟩ : ∃ x, zs[n]? = some x := ⟨_, List.getElem?_eq_getElem hnl⟩
      obtain ⟨b, off, hA, hcap, hm, c0, c1⟩ := sps_cells (H1.out.below hb) hx
      obtain ⟨b', off', hA', hcap', hm', d0, d1⟩ := sps_cells (H2.out.below hb) hx
      unfold maxLen at hm hm'
      subst hA hA'
      have HB := Lib.hid hb
      have hq : ∀ W, (Op.equal 41 (.agg #[.int .i64 x.a, .int .i64 x.b]) (.agg #[.int .i64 x.a, .int .i64 x.b])).run Tryz.prog W = .ok true W := fun W => (eqSpan x.a x.b x.a x.b W).trans (by simp)
      clear hb hx
      go_upto_region 6 with fail
      go_region
      all_goals
        go_wp2_with fail
        go_roundw
        case rel => exact ⟨n + 1, by omega, by go_num, by first | exact HB.out | exact HB.out.drew | (repeat (first | exact HB.out | apply Below.drew))⟩
        case measure => simp [intOf]; omega
    · obtain rfl : n = zs.length := by omega
      go_wp2_with fail
      go_ret
      exact ⟨rfl, hb⟩
end Go.Proofs.YtaolfdgkflfekaaGreatDoor
