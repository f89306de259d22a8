/- Part of a claim on cone. -/
import Derived.Test.YtldimlnllmojiaaGreatVh
set_option linter.unusedVariables false
set_option linter.unusedSimpArgs false
namespace Go.Proofs.YtldimlnllmojiaaGreat
open Go.RowKit
theorem refusal_any (b : Bool) (w : World) :
    Calls Tryz.prog 55 #[.bool b] w fun e w' => e = .returned (.int .i64 (if b then 0 else 2)) ∧ w = w' := by
  cases b
  · go_enter Tryz.func55, Tryz.ntmps55
    go_wp2
    go_ret
    exact ⟨rfl, rfl⟩
  · go_enter Tryz.func55, Tryz.ntmps55
    go_wp2
    go_ret
    exact ⟨rfl, rfl⟩
def soonF (ss : List (Int × Int)) : Int := ss.foldl (fun m y => min m y.1) ((ss.head?.map (·.1)).getD 0)
set_option maxHeartbeats 2000000 in
set_option maxRecDepth 100000 in
theorem sight_any (A : Option Addr) (c : Nat) (ss : List (Int × Int)) (w : World) (hS : Sps w (.slice A ss.length c) ss) :
    Calls Tryz.prog 66 #[.slice A ss.length c] w fun e w' => e = .returned (.tuple #[.int .i64 (soonF ss), .bool (decide (ss ≠ []))]) ∧ Below w.heap.size w w' := by
  have HS := Lib.hid hS
  clear hS
  by_cases hz : ss.length = 0
  · obtain rfl := List.length_eq_zero_iff.1 hz
    go_enter Tryz.func66, Tryz.ntmps66
    go_wp2
    exact bodyPost_ret (v := .tuple #[.int .i64 0, .bool false]) (by simp [results, Tryz.results66, go_sem]) rfl ⟨by simp [soonF], Below.refl _ _⟩
  obtain ⟨x0, hx0⟩ : ∃ x, ss[0]? = some x := ⟨_, List.getElem?_eq_getElem (by omega)⟩
  have hne : ss ≠ [] := fun h => hz (by rw [h]; rfl)
  have HN := Lib.hid hne
  have HH : Hid ((ss.head?.map (·.1)).getD 0 = x0.1) := Lib.hid (by rw [List.head?_eq_getElem?, hx0]; rfl)
  obtain ⟨b, off, hA, hbl, hc1, hc2, q0, q1⟩ := sp_cells HS.out hx0
  unfold maxLen at hc2
  subst hA
  have p0 : w.cell? ⟨b, off, none⟩ = some (.int .i64 x0.1) := by simpa using q0
  have hl0 : 0 < ss.length := by omega
  have HR := Lib.hid (Frm.nil w)
  clear hx0 q0 q1 hne
  go_enter Tryz.func66, Tryz.ntmps66
  go_wp2
  clear p0
  go_loopw [4, 6, 16] (fun s _ i wr => ∃ n : Nat, n ≤ ss.length ∧ i = .int .i64 n ∧ s = .int .i64 ((ss.take n).foldl (fun m y => min m y.1) x0.1) ∧ Frm w [] wr) (fun _ _ i _ => ss.length - (intOf i).toNat)
  case atStart => exact ⟨0, Nat.zero_le _, rfl, by simp, HR.out⟩
  case round =>
    obtain ⟨n, hn, rfl, rfl, hF⟩ := hrel
    clear HR
    have HR := Lib.hid hF
    have HC := Lib.hid (HS.out.below HR.out.b (Nat.le_refl _))
    clear hF
    obtain ⟨s, hs⟩ : ∃ s, (ss.take n).foldl (fun m y => min m y.1) x0.1 = s := ⟨_, rfl⟩
    rw [hs]
    have HSM := Lib.hid hs
    clear hs
    by_cases hnl : n < ss.length
    · obtain ⟨x, hx⟩ : ∃ x, ss[n]? = some x := ⟨_, List.getElem?_eq_getElem hnl⟩
      obtain ⟨b', off', hA, hbl', hc1', hc2', q0, q1⟩ := sp_cells HC.out hx
      cases hA
      have HX := Lib.hid hx
      have HM : Hid ((ss.take (n + 1)).foldl (fun m y => min m y.1) x0.1 = min s x.1) := Lib.hid (by rw [List.take_add_one, hx, List.foldl_append, HSM.out]; rfl)
      clear hx HC
      by_cases hm : x.1 < s
      · have HE := Lib.hid (show min s x.1 = x.1 by omega)
        go_wp2
        go_roundw
        case rel => exact ⟨n + 1, by omega, by go_num, by rw [HM.out, HE.out], (by (repeat (with_reducible first | exact HR.out | apply Frm.drew | apply Frm.alloc | apply Frm.drewN)))⟩
        case measure => simp [intOf]; omega
      · have HE := Lib.hid (show min s x.1 = s by omega)
        go_wp2
        go_roundw
        case rel => exact ⟨n + 1, by omega, by go_num, by rw [HM.out, HE.out], (by (repeat (with_reducible first | exact HR.out | apply Frm.drew | apply Frm.alloc | apply Frm.drewN)))⟩
        case measure => simp [intOf]; omega
    · obtain rfl : n = ss.length := by omega
      have HT := Lib.hid (show s = soonF ss by unfold soonF; rw [HH.out, ← HSM.out, List.take_length])
      go_wp2
      exact bodyPost_ret (v := .tuple #[.int .i64 s, .bool true]) (by simp [results, Tryz.results66, go_sem]) rfl ⟨by rw [HT.out]; simp [HN.out], HR.out.b⟩
end Go.Proofs.YtldimlnllmojiaaGreat
