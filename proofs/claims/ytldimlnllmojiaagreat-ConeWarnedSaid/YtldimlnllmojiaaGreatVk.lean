/- Part of a claim on cone. -/
import Derived.Test.YtldimlnllmojiaaGreatVj
import Derived.RangeFuncBound
import Derived.RangeFuncCalls
import Derived.Shelf.Abstract
import Derived.Shelf.RegionOpen
import Derived.OwnWalkIn
import Derived.TacticsInMore
import Derived.LoopNIn
import Derived.LoopIn
import Derived.RangeFuncBox
set_option linter.unusedVariables false
set_option linter.unusedSimpArgs false
namespace Go.Proofs.YtldimlnllmojiaaGreat
open Go.RowKit
open Go.Shelf
attribute [local go_sem] Oper.semAt_some
set_option maxHeartbeats 1600000 in
set_option maxRecDepth 100000 in
theorem lvals_in (n : Nat) (hn : 1 ≤ n) (A : Option Addr) (c : Nat) (ss : List Lnk) (hlen : ss.length ≤ 1000) (l B n₀ : Nat) (hB : B < n₀)
    (J Jx : List Lnk → World → Prop) (W : World) (hn₀ : n₀ ≤ W.heap.size) (hJ : AbidesFrom W.heap.size J)
    (hY : ∀ pre x W, J pre W → pre.length < 1001 → YieldAt Fence.wide (n - 1) Tryz.prog l #[lnkV x] W fun e W' =>
      (e = .returned (.bool true) ∧ J (pre ++ [x]) W' ∧ Below n₀ W W') ∨ (e = .returned (.bool false) ∧ Jx (pre ++ [x]) W'))
    (hs : ss ≠ [] → ∀ b off, A = some ⟨b, off, none⟩ → b < n₀) (hS : Lnks W (.slice A ss.length c) ss)
    (hv : W.heap[B]? = some (.cells #[.slice A ss.length c] 23)) (h0 : J [] W) :
    CallsIn Fence.wide n Tryz.prog 126 #[.func (.yield l) #[] #[], .pointer (some ⟨B, 0, none⟩)] W fun e W' => (∃ v, e = .returned v) ∧
      ((∃ ys, ys = ss ∧ J ys W') ∨ (∃ pre, (∃ k, pre = ss.take k) ∧ Jx pre W')) := by
  have HV := Lib.hid hv
  have HS := Lib.hid hS
  have hv1 := (boxCells hv).1 0
  simp at hv1
  clear hv hS
  refine callsIn_of_wp Tryz.func126 rfl trivial ?_ rfl
  simp only [Tryz.ntmps126, List.size_toArray, List.length_cons, List.length_nil, Nat.reduceAdd, Nat.reduceSub, Array.replicate_succ, Array.replicate_zero, List.push_toArray, List.append_toArray, List.nil_append, List.cons_append]
  gi_wp2
  clear hv1
  gi_loopw [4, 7, 8, 9, 10, 11, 12, 13, 14, 15] (fun _ i _ _ _ _ _ _ _ _ wr => ∃ p : Nat, p ≤ ss.length ∧ i = .int .i64 p ∧ J (ss.take p) wr ∧ Below n₀ W wr) (fun _ i _ _ _ _ _ _ _ _ _ => ss.length - (intOf i).toNat)
  case atStart => exact ⟨0, Nat.zero_le _, rfl, by simpa using h0, Below.refl _ _⟩
  case round =>
    obtain ⟨p, hp, rfl, hJ0, hb⟩ := hrel
    have HJ0 := Lib.hid hJ0
    have HB := Lib.hid hb
    have hwz := hb.size
    clear hJ0 hb
    by_cases hlt : p < ss.length
    · obtain ⟨x, hx⟩ : ∃ x, ss[p]? = some x := ⟨_, List.getElem?_eq_getElem hlt⟩
      obtain ⟨b, off, hA, hc1, hc2, q0, q1, q9⟩ := lnk_cells HS.out hx
      have hbn := hs (fun e => by rw [e] at hlt; simp at hlt) b off hA
      subst hA
      have q0' := Lib.hid ((HB.out.cell (p := ⟨b, _, none⟩) hbn).trans q0)
      have q1' := Lib.hid ((HB.out.cell (p := ⟨b, _, none⟩) hbn).trans q1)
      have HX := Lib.hid hx
      have q9' := Lib.hid ((HB.out.cell (p := ⟨b, _, none⟩) hbn).trans q9)
      have q4 := q9'.out
      have q2 := q0'.out
      have q3 := q1'.out
      clear q0 q1 q9 hx
      have HJ1 := Lib.hid (hJ _ wr (wr.alloc (.cells #[.int .i64 x.a, .int .i64 x.b, .int .i64 x.df] 80)) none HJ0.out (World.grownBy_alloc wr _ none) (by simp))
      obtain ⟨fn, tmps, assign, body, hy, hR⟩ := hY _ x _ HJ1.out (by simp; omega)
      dsimp only [lnkV] at hy
      have HR := Lib.hid hR
      have HT : Hid (ss.take (p + 1) = ss.take p ++ [x]) := Lib.hid (by rw [List.take_add_one, HX.out]; rfl)
      clear hR hJ hY
      gi_wp2
      refine HR.out.mono ?_
      rintro e W3 (⟨rfl, hJ3, hk3⟩ | ⟨rfl, hJx3⟩)
      · have HJ3 := Lib.hid hJ3
        have HK3 := Lib.hid hk3
        clear hJ3 hk3
        gi_wp2
        go_roundw
        case rel => exact ⟨p + 1, by omega, by go_num, by rw [HT.out]; exact HJ3.out, (HB.out.alloc (Nat.le_trans hn₀ hwz) _).trans HK3.out⟩
        case measure => simp [intOf]; omega
      · have HJx3 := Lib.hid hJx3
        clear hJx3
        gi_wp2
        refine bodyPost_ret (results_none rfl _ _ _) rfl ?_
        exact ⟨⟨_, rfl⟩, .inr ⟨_, ⟨p + 1, HT.out.symm⟩, HJx3.out⟩⟩
    · gi_wp2
      go_end0
      exact ⟨⟨_, rfl⟩, .inl ⟨ss, rfl, by have e : ss.take p = ss := List.take_of_length_le (by omega); rw [← e]; exact HJ0.out⟩⟩
end Go.Proofs.YtldimlnllmojiaaGreat
