/- All pairs of stations, in their order, as the program goes through them: a range over a function. -/
import Derived.Test.YtpkmojcppdogkaaGreatDoorCd
import Derived.RangeFuncNested
import Derived.RangeFuncBound
import Derived.RangeFuncCalls
import Derived.RangeFuncLeaves
import Derived.Shelf.Abstract
import Derived.Shelf.RegionOpen
import Derived.OwnWalkIn
import Derived.TacticsInMore
import Derived.LoopNIn
import Derived.LoopIn
import Derived.RangeFuncBox
set_option linter.unusedVariables false
set_option linter.unusedSimpArgs false
namespace Go.Proofs.YtpkmojcppdogkaaGreatDoor
open Go.RowKit
open Go.Shelf
attribute [local go_sem] Oper.semAt_some
/-- Two numbers of stations, the lesser one first. -/
def PairT (n : Nat) : Type := { p : Nat × Nat // p.1 < p.2 ∧ p.2 < n }
def PairT.i {n : Nat} (x : PairT n) : Nat := x.1.1
def PairT.k {n : Nat} (x : PairT n) : Nat := x.1.2
def PairT.mk {n : Nat} (i k : Nat) (h : i < k) (h' : k < n) : PairT n := ⟨(i, k), h, h'⟩
@[reducible] def prV (i k : Nat) : Value := .agg #[.int .i64 i, .int .i64 k]
/-- All pairs have come. -/
def AllP (n : Nat) (ys : List (PairT n)) : Prop := ∀ y : PairT n, y ∈ ys
/-- All pairs before the last one have come. -/
def UpTo (n : Nat) (pre : List (PairT n)) : Prop := ∃ p x, pre = p ++ [x] ∧ ∀ y : PairT n, (y.i < x.i ∨ (y.i = x.i ∧ y.k < x.k)) → y ∈ p
set_option maxHeartbeats 1600000 in
set_option maxRecDepth 100000 in
theorem pairs1_in (n : Nat) (hn : 1 ≤ n) (m : Mp) (A : Option Addr) (c : Nat) (cs : List Sta) (hlen : cs.length ≤ 12) (l B n₀ : Nat) (hB : B < n₀)
    (J Jx : List (PairT cs.length) → World → Prop) (W : World) (hn₀ : n₀ ≤ W.heap.size)
    (hY : ∀ pre x W, J pre W → pre.length < 1000 → YieldAt Fence.wide (n - 1) Tryz.prog l #[prV x.i x.k] W fun e W' =>
      (e = .returned (.bool true) ∧ J (pre ++ [x]) W' ∧ Below n₀ W W') ∨ (e = .returned (.bool false) ∧ Jx (pre ++ [x]) W'))
    (hv : W.heap[B]? = some (.cells #[.int .i64 m.wd, .int .i64 m.rw, .int .i64 m.sl, (.slice A cs.length c), .int .i64 m.wd, .int .i64 m.rw] 87)) (h0 : J [] W) :
    CallsIn Fence.wide n Tryz.prog 150 #[.func (.yield l) #[] #[], .pointer (some ⟨B, 0, none⟩)] W fun e W' => (∃ v, e = .returned v) ∧
      ((∃ ys, AllP cs.length ys ∧ J ys W') ∨ (∃ pre, UpTo cs.length pre ∧ Jx pre W')) := by
  have HV := Lib.hid hv
  have hv1 := (boxCells hv).1
  clear hv
  refine callsIn_of_wp Tryz.func150 rfl trivial ?_ rfl
  simp only [Tryz.ntmps150, List.size_toArray, List.length_cons, List.length_nil, Nat.reduceAdd, Nat.reduceSub, Array.replicate_succ, Array.replicate_zero, List.push_toArray, List.append_toArray, List.nil_append, List.cons_append]
  gi_wp2
  gi_loopw [3, 4, 9] (fun _ _ i wr => ∃ (p : Nat) (pre : List (PairT cs.length)), p ≤ cs.length ∧ i = .int .i64 p ∧ J pre wr ∧ pre.length ≤ 12 * p ∧ (∀ y : PairT cs.length, y.i < p → y ∈ pre) ∧ Below n₀ W wr) (fun _ _ i _ => cs.length - (intOf i).toNat)
  case atStart => exact ⟨0, [], Nat.zero_le _, rfl, h0, Nat.le_refl _, fun y h => absurd h (Nat.not_lt_zero _), Below.refl _ _⟩
  case round =>
    obtain ⟨p, pre, hp, rfl, hJ, hL, hA, hb⟩ := hrel
    obtain ⟨wo, rfl⟩ : ∃ wo : World, wo = wr := ⟨_, rfl⟩
    have HJ := Lib.hid hJ
    have HA := Lib.hid hA
    have HB := Lib.hid hb
    have hbox : ∀ o, wo.cell? ⟨B, o, none⟩ = #[Value.int .i64 m.wd, .int .i64 m.rw, .int .i64 m.sl, (.slice A cs.length c), .int .i64 m.wd, .int .i64 m.rw][o]? := (boxCells ((hb.block B hB).trans HV.out)).1
    clear hJ hA hb hv1
    by_cases hlt : p < cs.length
    · gi_wp2
      gi_loopw [4] (fun k wr => ∃ (q : Nat) (pre : List (PairT cs.length)), p < q ∧ q ≤ cs.length ∧ k = .int .i64 q ∧ J pre wr ∧ pre.length + (p + 1) ≤ 12 * p + q ∧ (∀ y : PairT cs.length, (y.i < p ∨ (y.i = p ∧ y.k < q)) → y ∈ pre) ∧ Below n₀ W wr) (fun k _ => cs.length - (intOf k).toNat)
      case atStart => exact ⟨p + 1, pre, by omega, by omega, by go_num, HJ.out, by omega, fun y h => by
        rcases h with h | ⟨h, h'⟩
        · exact HA.out y h
        · have := y.2.1
          unfold PairT.i at h
          unfold PairT.k at h'
          omega, HB.out⟩
      case round =>
        obtain ⟨q, pre, hpq, hq, rfl, hJ, hL, hA, hb⟩ := hrel
        have HJ := Lib.hid hJ
        have HA := Lib.hid hA
        have HB := Lib.hid hb
        have hbox : ∀ o, wr.cell? ⟨B, o, none⟩ = #[Value.int .i64 m.wd, .int .i64 m.rw, .int .i64 m.sl, (.slice A cs.length c), .int .i64 m.wd, .int .i64 m.rw][o]? := (boxCells ((hb.block B hB).trans HV.out)).1
        clear hJ hA hb
        by_cases hql : q < cs.length
        · obtain ⟨fn, tmps, assign, body, hy, hR⟩ := hY pre (PairT.mk p q hpq hql) wr HJ.out (by omega)
          dsimp only [PairT.mk, PairT.i, PairT.k] at hy
          have HR := Lib.hid hR
          clear hR
          gi_wp2
          refine HR.out.mono ?_
          rintro e W3 (⟨rfl, hJ3, hk3⟩ | ⟨rfl, hJx3⟩)
          · have HJ3 := Lib.hid hJ3
            have HK3 := Lib.hid hk3
            clear hJ3 hk3
            gi_wp2
            go_roundw
            case rel => exact ⟨q + 1, pre ++ [PairT.mk p q hpq hql], by omega, by omega, by go_num, HJ3.out, by simp; omega, fun y h => by
              rcases h with h | ⟨h, h'⟩
              · exact List.mem_append_left _ (HA.out y (.inl h))
              · rcases Nat.lt_or_ge y.k q with h3 | h3
                · exact List.mem_append_left _ (HA.out y (.inr ⟨h, h3⟩))
                · have e : y = PairT.mk p q hpq hql := Subtype.ext (Prod.ext h (show y.k = q by omega))
                  rw [e]; simp, HB.out.trans HK3.out⟩
            case measure => simp [intOf]; omega
          · have HJx3 := Lib.hid hJx3
            clear hJx3
            gi_wp2
            refine bodyPost_ret (results_none rfl _ _ _) rfl ?_
            exact ⟨⟨_, rfl⟩, .inr ⟨_, ⟨pre, PairT.mk p q hpq hql, rfl, fun y h => HA.out y h⟩, HJx3.out⟩⟩
        · gi_wp2
          go_roundw
          case rel => exact ⟨p + 1, pre, by omega, by go_num, HJ.out, by omega, fun y h => by
            rcases Nat.lt_or_ge y.i p with h3 | h3
            · exact HA.out y (.inl h3)
            · exact HA.out y (.inr ⟨by omega, Nat.lt_of_lt_of_le y.2.2 (by omega)⟩), HB.out⟩
          case measure => simp [intOf]; omega
    · gi_wp2
      go_end0
      exact ⟨⟨_, rfl⟩, .inl ⟨pre, fun y => HA.out y (Nat.lt_of_lt_of_le (Nat.lt_trans y.2.1 y.2.2) (by omega)), HJ.out⟩⟩
end Go.Proofs.YtpkmojcppdogkaaGreatDoor
