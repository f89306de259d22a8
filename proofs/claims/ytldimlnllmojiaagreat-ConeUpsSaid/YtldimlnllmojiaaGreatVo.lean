/- Part of a claim on cone. -/
import Derived.Test.YtldimlnllmojiaaGreatVn
import Derived.Test.YtldimlnllmojiaaGreatRfz
import Derived.RangeFuncNested
set_option linter.unusedVariables false
set_option linter.unusedSimpArgs false
namespace Go.Proofs.YtldimlnllmojiaaGreat
open Go.RowKit
open Go.Shelf
attribute [local go_sem] Oper.semAt_some
def PairT (n : Nat) : Type := { p : Nat × Nat // p.1 < p.2 ∧ p.2 < n }
def PairT.i {n : Nat} (x : PairT n) : Nat := x.1.1
def PairT.k {n : Nat} (x : PairT n) : Nat := x.1.2
def PairT.mk {n : Nat} (i k : Nat) (h : i < k) (h' : k < n) : PairT n := ⟨(i, k), h, h'⟩
@[reducible] def prV (i k : Nat) : Value := .agg #[.int .i64 i, .int .i64 k]
def valsP {n : Nat} (l : List (PairT n)) : List (Nat × Nat) := l.map fun x => (x.i, x.k)
theorem valsP_snoc {n : Nat} (l : List (PairT n)) (x : PairT n) : valsP (l ++ [x]) = valsP l ++ [(x.i, x.k)] := by simp [valsP]
theorem PairT.lt {n : Nat} (x : PairT n) : x.i < x.k ∧ x.k < n := x.2
set_option maxHeartbeats 1600000 in
set_option maxRecDepth 100000 in
theorem pairs1_in (n : Nat) (hn : 1 ≤ n) (m : Wn) (A : Option Addr) (c : Nat) (L P M : Value) (cs : List Rep) (hlen : cs.length ≤ 12) (l B : Nat)
    (J Jx : List (PairT cs.length) → World → Prop) (W : World)
    (hY : ∀ pre x W, J pre W → pre.length < 1000 → YieldAt Fence.wide (n - 1) Tryz.prog l #[prV x.i x.k] W fun e W' =>
      (e = .returned (.bool true) ∧ J (pre ++ [x]) W' ∧ KeepS (fun k => k = B) W W') ∨ (e = .returned (.bool false) ∧ Jx (pre ++ [x]) W'))
    (hv : W.heap[B]? = some (lookBox m (.slice A cs.length c) L P M)) (h0 : J [] W) :
    CallsIn Fence.wide n Tryz.prog 109 #[.func (.yield l) #[] #[], .pointer (some ⟨B, 0, none⟩)] W fun e W' => (∃ v, e = .returned v) ∧
      ((∃ ys, valsP ys = pairsTo cs.length cs.length ∧ J ys W') ∨ (∃ pre, True ∧ Jx pre W')) := by
  have HV := Lib.hid hv
  have hv1 := (boxCells hv).1
  clear hv
  refine callsIn_of_wp Tryz.func109 rfl trivial ?_ rfl
  simp only [Tryz.ntmps109, List.size_toArray, List.length_cons, List.length_nil, Nat.reduceAdd, Nat.reduceSub, Array.replicate_succ, Array.replicate_zero, List.push_toArray, List.append_toArray, List.nil_append, List.cons_append]
  gi_wp2
  gi_loopw [3, 4, 9] (fun _ _ i wr => ∃ (p : Nat) (pre : List (PairT cs.length)), p ≤ cs.length ∧ i = .int .i64 p ∧ J pre wr ∧ pre.length ≤ 12 * p ∧ valsP pre = pairsTo cs.length p ∧ KeepS (fun k => k = B) W wr) (fun _ _ i _ => cs.length - (intOf i).toNat)
  case atStart => exact ⟨0, [], Nat.zero_le _, rfl, h0, Nat.le_refl _, rfl, KeepS.refl _ _⟩
  case round =>
    obtain ⟨p, pre, hp, rfl, hJ, hL, hA, hb⟩ := hrel
    obtain ⟨wo, rfl⟩ : ∃ wo : World, wo = wr := ⟨_, rfl⟩
    have HJ := Lib.hid hJ
    have HA := Lib.hid hA
    have HB := Lib.hid hb
    have hbox : ∀ o, wo.cell? ⟨B, o, none⟩ = #[Value.int .i64 m.n, (.slice A cs.length c), L, P, .int .i64 m.fall, .int .i64 m.win, .int .i64 m.hold, .int .i64 m.dawn, .int .i64 m.dusk, M][o]? := (boxCells (hb.same B _ rfl HV.out)).1
    clear hJ hA hb hv1
    by_cases hlt : p < cs.length
    · gi_wp2
      gi_loopw [4] (fun k wr => ∃ (q : Nat) (pre : List (PairT cs.length)), p < q ∧ q ≤ cs.length ∧ k = .int .i64 q ∧ J pre wr ∧ pre.length + (p + 1) ≤ 12 * p + q ∧ valsP pre = pairsTo cs.length p ++ rowP p q ∧ KeepS (fun k => k = B) W wr) (fun k _ => cs.length - (intOf k).toNat)
      case atStart => exact ⟨p + 1, pre, by omega, by omega, by go_num, HJ.out, by omega, by rw [HA.out, rowP_none (Nat.le_refl _), List.append_nil], HB.out⟩
      case round =>
        obtain ⟨q, pre, hpq, hq, rfl, hJ, hL, hA, hb⟩ := hrel
        have HJ := Lib.hid hJ
        have HA := Lib.hid hA
        have HB := Lib.hid hb
        have hbox : ∀ o, wr.cell? ⟨B, o, none⟩ = #[Value.int .i64 m.n, (.slice A cs.length c), L, P, .int .i64 m.fall, .int .i64 m.win, .int .i64 m.hold, .int .i64 m.dawn, .int .i64 m.dusk, M][o]? := (boxCells (hb.same B _ rfl HV.out)).1
        clear hJ hA hb
        by_cases hql : q < cs.length
        · obtain ⟨fn, tmps, assign, body, hy, hR⟩ := hY pre (PairT.mk p q hpq hql) wr HJ.out (by omega)
          dsimp only [PairT.mk, PairT.i, PairT.k] at hy
          have HR := Lib.hid hR
          clear hR
          gi_wp2
          refine HR.out.mono ?_
          rintro e W3 (⟨rfl, hJ3, hk3⟩ | ⟨rfl, hJx3⟩)
          · have HJ3 := Lib.hid hJ3
            have HK3 := Lib.hid hk3
            clear hJ3 hk3
            gi_wp2
            go_roundw
            case rel => exact ⟨q + 1, pre ++ [PairT.mk p q hpq hql], by omega, by omega, by go_num, HJ3.out, by simp; omega, by rw [valsP_snoc, HA.out, rowP_next hpq, List.append_assoc]; rfl, HB.out.trans HK3.out⟩
            case measure => simp [intOf]; omega
          · have HJx3 := Lib.hid hJx3
            clear hJx3
            gi_wp2
            refine bodyPost_ret (results_none rfl _ _ _) rfl ?_
            exact ⟨⟨_, rfl⟩, .inr ⟨_, trivial, HJx3.out⟩⟩
        · gi_wp2
          go_roundw
          case rel => exact ⟨p + 1, pre, by omega, by go_num, HJ.out, by omega, by rw [HA.out, pairsTo_next, show q = cs.length by omega], HB.out⟩
          case measure => simp [intOf]; omega
    · gi_wp2
      go_end0
      exact ⟨⟨_, rfl⟩, .inl ⟨pre, by rw [HA.out, show p = cs.length by omega], HJ.out⟩⟩
theorem pairs_any (m : Wn) (R L P M : Value) (w : World) :
    Calls Tryz.prog 87 #[lookV m R L P M] w fun e w' => e = .returned (Value.func (.func 109) #[] #[.pointer (some ⟨w.heap.size, 0, none⟩)]) ∧ w' = w.alloc (lookBox m R L P M) := by
  go_enter Tryz.func87, Tryz.ntmps87
  go_wp2
  go_ret
  exact ⟨rfl, rfl⟩
theorem alarms_any (m : Wn) (R L P M : Value) (w : World) :
    Calls Tryz.prog 59 #[lookV m R L P M] w fun e w' => e = .returned (Value.func (.func 90) #[] #[.pointer (some ⟨w.heap.size, 0, none⟩)]) ∧ w' = w.alloc (lookBox m R L P M) := by
  go_enter Tryz.func59, Tryz.ntmps59
  go_wp2
  go_ret
  exact ⟨rfl, rfl⟩
end Go.Proofs.YtldimlnllmojiaaGreat
