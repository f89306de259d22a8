/- Part of a claim on cone. -/
import Derived.Test.YtldimlnllmojiaaGreatRpn
import Derived.Test.YtldimlnllmojiaaGreatCf
import Derived.RangeFuncBound
import Derived.RangeFuncCalls
import Derived.Shelf.Abstract
import Derived.Shelf.RegionOpen
import Derived.OwnWalkIn
import Derived.TacticsInMore
import Derived.LoopNIn
import Derived.LoopIn
import Derived.RangeFuncBox
set_option linter.unusedVariables false
set_option linter.unusedSimpArgs false
namespace Go.Proofs.YtldimlnllmojiaaGreat
open Go.RowKit
open Go.Shelf
theorem mZ {α : Type} {a : α} {l : List α} : a ∈ a :: l := List.mem_cons_self
theorem mS {α : Type} {a b : α} {l : List α} (h : a ∈ l) : a ∈ b :: l := List.mem_cons_of_mem _ h
theorem fM {α : Type} {p : α → Prop} {a : α} {l : List α} (h : p a ∧ ∀ x ∈ l, p x) : ∀ x ∈ a :: l, p x := List.forall_mem_cons.2 h
attribute [local go_sem] Oper.semAt_some
def betw (n lo hi : Int) : Bool := decide (lo ≤ n) && decide (n ≤ hi)
theorem betw_1 {n lo hi : Int} (h : lo ≤ n) (h' : n ≤ hi) : betw n lo hi = true := by simp [betw, h, h']
theorem betw_2 {n lo hi : Int} (h : ¬ lo ≤ n) : betw n lo hi = false := by simp [betw, h]
theorem betw_3 {n lo hi : Int} (h : ¬ n ≤ hi) : betw n lo hi = false := by simp [betw, h]
theorem between_any (n lo hi : Int) (w : World) :
    Calls Tryz.prog 72 #[.int .i64 n, .int .i64 lo, .int .i64 hi] w fun e w' => e = .returned (.bool (betw n lo hi)) ∧ w = w' := by
  by_cases h1 : lo ≤ n
  · by_cases h2 : n ≤ hi
    · rw [betw_1 h1 h2]
      go_enter Tryz.func72, Tryz.ntmps72
      go_wp2
      go_ret
      exact ⟨rfl, rfl⟩
    · rw [betw_3 h2]
      go_enter Tryz.func72, Tryz.ntmps72
      go_wp2
      go_ret
      exact ⟨rfl, rfl⟩
  · rw [betw_2 h1]
    go_enter Tryz.func72, Tryz.ntmps72
    go_wp2
    go_ret
    exact ⟨rfl, rfl⟩
def farI (a b : Int) : Int := max (a - b) (b - a)
theorem apart_any (a b : Int) (w : World) (ha : -1000000000 ≤ a) (ha' : a ≤ 1000000000) (hb : -1000000000 ≤ b) (hb' : b ≤ 1000000000) :
    Calls Tryz.prog 88 #[.int .i64 a, .int .i64 b] w fun e w' => e = .returned (.int .i64 (farI a b)) ∧ w = w' := by
  have e1 : IntKind.i64.wrap (a - b) = a - b := IntWalk.i64_in _ (by omega)
  have e2 : IntKind.i64.wrap (b - a) = b - a := IntWalk.i64_in _ (by omega)
  go_enter Tryz.func88, Tryz.ntmps88
  by_cases h : b - a ≤ a - b
  · have hf : farI a b = a - b := by unfold farI; omega
    rw [hf]
    go_wp2
    go_ret
    exact ⟨ret_int (by first | rfl | omega | (simp; omega)), rfl⟩
  · have hf : farI a b = b - a := by unfold farI; omega
    rw [hf]
    go_wp2
    go_ret
    exact ⟨ret_int (by first | rfl | omega | (simp; omega)), rfl⟩
def SpsAt (w : World) (b off : Nat) (ss : List (Int × Int)) : Prop :=
  ∀ i x, ss[i]? = some x → w.cell? ⟨b, off + i * 2, none⟩ = some (.int .i64 x.1) ∧ w.cell? ⟨b, off + i * 2 + 1, none⟩ = some (.int .i64 x.2)
def Sps (w : World) (v : Value) (ss : List (Int × Int)) : Prop :=
  ∃ A cap, v = .slice A ss.length cap ∧ ss.length ≤ cap ∧ cap ≤ maxLen ∧ (ss = [] ∨ ∃ b off, A = some ⟨b, off, none⟩ ∧ b < w.heap.size ∧ SpsAt w b off ss)
theorem SpsAt.below {w w' : World} {B b off : Nat} {ss : List (Int × Int)} (h : SpsAt w b off ss) (hb : Below B w w') (hB : b < B) : SpsAt w' b off ss := fun i c hc => by
  obtain ⟨h0, h1⟩ := h i c hc
  exact ⟨(hb.cell (p := ⟨b, _, none⟩) hB).trans h0, (hb.cell (p := ⟨b, _, none⟩) hB).trans h1⟩
theorem Sps.below {w w' : World} {B : Nat} {v : Value} {ss : List (Int × Int)} (h : Sps w v ss) (hb : Below B w w') (hB : w.heap.size ≤ B) : Sps w' v ss := by
  obtain ⟨A, cap, hv, hl, hm, h⟩ := h
  refine ⟨A, cap, hv, hl, hm, ?_⟩
  rcases h with h | ⟨b, off, hA, hlt, hc⟩
  · exact .inl h
  · exact .inr ⟨b, off, hA, Nat.lt_of_lt_of_le hlt hb.size, hc.below hb (by omega)⟩
theorem sp_cells {w : World} {A : Option Addr} {c : Nat} {ss : List (Int × Int)} {j : Nat} {x : Int × Int} (h : Sps w (.slice A ss.length c) ss) (hx : ss[j]? = some x) :
    ∃ b off, A = some ⟨b, off, none⟩ ∧ b < w.heap.size ∧ ss.length ≤ c ∧ c ≤ maxLen ∧ w.cell? ⟨b, off + j * 2, none⟩ = some (.int .i64 x.1) ∧ w.cell? ⟨b, off + j * 2 + 1, none⟩ = some (.int .i64 x.2) := by
  obtain ⟨A', cap, hv, hl, hm, h⟩ := h
  obtain ⟨rfl, -, rfl⟩ : A = A' ∧ ss.length = ss.length ∧ c = cap := by simpa using hv
  rcases h with rfl | ⟨b, off, hA, hlt, hc⟩
  · simp at hx
  · exact ⟨b, off, hA, hlt, hl, hm, hc j x hx⟩
def seenB (ss : List (Int × Int)) (m : Int) : Bool := ss.any fun x => betw m x.1 x.2
@[reducible] def spV (x : Int × Int) : Value := .agg #[.int .i64 x.1, .int .i64 x.2]
theorem at1_any (m lo hi : Int) (D : Nat) (w : World) (hD : w.heap[D]? = some (.cells #[.int .i64 m] 3)) :
    Calls Tryz.prog 98 #[.agg #[.int .i64 lo, .int .i64 hi], .pointer (some ⟨D, 0, none⟩)] w fun e w' => e = .returned (.bool (betw m lo hi)) ∧ Below w.heap.size w w' := by
  have hlt : D < w.heap.size := (Array.getElem?_eq_some_iff.1 hD).1
  have d1 := (boxCells hD).1 0
  simp at d1
  clear hD
  go_enter Tryz.func98, Tryz.ntmps98
  go_wp2_with (go_at_call 72; refine (between_any _ _ _ _).mono ?_; rintro e wq ⟨rfl, rfl⟩)
  go_ret
  exact ⟨rfl, (Below.refl _ _).alloc (Nat.le_refl _) _⟩
set_option maxHeartbeats 1600000 in
set_option maxRecDepth 100000 in
theorem vals1_in (n : Nat) (hn : 1 ≤ n) (A : Option Addr) (c : Nat) (ss : List (Int × Int)) (hlen : ss.length ≤ 1000) (l B n₀ : Nat) (hB : B < n₀)
    (J Jx : List (Int × Int) → World → Prop) (W : World) (hn₀ : n₀ ≤ W.heap.size) (hJ : AbidesFrom W.heap.size J)
    (hY : ∀ pre x W, J pre W → pre.length < 1001 → YieldAt Fence.wide (n - 1) Tryz.prog l #[spV x] W fun e W' =>
      (e = .returned (.bool true) ∧ J (pre ++ [x]) W' ∧ Below n₀ W W') ∨ (e = .returned (.bool false) ∧ Jx (pre ++ [x]) W'))
    (hs : ∀ b off, A = some ⟨b, off, none⟩ → b < n₀) (hS : Sps W (.slice A ss.length c) ss)
    (hv : W.heap[B]? = some (.cells #[.slice A ss.length c] 100)) (h0 : J [] W) :
    CallsIn Fence.wide n Tryz.prog 113 #[.func (.yield l) #[] #[], .pointer (some ⟨B, 0, none⟩)] W fun e W' => (∃ v, e = .returned v) ∧
      ((∃ ys, ys = ss ∧ J ys W') ∨ (∃ pre, (∃ k, pre = ss.take k) ∧ Jx pre W')) := by
  have HV := Lib.hid hv
  have HS := Lib.hid hS
  have hv1 := (boxCells hv).1 0
  simp at hv1
  clear hv hS
  refine callsIn_of_wp Tryz.func113 rfl trivial ?_ rfl
  simp only [Tryz.ntmps113, List.size_toArray, List.length_cons, List.length_nil, Nat.reduceAdd, Nat.reduceSub, Array.replicate_succ, Array.replicate_zero, List.push_toArray, List.append_toArray, List.nil_append, List.cons_append]
  gi_wp2
  clear hv1
  gi_loopw [4, 7, 8, 9, 10, 11, 12, 13, 14, 15] (fun _ i _ _ _ _ _ _ _ _ wr => ∃ p : Nat, p ≤ ss.length ∧ i = .int .i64 p ∧ J (ss.take p) wr ∧ Below n₀ W wr) (fun _ i _ _ _ _ _ _ _ _ _ => ss.length - (intOf i).toNat)
  case atStart => exact ⟨0, Nat.zero_le _, rfl, by simpa using h0, Below.refl _ _⟩
  case round =>
    obtain ⟨p, hp, rfl, hJ0, hb⟩ := hrel
    have HJ0 := Lib.hid hJ0
    have HB := Lib.hid hb
    have hwz := hb.size
    clear hJ0 hb
    by_cases hlt : p < ss.length
    · obtain ⟨x, hx⟩ : ∃ x, ss[p]? = some x := ⟨_, List.getElem?_eq_getElem hlt⟩
      obtain ⟨b, off, hA, hbl, hc1, hc2, q0, q1⟩ := sp_cells HS.out hx
      have hbn := hs b off hA
      subst hA
      have q0' := Lib.hid ((HB.out.cell (p := ⟨b, _, none⟩) hbn).trans q0)
      have q1' := Lib.hid ((HB.out.cell (p := ⟨b, _, none⟩) hbn).trans q1)
      have HX := Lib.hid hx
      have q2 := q0'.out
      have q3 := q1'.out
      clear q0 q1 hx
      have HJ1 := Lib.hid (hJ _ wr (wr.alloc (.cells #[.int .i64 x.1, .int .i64 x.2] 56)) none HJ0.out (World.grownBy_alloc wr _ none) (by simp))
      obtain ⟨fn, tmps, assign, body, hy, hR⟩ := hY _ x _ HJ1.out (by simp; omega)
      dsimp only [spV] at hy
      have HR := Lib.hid hR
      have HT : Hid (ss.take (p + 1) = ss.take p ++ [x]) := Lib.hid (by rw [List.take_add_one, HX.out]; rfl)
      clear hR hJ hY
      gi_wp2
      refine HR.out.mono ?_
      rintro e W3 (⟨rfl, hJ3, hk3⟩ | ⟨rfl, hJx3⟩)
      · have HJ3 := Lib.hid hJ3
        have HK3 := Lib.hid hk3
        clear hJ3 hk3
        gi_wp2
        go_roundw
        case rel => exact ⟨p + 1, by omega, by go_num, by rw [HT.out]; exact HJ3.out, (HB.out.alloc (Nat.le_trans hn₀ hwz) _).trans HK3.out⟩
        case measure => simp [intOf]; omega
      · have HJx3 := Lib.hid hJx3
        clear hJx3
        gi_wp2
        refine bodyPost_ret (results_none rfl _ _ _) rfl ?_
        exact ⟨⟨_, rfl⟩, .inr ⟨_, ⟨p + 1, HT.out.symm⟩, HJx3.out⟩⟩
    · gi_wp2
      go_end0
      exact ⟨⟨_, rfl⟩, .inl ⟨ss, rfl, by have e : ss.take p = ss := List.take_of_length_le (by omega); rw [← e]; exact HJ0.out⟩⟩
end Go.Proofs.YtldimlnllmojiaaGreat
