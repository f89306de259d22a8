/- Part of a claim on cone. -/
import Derived.Test.YtldimlnllmojiaaGreatVc
set_option linter.unusedVariables false
set_option linter.unusedSimpArgs false
namespace Go.Proofs.YtldimlnllmojiaaGreat
open Go.RowKit
open Go.Shelf
attribute [local go_sem] Oper.semAt_some
def minsL (lo hi : Int) : List Int := (List.range (hi - lo + 1).toNat).map fun i : Nat => lo + i
theorem minsL_length (lo hi : Int) : (minsL lo hi).length = (hi - lo + 1).toNat := by simp [minsL]
theorem minsL_get {lo hi : Int} {p : Nat} (h : (p : Int) < hi - lo + 1) : (minsL lo hi)[p]? = some (lo + p) := by
  unfold minsL
  rw [List.getElem?_map, List.getElem?_range (by omega)]
  rfl
theorem minsL_mem {lo hi m : Int} : m ∈ minsL lo hi ↔ lo ≤ m ∧ m ≤ hi := by
  unfold minsL
  rw [List.mem_map]
  constructor
  · rintro ⟨i, hi, rfl⟩
    have := List.mem_range.1 hi
    omega
  · rintro ⟨h1, h2⟩
    exact ⟨(m - lo).toNat, List.mem_range.2 (by omega), by omega⟩
set_option maxHeartbeats 1600000 in
set_option maxRecDepth 100000 in
theorem mins1_in (n : Nat) (hn : 1 ≤ n) (lo hi : Int) (h1 : -1000000 ≤ lo) (h2 : lo ≤ 1000000) (h3 : -1000000 ≤ hi) (h4 : hi ≤ 1000000) (l B n₀ : Nat) (hB : B < n₀)
    (J Jx : List Int → World → Prop) (Jp : List PanicEntry → List Int → World → Prop) (W : World) (hn₀ : n₀ ≤ W.heap.size)
    (hY : ∀ pre x W, J pre W → pre.length < 3000000 → YieldAt Fence.wide (n - 1) Tryz.prog l #[.int .i64 x] W fun e W' =>
      (e = .returned (.bool true) ∧ J (pre ++ [x]) W' ∧ Below n₀ W W') ∨ (e = .returned (.bool false) ∧ Jx (pre ++ [x]) W') ∨ (∃ ch, e = .panicked ch ∧ Jp ch (pre ++ [x]) W'))
    (hv : W.heap[B]? = some (.cells #[.int .i64 lo, .int .i64 hi] 56)) (h0 : J [] W) :
    CallsIn Fence.wide n Tryz.prog 127 #[.func (.yield l) #[] #[], .pointer (some ⟨B, 0, none⟩)] W fun e W' => ((∃ v, e = .returned v) ∧
      ((∃ ys, ys = minsL lo hi ∧ J ys W') ∨ (∃ pre, (∃ k, pre = (minsL lo hi).take k) ∧ Jx pre W'))) ∨ (∃ ch pre, e = .panicked ch ∧ (∃ k, pre = (minsL lo hi).take k) ∧ Jp ch pre W') := by
  have HV := Lib.hid hv
  have hv1 := (boxCells hv).1
  have w1 : IntKind.i64.wrap (hi - lo) = hi - lo := IntWalk.i64_in _ (by omega)
  have w2 : IntKind.i64.wrap (hi - lo + 1) = hi - lo + 1 := IntWalk.i64_in _ (by omega)
  clear hv
  refine callsIn_of_wp Tryz.func127 rfl trivial ?_ rfl
  simp only [Tryz.ntmps127, List.size_toArray, List.length_cons, List.length_nil, Nat.reduceAdd, Nat.reduceSub, Array.replicate_succ, Array.replicate_zero, List.push_toArray, List.append_toArray, List.nil_append, List.cons_append]
  gi_wp2
  clear hv1
  gi_loopw [3, 10, 11, 12, 13, 14, 15, 16, 17, 18, 19, 20] (fun _ i _ _ _ _ _ _ _ _ _ _ wr => ∃ p : Nat, ((p : Int) ≤ hi - lo + 1 ∨ p = 0) ∧ i = .int .i64 p ∧ J ((minsL lo hi).take p) wr ∧ Below n₀ W wr) (fun _ i _ _ _ _ _ _ _ _ _ _ _ => (hi - lo + 1).toNat - (intOf i).toNat)
  case atStart => exact ⟨0, .inr rfl, rfl, by simpa using h0, Below.refl _ _⟩
  case round =>
    obtain ⟨p, hp, rfl, hJ0, hb⟩ := hrel
    have HJ0 := Lib.hid hJ0
    have HB := Lib.hid hb
    have hbox : ∀ o, wr.cell? ⟨B, o, none⟩ = #[Value.int .i64 lo, .int .i64 hi][o]? := (boxCells ((hb.block B hB).trans HV.out)).1
    clear hJ0 hb
    by_cases hlt : (p : Int) < hi - lo + 1
    · have w3 : IntKind.i64.wrap (lo + p) = lo + p := IntWalk.i64_in _ (by omega)
      have hlen : ((minsL lo hi).take p).length < 3000000 := by rw [List.length_take, minsL_length]; omega
      obtain ⟨fn, tmps, assign, body, hy, hR⟩ := hY _ (lo + p) _ HJ0.out hlen
      have HR := Lib.hid hR
      have HT : Hid ((minsL lo hi).take (p + 1) = (minsL lo hi).take p ++ [lo + (p : Int)]) := Lib.hid (by rw [List.take_add_one, minsL_get hlt]; rfl)
      clear hR hY hlen
      gi_wp2
      refine HR.out.mono ?_
      rintro e W3 (⟨rfl, hJ3, hk3⟩ | ⟨rfl, hJx3⟩ | ⟨ch, rfl, hJp3⟩)
      · have HJ3 := Lib.hid hJ3
        have HK3 := Lib.hid hk3
        clear hJ3 hk3
        gi_wp2
        go_roundw
        case rel => exact ⟨p + 1, by omega, by go_num, by rw [HT.out]; exact HJ3.out, HB.out.trans HK3.out⟩
        case measure => simp [intOf]; omega
      · have HJx3 := Lib.hid hJx3
        clear hJx3
        gi_wp2
        refine bodyPost_ret (results_none rfl _ _ _) rfl ?_
        exact .inl ⟨⟨_, rfl⟩, .inr ⟨_, ⟨p + 1, HT.out.symm⟩, HJx3.out⟩⟩
      · refine ⟨rfl, .inr ⟨ch, _, rfl, ⟨p + 1, HT.out.symm⟩, hJp3⟩⟩
    · gi_wp2
      go_end0
      have HE : Hid (J (minsL lo hi) wr) := Lib.hid (by have e : (minsL lo hi).take p = minsL lo hi := List.take_of_length_le (by rw [minsL_length]; omega); rw [← e]; exact HJ0.out)
      first | exact .inl ⟨⟨_, rfl⟩, .inl ⟨_, rfl, HE.out⟩⟩ | exact .inl (.inl HE.out) | exact .inl ⟨⟨_, rfl⟩, .inl HE.out⟩
end Go.Proofs.YtldimlnllmojiaaGreat
