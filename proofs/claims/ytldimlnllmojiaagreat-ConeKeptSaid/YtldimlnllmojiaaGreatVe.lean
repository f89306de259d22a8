/- Part of a claim on cone. -/
import Derived.Test.YtldimlnllmojiaaGreatVd
import Derived.Tactics
import Derived.Tactics2
import Derived.Defers
import Derived.Recover
import Derived.Laws.Pointers
import Derived.RegionIn
import Derived.RecoverIn
set_option linter.unusedVariables false
set_option linter.unusedSimpArgs false
namespace Go.Proofs.YtldimlnllmojiaaGreat
open Go.RowKit
open Go.Shelf
attribute [local go_sem] Oper.semAt_some
set_option maxHeartbeats 1000000 in
set_option maxRecDepth 100000 in
theorem calm_gave (E : Nat) (m : Int) (y : Value) (older : List PanicEntry) (w : World) (n : Nat) (hE : w.heap[E]? = some (.cells #[y] 4)) :
    CallsDIn Fence.wide n Tryz.prog 128 #[.pointer (some ⟨E, 0, none⟩)] (.panicking ({ v := .iface 154 (.int .i64 m), recovered := false } :: older)) w fun e u' w' =>
      e = .returned (.tuple #[]) ∧ u' = .panicking ({ v := .iface 154 (.int .i64 m), recovered := true } :: older) ∧ w' = w.setCell ⟨E, 0, none⟩ (.bool false) := by
  have b0 := (boxCells hE).1 0
  have b1 := (boxCells hE).2 0
  simp at b0
  clear hE
  have hta : ∀ w : World, (Instr.typeAssert (.iface 154 (.int .i64 m)) 20 154 true).run Tryz.prog w = .ok (.tuple #[.int .i64 m, .bool true]) w := fun w => by kernel_rfl
  refine callsDIn_of_wpSIn Tryz.func128 rfl trivial fun c₀ cs hu => ?_
  apply wpSIn_seq
  apply wpSIn_region
  simp [wpOpsSIn, go_sem, recoverD, hu, Tryz.ntmps128, Exit.thenS, hta]
  apply wpSIn_seq
  apply wpSIn_region
  simp [wpOpsSIn, go_sem, Exit.thenS]
  refine wpSIn_cond (t := true) (by simp [Act.eval, Array.replicate]) ?_
  simp only [if_true]
  apply wpSIn_region
  simp [wpOpsSIn, go_sem, b0, b1, bodyPostS, results, Tryz.results128]
set_option maxHeartbeats 1000000 in
set_option maxRecDepth 100000 in
theorem calm_idle (E : Nat) (w : World) (n : Nat) :
    CallsDIn Fence.wide n Tryz.prog 128 #[.pointer (some ⟨E, 0, none⟩)] .returning w fun e u' w' => e = .returned (.tuple #[]) ∧ u' = .returning ∧ w' = w := by
  have hta : ∀ w : World, (Instr.typeAssert .nilIface 20 154 true).run Tryz.prog w = .ok (.tuple #[.int .i64 0, .bool false]) w := fun w => by kernel_rfl
  refine callsDIn_of_wpSIn Tryz.func128 rfl trivial fun c₀ cs hu => ?_
  apply wpSIn_seq
  apply wpSIn_region
  simp [wpOpsSIn, go_sem, recoverD, hu, Tryz.ntmps128, Exit.thenS, hta]
  apply wpSIn_seq
  apply wpSIn_region
  simp [wpOpsSIn, go_sem, Exit.thenS]
  refine wpSIn_cond (t := false) (by simp [Act.eval, Array.replicate]) ?_
  simp only [Bool.false_eq_true, if_false]
  refine wpSIn_of_wpIn rfl (wpIn_skip ?_)
  cases c₀
  simp_all [bodyPostS, results, Tryz.results128]
def allB (ss : List (Int × Int)) (lo hi : Int) : Bool := (minsL lo hi).all (seenB ss)
set_option maxHeartbeats 4000000 in
set_option maxRecDepth 100000 in
theorem throughout_any (lo hi : Int) (A : Option Addr) (c : Nat) (ss : List (Int × Int)) (w : World) (h1 : -1000000 ≤ lo) (h2 : lo ≤ 1000000) (h3 : -1000000 ≤ hi) (h4 : hi ≤ 1000000) (hlen : ss.length ≤ 1000) (hS : Sps w (.slice A ss.length c) ss) (hs : ∀ b off, A = some ⟨b, off, none⟩ → b < w.heap.size) :
    Calls Tryz.prog 117 #[.slice A ss.length c, .agg #[.int .i64 lo, .int .i64 hi]] w fun e w' => e = .returned (.bool (allB ss lo hi)) ∧ Below w.heap.size w w' := by
  have HS := Lib.hid hS
  clear hS
  refine (callsIn_wide (n := 10)).1 ?_
  refine callsIn_of_wpR Tryz.func117 rfl ?_
  simp only [Tryz.ntmps117, List.size_toArray, List.length_cons, List.length_nil, Nat.reduceAdd, Nat.reduceSub, Array.replicate_succ, Array.replicate_zero, List.push_toArray, List.append_toArray, List.nil_append, List.cons_append]
  refine wpR_seq (wpR_of_wpIn (n := 10) ?_)
  gi_wp2
  refine wpR_seq (wpR_of_wpIn (n := 10) ?_)
  gi_wp2
  refine wpR_seq (wpR_seq (wpR_of_wpIn (n := 10) ?_))
  gi_wp2_with (refine ⟨trivial, ?_⟩; gi_at_call 115; refine (callsIn_wide.2 (minutes_any _ _ _)).mono ?_; rintro e w1 ⟨rfl, rfl⟩)
  have hb0 : Below w.heap.size w ((((w.alloc (.cells #[.slice A ss.length c] 100)).alloc (.cells #[.int .i64 lo, .int .i64 hi] 56)).alloc (.cells #[.bool false] 4)).alloc (.cells #[.int .i64 lo, .int .i64 hi] 56)) := ((((Below.refl _ w).alloc (Nat.le_refl _) _).alloc (by simp) _).alloc (by simp; omega) _).alloc (by simp; omega) _
  have k0 : ((((w.alloc (.cells #[.slice A ss.length c] 100)).alloc (.cells #[.int .i64 lo, .int .i64 hi] 56)).alloc (.cells #[.bool false] 4)).alloc (.cells #[.int .i64 lo, .int .i64 hi] 56)).heap[w.heap.size]? = some (.cells #[.slice A ss.length c] 100) := blk_alloc (blk_alloc (blk_alloc (heap_new _ _ rfl) _) _) _
  have k2 : ((((w.alloc (.cells #[.slice A ss.length c] 100)).alloc (.cells #[.int .i64 lo, .int .i64 hi] 56)).alloc (.cells #[.bool false] 4)).alloc (.cells #[.int .i64 lo, .int .i64 hi] 56)).heap[w.heap.size + 1 + 1]? = some (.cells #[.bool false] 4) := blk_alloc (heap_new _ _ (by simp)) _
  have k3 : ((((w.alloc (.cells #[.slice A ss.length c] 100)).alloc (.cells #[.int .i64 lo, .int .i64 hi] 56)).alloc (.cells #[.bool false] 4)).alloc (.cells #[.int .i64 lo, .int .i64 hi] 56)).heap[w.heap.size + 1 + 1 + 1]? = some (.cells #[.int .i64 lo, .int .i64 hi] 56) := heap_new _ _ (by simp)
  have hsz : ((((w.alloc (.cells #[.slice A ss.length c] 100)).alloc (.cells #[.int .i64 lo, .int .i64 hi] 56)).alloc (.cells #[.bool false] 4)).alloc (.cells #[.int .i64 lo, .int .i64 hi] 56)).heap.size = w.heap.size + 4 := by simp
  generalize ((((w.alloc (.cells #[.slice A ss.length c] 100)).alloc (.cells #[.int .i64 lo, .int .i64 hi] 56)).alloc (.cells #[.bool false] 4)).alloc (.cells #[.int .i64 lo, .int .i64 hi] 56)) = V0 at *
  refine wpR_block ?_
  refine wpR_rangeFunc_ownP Tryz.func117 (n := 10) (gf := 127) (lb := #[.pointer (some ⟨w.heap.size + 1 + 1 + 1, 0, none⟩)]) rfl (enters_of Tryz.func127 (by kernel_rfl) rfl)
    (encs := fun x : Int => #[.int .i64 x]) (Kp := Below (w.heap.size + 4)) (S := fun ys => ys = minsL lo hi) (Sp := fun pre => ∃ k, pre = (minsL lo hi).take k) (N := 3000000) (w0 := V0)
    (fun l J Jx Jp W hW hJ _ hY hJ0 => mins1_in 9 (by omega) lo hi h1 h2 h3 h4 l (w.heap.size + 1 + 1 + 1) (w.heap.size + 4) (by omega) J Jx Jp W (by have := hW.size; omega) hY ((hW.block _ (by omega)).trans k3) hJ0)
    (fun h k => h.trans k) ?kb (Below.refl _ _) (fun _ => rfl)
    (fun pre W => (∀ y ∈ pre, seenB ss y = true) ∧ W.heap[w.heap.size]? = some (.cells #[.slice A ss.length c] 100) ∧ W.heap[w.heap.size + 1 + 1]? = some (.cells #[.bool false] 4) ∧ w.heap.size + 4 ≤ W.heap.size ∧ Below w.heap.size w W)
    (fun co pre W => False)
    (fun ch pre W => ∃ q, ch = [{ v := .iface 154 (.int .i64 q), recovered := false }] ∧ q ∈ pre ∧ seenB ss q = false ∧ W.heap[w.heap.size + 1 + 1]? = some (.cells #[.bool false] 4) ∧ w.heap.size + 4 ≤ W.heap.size ∧ Below w.heap.size w W)
    ?hI (fun _ _ _ _ _ h _ _ => h) ⟨by simp, k0, k2, by omega, hb0⟩
    (fun x a' W => a' = { tmps := #[.slice A ss.length c, Value.agg #[.int .i64 lo, .int .i64 hi], .pointer (some ⟨w.heap.size, 0, none⟩), .pointer (some ⟨w.heap.size + 1, 0, none⟩), .pointer (some ⟨w.heap.size + 1 + 1, 0, none⟩), .int .i64 x, Value.func (.func 128) #[] #[.pointer (some ⟨w.heap.size + 1 + 1, 0, none⟩)], Value.agg #[.int .i64 lo, .int .i64 hi], Value.func (.func 127) #[] #[.pointer (some ⟨w.heap.size + 1 + 1 + 1, 0, none⟩)], .int .i64 x, undef, undef, undef], defers := [] })
    (fun _ _ _ _ _ _ h _ _ => h) ?assign ?body ?done (fun _ _ _ _ _ _ h _ => h.elim) ?pan
  case kb => exact fun W l o o' h1 h2 h3 h4 => belowK_b (w := V0) (by omega) W l o o' h1 h2 h3 h4
  case hI =>
    rintro pre A' B' row ⟨hp, q0, q2, hz, hb⟩ hg hr
    have hA := hb.size
    have hgz := hg.size
    have hne : ∀ k, k < w.heap.size + 4 → some k ≠ row := fun k hk e => by have := (hr k e.symm).1; omega
    exact ⟨hp, (hg.block _ (by omega) (hne _ (by omega))).trans q0, (hg.block _ (by omega) (hne _ (by omega))).trans q2, by omega, hb.grown hg hA (fun k hk => by have := (hr k hk).1; omega)⟩
  case assign =>
    rintro l pre x W K hi hK
    gi_wp2
    exact hK _ _ (KeepsFrom.refl _ _) (Below.refl _ _) hi rfl
  case body =>
    rintro l pre x a' W hl ⟨r, hr⟩ ⟨hp, q0, q2, hz, hb⟩ rfl hlt
    have hA := hb.size
    have HP := Lib.hid hp
    have HB := Lib.hid hb
    have Q0 := Lib.hid q0
    have Q2 := Lib.hid q2
    have HSW := Lib.hid (HS.out.below hb (Nat.le_refl _))
    have hsW : ∀ b off, A = some ⟨b, off, none⟩ → b < W.heap.size := fun b off h => Nat.lt_of_lt_of_le (hs b off h) hA
    have t0 := (boxCells q0).1 0
    simp at t0
    clear k0 k2 k3 hp q0 q2 hb
    cases hq : seenB ss x
    · have Hq := Lib.hid hq
      have HM := Lib.hid (must_no x A c ss W hlen HSW.out hsW hq)
      clear hq
      gi_wp2_with (refine ⟨trivial, ?_⟩; gi_at_call 129; refine (CallsIn.inRound l (callsIn_wide.2 HM.out)).mono ?_; rintro e w1 ⟨rfl, hb1⟩)
      exact ⟨rfl, ⟨hb1.size, fun k o hk ho _ => blk_below ho hb1⟩, x, rfl, by simp, Hq.out, blk_below Q2.out hb1, Nat.le_trans hz hb1.size, HB.out.trans (hb1.mono hA)⟩
    · have Hq := Lib.hid hq
      have HM := Lib.hid (must_ok x A c ss W hlen HSW.out hsW hq)
      clear hq
      gi_wp2_with (refine ⟨trivial, ?_⟩; gi_at_call 129; refine (CallsIn.inRound l (callsIn_wide.2 HM.out)).mono ?_; rintro e w1 ⟨rfl, hb1⟩)
      refine ⟨⟨hb1.size, fun k o hk ho _ => blk_below ho hb1⟩, hb1.mono hz, fun y hy => ?_, blk_below Q0.out hb1, blk_below Q2.out hb1, Nat.le_trans hz hb1.size, HB.out.trans (hb1.mono hA)⟩
      rcases List.mem_append.1 hy with h | h
      · exact HP.out y h
      · obtain rfl : y = x := by simpa using h
        exact Hq.out
  case done =>
    rintro D ys W hD rfl ⟨hp, q0, q2, hz, hb⟩ hK
    have HB := Lib.hid hb
    have HA : Hid (allB ss lo hi = true) := Lib.hid (List.all_eq_true.2 hp)
    have Q2 := Lib.hid q2
    have HK := Lib.hid hK
    have hA := hb.size
    obtain ⟨e0, e1⟩ := boxCells q2
    replace e0 := e0 0
    replace e1 := e1 0
    simp at e0
    clear k0 k2 k3 hp q0 q2 hb hK
    refine wpR_of_wpIn (n := 10) ?_
    gi_wp2
    have yE := heap_setCell_same (o := 0) Q2.out (.bool true)
    have yD : (W.setCell ⟨w.heap.size + 1 + 1, 0, none⟩ (.bool true)).heap[D]? = some (.deferred (some [])) := (Below.heap_setCell _ _ _ _ (by simp; omega)).trans HK.out
    have yB : Below w.heap.size w (W.setCell ⟨w.heap.size + 1 + 1, 0, none⟩ (.bool true)) := HB.out.setCell (p := ⟨w.heap.size + 1 + 1, 0, none⟩) (by show w.heap.size ≤ w.heap.size + 1 + 1; omega) _
    generalize W.setCell ⟨w.heap.size + 1 + 1, 0, none⟩ (.bool true) = W4 at *
    refine ⟨by simp, .inl ⟨_, _, rfl, run_takeDeferred yD, ?_⟩⟩
    have hgf := grownBy_putObj' W4 D (.deferred none)
    have l4 := (Array.getElem?_eq_some_iff.1 yE).1
    have v1 := (hgf.block (w.heap.size + 1 + 1) (by omega) (by simp; omega)).trans yE
    have yB2 := Lib.hid (yB.grown hgf yB.size (fun k hk => by cases hk; omega))
    generalize W4.putObj D (.deferred none) = W5 at *
    refine ⟨by simp, .inr ⟨by simp [Fence.wide], _, _, 128, #[.pointer (some ⟨w.heap.size + 1 + 1, 0, none⟩)], rfl, by simp [go_sem], fun _ _ => trivial, ?_⟩⟩
    refine (calm_idle (w.heap.size + 1 + 1) W5 _).mono ?_
    rintro e u' w'' ⟨rfl, rfl, rfl⟩
    have d1 := (boxCells v1).1 0
    simp at d1
    refine ⟨.bool true, by simp [results, Tryz.results117, go_sem, d1], by rw [HA.out], yB2.out⟩
  case pan =>
    rintro D ch pre W hD ⟨k, rfl⟩ ⟨q, rfl, hq, hqn, q2, hz, hb⟩ hK
    have HA : Hid (allB ss lo hi = false) := Lib.hid (by
      unfold allB
      rw [List.all_eq_false]
      exact ⟨q, List.mem_of_mem_take hq, by rw [hqn]; simp⟩)
    refine ⟨by simp, .inl ⟨_, _, rfl, run_takeDeferred hK, ?_⟩⟩
    have hgf := grownBy_putObj' W D (.deferred none)
    have l4 := (Array.getElem?_eq_some_iff.1 q2).1
    have v1 := (hgf.block (w.heap.size + 1 + 1) (by omega) (by simp; omega)).trans q2
    have yB2 := (hb.grown hgf hb.size (fun k hk => by cases hk; omega))
    generalize W.putObj D (.deferred none) = W5 at *
    refine ⟨by simp, .inr ⟨by simp [Fence.wide], _, _, 128, #[.pointer (some ⟨w.heap.size + 1 + 1, 0, none⟩)], rfl, by simp [go_sem], fun _ _ => trivial, ?_⟩⟩
    refine (calm_gave (w.heap.size + 1 + 1) q (.bool false) [] W5 _ v1).mono ?_
    rintro e u' w'' ⟨rfl, rfl, rfl⟩
    have d1 := (boxCells (heap_setCell_same (o := 0) v1 (.bool false))).1 0
    simp at d1
    refine ⟨.bool false, by simp [results, Tryz.results117, go_sem, d1], by rw [HA.out], yB2.setCell (p := ⟨w.heap.size + 1 + 1, 0, none⟩) (by show w.heap.size ≤ w.heap.size + 1 + 1; omega) _⟩
end Go.Proofs.YtldimlnllmojiaaGreat
