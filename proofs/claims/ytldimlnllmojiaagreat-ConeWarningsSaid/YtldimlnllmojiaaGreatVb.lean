/- Part of a claim on cone. -/
import Derived.Test.YtldimlnllmojiaaGreatVa
set_option linter.unusedVariables false
set_option linter.unusedSimpArgs false
namespace Go.Proofs.YtldimlnllmojiaaGreat
open Go.RowKit
open Go.Shelf
attribute [local go_sem] Oper.semAt_some
theorem seenB_no {ss : List (Int × Int)} {m : Int} (h : ∀ y ∈ ss, betw m y.1 y.2 = false) : seenB ss m = false := by
  unfold seenB
  rw [List.any_eq_false]
  exact fun y hy => by rw [h y hy]; simp
theorem seenB_yes {ss : List (Int × Int)} {m : Int} {y : Int × Int} (hy : y ∈ ss) (h : betw m y.1 y.2 = true) : seenB ss m = true := List.any_eq_true.2 ⟨y, hy, h⟩
set_option maxHeartbeats 4000000 in
set_option maxRecDepth 100000 in
theorem first_in (m : Int) (A : Option Addr) (c : Nat) (ss : List (Int × Int)) (B D : Nat) (w : World) (hlen : ss.length ≤ 1000) (hS : Sps w (.slice A ss.length c) ss) (hB : B < w.heap.size) (hD : w.heap[D]? = some (.cells #[.int .i64 m] 3)) (hv : w.heap[B]? = some (.cells #[.slice A ss.length c] 100)) (hs : ∀ b off, A = some ⟨b, off, none⟩ → b < w.heap.size) :
    Calls Tryz.prog 96 #[Value.func (.func 113) #[] #[.pointer (some ⟨B, 0, none⟩)], Value.func (.func 98) #[] #[.pointer (some ⟨D, 0, none⟩)]] w fun e w' => ∃ y, e = .returned (.tuple #[spV y, .bool (seenB ss m)]) ∧ Below w.heap.size w w' := by
  have HS := Lib.hid hS
  have HV := Lib.hid hv
  have HD := Lib.hid hD
  have hDl : D < w.heap.size := (Array.getElem?_eq_some_iff.1 hD).1
  clear hS hv hD
  refine (callsIn_wide (n := 10)).1 ?_
  refine callsIn_of_wp_marks Tryz.func96 rfl trivial ?_ rfl
  simp only [Tryz.ntmps96, List.size_toArray, List.length_cons, List.length_nil, Nat.reduceAdd, Nat.reduceSub, Array.replicate_succ, Array.replicate_zero, List.push_toArray, List.append_toArray, List.nil_append, List.cons_append]
  gi_wp2
  have hb0 : Below w.heap.size w (((w.alloc (.cells #[Value.func (.func 98) #[] #[.pointer (some ⟨D, 0, none⟩)]] 129)).alloc (.cells #[.int .i64 0, .int .i64 0] 56)).alloc (.cells #[.bool false] 4)) := (((Below.refl _ w).alloc (Nat.le_refl _) _).alloc (by simp) _).alloc (by simp; omega) _
  have k0 : (((w.alloc (.cells #[Value.func (.func 98) #[] #[.pointer (some ⟨D, 0, none⟩)]] 129)).alloc (.cells #[.int .i64 0, .int .i64 0] 56)).alloc (.cells #[.bool false] 4)).heap[w.heap.size]? = some (.cells #[Value.func (.func 98) #[] #[.pointer (some ⟨D, 0, none⟩)]] 129) := blk_alloc (blk_alloc (heap_new _ _ rfl) _) _
  have k1 : (((w.alloc (.cells #[Value.func (.func 98) #[] #[.pointer (some ⟨D, 0, none⟩)]] 129)).alloc (.cells #[.int .i64 0, .int .i64 0] 56)).alloc (.cells #[.bool false] 4)).heap[w.heap.size + 1]? = some (.cells #[.int .i64 0, .int .i64 0] 56) := blk_alloc (heap_new _ _ (by simp)) _
  have k2 : (((w.alloc (.cells #[Value.func (.func 98) #[] #[.pointer (some ⟨D, 0, none⟩)]] 129)).alloc (.cells #[.int .i64 0, .int .i64 0] 56)).alloc (.cells #[.bool false] 4)).heap[w.heap.size + 1 + 1]? = some (.cells #[.bool false] 4) := heap_new _ _ (by simp)
  have hsz : (((w.alloc (.cells #[Value.func (.func 98) #[] #[.pointer (some ⟨D, 0, none⟩)]] 129)).alloc (.cells #[.int .i64 0, .int .i64 0] 56)).alloc (.cells #[.bool false] 4)).heap.size = w.heap.size + 3 := by simp
  generalize (((w.alloc (.cells #[Value.func (.func 98) #[] #[.pointer (some ⟨D, 0, none⟩)]] 129)).alloc (.cells #[.int .i64 0, .int .i64 0] 56)).alloc (.cells #[.bool false] 4)) = V0 at *
  refine wpIn_rangeFunc_ownH rfl (by omega) (gf := 113) (lb := #[.pointer (some ⟨B, 0, none⟩)]) rfl trivial (enters_of Tryz.func113 (by kernel_rfl) rfl)
    (encs := fun x : Int × Int => #[spV x]) (Kp := Below w.heap.size) (S := fun ys => ys = ss) (Sp := fun pre => ∃ k, pre = ss.take k) (N := 1001) (w0 := V0)
    (fun l J Jx W hW hJ _ hY hJ0 => vals1_in 9 (by omega) A c ss hlen l B w.heap.size hB J Jx W (by have := hW.size; omega) hJ hY hs (HS.out.below (hb0.trans (hW.mono (by omega))) (Nat.le_refl _)) ((hW.block _ (by omega)).trans ((hb0.block _ hB).trans HV.out)) hJ0)
    (fun h k => h.trans k) ?kb (Below.refl _ _) (fun _ => rfl)
    (fun pre W => (∀ y ∈ pre, betw m y.1 y.2 = false) ∧ W.heap[w.heap.size]? = some (.cells #[Value.func (.func 98) #[] #[.pointer (some ⟨D, 0, none⟩)]] 129) ∧ W.heap[w.heap.size + 1]? = some (.cells #[.int .i64 0, .int .i64 0] 56) ∧ W.heap[w.heap.size + 1 + 1]? = some (.cells #[.bool false] 4) ∧ Below w.heap.size w W)
    (fun co pre W => co = .ret ∧ ∃ p x, pre = p ++ [x] ∧ betw m x.1 x.2 = true ∧ W.heap[w.heap.size + 1]? = some (.cells #[.int .i64 x.1, .int .i64 x.2] 56) ∧ W.heap[w.heap.size + 1 + 1]? = some (.cells #[.bool true] 4) ∧ Below w.heap.size w W)
    ?hI ?hIx ⟨by simp, k0, k1, k2, hb0⟩
    (fun x a' W => ∃ Bx, w.heap.size + 3 ≤ Bx ∧ W.heap[Bx]? = some (.cells #[.int .i64 x.1, .int .i64 x.2] 56) ∧ a' = { tmps := #[Value.func (.func 113) #[] #[.pointer (some ⟨B, 0, none⟩)], Value.func (.func 98) #[] #[.pointer (some ⟨D, 0, none⟩)], undef, .pointer (some ⟨w.heap.size, 0, none⟩), .pointer (some ⟨w.heap.size + 1, 0, none⟩), .pointer (some ⟨w.heap.size + 1 + 1, 0, none⟩), .pointer (some ⟨Bx, 0, none⟩), undef, Value.func (.func 113) #[] #[.pointer (some ⟨B, 0, none⟩)], spV x, undef, undef, undef, undef, undef], defers := [] })
    ?hAx ?assign ?body ?done ?stop
  case kb => exact fun W l o o' h1 h2 h3 h4 => belowK_b (w := V0) (by omega) W l o o' h1 h2 h3 h4
  case hI =>
    rintro pre A' B' row ⟨hp, q0, q1, q2, hb⟩ hg hr
    have hA := hb.size
    have hne : ∀ k, k < w.heap.size + 3 → some k ≠ row := fun k hk e => by have := (hr k e.symm).1; omega
    have l0 := (Array.getElem?_eq_some_iff.1 q2).1
    exact ⟨hp, (hg.block _ (by omega) (hne _ (by omega))).trans q0, (hg.block _ (by omega) (hne _ (by omega))).trans q1, (hg.block _ (by omega) (hne _ (by omega))).trans q2, hb.grown hg hA (fun k hk => by have := (hr k hk).1; omega)⟩
  case hIx =>
    rintro co pre A' B' row ⟨rfl, p, x, e, hx, q1, q2, hb⟩ hg hr
    have hA := hb.size
    have hne : ∀ k, k < w.heap.size + 3 → some k ≠ row := fun k hk e => by have := (hr k e.symm).1; omega
    have l0 := (Array.getElem?_eq_some_iff.1 q2).1
    exact ⟨rfl, p, x, e, hx, (hg.block _ (by omega) (hne _ (by omega))).trans q1, (hg.block _ (by omega) (hne _ (by omega))).trans q2, hb.grown hg hA (fun k hk => by have := (hr k hk).1; omega)⟩
  case hAx =>
    rintro x a' _ A' B' row ⟨Bx, h1, h2, h3⟩ hg hr
    have hlt : Bx < A'.heap.size := (Array.getElem?_eq_some_iff.1 h2).1
    refine ⟨Bx, h1, (hg.block _ hlt fun e => ?_).trans h2, h3⟩
    obtain ⟨o, ho, hoc⟩ := (hr Bx e.symm).2
    rw [h2] at ho
    cases ho
    cases hoc
  case assign =>
    rintro l pre x W K ⟨hp, q0, q1, q2, hb⟩ hK
    have hA := hb.size
    have l0 := (Array.getElem?_eq_some_iff.1 q2).1
    gi_wp2
    exact hK _ _ ((KeepsOthers.alloc _ _).from _) ((Below.refl _ _).alloc (by omega) _) ⟨hp, blk_alloc q0 _, blk_alloc q1 _, blk_alloc q2 _, hb.alloc (by omega) _⟩ ⟨W.heap.size, by omega, World.alloc_heap_new _ _, rfl⟩
  case body =>
    rintro l pre x a' W hl ⟨r, hr⟩ ⟨hp, q0, q1, q2, hb⟩ ⟨Bx, hBx, hX, rfl⟩ hlt
    have hA := hb.size
    have hBl : Bx < W.heap.size := (Array.getElem?_eq_some_iff.1 hX).1
    have l2 : w.heap.size + 1 + 1 < W.heap.size := (Array.getElem?_eq_some_iff.1 q2).1
    have l1 : w.heap.size + 1 < W.heap.size := by omega
    obtain ⟨t0, t0f⟩ := boxCells q0
    obtain ⟨x1, x2⟩ := boxCells hX
    have HQ := Lib.hid (at1_any m x.1 x.2 D W ((hb.block _ hDl).trans HD.out))
    have HP := Lib.hid hp
    have Q1 := Lib.hid q1
    have Q2 := Lib.hid q2
    have QX := Lib.hid hX
    have HB := Lib.hid hb
    have Q0 := Lib.hid q0
    clear k0 k1 k2 hp q0 q1 q2 hX hb
    cases hq : betw m x.1 x.2
    · have Hq := Lib.hid hq
      rw [hq] at HQ
      clear hq
      gi_wp2_with (refine ⟨trivial, ?_⟩; gi_at_call 98; refine (CallsIn.inRound l (callsIn_wide.2 HQ.out)).mono ?_; rintro e w1 ⟨rfl, hb1⟩)
      refine ⟨?_, ?_, fun y hy => ?_, blk_below Q0.out hb1, blk_below Q1.out hb1, blk_below Q2.out hb1, HB.out.trans (hb1.mono hA)⟩
      · exact ⟨hb1.size, fun k o hk ho _ => blk_below ho hb1⟩
      · exact hb1.mono hA
      · rcases List.mem_append.1 hy with h | h
        · exact HP.out y h
        · obtain rfl : y = x := by simpa using h
          exact Hq.out
    · have Hq := Lib.hid hq
      rw [hq] at HQ
      clear hq
      gi_wp2_with (refine ⟨trivial, ?_⟩; gi_at_call 98; refine (CallsIn.inRound l (callsIn_wide.2 HQ.out)).mono ?_; rintro e w1 ⟨rfl, hb1⟩; have R1 := Lib.hid (blk_below Q1.out hb1); have R2 := Lib.hid (blk_below Q2.out hb1); have RX := Lib.hid (blk_below QX.out hb1); have r1 := (boxCells R1.out).1; have r1f := (boxCells R1.out).2; have r2 := (boxCells R2.out).1; have r2f := (boxCells R2.out).2; have rx := (boxCells RX.out).1; have hb2 := Lib.hid hb1; have hz1 := hb1.size; have rl : w.heap.size + 1 + 1 < w1.heap.size := (Nat.lt_of_lt_of_le l2 hz1); have rl1 : w.heap.size + 1 < w1.heap.size := (Nat.lt_of_lt_of_le l1 hz1); have n1 : Bx ≠ w.heap.size + 1 := (by omega); have n2 : Bx ≠ w.heap.size + 1 + 1 := (by omega); clear hb1)
      have u1 := heap_setCell_same (o := 1) (heap_setCell_same (o := 0) R1.out (.int .i64 x.1)) (.int .i64 x.2)
      have u2 := heap_setCell_same (o := 0) R2.out (.bool true)
      refine ⟨?_, rfl, pre, x, rfl, Hq.out, ?_, ?_, ?_⟩
      · exact KeepsFrom.trans (B := _) ⟨hb2.out.size, fun k o hk ho _ => blk_below ho hb2.out⟩ ((((KeepsOthers.setCell _ _ _).trans (KeepsOthers.setCell _ _ _)).trans (KeepsOthers.setCell _ _ _)).from _)
      · exact (Below.heap_setCell _ _ _ _ (by simp)).trans u1
      · exact heap_setCell_same (o := 0) ((Below.heap_setCell _ _ _ _ (by simp)).trans ((Below.heap_setCell _ _ _ _ (by simp)).trans R2.out)) (.bool true)
      · exact (((HB.out.trans (hb2.out.mono hA)).setCell (p := ⟨w.heap.size + 1, 0, none⟩) (by simp) _).setCell (p := ⟨w.heap.size + 1, 1, none⟩) (by simp) _).setCell (p := ⟨w.heap.size + 1 + 1, 0, none⟩) (by show w.heap.size ≤ w.heap.size + 1 + 1; omega) _
  case done =>
    rintro Dd ys W hDd rfl ⟨hp, q0, q1, q2, hb⟩ hK
    have hA := hb.size
    have l2 : w.heap.size + 1 + 1 < W.heap.size := (Array.getElem?_eq_some_iff.1 q2).1
    have l1 : w.heap.size + 1 < W.heap.size := by omega
    obtain ⟨c1, c1f⟩ := boxCells q1
    obtain ⟨c2, c2f⟩ := boxCells q2
    have Q1 := Lib.hid q1
    have Q2 := Lib.hid q2
    have HK := Lib.hid hK
    have HB := Lib.hid hb
    have HAg := Lib.hid (seenB_no hp)
    clear k0 k1 k2 hp q0 q1 q2 hK hb
    gi_wp2
    obtain ⟨W4, hW4⟩ : ∃ W4, (((W.setCell ⟨w.heap.size + 1, 0, none⟩ (.int .i64 0)).setCell ⟨w.heap.size + 1, 1, none⟩ (.int .i64 0)).setCell ⟨w.heap.size + 1 + 1, 0, none⟩ (.bool false)).alloc (.cells #[.int .i64 0, .int .i64 0] 56) = W4 := ⟨_, rfl⟩
    have hDl : Dd < W.heap.size := (Array.getElem?_eq_some_iff.1 HK.out).1
    have y1 : W4.heap[w.heap.size + 1]? = some (.cells #[.int .i64 0, .int .i64 0] 56) := by
      rw [← hW4]
      exact blk_alloc ((Below.heap_setCell _ _ _ _ (by simp)).trans (heap_setCell_same (o := 1) (heap_setCell_same (o := 0) Q1.out (.int .i64 0)) (.int .i64 0))) _
    have y2 : W4.heap[w.heap.size + 1 + 1]? = some (.cells #[.bool false] 4) := by
      rw [← hW4]
      exact blk_alloc (heap_setCell_same (o := 0) ((Below.heap_setCell _ _ _ _ (by simp)).trans ((Below.heap_setCell _ _ _ _ (by simp)).trans Q2.out)) (.bool false)) _
    have yD : W4.heap[Dd]? = some (.deferred (some [])) := by
      rw [← hW4]
      exact blk_alloc ((Below.heap_setCell _ _ _ _ (by simp; omega)).trans ((Below.heap_setCell _ _ _ _ (by simp; omega)).trans ((Below.heap_setCell _ _ _ _ (by simp; omega)).trans HK.out))) _
    have yB : Below w.heap.size w W4 := by
      rw [← hW4]
      exact (((HB.out.setCell (p := ⟨w.heap.size + 1, 0, none⟩) (by simp) _).setCell (p := ⟨w.heap.size + 1, 1, none⟩) (by simp) _).setCell (p := ⟨w.heap.size + 1 + 1, 0, none⟩) (by show w.heap.size ≤ w.heap.size + 1 + 1; omega) _).alloc (by simp; omega) _
    rw [hW4]
    refine ⟨by simp, .inl ⟨_, _, rfl, run_takeDeferred yD, ?_⟩⟩
    have hgf := grownBy_putObj' W4 Dd (.deferred none)
    have l4 := (Array.getElem?_eq_some_iff.1 y2).1
    have v1 := (hgf.block (w.heap.size + 1) (by omega) (by simp; omega)).trans y1
    have v2 := (hgf.block (w.heap.size + 1 + 1) (by omega) (by simp; omega)).trans y2
    have d1 := (boxCells v1).1
    have d2 := (boxCells v2).1
    exact ⟨.tuple #[spV (0, 0), .bool false], by simp [results, Tryz.results96, go_sem, d1, d2], (0, 0), by rw [HAg.out], yB.grown hgf yB.size (fun k hk => by cases hk; omega)⟩
  case stop =>
    rintro Dd co pre W hDd ⟨k, hU⟩ ⟨rfl, p, x, rfl, hx, q1, q2, hb⟩ hK
    have HF := Lib.hid (seenB_yes (ss := ss) (List.mem_of_mem_take (i := k) (by rw [← hU]; simp)) hx)
    gi_wp2
    refine ⟨by simp, .inl ⟨_, _, rfl, run_takeDeferred hK, ?_⟩⟩
    have hgf := grownBy_putObj' W Dd (.deferred none)
    have l0 := (Array.getElem?_eq_some_iff.1 q2).1
    have v1 := (hgf.block (w.heap.size + 1) (by omega) (by simp; omega)).trans q1
    have v2 := (hgf.block (w.heap.size + 1 + 1) (by omega) (by simp; omega)).trans q2
    have c1 := (boxCells v1).1
    have c2 := (boxCells v2).1
    exact ⟨.tuple #[spV x, .bool true], by simp [results, Tryz.results96, go_sem, c1, c2], x, by rw [HF.out], hb.grown hgf hb.size (fun k hk => by cases hk; omega)⟩
end Go.Proofs.YtldimlnllmojiaaGreat
