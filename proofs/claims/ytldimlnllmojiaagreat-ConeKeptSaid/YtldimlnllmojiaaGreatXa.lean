/- Part of a claim on cone. -/
import Derived.Test.YtldimlnllmojiaaGreatVd
set_option linter.unusedVariables false
set_option linter.unusedSimpArgs false
namespace Go.Proofs.YtldimlnllmojiaaGreat
open Go.RowKit
open Go.Shelf
attribute [local go_sem] Oper.semAt_some
set_option maxHeartbeats 4000000 in
set_option maxRecDepth 100000 in
theorem ifirst_in (Pd : Int → Bool) (lo hi : Int) (hl1 : -1000000 ≤ lo) (hl2 : lo ≤ 1000000) (hh1 : -1000000 ≤ hi) (hh2 : hi ≤ 1000000) (B D1 D2 D3 : Nat) (w : World) (hB : B < w.heap.size) (hv : w.heap[B]? = some (.cells #[.int .i64 lo, .int .i64 hi] 56))
    (hQ0 : ∀ (x : Int) (W : World), Below w.heap.size w W → Calls Tryz.prog 116 #[.int .i64 x, .pointer (some ⟨D1, 0, none⟩), .pointer (some ⟨D2, 0, none⟩), .pointer (some ⟨D3, 0, none⟩)] W fun e w' => e = .returned (.bool (Pd x)) ∧ Below W.heap.size W w') :
    Calls Tryz.prog 114 #[Value.func (.func 127) #[] #[.pointer (some ⟨B, 0, none⟩)], Value.func (.func 116) #[] #[.pointer (some ⟨D1, 0, none⟩), .pointer (some ⟨D2, 0, none⟩), .pointer (some ⟨D3, 0, none⟩)]] w fun e w' => ∃ y : Int, e = .returned (.tuple #[.int .i64 y, .bool ((minsL lo hi).any Pd)]) ∧ Below w.heap.size w w' := by
  have HV := Lib.hid hv
  have HQ0 := Lib.hid hQ0
  clear hv hQ0
  refine (callsIn_wide (n := 10)).1 ?_
  refine callsIn_of_wp_marks Tryz.func114 rfl trivial ?_ rfl
  simp only [Tryz.ntmps114, List.size_toArray, List.length_cons, List.length_nil, Nat.reduceAdd, Nat.reduceSub, Array.replicate_succ, Array.replicate_zero, List.push_toArray, List.append_toArray, List.nil_append, List.cons_append]
  gi_wp2
  have hb0 : Below w.heap.size w (((w.alloc (.cells #[Value.func (.func 116) #[] #[.pointer (some ⟨D1, 0, none⟩), .pointer (some ⟨D2, 0, none⟩), .pointer (some ⟨D3, 0, none⟩)]] 47)).alloc (.cells #[.int .i64 0] 3)).alloc (.cells #[.bool false] 4)) := (((Below.refl _ w).alloc (Nat.le_refl _) _).alloc (by simp) _).alloc (by simp; omega) _
  have k0 : (((w.alloc (.cells #[Value.func (.func 116) #[] #[.pointer (some ⟨D1, 0, none⟩), .pointer (some ⟨D2, 0, none⟩), .pointer (some ⟨D3, 0, none⟩)]] 47)).alloc (.cells #[.int .i64 0] 3)).alloc (.cells #[.bool false] 4)).heap[w.heap.size]? = some (.cells #[Value.func (.func 116) #[] #[.pointer (some ⟨D1, 0, none⟩), .pointer (some ⟨D2, 0, none⟩), .pointer (some ⟨D3, 0, none⟩)]] 47) := blk_alloc (blk_alloc (heap_new _ _ rfl) _) _
  have k1 : (((w.alloc (.cells #[Value.func (.func 116) #[] #[.pointer (some ⟨D1, 0, none⟩), .pointer (some ⟨D2, 0, none⟩), .pointer (some ⟨D3, 0, none⟩)]] 47)).alloc (.cells #[.int .i64 0] 3)).alloc (.cells #[.bool false] 4)).heap[w.heap.size + 1]? = some (.cells #[.int .i64 0] 3) := blk_alloc (heap_new _ _ (by simp)) _
  have k2 : (((w.alloc (.cells #[Value.func (.func 116) #[] #[.pointer (some ⟨D1, 0, none⟩), .pointer (some ⟨D2, 0, none⟩), .pointer (some ⟨D3, 0, none⟩)]] 47)).alloc (.cells #[.int .i64 0] 3)).alloc (.cells #[.bool false] 4)).heap[w.heap.size + 1 + 1]? = some (.cells #[.bool false] 4) := heap_new _ _ (by simp)
  have hsz : (((w.alloc (.cells #[Value.func (.func 116) #[] #[.pointer (some ⟨D1, 0, none⟩), .pointer (some ⟨D2, 0, none⟩), .pointer (some ⟨D3, 0, none⟩)]] 47)).alloc (.cells #[.int .i64 0] 3)).alloc (.cells #[.bool false] 4)).heap.size = w.heap.size + 3 := by simp
  generalize (((w.alloc (.cells #[Value.func (.func 116) #[] #[.pointer (some ⟨D1, 0, none⟩), .pointer (some ⟨D2, 0, none⟩), .pointer (some ⟨D3, 0, none⟩)]] 47)).alloc (.cells #[.int .i64 0] 3)).alloc (.cells #[.bool false] 4)) = V0 at *
  refine wpIn_rangeFunc_ownH rfl (by omega) (gf := 127) (lb := #[.pointer (some ⟨B, 0, none⟩)]) rfl trivial (enters_of Tryz.func127 (by kernel_rfl) rfl)
    (encs := fun x : Int => #[.int .i64 x]) (Kp := Below w.heap.size) (S := fun ys => ys = minsL lo hi) (Sp := fun pre => ∃ k, pre = (minsL lo hi).take k) (N := 3000000) (w0 := V0)
    (fun l J Jx W hW hJ _ hY hJ0 => (mins1_in 9 (by omega) lo hi hl1 hl2 hh1 hh2 l B w.heap.size hB J Jx (fun _ _ _ => False) W (by have := hW.size; omega) (fun pre x W hj hp => (hY pre x W hj hp).mono (fun e W' h => by rcases h with h | h; exact .inl h; exact .inr (.inl h))) ((hW.block _ (by omega)).trans ((hb0.block _ hB).trans HV.out)) hJ0).mono (fun e W' h => by rcases h with h | ⟨_, _, _, _, h⟩; exact h; exact h.elim))
    (fun h k => h.trans k) ?kb (Below.refl _ _) (fun _ => rfl)
    (fun pre W => (∀ y ∈ pre, Pd y = false) ∧ W.heap[w.heap.size]? = some (.cells #[Value.func (.func 116) #[] #[.pointer (some ⟨D1, 0, none⟩), .pointer (some ⟨D2, 0, none⟩), .pointer (some ⟨D3, 0, none⟩)]] 47) ∧ W.heap[w.heap.size + 1]? = some (.cells #[.int .i64 0] 3) ∧ W.heap[w.heap.size + 1 + 1]? = some (.cells #[.bool false] 4) ∧ Below w.heap.size w W)
    (fun co pre W => co = .ret ∧ ∃ p x, pre = p ++ [x] ∧ Pd x = true ∧ W.heap[w.heap.size + 1]? = some (.cells #[.int .i64 x] 3) ∧ W.heap[w.heap.size + 1 + 1]? = some (.cells #[.bool true] 4) ∧ Below w.heap.size w W)
    ?hI ?hIx ⟨by simp, k0, k1, k2, hb0⟩
    (fun x a' W => a' = { tmps := #[Value.func (.func 127) #[] #[.pointer (some ⟨B, 0, none⟩)], Value.func (.func 116) #[] #[.pointer (some ⟨D1, 0, none⟩), .pointer (some ⟨D2, 0, none⟩), .pointer (some ⟨D3, 0, none⟩)], undef, .pointer (some ⟨w.heap.size, 0, none⟩), .pointer (some ⟨w.heap.size + 1, 0, none⟩), .pointer (some ⟨w.heap.size + 1 + 1, 0, none⟩), .int .i64 x, undef, Value.func (.func 127) #[] #[.pointer (some ⟨B, 0, none⟩)], .int .i64 x, undef, undef, undef, undef, undef], defers := [] })
    ?hAx ?assign ?body ?done ?stop
  case kb => exact fun W l o o' h1 h2 h3 h4 => belowK_b (w := V0) (by omega) W l o o' h1 h2 h3 h4
  case hI =>
    rintro pre A' B' row ⟨hp, q0, q1, q2, hb⟩ hg hr
    have hA := hb.size
    have hne : ∀ k, k < w.heap.size + 3 → some k ≠ row := fun k hk e => by have := (hr k e.symm).1; omega
    have l0 := (Array.getElem?_eq_some_iff.1 q2).1
    exact ⟨hp, (hg.block _ (by omega) (hne _ (by omega))).trans q0, (hg.block _ (by omega) (hne _ (by omega))).trans q1, (hg.block _ (by omega) (hne _ (by omega))).trans q2, hb.grown hg hA (fun k hk => by have := (hr k hk).1; omega)⟩
  case hIx =>
    rintro co pre A' B' row ⟨rfl, p, x, e, hx, q1, q2, hb⟩ hg hr
    have hA := hb.size
    have hne : ∀ k, k < w.heap.size + 3 → some k ≠ row := fun k hk e => by have := (hr k e.symm).1; omega
    have l0 := (Array.getElem?_eq_some_iff.1 q2).1
    exact ⟨rfl, p, x, e, hx, (hg.block _ (by omega) (hne _ (by omega))).trans q1, (hg.block _ (by omega) (hne _ (by omega))).trans q2, hb.grown hg hA (fun k hk => by have := (hr k hk).1; omega)⟩
  case hAx =>
    rintro x a' _ A' B' row h3 hg hr
    exact h3
  case assign =>
    rintro l pre x W K ⟨hp, q0, q1, q2, hb⟩ hK
    gi_wp2
    exact hK _ _ (KeepsFrom.refl _ _) (Below.refl _ _) ⟨hp, q0, q1, q2, hb⟩ rfl
  case body =>
    rintro l pre x a' W hl ⟨r, hr⟩ ⟨hp, q0, q1, q2, hb⟩ rfl hlt
    have hA := hb.size
    have l2 : w.heap.size + 1 + 1 < W.heap.size := (Array.getElem?_eq_some_iff.1 q2).1
    have l1 : w.heap.size + 1 < W.heap.size := by omega
    obtain ⟨t0, t0f⟩ := boxCells q0
    have HQ := Lib.hid (HQ0.out x W hb)
    have HP := Lib.hid hp
    have Q1 := Lib.hid q1
    have Q2 := Lib.hid q2
    have HB := Lib.hid hb
    have Q0 := Lib.hid q0
    clear k0 k1 k2 hp q0 q1 q2 hb
    cases hq : Pd x
    · have Hq := Lib.hid hq
      rw [hq] at HQ
      clear hq
      gi_wp2_with (refine ⟨trivial, ?_⟩; gi_at_call 116; refine (CallsIn.inRound l (callsIn_wide.2 HQ.out)).mono ?_; rintro e w1 ⟨rfl, hb1⟩)
      refine ⟨?_, ?_, fun y hy => ?_, blk_below Q0.out hb1, blk_below Q1.out hb1, blk_below Q2.out hb1, HB.out.trans (hb1.mono hA)⟩
      · exact ⟨hb1.size, fun k o hk ho _ => blk_below ho hb1⟩
      · exact hb1.mono hA
      · rcases List.mem_append.1 hy with h | h
        · exact HP.out y h
        · obtain rfl : y = x := by simpa using h
          exact Hq.out
    · have Hq := Lib.hid hq
      rw [hq] at HQ
      clear hq
      gi_wp2_with (refine ⟨trivial, ?_⟩; gi_at_call 116; refine (CallsIn.inRound l (callsIn_wide.2 HQ.out)).mono ?_; rintro e w1 ⟨rfl, hb1⟩; have R1 := Lib.hid (blk_below Q1.out hb1); have R2 := Lib.hid (blk_below Q2.out hb1); have r1 := (boxCells R1.out).1; have r1f := (boxCells R1.out).2; have r2 := (boxCells R2.out).1; have r2f := (boxCells R2.out).2; have hb2 := Lib.hid hb1; have hz1 := hb1.size; have rl : w.heap.size + 1 + 1 < w1.heap.size := (Nat.lt_of_lt_of_le l2 hz1); have rl1 : w.heap.size + 1 < w1.heap.size := (Nat.lt_of_lt_of_le l1 hz1); clear hb1)
      have u1 := heap_setCell_same (o := 0) R1.out (.int .i64 x)
      have u2 := heap_setCell_same (o := 0) R2.out (.bool true)
      refine ⟨?_, rfl, pre, x, rfl, Hq.out, ?_, ?_, ?_⟩
      · exact KeepsFrom.trans (B := _) ⟨hb2.out.size, fun k o hk ho _ => blk_below ho hb2.out⟩ (((KeepsOthers.setCell _ _ _).trans (KeepsOthers.setCell _ _ _)).from _)
      · exact (Below.heap_setCell _ _ _ _ (by simp)).trans u1
      · exact heap_setCell_same (o := 0) ((Below.heap_setCell _ _ _ _ (by simp)).trans R2.out) (.bool true)
      · exact ((HB.out.trans (hb2.out.mono hA)).setCell (p := ⟨w.heap.size + 1, 0, none⟩) (by simp) _).setCell (p := ⟨w.heap.size + 1 + 1, 0, none⟩) (by show w.heap.size ≤ w.heap.size + 1 + 1; omega) _
  case done =>
    rintro Dd ys W hDd rfl ⟨hp, q0, q1, q2, hb⟩ hK
    have hA := hb.size
    have l2 : w.heap.size + 1 + 1 < W.heap.size := (Array.getElem?_eq_some_iff.1 q2).1
    have l1 : w.heap.size + 1 < W.heap.size := by omega
    obtain ⟨c1, c1f⟩ := boxCells q1
    obtain ⟨c2, c2f⟩ := boxCells q2
    have Q1 := Lib.hid q1
    have Q2 := Lib.hid q2
    have HK := Lib.hid hK
    have HB := Lib.hid hb
    have HAg := Lib.hid (show (minsL lo hi).any Pd = false by rw [List.any_eq_false]; exact fun y hy => by rw [hp y hy]; simp)
    clear k0 k1 k2 hp q0 q1 q2 hK hb
    gi_wp2
    obtain ⟨W4, hW4⟩ : ∃ W4, (W.setCell ⟨w.heap.size + 1, 0, none⟩ (.int .i64 0)).setCell ⟨w.heap.size + 1 + 1, 0, none⟩ (.bool false) = W4 := ⟨_, rfl⟩
    have y1 : W4.heap[w.heap.size + 1]? = some (.cells #[.int .i64 0] 3) := by
      rw [← hW4]
      exact (Below.heap_setCell _ _ _ _ (by simp)).trans (heap_setCell_same (o := 0) Q1.out (.int .i64 0))
    have y2 : W4.heap[w.heap.size + 1 + 1]? = some (.cells #[.bool false] 4) := by
      rw [← hW4]
      exact heap_setCell_same (o := 0) ((Below.heap_setCell _ _ _ _ (by simp)).trans Q2.out) (.bool false)
    have hDl : Dd < W.heap.size := (Array.getElem?_eq_some_iff.1 HK.out).1
    have yD : W4.heap[Dd]? = some (.deferred (some [])) := by
      rw [← hW4]
      exact (Below.heap_setCell _ _ _ _ (by simp; omega)).trans ((Below.heap_setCell _ _ _ _ (by simp; omega)).trans HK.out)
    have yB : Below w.heap.size w W4 := by
      rw [← hW4]
      exact (HB.out.setCell (p := ⟨w.heap.size + 1, 0, none⟩) (by simp) _).setCell (p := ⟨w.heap.size + 1 + 1, 0, none⟩) (by show w.heap.size ≤ w.heap.size + 1 + 1; omega) _
    rw [hW4]
    refine ⟨by simp, .inl ⟨_, _, rfl, run_takeDeferred yD, ?_⟩⟩
    have hgf := grownBy_putObj' W4 Dd (.deferred none)
    have l4 := (Array.getElem?_eq_some_iff.1 y2).1
    have v1 := (hgf.block (w.heap.size + 1) (by omega) (by simp; omega)).trans y1
    have v2 := (hgf.block (w.heap.size + 1 + 1) (by omega) (by simp; omega)).trans y2
    have d1 := (boxCells v1).1
    have d2 := (boxCells v2).1
    exact ⟨.tuple #[.int .i64 0, .bool false], by simp [results, Tryz.results114, go_sem, d1, d2], 0, by rw [HAg.out], yB.grown hgf yB.size (fun k hk => by cases hk; omega)⟩
  case stop =>
    rintro Dd co pre W hDd ⟨k, hU⟩ ⟨rfl, p, x, rfl, hx, q1, q2, hb⟩ hK
    have HF := Lib.hid (show (minsL lo hi).any Pd = true from List.any_eq_true.2 ⟨x, List.mem_of_mem_take (i := k) (by rw [← hU]; simp), hx⟩)
    gi_wp2
    refine ⟨by simp, .inl ⟨_, _, rfl, run_takeDeferred hK, ?_⟩⟩
    have hgf := grownBy_putObj' W Dd (.deferred none)
    have l0 := (Array.getElem?_eq_some_iff.1 q2).1
    have v1 := (hgf.block (w.heap.size + 1) (by omega) (by simp; omega)).trans q1
    have v2 := (hgf.block (w.heap.size + 1 + 1) (by omega) (by simp; omega)).trans q2
    have c1 := (boxCells v1).1
    have c2 := (boxCells v2).1
    exact ⟨.tuple #[.int .i64 x, .bool true], by simp [results, Tryz.results114, go_sem, c1, c2], x, by rw [HF.out], hb.grown hgf hb.size (fun k hk => by cases hk; omega)⟩
end Go.Proofs.YtldimlnllmojiaaGreat
