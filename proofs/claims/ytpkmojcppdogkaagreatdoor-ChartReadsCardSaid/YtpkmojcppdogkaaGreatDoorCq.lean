/- The first pair of stations that contradict each other: the generic function first, by the program. -/
import Derived.Test.YtpkmojcppdogkaaGreatDoorCp
set_option linter.unusedVariables false
set_option linter.unusedSimpArgs false
namespace Go.Proofs.YtpkmojcppdogkaaGreatDoor
open Go.RowKit
open Go.Shelf
attribute [local go_sem] Oper.semAt_some
def NoC (m : Mp) (cs : List Sta) (y : PairT cs.length) : Prop := ¬ Contra m cs y.i y.k
/-- What 'first' returns of pairs of stations. -/
def FiRet (m : Mp) (cs : List Sta) (w : World) (e : Ending) (w' : World) : Prop :=
  Below w.heap.size w w' ∧ ((Agreed m cs ∧ e = .returned (.tuple #[prV 0 0, .bool false])) ∨ ∃ i j : Nat, First m cs i j ∧ j < cs.length ∧ e = .returned (.tuple #[prV i j, .bool true]))
theorem all_agreed {m : Mp} {cs : List Sta} {ys : List (PairT cs.length)} (h : AllP cs.length ys) (hn : ∀ y ∈ ys, NoC m cs y) : Agreed m cs := fun i j hij hc => hn _ (h (PairT.mk i j hij (contra_lt hc).2)) hc
theorem upto_first {m : Mp} {cs : List Sta} {p : List (PairT cs.length)} {x : PairT cs.length} (h : UpTo cs.length (p ++ [x])) (hn : ∀ y ∈ p, NoC m cs y) (hx : Contra m cs x.i x.k) : First m cs x.i x.k := by
  obtain ⟨p', x', e, hu⟩ := h
  obtain ⟨rfl, e2⟩ := List.append_inj' e rfl
  obtain rfl : x = x' := by simpa using e2
  refine ⟨x.2.1, hx, fun i' j' hij hc => ?_⟩
  rcases Nat.lt_trichotomy x.i i' with h1 | h1 | h1
  · exact .inl h1
  · rcases Nat.lt_or_ge j' x.k with h2 | h2
    · exact absurd hc (hn _ (hu (PairT.mk i' j' hij (contra_lt hc).2) (.inr ⟨h1.symm, h2⟩)))
    · exact .inr ⟨h1, h2⟩
  · exact absurd hc (hn _ (hu (PairT.mk i' j' hij (contra_lt hc).2) (.inl h1)))
set_option maxHeartbeats 4000000 in
set_option maxRecDepth 100000 in
theorem first_in (m : Mp) (A : Option Addr) (c : Nat) (cs : List Sta) (B : Nat) (w : World) (hs : Sane m cs) (hc : Stas w (.slice A cs.length c) cs) (hB : B < w.heap.size) (hv : w.heap[B]? = some (.cells #[.int .i64 m.wd, .int .i64 m.rw, .int .i64 m.sl, (.slice A cs.length c), .int .i64 m.wd, .int .i64 m.rw] 87)) :
    Calls Tryz.prog 119 #[Value.func (.func 150) #[] #[.pointer (some ⟨B, 0, none⟩)], Value.func (.func 121) #[viewV m.wd m.rw m.sl (.slice A cs.length c)] #[]] w (FiRet m cs w) := by
  have HC := Lib.hid hc
  have HV := Lib.hid hv
  have hl12 := hs.len
  clear hc hv
  refine (callsIn_wide (n := 10)).1 ?_
  refine callsIn_of_wp_marks Tryz.func119 rfl trivial ?_ rfl
  simp only [Tryz.ntmps119, List.size_toArray, List.length_cons, List.length_nil, Nat.reduceAdd, Nat.reduceSub, Array.replicate_succ, Array.replicate_zero, List.push_toArray, List.append_toArray, List.nil_append, List.cons_append]
  gi_wp2
  have hb0 : Below w.heap.size w (((w.alloc (.cells #[Value.func (.func 121) #[viewV m.wd m.rw m.sl (.slice A cs.length c)] #[]] 169)).alloc (.cells #[.int .i64 0, .int .i64 0] 128)).alloc (.cells #[.bool false] 4)) := (((Below.refl _ w).alloc (Nat.le_refl _) _).alloc (by simp) _).alloc (by simp; omega) _
  have k0 : (((w.alloc (.cells #[Value.func (.func 121) #[viewV m.wd m.rw m.sl (.slice A cs.length c)] #[]] 169)).alloc (.cells #[.int .i64 0, .int .i64 0] 128)).alloc (.cells #[.bool false] 4)).heap[w.heap.size]? = some (.cells #[Value.func (.func 121) #[viewV m.wd m.rw m.sl (.slice A cs.length c)] #[]] 169) := blk_alloc (blk_alloc (heap_new _ _ rfl) _) _
  have k1 : (((w.alloc (.cells #[Value.func (.func 121) #[viewV m.wd m.rw m.sl (.slice A cs.length c)] #[]] 169)).alloc (.cells #[.int .i64 0, .int .i64 0] 128)).alloc (.cells #[.bool false] 4)).heap[w.heap.size + 1]? = some (.cells #[.int .i64 0, .int .i64 0] 128) := blk_alloc (heap_new _ _ (by simp)) _
  have k2 : (((w.alloc (.cells #[Value.func (.func 121) #[viewV m.wd m.rw m.sl (.slice A cs.length c)] #[]] 169)).alloc (.cells #[.int .i64 0, .int .i64 0] 128)).alloc (.cells #[.bool false] 4)).heap[w.heap.size + 1 + 1]? = some (.cells #[.bool false] 4) := heap_new _ _ (by simp)
  have hsz : (((w.alloc (.cells #[Value.func (.func 121) #[viewV m.wd m.rw m.sl (.slice A cs.length c)] #[]] 169)).alloc (.cells #[.int .i64 0, .int .i64 0] 128)).alloc (.cells #[.bool false] 4)).heap.size = w.heap.size + 3 := by simp
  generalize (((w.alloc (.cells #[Value.func (.func 121) #[viewV m.wd m.rw m.sl (.slice A cs.length c)] #[]] 169)).alloc (.cells #[.int .i64 0, .int .i64 0] 128)).alloc (.cells #[.bool false] 4)) = W0 at *
  refine wpIn_rangeFunc_ownH rfl (by omega) (gf := 150) (lb := #[.pointer (some ⟨B, 0, none⟩)]) rfl trivial (enters_of Tryz.func150 (by kernel_rfl) rfl)
    (encs := fun x : PairT cs.length => #[prV x.i x.k]) (Kp := Below w.heap.size) (S := AllP cs.length) (Sp := UpTo cs.length) (N := 1000) (w0 := W0)
    (fun l J Jx W hW hJ _ hY hJ0 => pairs1_in 9 (by omega) m A c cs hl12 l B w.heap.size hB J Jx W (by have := hW.size; omega) hY ((hW.block _ (by omega)).trans ((hb0.block _ hB).trans HV.out)) hJ0)
    (fun h k => h.trans k) ?kb (Below.refl _ _) (fun _ => rfl)
    (fun pre W => (∀ y ∈ pre, NoC m cs y) ∧ W.heap[w.heap.size]? = some (.cells #[Value.func (.func 121) #[viewV m.wd m.rw m.sl (.slice A cs.length c)] #[]] 169) ∧ W.heap[w.heap.size + 1]? = some (.cells #[.int .i64 0, .int .i64 0] 128) ∧ W.heap[w.heap.size + 1 + 1]? = some (.cells #[.bool false] 4) ∧ Below w.heap.size w W)
    (fun co pre W => co = .ret ∧ ∃ p x, pre = p ++ [x] ∧ (∀ y ∈ p, NoC m cs y) ∧ Contra m cs x.i x.k ∧ W.heap[w.heap.size + 1]? = some (.cells #[.int .i64 x.i, .int .i64 x.k] 128) ∧ W.heap[w.heap.size + 1 + 1]? = some (.cells #[.bool true] 4) ∧ Below w.heap.size w W)
    ?hI ?hIx ⟨by simp, k0, k1, k2, hb0⟩
    (fun x a' W => ∃ Bx, w.heap.size + 3 ≤ Bx ∧ W.heap[Bx]? = some (.cells #[.int .i64 x.i, .int .i64 x.k] 128) ∧ a' = { tmps := #[Value.func (.func 150) #[] #[.pointer (some ⟨B, 0, none⟩)], Value.func (.func 121) #[viewV m.wd m.rw m.sl (.slice A cs.length c)] #[], undef, .pointer (some ⟨w.heap.size, 0, none⟩), .pointer (some ⟨w.heap.size + 1, 0, none⟩), .pointer (some ⟨w.heap.size + 1 + 1, 0, none⟩), .pointer (some ⟨Bx, 0, none⟩), undef, Value.func (.func 150) #[] #[.pointer (some ⟨B, 0, none⟩)], prV x.i x.k, undef, undef, undef, undef, undef], defers := [] })
    ?hAx ?assign ?body ?done ?stop
  case kb => exact fun W l o o' h1 h2 h3 h4 => belowK_b (w := W0) (by omega) W l o o' h1 h2 h3 h4
  case hI =>
    rintro pre A' B' row ⟨hp, q0, q1, q2, hb⟩ hg hr
    have hA := hb.size
    have hne : ∀ k, k < w.heap.size + 3 → some k ≠ row := fun k hk e => by have := (hr k e.symm).1; omega
    have l0 := (Array.getElem?_eq_some_iff.1 q2).1
    exact ⟨hp, (hg.block _ (by omega) (hne _ (by omega))).trans q0, (hg.block _ (by omega) (hne _ (by omega))).trans q1, (hg.block _ (by omega) (hne _ (by omega))).trans q2, hb.grown hg hA (fun k hk => by have := (hr k hk).1; omega)⟩
  case hIx =>
    rintro co pre A' B' row ⟨rfl, p, x, e, hp, hx, q1, q2, hb⟩ hg hr
    have hA := hb.size
    have hne : ∀ k, k < w.heap.size + 3 → some k ≠ row := fun k hk e => by have := (hr k e.symm).1; omega
    have l0 := (Array.getElem?_eq_some_iff.1 q2).1
    exact ⟨rfl, p, x, e, hp, hx, (hg.block _ (by omega) (hne _ (by omega))).trans q1, (hg.block _ (by omega) (hne _ (by omega))).trans q2, hb.grown hg hA (fun k hk => by have := (hr k hk).1; omega)⟩
  case hAx =>
    rintro x a' _ A' B' row ⟨Bx, h1, h2, h3⟩ hg hr
    have hlt : Bx < A'.heap.size := (Array.getElem?_eq_some_iff.1 h2).1
    refine ⟨Bx, h1, (hg.block _ hlt fun e => ?_).trans h2, h3⟩
    obtain ⟨o, ho, hoc⟩ := (hr Bx e.symm).2
    rw [h2] at ho
    cases ho
    cases hoc
  case assign =>
    rintro l pre x W K ⟨hp, q0, q1, q2, hb⟩ hK
    have hA := hb.size
    have l0 := (Array.getElem?_eq_some_iff.1 q2).1
    gi_wp2
    exact hK _ _ ((KeepsOthers.alloc _ _).from _) ((Below.refl _ _).alloc (by omega) _) ⟨hp, blk_alloc q0 _, blk_alloc q1 _, blk_alloc q2 _, hb.alloc (by omega) _⟩ ⟨W.heap.size, by omega, World.alloc_heap_new _ _, rfl⟩
  case body =>
    rintro l pre x a' W hl ⟨r, hr⟩ ⟨hp, q0, q1, q2, hb⟩ ⟨Bx, hBx, hX, rfl⟩ hlt
    have hA := hb.size
    have hBl : Bx < W.heap.size := (Array.getElem?_eq_some_iff.1 hX).1
    have l2 : w.heap.size + 1 + 1 < W.heap.size := (Array.getElem?_eq_some_iff.1 q2).1
    have l1 : w.heap.size + 1 < W.heap.size := by omega
    obtain ⟨t0, t0f⟩ := boxCells q0
    obtain ⟨x1, x2⟩ := boxCells hX
    obtain ⟨xa, hxa⟩ : ∃ xa, cs[x.i]? = some xa := ⟨_, List.getElem?_eq_getElem (Nat.lt_trans x.2.1 x.2.2)⟩
    obtain ⟨xb, hxb⟩ : ∃ xb, cs[x.k]? = some xb := ⟨_, List.getElem?_eq_getElem x.2.2⟩
    have HQ := Lib.hid (contradict_any m cs A c x.i x.k xa xb W hs (HC.out.below hb) hxa hxb)
    have HP := Lib.hid hp
    have Q1 := Lib.hid q1
    have Q2 := Lib.hid q2
    have QX := Lib.hid hX
    have HB := Lib.hid hb
    have Hxa := Lib.hid hxa
    have Hxb := Lib.hid hxb
    have Q0 := Lib.hid q0
    clear k0 k1 k2 hp q0 q1 q2 hX hb hxa hxb
    cases hq : contB m xa xb
    · have Hq := Lib.hid hq
      rw [hq] at HQ
      clear hq
      gi_wp2_with (refine ⟨trivial, ?_⟩; gi_at_call 121; refine (CallsIn.inRound l (callsIn_wide.2 HQ.out)).mono ?_; rintro e w1 ⟨rfl, hb1⟩)
      refine ⟨?_, ?_, fun y hy => ?_, blk_below Q0.out hb1, blk_below Q1.out hb1, blk_below Q2.out hb1, HB.out.trans (hb1.mono hA)⟩
      · exact ⟨hb1.size, fun k o hk ho _ => blk_below ho hb1⟩
      · exact hb1.mono hA
      · rcases List.mem_append.1 hy with h | h
        · exact HP.out y h
        · obtain rfl : y = x := by simpa using h
          rintro ⟨a', b', ha', hb', hcc⟩
          cases ha'.symm.trans Hxa.out
          cases hb'.symm.trans Hxb.out
          exact absurd (hcc.symm.trans Hq.out) (by simp)
    · have Hq := Lib.hid hq
      rw [hq] at HQ
      clear hq
      gi_wp2_with (refine ⟨trivial, ?_⟩; gi_at_call 121; refine (CallsIn.inRound l (callsIn_wide.2 HQ.out)).mono ?_; rintro e w1 ⟨rfl, hb1⟩; have R1 := Lib.hid (blk_below Q1.out hb1); have R2 := Lib.hid (blk_below Q2.out hb1); have RX := Lib.hid (blk_below QX.out hb1); have r1 := (boxCells R1.out).1; have r1f := (boxCells R1.out).2; have r2 := (boxCells R2.out).1; have r2f := (boxCells R2.out).2; have rx := (boxCells RX.out).1; have hb2 := Lib.hid hb1; have hz1 := hb1.size; have rl : w.heap.size + 1 + 1 < w1.heap.size := (Nat.lt_of_lt_of_le l2 hz1); have rl1 : w.heap.size + 1 < w1.heap.size := (Nat.lt_of_lt_of_le l1 hz1); have n1 : Bx ≠ w.heap.size + 1 := (by omega); have n2 : Bx ≠ w.heap.size + 1 + 1 := (by omega); clear hb1)
      have u1 := heap_setCell_same (o := 1) (heap_setCell_same (o := 0) R1.out (.int .i64 x.i)) (.int .i64 x.k)
      have u2 := heap_setCell_same (o := 0) R2.out (.bool true)
      refine ⟨?_, rfl, pre, x, rfl, HP.out, ⟨xa, xb, Hxa.out, Hxb.out, Hq.out⟩, ?_, ?_, ?_⟩
      · exact KeepsFrom.trans (B := _) ⟨hb2.out.size, fun k o hk ho _ => blk_below ho hb2.out⟩ ((((KeepsOthers.setCell _ _ _).trans (KeepsOthers.setCell _ _ _)).trans (KeepsOthers.setCell _ _ _)).from _)
      · exact (Below.heap_setCell _ _ _ _ (by simp)).trans u1
      · exact heap_setCell_same (o := 0) ((Below.heap_setCell _ _ _ _ (by simp)).trans ((Below.heap_setCell _ _ _ _ (by simp)).trans R2.out)) (.bool true)
      · exact (((HB.out.trans (hb2.out.mono hA)).setCell (p := ⟨w.heap.size + 1, 0, none⟩) (by simp) _).setCell (p := ⟨w.heap.size + 1, 1, none⟩) (by simp) _).setCell (p := ⟨w.heap.size + 1 + 1, 0, none⟩) (by show w.heap.size ≤ w.heap.size + 1 + 1; omega) _
  case done =>
    rintro D ys W hD hS ⟨hp, q0, q1, q2, hb⟩ hK
    have hA := hb.size
    have l2 : w.heap.size + 1 + 1 < W.heap.size := (Array.getElem?_eq_some_iff.1 q2).1
    have l1 : w.heap.size + 1 < W.heap.size := by omega
    obtain ⟨c1, c1f⟩ := boxCells q1
    obtain ⟨c2, c2f⟩ := boxCells q2
    have Q1 := Lib.hid q1
    have Q2 := Lib.hid q2
    have HK := Lib.hid hK
    have HB := Lib.hid hb
    have HAg := Lib.hid (all_agreed hS hp)
    clear k0 k1 k2 hp q0 q1 q2 hK hb
    gi_wp2
    obtain ⟨W4, hW4⟩ : ∃ W4, (((W.setCell ⟨w.heap.size + 1, 0, none⟩ (.int .i64 0)).setCell ⟨w.heap.size + 1, 1, none⟩ (.int .i64 0)).setCell ⟨w.heap.size + 1 + 1, 0, none⟩ (.bool false)).alloc (.cells #[.int .i64 0, .int .i64 0] 128) = W4 := ⟨_, rfl⟩
    have hDl : D < W.heap.size := (Array.getElem?_eq_some_iff.1 HK.out).1
    have y1 : W4.heap[w.heap.size + 1]? = some (.cells #[.int .i64 0, .int .i64 0] 128) := by
      rw [← hW4]
      exact blk_alloc ((Below.heap_setCell _ _ _ _ (by simp)).trans (heap_setCell_same (o := 1) (heap_setCell_same (o := 0) Q1.out (.int .i64 0)) (.int .i64 0))) _
    have y2 : W4.heap[w.heap.size + 1 + 1]? = some (.cells #[.bool false] 4) := by
      rw [← hW4]
      exact blk_alloc (heap_setCell_same (o := 0) ((Below.heap_setCell _ _ _ _ (by simp)).trans ((Below.heap_setCell _ _ _ _ (by simp)).trans Q2.out)) (.bool false)) _
    have yD : W4.heap[D]? = some (.deferred (some [])) := by
      rw [← hW4]
      exact blk_alloc ((Below.heap_setCell _ _ _ _ (by simp; omega)).trans ((Below.heap_setCell _ _ _ _ (by simp; omega)).trans ((Below.heap_setCell _ _ _ _ (by simp; omega)).trans HK.out))) _
    have yB : Below w.heap.size w W4 := by
      rw [← hW4]
      exact (((HB.out.setCell (p := ⟨w.heap.size + 1, 0, none⟩) (by simp) _).setCell (p := ⟨w.heap.size + 1, 1, none⟩) (by simp) _).setCell (p := ⟨w.heap.size + 1 + 1, 0, none⟩) (by show w.heap.size ≤ w.heap.size + 1 + 1; omega) _).alloc (by simp; omega) _
    rw [hW4]
    refine ⟨by simp, .inl ⟨_, _, rfl, run_takeDeferred yD, ?_⟩⟩
    have hgf := grownBy_putObj' W4 D (.deferred none)
    have l4 := (Array.getElem?_eq_some_iff.1 y2).1
    have v1 := (hgf.block (w.heap.size + 1) (by omega) (by simp; omega)).trans y1
    have v2 := (hgf.block (w.heap.size + 1 + 1) (by omega) (by simp; omega)).trans y2
    have d1 := (boxCells v1).1
    have d2 := (boxCells v2).1
    exact ⟨.tuple #[prV 0 0, .bool false], by simp [results, Tryz.results119, go_sem, d1, d2], yB.grown hgf yB.size (fun k hk => by cases hk; omega), .inl ⟨HAg.out, rfl⟩⟩
  case stop =>
    rintro D co pre W hD hU ⟨rfl, p, x, rfl, hp, hx, q1, q2, hb⟩ hK
    have HF := Lib.hid (upto_first hU hp hx)
    gi_wp2
    refine ⟨by simp, .inl ⟨_, _, rfl, run_takeDeferred hK, ?_⟩⟩
    have hgf := grownBy_putObj' W D (.deferred none)
    have l0 := (Array.getElem?_eq_some_iff.1 q2).1
    have v1 := (hgf.block (w.heap.size + 1) (by omega) (by simp; omega)).trans q1
    have v2 := (hgf.block (w.heap.size + 1 + 1) (by omega) (by simp; omega)).trans q2
    have c1 := (boxCells v1).1
    have c2 := (boxCells v2).1
    refine ⟨.tuple #[prV x.i x.k, .bool true], by simp [results, Tryz.results119, go_sem, c1, c2], hb.grown hgf hb.size (fun k hk => by cases hk; omega), .inr ⟨x.i, x.k, HF.out, x.2.2, rfl⟩⟩
end Go.Proofs.YtpkmojcppdogkaaGreatDoor
