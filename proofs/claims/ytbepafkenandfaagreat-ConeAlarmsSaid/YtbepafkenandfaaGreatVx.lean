/- The alarms, collected. -/
import Derived.Test.YtbepafkenandfaaGreatWu
import Derived.Test.YtbepafkenandfaaGreatVq
set_option linter.unusedVariables false
set_option linter.unusedSimpArgs false
namespace Go.Proofs.YtbepafkenandfaaGreat
open Go.RowKit
open Go.Shelf
open Go.Maps
attribute [local go_sem] Oper.semAt_some
set_option maxHeartbeats 4000000 in
set_option maxRecDepth 100000 in
theorem appendSeq_any (m : Wn) (A1 : Option Addr) (rs : List Rep) (ls : List Lnk) (c1 : Nat) (L P : Value) (M N B : Nat) (w : World) (hlen : rs.length ≤ 12) (hB : w.heap[B]? = some (lookBox m (.slice A1 rs.length c1) L P (.map (some M)))) (hM : AlMapN N w M (fP m ls rs (pairsTo rs.length rs.length))) :
    Calls Tryz.prog 86 #[.slice none 0 0, Value.func (.func 90) #[] #[.pointer (some ⟨B, 0, none⟩)]] w fun e w' => ∃ A c, e = .returned (.slice A (alI m ls rs).length c) ∧ Sps w' (.slice A (alI m ls rs).length c) (alI m ls rs) ∧ (∀ b off, A = some ⟨b, off, none⟩ → w.heap.size ≤ b ∧ b < w'.heap.size) ∧ Below w.heap.size w w' := by
  have HM := Lib.hid hM
  have hBlt := lt_of_blk hB
  have HB := Lib.hid hB
  clear hM hB
  refine (callsIn_wide (n := 2)).1 ?_
  refine callsIn_of_wp_marks Tryz.func86 rfl trivial ?_ rfl
  simp only [Tryz.ntmps86, List.size_toArray, List.length_cons, List.length_nil, Nat.reduceAdd, Nat.reduceSub, Array.replicate_succ, Array.replicate_zero, List.push_toArray, List.append_toArray, List.nil_append, List.cons_append]
  gi_wp2
  have HF0 := Lib.hid (((Frm.nil w).add (k := w.heap.size) (.cells #[.slice none 0 0] 31) rfl).less (bs' := []) (by simp))
  have k2 : (w.alloc (.cells #[.slice none 0 0] 31)).heap[w.heap.size]? = some (.cells #[.slice none 0 0] 31) := heap_new _ _ (by simp)
  have hz0 : (w.alloc (.cells #[.slice none 0 0] 31)).heap.size = w.heap.size + 1 := by simp
  have hB0 : (w.alloc (.cells #[.slice none 0 0] 31)).heap[B]? = some (lookBox m (.slice A1 rs.length c1) L P (.map (some M))) := blk_alloc HB.out _
  generalize (w.alloc (.cells #[.slice none 0 0] 31)) = V0 at *
  have hz1 : V0.heap.size ≤ w.heap.size + 1 := by omega
  have hz2 : w.heap.size + 1 ≤ V0.heap.size := by omega
  clear hz0
  have hMl := HM.out.lt
  refine wpIn_rangeFunc_Z (by omega) (gf := 90) (lb := #[.pointer (some ⟨B, 0, none⟩)]) rfl (enters_of Tryz.func90 (by kernel_rfl) rfl)
    (alarms1_in 1 m A1 c1 L P M rs (fP m ls rs (pairsTo rs.length rs.length)) hlen B V0 hB0 (HM.out.below HF0.out.b hMl))
    (fun k hk => by rcases hk with rfl | rfl <;> omega) (fun _ => rfl)
    (fun pre X => ∃ v, Frm w [] X ∧ X.heap[w.heap.size]? = some (.cells #[v] 31) ∧ X.ownsRow (V0.heap.size + 2 + 2) 86 2 v (toI (valsP pre)).length (spsC (toI (valsP pre))))
    (fun co pre X => False)
    ?hI (fun _ _ _ _ _ h _ _ => h) ⟨_, HF0.out, k2, World.ownsRow_nil ..⟩
    (fun x a' X => ∃ Bx, V0.heap.size + 2 + 2 ≤ Bx ∧ X.heap[Bx]? = some (.cells #[.int .i64 x.i, .int .i64 x.k] 86) ∧ a' = { tmps := #[.slice none 0 0, Value.func (.func 90) #[] #[.pointer (some ⟨B, 0, none⟩)], .pointer (some ⟨w.heap.size, 0, none⟩), undef, .slice none 0 0, .pointer (some ⟨Bx, 0, none⟩), Value.func (.func 90) #[] #[.pointer (some ⟨B, 0, none⟩)], prV x.i x.k, undef, undef, undef, undef, undef], defers := [] })
    ?hAx ?assign ?body ?done (fun _ _ _ _ _ _ h _ => h.elim)
  case hI =>
    rintro pre X Y row ⟨v, hF, hS, hO⟩ hg hr
    have hs2 := lt_of_blk hS
    refine ⟨v, hF.grownR hg (fun k hk => by have := (hr k hk).1; omega) (fun p hp e => by simp at hp), (hg.block _ hs2 (fun e => by have := (hr _ e.symm).1; omega)).trans hS, hO.kept hg ?_⟩
    cases hv : v.ownBlock with
    | none => exact .inl rfl
    | some g =>
      refine .inr fun e => ?_
      obtain ⟨cs, t, fr, hc⟩ := own_cells hO g hv
      obtain ⟨o, ho, hoc⟩ := (hr g e.symm).2
      rw [hc] at ho
      cases ho
      cases hoc
  case hAx =>
    rintro x a' _ X Y row ⟨Bx, h1, h2, h3⟩ hg hr
    have hlt : Bx < X.heap.size := (Array.getElem?_eq_some_iff.1 h2).1
    refine ⟨Bx, h1, (hg.block _ hlt fun e => ?_).trans h2, h3⟩
    obtain ⟨o, ho, hoc⟩ := (hr Bx e.symm).2
    rw [h2] at ho
    cases ho
    cases hoc
  case assign =>
    rintro l' pre x X Kq ⟨v, hF, hS, hO⟩ hsz hK
    gi_wp2
    exact hK _ _ ((KeepsOthers.alloc _ _).from _) (KeepS.grown (World.grownBy_alloc _ _ none) (fun _ h => by cases h)) ⟨v, hF.alloc _, blk_alloc hS _, hO.alloc _⟩ ⟨X.heap.size, hsz, World.alloc_heap_new _ _, rfl⟩
  case body =>
    rintro l' pre x a' X hl ⟨r, hr⟩ ⟨v, hF, hS, hO⟩ ⟨Bx, hBx, hX, rfl⟩ hsz hlt
    have HVL : Hid ((toI (valsP (pre ++ [x]))) = (toI (valsP pre)) ++ [((x.i : Int), (x.k : Int))]) := Lib.hid (by rw [valsP_snoc, toI_app]; rfl)
    have hll : (toI (valsP pre)).length ≤ 1000 := by
      have h2 : (toI (valsP pre)).length = pre.length := by simp [valsP, toI]
      omega
    have HF := Lib.hid hF
    have S2b := Lib.hid hS
    have HO2 := Lib.hid hO
    have hvs := hO.lt
    have y0 := (boxCells hX).1
    have y1 := lt_of_blk hX
    have y2 := (boxCells hX).2
    have z0 := (boxCells hS).1
    have lS2 := lt_of_blk hS
    clear hF hS hO
    generalize x.i = i at *
    generalize x.k = k at *
    have hN := Lib.hid (World.alloc_heap_new X (.cells #[.int .i64 i, .int .i64 k] 86))
    have HO3 := Lib.hid (HO2.out.alloc (.cells #[.int .i64 i, .int .i64 k] 86))
    have S2c := Lib.hid (blk_alloc S2b.out (.cells #[.int .i64 i, .int .i64 k] 86))
    have hvn : ∀ g, v.ownBlock = some g → g ≠ w.heap.size := fun g hg e => by have := (hvs g hg).1; omega
    gi_wp2_with (gi_at_builtin; refine wpListIn_of_wp rfl rfl fun Kq hKq => ?_; refine wp_two (y := ((i : Int), (k : Int))) Tryz.underlying31 Tryz.infoAlarm _ _ (by rfl) rfl (by rfl) HO3.out (by rfl) hN.out (by omega) (by simp; omega) ?_; intro g cap w5 hown5 hgrow5 hat5 hlt5; refine hKq.out _ _ ?_; have S2d := (hgrow5.block _ (lt_of_blk S2c.out) (fun e => hvn _ e.symm rfl)).trans S2c.out; have q0 := (boxCells S2d).1; have q1 := (boxCells S2d).2; have q2 := lt_of_blk S2d)
    have HG2 : Hid (X.grownBy w5 v.ownBlock) := Lib.hid ⟨hgrow5.os, hgrow5.tape, hgrow5.output, by have := hgrow5.size; simp at this; omega, fun k hk hn => (hgrow5.block k (by simp; omega) hn).trans (Below.heap_alloc _ _ _ hk)⟩
    have HK5 : Hid (KeepsFrom V0.heap.size X w5) := Lib.hid (keeps_row HG2.out (own_cells HO2.out))
    have HK6 : Hid (KeepS (KeptZ (fun k => k = B ∨ k = M) (V0.heap.size + 2) 2) X w5) := Lib.hid (KeepS.grown HG2.out (fun g hg hk => by
      have h1 := (hvs g hg).1
      rcases hk with (hk | hk) | hk <;> omega))
    have HF5 := Lib.hid (HF.out.grownR HG2.out (fun g hg => by have := (hvs g hg).1; omega) (fun p hp e => by simp at hp))
    refine ⟨HK5.out.trans ((KeepsOthers.setCell _ _ _).from _), HK6.out.trans ⟨by simp, fun k o hk ho => (Below.heap_setCell _ _ _ _ (fun e => by
      have e : k = w.heap.size := e
      rcases hk with (hk | hk) | hk <;> omega)).trans ho⟩, .slice (some ⟨g, 0, none⟩) ((toI (valsP pre)).length + 1) cap, HF5.out.set (by show w.heap.size ≤ w.heap.size; omega) (fun p hp => by simp at hp) _, heap_setCell_same (o := 0) S2d _, ?_⟩
    rw [HVL.out, List.length_append, List.length_singleton]
    refine ownsRow_setCell_other hown5 (fun e => ?_) _
    simp only [Value.ownBlock, Option.some.injEq] at e
    rcases hat5 with h5 | h5
    · have := (hvs g h5).1; omega
    · simp at h5; omega
  case done =>
    rintro D ys X hD hS ⟨v, hF, hS2, hO⟩ hK
    have HF := Lib.hid hF
    have x0 := (boxCells hS2).1
    have HK := Lib.hid hK
    have hO5 := hO.kept (grownBy_putObj' X D (.deferred none)) (by
      cases hv0 : v.ownBlock with
      | none => exact .inl rfl
      | some g =>
        refine .inr (fun e => ?_)
        obtain ⟨cs, t, fr, hc⟩ := own_cells hO g hv0
        cases e
        rw [hK] at hc
        cases hc)
    have hHS : Hid ((toI (valsP ys)) = alI m ls rs) := Lib.hid (by rw [hS, fP_all]; rfl)
    rw [hHS.out] at hO5
    obtain ⟨hSp, hAb⟩ := own_two hO5 rfl
    have hSp0 := hSp
    obtain ⟨A, c, hv, -⟩ := hSp0
    subst hv
    have HSp := Lib.hid hSp
    have HAB := Lib.hid hAb
    clear hF hO k2 hK hSp hAb hO5 hHS hS
    gi_wp2
    have hgf := grownBy_putObj' X D (.deferred none)
    refine ⟨by simp, .inl ⟨_, _, rfl, run_takeDeferred HK.out, .slice A (alI m ls rs).length c, by simp [results, Tryz.results86, go_sem], A, c, rfl, HSp.out, fun b off e => ?_, HF.out.b.grown hgf HF.out.b.size (fun k hk => by cases hk; omega)⟩⟩
    obtain ⟨h1, h2⟩ := HAB.out A c _ rfl b off e
    exact ⟨by omega, h2⟩
theorem collect_any (m : Wn) (A1 : Option Addr) (rs : List Rep) (ls : List Lnk) (c1 : Nat) (L P : Value) (M N B : Nat) (w : World) (hlen : rs.length ≤ 12) (hB : w.heap[B]? = some (lookBox m (.slice A1 rs.length c1) L P (.map (some M)))) (hM : AlMapN N w M (fP m ls rs (pairsTo rs.length rs.length))) :
    Calls Tryz.prog 57 #[Value.func (.func 90) #[] #[.pointer (some ⟨B, 0, none⟩)]] w fun e w' => ∃ A c, e = .returned (.slice A (alI m ls rs).length c) ∧ Sps w' (.slice A (alI m ls rs).length c) (alI m ls rs) ∧ (∀ b off, A = some ⟨b, off, none⟩ → w.heap.size ≤ b ∧ b < w'.heap.size) ∧ Below w.heap.size w w' := by
  have HC := Lib.hid (appendSeq_any m A1 rs ls c1 L P M N B w hlen hB hM)
  clear hB hM
  go_enter Tryz.func57, Tryz.ntmps57
  go_wp2_with (go_at_call 86; refine HC.out.mono ?_; rintro e wa ⟨A, c, rfl, h1, h2, h3⟩)
  go_ret
  exact ⟨A, c, rfl, h1, h2, h3⟩
end Go.Proofs.YtbepafkenandfaaGreat
