/- Part of a claim on cone. -/
import Derived.Test.YtldimlnllmojiaaGreatVp
import Derived.Test.YtldimlnllmojiaaGreatGA1
set_option linter.unusedVariables false
set_option linter.unusedSimpArgs false
namespace Go.Proofs.YtldimlnllmojiaaGreat
open Go.RowKit
open Go.Shelf
open Go.Maps
attribute [local go_sem] Oper.semAt_some
theorem rep_at {w W : World} {b off c : Nat} {rs : List Rep} {j : Nat} {x : Rep} (h : Reps w (.slice (some ⟨b, off, none⟩) rs.length c) rs) (hb : Below w.heap.size w W) (hx : rs[j]? = some x) : W.cell? ⟨b, off + j * 7, none⟩ = some (.int .i64 x.st) ∧ W.cell? ⟨b, off + j * 7 + 1, none⟩ = some (.int .i64 x.tk) ∧ W.cell? ⟨b, off + j * 7 + 2, none⟩ = some (.int .i64 x.pr) ∧ W.cell? ⟨b, off + j * 7 + 3, none⟩ = some (.int .i64 x.dlo) ∧ W.cell? ⟨b, off + j * 7 + 4, none⟩ = some (.int .i64 x.dhi) ∧ W.cell? ⟨b, off + j * 7 + 5, none⟩ = some (.int .i64 x.ur) ∧ W.cell? ⟨b, off + j * 7 + 6, none⟩ = some (.int .i64 x.co) := by
  obtain ⟨b', off', hA, _, _, hc⟩ := rep_cells (Rws.below h hb (Nat.le_refl _)) hx
  cases hA
  exact hc
def fP (m : Wn) (ls : List Lnk) (rs : List Rep) (l : List (Nat × Nat)) (i k : Nat) : Bool := decide ((i, k) ∈ l) && alF m ls rs i k
theorem fP_no {m : Wn} {ls : List Lnk} {rs : List Rep} {l : List (Nat × Nat)} {i k : Nat} (h : alF m ls rs i k = false) : fP m ls rs (l ++ [(i, k)]) = fP m ls rs l := by
  funext i' k'
  unfold fP
  by_cases e : i' = i ∧ k' = k
  · rw [e.1, e.2, h, Bool.and_false, Bool.and_false]
  · have : ((i', k') ∈ l ++ [(i, k)]) = ((i', k') ∈ l) := by simp [e]
    simp only [this]
theorem fP_yes {m : Wn} {ls : List Lnk} {rs : List Rep} {l : List (Nat × Nat)} {i k : Nat} (h : alF m ls rs i k = true) : fP m ls rs (l ++ [(i, k)]) = fun i' k' => if i' = i ∧ k' = k then true else fP m ls rs l i' k' := by
  funext i' k'
  unfold fP
  by_cases e : i' = i ∧ k' = k
  · rw [if_pos e, e.1, e.2, h]; simp
  · have : ((i', k') ∈ l ++ [(i, k)]) = ((i', k') ∈ l) := by simp [e]
    rw [if_neg e]
    simp only [this]
theorem fP_all {m : Wn} {ls : List Lnk} {rs : List Rep} : ((pairsTo rs.length rs.length).filter fun p => fP m ls rs (pairsTo rs.length rs.length) p.1 p.2) = alL m ls rs := by
  unfold alL
  refine List.filter_congr fun p hp => ?_
  unfold fP
  simp [hp]
set_option maxHeartbeats 4000000 in
set_option maxRecDepth 100000 in
theorem look_any (m : Wn) (A1 A2 : Option Addr) (rs : List Rep) (ls : List Lnk) (c1 c2 : Nat) (A3 : Option Addr) (p3 c3 : Nat) (w : World) (h1 : Reps w (.slice A1 rs.length c1) rs) (h2 : Lnks w (.slice A2 ls.length c2) ls) (hlen : rs.length ≤ 12) (hll : ls.length ≤ 1000) (hg : ∀ x ∈ rs, 0 ≤ x.tk ∧ x.tk ≤ 100000 ∧ 0 ≤ x.pr ∧ x.pr ≤ 99999) :
    Calls Tryz.prog 58 #[wtV m (.slice A1 rs.length c1) (.slice A2 ls.length c2) (.slice A3 p3 c3)] w fun e w' => ∃ M, e = .returned (lookV m (.slice A1 rs.length c1) (.slice A2 ls.length c2) (.slice A3 p3 c3) (.map (some M))) ∧ w.heap.size ≤ M ∧ (∃ N, AlMapN N w' M (fP m ls rs (pairsTo rs.length rs.length))) ∧ Below w.heap.size w w' := by
  have H1 := Lib.hid h1
  have H2 := Lib.hid h2
  have HG := Lib.hid hg
  clear h1 h2 hg
  refine (callsIn_wide (n := 2)).1 ?_
  refine callsIn_of_wp_marks Tryz.func58 rfl trivial ?_ rfl
  simp only [Tryz.ntmps58, List.size_toArray, List.length_cons, List.length_nil, Nat.reduceAdd, Nat.reduceSub, Array.replicate_succ, Array.replicate_zero, List.push_toArray, List.append_toArray, List.nil_append, List.cons_append]
  have hmm := @run_makeMap Tryz.prog
  gi_wp2_with (refine ⟨trivial, ?_⟩; gi_at_call 87; refine (callsIn_wide.2 (pairs_any _ _ _ _ _ _)).mono ?_; rintro e w' ⟨rfl, rfl⟩)
  clear hmm
  have HF0 := Lib.hid (((((((Frm.nil w).add (k := w.heap.size) (.cells #[.int .i64 m.n, (.slice A1 rs.length c1), (.slice A2 ls.length c2), (.slice A3 p3 c3), .int .i64 m.fall, .int .i64 m.win, .int .i64 m.hold, .int .i64 m.dawn, .int .i64 m.dusk] 26) rfl).add (k := w.heap.size + 1) (.cells #[.int .i64 0, .slice none 0 0, .slice none 0 0, .slice none 0 0, .int .i64 0, .int .i64 0, .int .i64 0, .int .i64 0, .int .i64 0, .map none] 93) (by simp)).alloc (.map #[] 0)).add (k := w.heap.size + 1 + 1 + 1) (lookBox m (.slice A1 rs.length c1) (.slice A2 ls.length c2) (.slice A3 p3 c3) (.map (some (w.heap.size + 1 + 1)))) (by simp)).add (k := w.heap.size + 1 + 1 + 1 + 1) (lookBox m (.slice A1 rs.length c1) (.slice A2 ls.length c2) (.slice A3 p3 c3) (.map (some (w.heap.size + 1 + 1)))) (by simp)).less (bs' := [(w.heap.size + 1 + 1 + 1 + 1, (lookBox m (.slice A1 rs.length c1) (.slice A2 ls.length c2) (.slice A3 p3 c3) (.map (some (w.heap.size + 1 + 1))))), (w.heap.size + 1 + 1 + 1, (lookBox m (.slice A1 rs.length c1) (.slice A2 ls.length c2) (.slice A3 p3 c3) (.map (some (w.heap.size + 1 + 1))))), (w.heap.size + 1, (.cells #[.int .i64 0, .slice none 0 0, .slice none 0 0, .slice none 0 0, .int .i64 0, .int .i64 0, .int .i64 0, .int .i64 0, .int .i64 0, .map none] 93))]) (by simp))
  have HM0 : Hid (AlMapN 0 ((((((w.alloc (.cells #[.int .i64 m.n, (.slice A1 rs.length c1), (.slice A2 ls.length c2), (.slice A3 p3 c3), .int .i64 m.fall, .int .i64 m.win, .int .i64 m.hold, .int .i64 m.dawn, .int .i64 m.dusk] 26)).alloc (.cells #[.int .i64 0, .slice none 0 0, .slice none 0 0, .slice none 0 0, .int .i64 0, .int .i64 0, .int .i64 0, .int .i64 0, .int .i64 0, .map none] 93)).alloc (.map #[] 0)).alloc (lookBox m (.slice A1 rs.length c1) (.slice A2 ls.length c2) (.slice A3 p3 c3) (.map (some (w.heap.size + 1 + 1)))))).alloc (lookBox m (.slice A1 rs.length c1) (.slice A2 ls.length c2) (.slice A3 p3 c3) (.map (some (w.heap.size + 1 + 1))))) (w.heap.size + 1 + 1) (fP m ls rs [])) := Lib.hid (((show AlMapN 0 (((w.alloc (.cells #[.int .i64 m.n, (.slice A1 rs.length c1), (.slice A2 ls.length c2), (.slice A3 p3 c3), .int .i64 m.fall, .int .i64 m.win, .int .i64 m.hold, .int .i64 m.dawn, .int .i64 m.dusk] 26)).alloc (.cells #[.int .i64 0, .slice none 0 0, .slice none 0 0, .slice none 0 0, .int .i64 0, .int .i64 0, .int .i64 0, .int .i64 0, .int .i64 0, .map none] 93)).alloc (.map #[] 0)) (w.heap.size + 1 + 1) (fP m ls rs []) by
    have e : fP m ls rs [] = fun _ _ => false := by funext i k; simp [fP]
    rw [e]
    have h := AlMapN.made ((w.alloc (.cells #[.int .i64 m.n, (.slice A1 rs.length c1), (.slice A2 ls.length c2), (.slice A3 p3 c3), .int .i64 m.fall, .int .i64 m.win, .int .i64 m.hold, .int .i64 m.dawn, .int .i64 m.dusk] 26)).alloc (.cells #[.int .i64 0, .slice none 0 0, .slice none 0 0, .slice none 0 0, .int .i64 0, .int .i64 0, .int .i64 0, .int .i64 0, .int .i64 0, .map none] 93))
    simpa using h).block (fun o ho => blk_alloc ho _)).block (fun o ho => blk_alloc ho _))
  have hz0 : ((((((w.alloc (.cells #[.int .i64 m.n, (.slice A1 rs.length c1), (.slice A2 ls.length c2), (.slice A3 p3 c3), .int .i64 m.fall, .int .i64 m.win, .int .i64 m.hold, .int .i64 m.dawn, .int .i64 m.dusk] 26)).alloc (.cells #[.int .i64 0, .slice none 0 0, .slice none 0 0, .slice none 0 0, .int .i64 0, .int .i64 0, .int .i64 0, .int .i64 0, .int .i64 0, .map none] 93)).alloc (.map #[] 0)).alloc (lookBox m (.slice A1 rs.length c1) (.slice A2 ls.length c2) (.slice A3 p3 c3) (.map (some (w.heap.size + 1 + 1)))))).alloc (lookBox m (.slice A1 rs.length c1) (.slice A2 ls.length c2) (.slice A3 p3 c3) (.map (some (w.heap.size + 1 + 1))))).heap.size = w.heap.size + 1 + 1 + 1 + 1 + 1 := by simp
  generalize ((((((w.alloc (.cells #[.int .i64 m.n, (.slice A1 rs.length c1), (.slice A2 ls.length c2), (.slice A3 p3 c3), .int .i64 m.fall, .int .i64 m.win, .int .i64 m.hold, .int .i64 m.dawn, .int .i64 m.dusk] 26)).alloc (.cells #[.int .i64 0, .slice none 0 0, .slice none 0 0, .slice none 0 0, .int .i64 0, .int .i64 0, .int .i64 0, .int .i64 0, .int .i64 0, .map none] 93)).alloc (.map #[] 0)).alloc (lookBox m (.slice A1 rs.length c1) (.slice A2 ls.length c2) (.slice A3 p3 c3) (.map (some (w.heap.size + 1 + 1)))))).alloc (lookBox m (.slice A1 rs.length c1) (.slice A2 ls.length c2) (.slice A3 p3 c3) (.map (some (w.heap.size + 1 + 1))))) = V0 at *
  have k4 := HF0.out.h _ mZ
  refine wpIn_rangeFunc_ownH rfl (by omega) (gf := 109) (lb := #[.pointer (some ⟨w.heap.size + 1 + 1 + 1 + 1, 0, none⟩)]) rfl trivial (enters_of Tryz.func109 (by kernel_rfl) rfl)
    (encs := fun x : PairT rs.length => #[prV x.i x.k]) (Kp := KeepS fun k => k = w.heap.size + 1 + 1 + 1 + 1) (S := fun ys => valsP ys = pairsTo rs.length rs.length) (Sp := fun _ => True) (N := 1000) (w0 := V0)
    (fun l' J' Jx' X hX _ _ hY' hJ' => pairs1_in 1 (by omega) m A1 c1 (.slice A2 ls.length c2) (.slice A3 p3 c3) (.map (some (w.heap.size + 1 + 1))) rs hlen l' (w.heap.size + 1 + 1 + 1 + 1) J' Jx' X hY' ((hX.block _ (by omega)).trans k4) hJ')
    (fun h k => h.trans k) (fun X l' o o' h1 h2 h3 h4 => KeepS.put (by omega)) (Below.refl _ _) (fun _ => rfl)
    (fun pre X => Frm w [(w.heap.size + 1 + 1 + 1 + 1, (lookBox m (.slice A1 rs.length c1) (.slice A2 ls.length c2) (.slice A3 p3 c3) (.map (some (w.heap.size + 1 + 1))))), (w.heap.size + 1 + 1 + 1, (lookBox m (.slice A1 rs.length c1) (.slice A2 ls.length c2) (.slice A3 p3 c3) (.map (some (w.heap.size + 1 + 1))))), (w.heap.size + 1, (.cells #[.int .i64 0, .slice none 0 0, .slice none 0 0, .slice none 0 0, .int .i64 0, .int .i64 0, .int .i64 0, .int .i64 0, .int .i64 0, .map none] 93))] X ∧ AlMapN pre.length X (w.heap.size + 1 + 1) (fP m ls rs (valsP pre)))
    (fun co pre X => False)
    ?hI (fun _ _ _ _ _ h _ _ => h) ⟨HF0.out, HM0.out⟩
    (fun x a' X => ∃ Bx, w.heap.size + 1 + 1 + 1 + 1 + 1 ≤ Bx ∧ X.heap[Bx]? = some (.cells #[.int .i64 x.i, .int .i64 x.k] 86) ∧ a' = { tmps := #[wtV m (.slice A1 rs.length c1) (.slice A2 ls.length c2) (.slice A3 p3 c3), .pointer (some ⟨w.heap.size, 0, none⟩), .pointer (some ⟨w.heap.size + 1, 0, none⟩), .pointer (some ⟨w.heap.size + 1 + 1 + 1, 0, none⟩), .pointer (some ⟨Bx, 0, none⟩), undef, undef, wtV m (.slice A1 rs.length c1) (.slice A2 ls.length c2) (.slice A3 p3 c3), (.map (some (w.heap.size + 1 + 1))), lookV m (.slice A1 rs.length c1) (.slice A2 ls.length c2) (.slice A3 p3 c3) (.map (some (w.heap.size + 1 + 1))), lookV m (.slice A1 rs.length c1) (.slice A2 ls.length c2) (.slice A3 p3 c3) (.map (some (w.heap.size + 1 + 1))), Value.func (.func 109) #[] #[.pointer (some ⟨w.heap.size + 1 + 1 + 1 + 1, 0, none⟩)], prV x.i x.k, undef, undef, undef, undef, undef, undef, undef, undef, undef, undef, undef, undef, undef, undef, undef, undef, undef, undef, undef, undef, undef, undef, undef, undef, undef, undef, undef, undef, undef, undef, undef, undef, undef, undef, undef, undef, undef, undef, undef], defers := [] })
    ?hAx ?assign ?body ?done (fun _ _ _ _ _ _ h _ => h.elim)
  case hI =>
    rintro pre X Y row ⟨hF, hM⟩ hg hr
    have hml := hM.lt
    refine ⟨hF.grownR hg (fun k hk => by have := (hr k hk).1; omega) (fun p hp e => ?_), hM.block fun o ho => (hg.block _ hml (fun e => by have := (hr _ e.symm).1; omega)).trans ho⟩
    have h1 := (hr _ e.symm).1
    simp only [List.mem_cons, List.not_mem_nil, or_false] at hp
    rcases hp with rfl | rfl | rfl <;> simp only at h1 <;> omega
  case hAx =>
    rintro x a' _ X Y row ⟨Bx, h1, h2, h3⟩ hg hr
    have hlt : Bx < X.heap.size := (Array.getElem?_eq_some_iff.1 h2).1
    refine ⟨Bx, h1, (hg.block _ hlt fun e => ?_).trans h2, h3⟩
    obtain ⟨o, ho, hoc⟩ := (hr Bx e.symm).2
    rw [h2] at ho
    cases ho
    cases hoc
  case assign =>
    rintro l' pre x X Kq ⟨hF, hM⟩ hK
    have hml := hF.lt mZ
    gi_wp2
    exact hK _ _ ((KeepsOthers.alloc _ _).from _) (KeepS.grown (World.grownBy_alloc _ _ none) (fun _ h => by cases h)) ⟨hF.alloc _, hM.block (fun o ho => blk_alloc ho _)⟩ ⟨X.heap.size, by omega, World.alloc_heap_new _ _, rfl⟩
  case body =>
    rintro l' pre x a' X hl ⟨r, hr⟩ ⟨hF, hM⟩ ⟨Bx, hBx, hX, rfl⟩ hlt
    obtain ⟨hx1, hx2⟩ := x.lt
    have hi2 : x.i < rs.length := by omega
    have HVL : Hid (valsP (pre ++ [x]) = valsP pre ++ [(x.i, x.k)]) := Lib.hid (valsP_snoc pre x)
    have HLN : Hid ((pre ++ [x]).length = pre.length + 1) := Lib.hid (by simp)
    obtain ⟨rx, hrx⟩ : ∃ y, rs[x.i]? = some y := ⟨_, List.getElem?_eq_getElem hi2⟩
    obtain ⟨ry, hry⟩ : ∃ y, rs[x.k]? = some y := ⟨_, List.getElem?_eq_getElem hx2⟩
    have HXI := Lib.hid hrx
    have HXK := Lib.hid hry
    have HAL : Hid (alF m ls rs x.i x.k = alarmB m.fall m.win ls rx ry) := Lib.hid (by unfold alF; rw [repAt_some hrx, repAt_some hry])
    have g1 := HG.out rx (List.mem_of_getElem? hrx)
    have g2 := HG.out ry (List.mem_of_getElem? hry)
    have HX1 : Hid (Reps X (.slice A1 rs.length c1) rs) := Lib.hid (Rws.below H1.out hF.b (Nat.le_refl _))
    have HX2 : Hid (Lnks X (.slice A2 ls.length c2) ls) := Lib.hid (Rws.below H2.out hF.b (Nat.le_refl _))
    obtain ⟨b, off, hA, hc1, hc2, -⟩ := rep_cells HX1.out hrx
    subst hA
    unfold maxLen at hc2
    have HF := Lib.hid hF
    have HM := Lib.hid hM
    have HFA : Hid (∀ V, Calls Tryz.prog 88 #[.int .i64 rx.tk, .int .i64 ry.tk] V fun e w' => e = .returned (.int .i64 (farI rx.tk ry.tk)) ∧ V = w') := Lib.hid (fun V => apart_any _ _ V (by omega) (by omega) (by omega) (by omega))
    have HT1 : Hid (∀ V, Below X.heap.size X V → Calls Tryz.prog 89 #[lookV m (.slice (some ⟨b, off, none⟩) rs.length c1) (.slice A2 ls.length c2) (.slice A3 p3 c3) (.map (some (w.heap.size + 1 + 1))), repV rx, repV ry] V fun e w' => e = .returned (.bool (tellsB m.fall ls rx ry)) ∧ Below V.heap.size V w') := Lib.hid (fun V hV => tells_any m _ _ _ A2 c2 ls rx ry V (Rws.below HX2.out hV (Nat.le_refl _)) hll (by omega) (by omega) (by omega) (by omega))
    have HT2 : Hid (∀ V, Below X.heap.size X V → Calls Tryz.prog 89 #[lookV m (.slice (some ⟨b, off, none⟩) rs.length c1) (.slice A2 ls.length c2) (.slice A3 p3 c3) (.map (some (w.heap.size + 1 + 1))), repV ry, repV rx] V fun e w' => e = .returned (.bool (tellsB m.fall ls ry rx)) ∧ Below V.heap.size V w') := Lib.hid (fun V hV => tells_any m _ _ _ A2 c2 ls ry rx V (Rws.below HX2.out hV (Nat.le_refl _)) hll (by omega) (by omega) (by omega) (by omega))
    have hsz := hF.lt mZ
    have hBlt := lt_of_blk hX
    have HR := Lib.hid (show RW X X.heap.size [(Bx, (.cells #[.int .i64 x.i, .int .i64 x.k] 86)), (w.heap.size + 1 + 1 + 1, (lookBox m (.slice (some ⟨b, off, none⟩) rs.length c1) (.slice A2 ls.length c2) (.slice A3 p3 c3) (.map (some (w.heap.size + 1 + 1)))))] [] X from RW.start ⟨Below.refl _ _, by
      intro p hp
      simp only [List.mem_cons, List.not_mem_nil, or_false] at hp
      rcases hp with rfl | rfl
      · exact hX
      · exact hF.h _ (mS mZ)⟩)
    clear hF hM hX hrx hry k4
    generalize x.i = i at *
    generalize x.k = k at *
    refine wpIn_block ?_
    refine wpIn_seq ?_
    refine wpIn_mono (Q := onlyN fun a1 X1 => ∃ p q v13 v14 v15 v16 v17 v18 v19 v20 v21 v22 v23 v24 v25 v26, a1 = { tmps := #[wtV m (.slice (some ⟨b, off, none⟩) rs.length c1) (.slice A2 ls.length c2) (.slice A3 p3 c3), .pointer (some ⟨w.heap.size, 0, none⟩), .pointer (some ⟨w.heap.size + 1, 0, none⟩), .pointer (some ⟨w.heap.size + 1 + 1 + 1, 0, none⟩), .pointer (some ⟨Bx, 0, none⟩), .pointer (some ⟨p, 0, none⟩), .pointer (some ⟨q, 0, none⟩), wtV m (.slice (some ⟨b, off, none⟩) rs.length c1) (.slice A2 ls.length c2) (.slice A3 p3 c3), (.map (some (w.heap.size + 1 + 1))), lookV m (.slice (some ⟨b, off, none⟩) rs.length c1) (.slice A2 ls.length c2) (.slice A3 p3 c3) (.map (some (w.heap.size + 1 + 1))), lookV m (.slice (some ⟨b, off, none⟩) rs.length c1) (.slice A2 ls.length c2) (.slice A3 p3 c3) (.map (some (w.heap.size + 1 + 1))), Value.func (.func 109) #[] #[.pointer (some ⟨w.heap.size + 1 + 1 + 1 + 1, 0, none⟩)], prV i k, v13, v14, v15, v16, v17, v18, v19, v20, v21, v22, v23, v24, v25, v26, undef, undef, undef, undef, undef, undef, undef, undef, undef, undef, undef, undef, undef, undef, undef, undef, undef, undef, undef, undef, undef, undef, undef, undef, undef], defers := [] } ∧ Frm X [(q, (.cells #[.int .i64 ry.st, .int .i64 ry.tk, .int .i64 ry.pr, .int .i64 ry.dlo, .int .i64 ry.dhi, .int .i64 ry.ur, .int .i64 ry.co] 77)), (p, (.cells #[.int .i64 rx.st, .int .i64 rx.tk, .int .i64 rx.pr, .int .i64 rx.dlo, .int .i64 rx.dhi, .int .i64 rx.ur, .int .i64 rx.co] 77)), (Bx, (.cells #[.int .i64 i, .int .i64 k] 86)), (w.heap.size + 1 + 1 + 1, (lookBox m (.slice (some ⟨b, off, none⟩) rs.length c1) (.slice A2 ls.length c2) (.slice A3 p3 c3) (.map (some (w.heap.size + 1 + 1)))))] X1) ?reg4 ?aft4
    case reg4 =>
      refine hx_start [(2, fun w' : World => ∀ o, w'.cell? ⟨w.heap.size + 1 + 1 + 1, o, none⟩ = #[Value.int .i64 m.n, (.slice (some ⟨b, off, none⟩) rs.length c1), (.slice A2 ls.length c2), (.slice A3 p3 c3), .int .i64 m.fall, .int .i64 m.win, .int .i64 m.hold, .int .i64 m.dawn, .int .i64 m.dusk, (.map (some (w.heap.size + 1 + 1)))][o]?), (4, fun w' : World => ∀ o, w'.cell? ⟨Bx, o, none⟩ = #[Value.int .i64 i, .int .i64 k][o]?), (6, fun w' : World => w'.cell? ⟨b, off + i * 7, none⟩ = some (.int .i64 rx.st) ∧ w'.cell? ⟨b, off + i * 7 + 1, none⟩ = some (.int .i64 rx.tk) ∧ w'.cell? ⟨b, off + i * 7 + 2, none⟩ = some (.int .i64 rx.pr) ∧ w'.cell? ⟨b, off + i * 7 + 3, none⟩ = some (.int .i64 rx.dlo) ∧ w'.cell? ⟨b, off + i * 7 + 4, none⟩ = some (.int .i64 rx.dhi) ∧ w'.cell? ⟨b, off + i * 7 + 5, none⟩ = some (.int .i64 rx.ur) ∧ w'.cell? ⟨b, off + i * 7 + 6, none⟩ = some (.int .i64 rx.co)), (9, fun w' : World => ∀ o, w'.cell? ⟨w.heap.size + 1 + 1 + 1, o, none⟩ = #[Value.int .i64 m.n, (.slice (some ⟨b, off, none⟩) rs.length c1), (.slice A2 ls.length c2), (.slice A3 p3 c3), .int .i64 m.fall, .int .i64 m.win, .int .i64 m.hold, .int .i64 m.dawn, .int .i64 m.dusk, (.map (some (w.heap.size + 1 + 1)))][o]?), (11, fun w' : World => ∀ o, w'.cell? ⟨Bx, o, none⟩ = #[Value.int .i64 i, .int .i64 k][o]?), (13, fun w' : World => w'.cell? ⟨b, off + k * 7, none⟩ = some (.int .i64 ry.st) ∧ w'.cell? ⟨b, off + k * 7 + 1, none⟩ = some (.int .i64 ry.tk) ∧ w'.cell? ⟨b, off + k * 7 + 2, none⟩ = some (.int .i64 ry.pr) ∧ w'.cell? ⟨b, off + k * 7 + 3, none⟩ = some (.int .i64 ry.dlo) ∧ w'.cell? ⟨b, off + k * 7 + 4, none⟩ = some (.int .i64 ry.dhi) ∧ w'.cell? ⟨b, off + k * 7 + 5, none⟩ = some (.int .i64 ry.ur) ∧ w'.cell? ⟨b, off + k * 7 + 6, none⟩ = some (.int .i64 ry.co))] (by kernel_rfl) (fM ⟨HR.out.drew.frm.cells (mS mZ), fM ⟨HR.out.drew.frm.cells mZ, fM ⟨rep_at HX1.out HR.out.drew.frm.b HXI.out, fM ⟨HR.out.drew.frm.cells (mS mZ), fM ⟨HR.out.drew.frm.cells mZ, fM ⟨rep_at HX1.out HR.out.drew.frm.b HXK.out, (by simp)⟩⟩⟩⟩⟩⟩) ?_
      refine (fun (W1 : World) (hRn : RW X _ [(Bx, (.cells #[.int .i64 i, .int .i64 k] 86)), (w.heap.size + 1 + 1 + 1, (lookBox m (.slice (some ⟨b, off, none⟩) rs.length c1) (.slice A2 ls.length c2) (.slice A3 p3 c3) (.map (some (w.heap.size + 1 + 1)))))] [] W1) (hzW1 : Hid (W1.heap.size = X.heap.size)) => (?_ : HX _ _ _ _ _ _ _ _ W1)) _ HR.out.drew (Lib.hid rfl)
      clear HR
      have HR := Lib.hid hRn
      clear hRn
      refine hx_pure (i := 0) (oi := ⟨some 13, _, _, _, _, _⟩) (v := ?v2) rfl (by kernel_rfl) (by kernel_rfl) (by kernel_rfl) (by kernel_rfl) (fun _ _ _ h => h) rfl (by kernel_rfl) ?hv2 ?rv2
      case hv2 => (intro w; go_simp) <;> (with_reducible rfl)
      try simp only [Act.put, List.setIfInBounds_toArray, List.set_cons_zero, List.set_cons_succ]
      refine hx_pure (i := 1) (oi := ⟨some 14, _, _, _, _, _⟩) (v := ?v3) rfl (by kernel_rfl) (by kernel_rfl) (by kernel_rfl) (by kernel_rfl) (fun _ _ _ h => h) rfl (by kernel_rfl) ?hv3 ?rv3
      case hv3 => (intro w; go_simp) <;> (with_reducible rfl)
      try simp only [Act.put, List.setIfInBounds_toArray, List.set_cons_zero, List.set_cons_succ]
      refine hx_load (i := 2) (oi := ⟨some 15, _, _, _, _, _⟩) (v := ?v4) _ mZ rfl (by kernel_rfl) (by kernel_rfl) (by kernel_rfl) (by kernel_rfl) (fun _ _ _ h => h) rfl (by kernel_rfl) ?hv4 ?rv4
      case hv4 => (intro w hSw; (try dsimp only at hSw); go_simp) <;> (with_reducible rfl)
      try simp only [Act.put, List.setIfInBounds_toArray, List.set_cons_zero, List.set_cons_succ]
      refine hx_pure (i := 3) (oi := ⟨some 16, _, _, _, _, _⟩) (v := ?v5) rfl (by kernel_rfl) (by kernel_rfl) (by kernel_rfl) (by kernel_rfl) (fun _ _ _ h => h) rfl (by kernel_rfl) ?hv5 ?rv5
      case hv5 => (intro w; go_simp) <;> (with_reducible rfl)
      try simp only [Act.put, List.setIfInBounds_toArray, List.set_cons_zero, List.set_cons_succ]
      refine hx_load (i := 4) (oi := ⟨some 17, _, _, _, _, _⟩) (v := ?v6) _ (mS mZ) rfl (by kernel_rfl) (by kernel_rfl) (by kernel_rfl) (by kernel_rfl) (fun _ _ _ h => h) rfl (by kernel_rfl) ?hv6 ?rv6
      case hv6 => (intro w hSw; (try dsimp only at hSw); go_simp) <;> (with_reducible rfl)
      try simp only [Act.put, List.setIfInBounds_toArray, List.set_cons_zero, List.set_cons_succ]
      refine hx_pure (i := 5) (oi := ⟨some 18, _, _, _, _, _⟩) (v := ?v7) rfl (by kernel_rfl) (by kernel_rfl) (by kernel_rfl) (by kernel_rfl) (fun _ _ _ h => h) rfl (by kernel_rfl) ?hv7 ?rv7
      case hv7 => (intro w; go_simp) <;> (with_reducible rfl)
      try simp only [Act.put, List.setIfInBounds_toArray, List.set_cons_zero, List.set_cons_succ]
      refine hx_load (i := 6) (oi := ⟨some 19, _, _, _, _, _⟩) (v := ?v8) _ (mS (mS mZ)) rfl (by kernel_rfl) (by kernel_rfl) (by kernel_rfl) (by kernel_rfl) (fun _ _ _ h => h) rfl (by kernel_rfl) ?hv8 ?rv8
      case hv8 => (intro w hSw; (try dsimp only at hSw); go_simp) <;> (with_reducible rfl)
      try simp only [Act.put, List.setIfInBounds_toArray, List.set_cons_zero, List.set_cons_succ]
      refine hx_pure (i := 7) (oi := ⟨some 20, _, _, _, _, _⟩) (v := ?v9) rfl (by kernel_rfl) (by kernel_rfl) (by kernel_rfl) (by kernel_rfl) (fun _ _ _ h => h) rfl (by kernel_rfl) ?hv9 ?rv9
      case hv9 => (intro w; go_simp) <;> (with_reducible rfl)
      try simp only [Act.put, List.setIfInBounds_toArray, List.set_cons_zero, List.set_cons_succ]
      refine hx_pure (i := 8) (oi := ⟨some 21, _, _, _, _, _⟩) (v := ?v10) rfl (by kernel_rfl) (by kernel_rfl) (by kernel_rfl) (by kernel_rfl) (fun _ _ _ h => h) rfl (by kernel_rfl) ?hv10 ?rv10
      case hv10 => (intro w; go_simp) <;> (with_reducible rfl)
      try simp only [Act.put, List.setIfInBounds_toArray, List.set_cons_zero, List.set_cons_succ]
      refine hx_load (i := 9) (oi := ⟨some 22, _, _, _, _, _⟩) (v := ?v11) _ (mS (mS (mS mZ))) rfl (by kernel_rfl) (by kernel_rfl) (by kernel_rfl) (by kernel_rfl) (fun _ _ _ h => h) rfl (by kernel_rfl) ?hv11 ?rv11
      case hv11 => (intro w hSw; (try dsimp only at hSw); go_simp) <;> (with_reducible rfl)
      try simp only [Act.put, List.setIfInBounds_toArray, List.set_cons_zero, List.set_cons_succ]
      refine hx_pure (i := 10) (oi := ⟨some 23, _, _, _, _, _⟩) (v := ?v12) rfl (by kernel_rfl) (by kernel_rfl) (by kernel_rfl) (by kernel_rfl) (fun _ _ _ h => h) rfl (by kernel_rfl) ?hv12 ?rv12
      case hv12 => (intro w; go_simp) <;> (with_reducible rfl)
      try simp only [Act.put, List.setIfInBounds_toArray, List.set_cons_zero, List.set_cons_succ]
      refine hx_load (i := 11) (oi := ⟨some 24, _, _, _, _, _⟩) (v := ?v13) _ (mS (mS (mS (mS mZ)))) rfl (by kernel_rfl) (by kernel_rfl) (by kernel_rfl) (by kernel_rfl) (fun _ _ _ h => h) rfl (by kernel_rfl) ?hv13 ?rv13
      case hv13 => (intro w hSw; (try dsimp only at hSw); go_simp) <;> (with_reducible rfl)
      try simp only [Act.put, List.setIfInBounds_toArray, List.set_cons_zero, List.set_cons_succ]
      refine hx_pure (i := 12) (oi := ⟨some 25, _, _, _, _, _⟩) (v := ?v14) rfl (by kernel_rfl) (by kernel_rfl) (by kernel_rfl) (by kernel_rfl) (fun _ _ _ h => h) rfl (by kernel_rfl) ?hv14 ?rv14
      case hv14 => (intro w; go_simp) <;> (with_reducible rfl)
      try simp only [Act.put, List.setIfInBounds_toArray, List.set_cons_zero, List.set_cons_succ]
      refine hx_load (i := 13) (oi := ⟨some 26, _, _, _, _, _⟩) (v := ?v15) _ (mS (mS (mS (mS (mS mZ))))) rfl (by kernel_rfl) (by kernel_rfl) (by kernel_rfl) (by kernel_rfl) (fun _ _ _ h => h) rfl (by kernel_rfl) ?hv15 ?rv15
      case hv15 => (intro w hSw; (try dsimp only at hSw); go_simp) <;> (with_reducible rfl)
      try simp only [Act.put, List.setIfInBounds_toArray, List.set_cons_zero, List.set_cons_succ]
      refine hx_ready (rs := [14, 15]) (by kernel_rfl) (by simp) ?_
      refine AllHX.cons (i := 14) (o := ⟨some 5, _, _, _, _, _⟩) rfl rfl (by kernel_rfl) (fun K hK => ?s16) ?ms16
      case s16 =>
        (try go_simp)
        refine (fun (W17 : World) (hRn : RW X _ [(W1.heap.size, (.cells #[.int .i64 0, .int .i64 0, .int .i64 0, .int .i64 0, .int .i64 0, .int .i64 0, .int .i64 0] 77)), (Bx, (.cells #[.int .i64 i, .int .i64 k] 86)), (w.heap.size + 1 + 1 + 1, (lookBox m (.slice (some ⟨b, off, none⟩) rs.length c1) (.slice A2 ls.length c2) (.slice A3 p3 c3) (.map (some (w.heap.size + 1 + 1)))))] [] W17) (hzW17 : Hid (W17.heap.size = W1.heap.size + 1)) => hK.out _ W17 (fM ⟨.inr (hRn.frm.cells (mS (mS mZ))), fM ⟨.inr (hRn.frm.cells (mS mZ)), fM ⟨.inr (rep_at HX1.out hRn.frm.b HXI.out), fM ⟨.inr (hRn.frm.cells (mS (mS mZ))), fM ⟨.inr (hRn.frm.cells (mS mZ)), fM ⟨.inr (rep_at HX1.out hRn.frm.b HXK.out), (by simp)⟩⟩⟩⟩⟩⟩) ?_) _ (HR.out.add (.cells #[.int .i64 0, .int .i64 0, .int .i64 0, .int .i64 0, .int .i64 0, .int .i64 0, .int .i64 0] 77) rfl) (Lib.hid (by simp))
        clear HR
        have HR := Lib.hid hRn
        clear hRn
        refine hx_ready (rs := [15]) (by kernel_rfl) (by simp) ?_
        refine AllHX.cons (i := 15) (o := ⟨some 6, _, _, _, _, _⟩) rfl rfl (by kernel_rfl) (fun K hK => ?s18) ?ms18
        case s18 =>
          (try go_simp)
          refine (fun (W19 : World) (hRn : RW X _ [(W17.heap.size, (.cells #[.int .i64 0, .int .i64 0, .int .i64 0, .int .i64 0, .int .i64 0, .int .i64 0, .int .i64 0] 77)), (W1.heap.size, (.cells #[.int .i64 0, .int .i64 0, .int .i64 0, .int .i64 0, .int .i64 0, .int .i64 0, .int .i64 0] 77)), (Bx, (.cells #[.int .i64 i, .int .i64 k] 86)), (w.heap.size + 1 + 1 + 1, (lookBox m (.slice (some ⟨b, off, none⟩) rs.length c1) (.slice A2 ls.length c2) (.slice A3 p3 c3) (.map (some (w.heap.size + 1 + 1)))))] [] W19) (hzW19 : Hid (W19.heap.size = W17.heap.size + 1)) => hK.out _ W19 (fM ⟨.inr (hRn.frm.cells (mS (mS (mS mZ)))), fM ⟨.inr (hRn.frm.cells (mS (mS mZ))), fM ⟨.inr (rep_at HX1.out hRn.frm.b HXI.out), fM ⟨.inr (hRn.frm.cells (mS (mS (mS mZ)))), fM ⟨.inr (hRn.frm.cells (mS (mS mZ))), fM ⟨.inr (rep_at HX1.out hRn.frm.b HXK.out), (by simp)⟩⟩⟩⟩⟩⟩) ?_) _ (HR.out.add (.cells #[.int .i64 0, .int .i64 0, .int .i64 0, .int .i64 0, .int .i64 0, .int .i64 0, .int .i64 0] 77) rfl) (Lib.hid (by simp))
          clear HR
          have HR := Lib.hid hRn
          clear hRn
          refine hx_ready (rs := [16]) (by kernel_rfl) (by simp) ?_
          refine AllHX.cons (i := 16) (o := ⟨none, _, _, _, _, _⟩) rfl rfl (by kernel_rfl) (fun K hK => ?s20) ?ms20
          case s20 =>
            have u0 := (boxCells (HR.out.frm.h _ (mS mZ))).1
            have f0 := (boxCells (HR.out.frm.h _ (mS mZ))).2
            have l0 := lt_of_blk (HR.out.frm.h _ (mS mZ))
            (try go_simp)
            clear u0 f0 l0
            refine (fun (W21 : World) (hRn : RW X _ [(W1.heap.size, (.cells #[.int .i64 rx.st, .int .i64 rx.tk, .int .i64 rx.pr, .int .i64 rx.dlo, .int .i64 rx.dhi, .int .i64 rx.ur, .int .i64 rx.co] 77)), (W17.heap.size, (.cells #[.int .i64 0, .int .i64 0, .int .i64 0, .int .i64 0, .int .i64 0, .int .i64 0, .int .i64 0] 77)), (Bx, (.cells #[.int .i64 i, .int .i64 k] 86)), (w.heap.size + 1 + 1 + 1, (lookBox m (.slice (some ⟨b, off, none⟩) rs.length c1) (.slice A2 ls.length c2) (.slice A3 p3 c3) (.map (some (w.heap.size + 1 + 1)))))] [] W21) (hzW21 : Hid (W21.heap.size = W19.heap.size)) => hK.out _ W21 (fM ⟨.inl (by kernel_rfl), fM ⟨.inl (by kernel_rfl), fM ⟨.inl (by kernel_rfl), fM ⟨.inr (hRn.frm.cells (mS (mS (mS mZ)))), fM ⟨.inr (hRn.frm.cells (mS (mS mZ))), fM ⟨.inr (rep_at HX1.out hRn.frm.b HXK.out), (by simp)⟩⟩⟩⟩⟩⟩) ?_) _ ((RW.put (RW.put (RW.put (RW.put (RW.put (RW.put (RW.put (RW.less (bs' := [(W1.heap.size, (.cells #[.int .i64 0, .int .i64 0, .int .i64 0, .int .i64 0, .int .i64 0, .int .i64 0, .int .i64 0] 77)), (W17.heap.size, (.cells #[.int .i64 0, .int .i64 0, .int .i64 0, .int .i64 0, .int .i64 0, .int .i64 0, .int .i64 0] 77)), (Bx, (.cells #[.int .i64 i, .int .i64 k] 86)), (w.heap.size + 1 + 1 + 1, (lookBox m (.slice (some ⟨b, off, none⟩) rs.length c1) (.slice A2 ls.length c2) (.slice A3 p3 c3) (.map (some (w.heap.size + 1 + 1)))))]) HR.out (by simp only [List.forall_mem_cons, List.forall_mem_nil, and_true]; exact ⟨(mS mZ), mZ, (mS (mS mZ)), (mS (mS (mS mZ))), by simp⟩)) (by have := hzW1.out; have := hzW17.out; have := hzW19.out; omega) (by have := hzW1.out; have := hzW17.out; have := hzW19.out; simp <;> omega) 0 (.int .i64 rx.st)) (by have := hzW1.out; have := hzW17.out; have := hzW19.out; omega) (by have := hzW1.out; have := hzW17.out; have := hzW19.out; simp <;> omega) 1 (.int .i64 rx.tk)) (by have := hzW1.out; have := hzW17.out; have := hzW19.out; omega) (by have := hzW1.out; have := hzW17.out; have := hzW19.out; simp <;> omega) 2 (.int .i64 rx.pr)) (by have := hzW1.out; have := hzW17.out; have := hzW19.out; omega) (by have := hzW1.out; have := hzW17.out; have := hzW19.out; simp <;> omega) 3 (.int .i64 rx.dlo)) (by have := hzW1.out; have := hzW17.out; have := hzW19.out; omega) (by have := hzW1.out; have := hzW17.out; have := hzW19.out; simp <;> omega) 4 (.int .i64 rx.dhi)) (by have := hzW1.out; have := hzW17.out; have := hzW19.out; omega) (by have := hzW1.out; have := hzW17.out; have := hzW19.out; simp <;> omega) 5 (.int .i64 rx.ur)) (by have := hzW1.out; have := hzW17.out; have := hzW19.out; omega) (by have := hzW1.out; have := hzW17.out; have := hzW19.out; simp <;> omega) 6 (.int .i64 rx.co))) (Lib.hid (by simp))
            clear HR
            have HR := Lib.hid hRn
            clear hRn
            refine hx_ready (rs := [17]) (by kernel_rfl) (by simp) ?_
            refine AllHX.cons (i := 17) (o := ⟨none, _, _, _, _, _⟩) rfl rfl (by kernel_rfl) (fun K hK => ?s22) ?ms22
            case s22 =>
              have u0 := (boxCells (HR.out.frm.h _ (mS mZ))).1
              have f0 := (boxCells (HR.out.frm.h _ (mS mZ))).2
              have l0 := lt_of_blk (HR.out.frm.h _ (mS mZ))
              (try go_simp)
              clear u0 f0 l0
              refine (fun (W23 : World) (hRn : RW X _ [(W17.heap.size, (.cells #[.int .i64 ry.st, .int .i64 ry.tk, .int .i64 ry.pr, .int .i64 ry.dlo, .int .i64 ry.dhi, .int .i64 ry.ur, .int .i64 ry.co] 77)), (W1.heap.size, (.cells #[.int .i64 rx.st, .int .i64 rx.tk, .int .i64 rx.pr, .int .i64 rx.dlo, .int .i64 rx.dhi, .int .i64 rx.ur, .int .i64 rx.co] 77)), (Bx, (.cells #[.int .i64 i, .int .i64 k] 86)), (w.heap.size + 1 + 1 + 1, (lookBox m (.slice (some ⟨b, off, none⟩) rs.length c1) (.slice A2 ls.length c2) (.slice A3 p3 c3) (.map (some (w.heap.size + 1 + 1)))))] [] W23) (hzW23 : Hid (W23.heap.size = W21.heap.size)) => hK.out _ W23 (fM ⟨.inl (by kernel_rfl), fM ⟨.inl (by kernel_rfl), fM ⟨.inl (by kernel_rfl), fM ⟨.inl (by kernel_rfl), fM ⟨.inl (by kernel_rfl), fM ⟨.inl (by kernel_rfl), (by simp)⟩⟩⟩⟩⟩⟩) ?_) _ ((RW.put (RW.put (RW.put (RW.put (RW.put (RW.put (RW.put (RW.less (bs' := [(W17.heap.size, (.cells #[.int .i64 0, .int .i64 0, .int .i64 0, .int .i64 0, .int .i64 0, .int .i64 0, .int .i64 0] 77)), (W1.heap.size, (.cells #[.int .i64 rx.st, .int .i64 rx.tk, .int .i64 rx.pr, .int .i64 rx.dlo, .int .i64 rx.dhi, .int .i64 rx.ur, .int .i64 rx.co] 77)), (Bx, (.cells #[.int .i64 i, .int .i64 k] 86)), (w.heap.size + 1 + 1 + 1, (lookBox m (.slice (some ⟨b, off, none⟩) rs.length c1) (.slice A2 ls.length c2) (.slice A3 p3 c3) (.map (some (w.heap.size + 1 + 1)))))]) HR.out (by simp only [List.forall_mem_cons, List.forall_mem_nil, and_true]; exact ⟨(mS mZ), mZ, (mS (mS mZ)), (mS (mS (mS mZ))), by simp⟩)) (by have := hzW1.out; have := hzW17.out; have := hzW19.out; have := hzW21.out; omega) (by have := hzW1.out; have := hzW17.out; have := hzW19.out; have := hzW21.out; simp <;> omega) 0 (.int .i64 ry.st)) (by have := hzW1.out; have := hzW17.out; have := hzW19.out; have := hzW21.out; omega) (by have := hzW1.out; have := hzW17.out; have := hzW19.out; have := hzW21.out; simp <;> omega) 1 (.int .i64 ry.tk)) (by have := hzW1.out; have := hzW17.out; have := hzW19.out; have := hzW21.out; omega) (by have := hzW1.out; have := hzW17.out; have := hzW19.out; have := hzW21.out; simp <;> omega) 2 (.int .i64 ry.pr)) (by have := hzW1.out; have := hzW17.out; have := hzW19.out; have := hzW21.out; omega) (by have := hzW1.out; have := hzW17.out; have := hzW19.out; have := hzW21.out; simp <;> omega) 3 (.int .i64 ry.dlo)) (by have := hzW1.out; have := hzW17.out; have := hzW19.out; have := hzW21.out; omega) (by have := hzW1.out; have := hzW17.out; have := hzW19.out; have := hzW21.out; simp <;> omega) 4 (.int .i64 ry.dhi)) (by have := hzW1.out; have := hzW17.out; have := hzW19.out; have := hzW21.out; omega) (by have := hzW1.out; have := hzW17.out; have := hzW19.out; have := hzW21.out; simp <;> omega) 5 (.int .i64 ry.ur)) (by have := hzW1.out; have := hzW17.out; have := hzW19.out; have := hzW21.out; omega) (by have := hzW1.out; have := hzW17.out; have := hzW19.out; have := hzW21.out; simp <;> omega) 6 (.int .i64 ry.co))) (Lib.hid (by simp))
              clear HR
              have HR := Lib.hid hRn
              clear hRn
              refine hx_done (by kernel_rfl) ?_
              exact ⟨W1.heap.size, W17.heap.size, _, _, _, _, _, _, _, _, _, _, _, _, _, _, rfl, (RW.less (bs' := [(W17.heap.size, (.cells #[.int .i64 ry.st, .int .i64 ry.tk, .int .i64 ry.pr, .int .i64 ry.dlo, .int .i64 ry.dhi, .int .i64 ry.ur, .int .i64 ry.co] 77)), (W1.heap.size, (.cells #[.int .i64 rx.st, .int .i64 rx.tk, .int .i64 rx.pr, .int .i64 rx.dlo, .int .i64 rx.dhi, .int .i64 rx.ur, .int .i64 rx.co] 77)), (Bx, (.cells #[.int .i64 i, .int .i64 k] 86)), (w.heap.size + 1 + 1 + 1, (lookBox m (.slice (some ⟨b, off, none⟩) rs.length c1) (.slice A2 ls.length c2) (.slice A3 p3 c3) (.map (some (w.heap.size + 1 + 1)))))]) HR.out (by simp only [List.forall_mem_cons, List.forall_mem_nil, and_true]; exact ⟨mZ, (mS mZ), (mS (mS mZ)), (mS (mS (mS mZ))), by simp⟩)).frm⟩
            exact AllHX.nil
          exact AllHX.nil
        exact AllHX.nil
      refine AllHX.cons (i := 15) (o := ⟨some 6, _, _, _, _, _⟩) rfl rfl (by kernel_rfl) (fun K hK => ?s24) ?ms24
      case s24 =>
        (try go_simp)
        refine (fun (W25 : World) (hRn : RW X _ [(W1.heap.size, (.cells #[.int .i64 0, .int .i64 0, .int .i64 0, .int .i64 0, .int .i64 0, .int .i64 0, .int .i64 0] 77)), (Bx, (.cells #[.int .i64 i, .int .i64 k] 86)), (w.heap.size + 1 + 1 + 1, (lookBox m (.slice (some ⟨b, off, none⟩) rs.length c1) (.slice A2 ls.length c2) (.slice A3 p3 c3) (.map (some (w.heap.size + 1 + 1)))))] [] W25) (hzW25 : Hid (W25.heap.size = W1.heap.size + 1)) => hK.out _ W25 (fM ⟨.inr (hRn.frm.cells (mS (mS mZ))), fM ⟨.inr (hRn.frm.cells (mS mZ)), fM ⟨.inr (rep_at HX1.out hRn.frm.b HXI.out), fM ⟨.inr (hRn.frm.cells (mS (mS mZ))), fM ⟨.inr (hRn.frm.cells (mS mZ)), fM ⟨.inr (rep_at HX1.out hRn.frm.b HXK.out), (by simp)⟩⟩⟩⟩⟩⟩) ?_) _ (HR.out.add (.cells #[.int .i64 0, .int .i64 0, .int .i64 0, .int .i64 0, .int .i64 0, .int .i64 0, .int .i64 0] 77) rfl) (Lib.hid (by simp))
        clear HR
        have HR := Lib.hid hRn
        clear hRn
        refine hx_ready (rs := [14]) (by kernel_rfl) (by simp) ?_
        refine AllHX.cons (i := 14) (o := ⟨some 5, _, _, _, _, _⟩) rfl rfl (by kernel_rfl) (fun K hK => ?s26) ?ms26
        case s26 =>
          (try go_simp)
          refine (fun (W27 : World) (hRn : RW X _ [(W25.heap.size, (.cells #[.int .i64 0, .int .i64 0, .int .i64 0, .int .i64 0, .int .i64 0, .int .i64 0, .int .i64 0] 77)), (W1.heap.size, (.cells #[.int .i64 0, .int .i64 0, .int .i64 0, .int .i64 0, .int .i64 0, .int .i64 0, .int .i64 0] 77)), (Bx, (.cells #[.int .i64 i, .int .i64 k] 86)), (w.heap.size + 1 + 1 + 1, (lookBox m (.slice (some ⟨b, off, none⟩) rs.length c1) (.slice A2 ls.length c2) (.slice A3 p3 c3) (.map (some (w.heap.size + 1 + 1)))))] [] W27) (hzW27 : Hid (W27.heap.size = W25.heap.size + 1)) => hK.out _ W27 (fM ⟨.inr (hRn.frm.cells (mS (mS (mS mZ)))), fM ⟨.inr (hRn.frm.cells (mS (mS mZ))), fM ⟨.inr (rep_at HX1.out hRn.frm.b HXI.out), fM ⟨.inr (hRn.frm.cells (mS (mS (mS mZ)))), fM ⟨.inr (hRn.frm.cells (mS (mS mZ))), fM ⟨.inr (rep_at HX1.out hRn.frm.b HXK.out), (by simp)⟩⟩⟩⟩⟩⟩) ?_) _ (HR.out.add (.cells #[.int .i64 0, .int .i64 0, .int .i64 0, .int .i64 0, .int .i64 0, .int .i64 0, .int .i64 0] 77) rfl) (Lib.hid (by simp))
          clear HR
          have HR := Lib.hid hRn
          clear hRn
          refine hx_ready (rs := [16]) (by kernel_rfl) (by simp) ?_
          refine AllHX.cons (i := 16) (o := ⟨none, _, _, _, _, _⟩) rfl rfl (by kernel_rfl) (fun K hK => ?s28) ?ms28
          case s28 =>
            have u0 := (boxCells (HR.out.frm.h _ mZ)).1
            have f0 := (boxCells (HR.out.frm.h _ mZ)).2
            have l0 := lt_of_blk (HR.out.frm.h _ mZ)
            (try go_simp)
            clear u0 f0 l0
            refine (fun (W29 : World) (hRn : RW X _ [(W25.heap.size, (.cells #[.int .i64 rx.st, .int .i64 rx.tk, .int .i64 rx.pr, .int .i64 rx.dlo, .int .i64 rx.dhi, .int .i64 rx.ur, .int .i64 rx.co] 77)), (W1.heap.size, (.cells #[.int .i64 0, .int .i64 0, .int .i64 0, .int .i64 0, .int .i64 0, .int .i64 0, .int .i64 0] 77)), (Bx, (.cells #[.int .i64 i, .int .i64 k] 86)), (w.heap.size + 1 + 1 + 1, (lookBox m (.slice (some ⟨b, off, none⟩) rs.length c1) (.slice A2 ls.length c2) (.slice A3 p3 c3) (.map (some (w.heap.size + 1 + 1)))))] [] W29) (hzW29 : Hid (W29.heap.size = W27.heap.size)) => hK.out _ W29 (fM ⟨.inl (by kernel_rfl), fM ⟨.inl (by kernel_rfl), fM ⟨.inl (by kernel_rfl), fM ⟨.inr (hRn.frm.cells (mS (mS (mS mZ)))), fM ⟨.inr (hRn.frm.cells (mS (mS mZ))), fM ⟨.inr (rep_at HX1.out hRn.frm.b HXK.out), (by simp)⟩⟩⟩⟩⟩⟩) ?_) _ ((RW.put (RW.put (RW.put (RW.put (RW.put (RW.put (RW.put (RW.less (bs' := [(W25.heap.size, (.cells #[.int .i64 0, .int .i64 0, .int .i64 0, .int .i64 0, .int .i64 0, .int .i64 0, .int .i64 0] 77)), (W1.heap.size, (.cells #[.int .i64 0, .int .i64 0, .int .i64 0, .int .i64 0, .int .i64 0, .int .i64 0, .int .i64 0] 77)), (Bx, (.cells #[.int .i64 i, .int .i64 k] 86)), (w.heap.size + 1 + 1 + 1, (lookBox m (.slice (some ⟨b, off, none⟩) rs.length c1) (.slice A2 ls.length c2) (.slice A3 p3 c3) (.map (some (w.heap.size + 1 + 1)))))]) HR.out (by simp only [List.forall_mem_cons, List.forall_mem_nil, and_true]; exact ⟨mZ, (mS mZ), (mS (mS mZ)), (mS (mS (mS mZ))), by simp⟩)) (by have := hzW1.out; have := hzW25.out; have := hzW27.out; omega) (by have := hzW1.out; have := hzW25.out; have := hzW27.out; simp <;> omega) 0 (.int .i64 rx.st)) (by have := hzW1.out; have := hzW25.out; have := hzW27.out; omega) (by have := hzW1.out; have := hzW25.out; have := hzW27.out; simp <;> omega) 1 (.int .i64 rx.tk)) (by have := hzW1.out; have := hzW25.out; have := hzW27.out; omega) (by have := hzW1.out; have := hzW25.out; have := hzW27.out; simp <;> omega) 2 (.int .i64 rx.pr)) (by have := hzW1.out; have := hzW25.out; have := hzW27.out; omega) (by have := hzW1.out; have := hzW25.out; have := hzW27.out; simp <;> omega) 3 (.int .i64 rx.dlo)) (by have := hzW1.out; have := hzW25.out; have := hzW27.out; omega) (by have := hzW1.out; have := hzW25.out; have := hzW27.out; simp <;> omega) 4 (.int .i64 rx.dhi)) (by have := hzW1.out; have := hzW25.out; have := hzW27.out; omega) (by have := hzW1.out; have := hzW25.out; have := hzW27.out; simp <;> omega) 5 (.int .i64 rx.ur)) (by have := hzW1.out; have := hzW25.out; have := hzW27.out; omega) (by have := hzW1.out; have := hzW25.out; have := hzW27.out; simp <;> omega) 6 (.int .i64 rx.co))) (Lib.hid (by simp))
            clear HR
            have HR := Lib.hid hRn
            clear hRn
            refine hx_ready (rs := [17]) (by kernel_rfl) (by simp) ?_
            refine AllHX.cons (i := 17) (o := ⟨none, _, _, _, _, _⟩) rfl rfl (by kernel_rfl) (fun K hK => ?s30) ?ms30
            case s30 =>
              have u0 := (boxCells (HR.out.frm.h _ (mS mZ))).1
              have f0 := (boxCells (HR.out.frm.h _ (mS mZ))).2
              have l0 := lt_of_blk (HR.out.frm.h _ (mS mZ))
              (try go_simp)
              clear u0 f0 l0
              refine (fun (W31 : World) (hRn : RW X _ [(W1.heap.size, (.cells #[.int .i64 ry.st, .int .i64 ry.tk, .int .i64 ry.pr, .int .i64 ry.dlo, .int .i64 ry.dhi, .int .i64 ry.ur, .int .i64 ry.co] 77)), (W25.heap.size, (.cells #[.int .i64 rx.st, .int .i64 rx.tk, .int .i64 rx.pr, .int .i64 rx.dlo, .int .i64 rx.dhi, .int .i64 rx.ur, .int .i64 rx.co] 77)), (Bx, (.cells #[.int .i64 i, .int .i64 k] 86)), (w.heap.size + 1 + 1 + 1, (lookBox m (.slice (some ⟨b, off, none⟩) rs.length c1) (.slice A2 ls.length c2) (.slice A3 p3 c3) (.map (some (w.heap.size + 1 + 1)))))] [] W31) (hzW31 : Hid (W31.heap.size = W29.heap.size)) => hK.out _ W31 (fM ⟨.inl (by kernel_rfl), fM ⟨.inl (by kernel_rfl), fM ⟨.inl (by kernel_rfl), fM ⟨.inl (by kernel_rfl), fM ⟨.inl (by kernel_rfl), fM ⟨.inl (by kernel_rfl), (by simp)⟩⟩⟩⟩⟩⟩) ?_) _ ((RW.put (RW.put (RW.put (RW.put (RW.put (RW.put (RW.put (RW.less (bs' := [(W1.heap.size, (.cells #[.int .i64 0, .int .i64 0, .int .i64 0, .int .i64 0, .int .i64 0, .int .i64 0, .int .i64 0] 77)), (W25.heap.size, (.cells #[.int .i64 rx.st, .int .i64 rx.tk, .int .i64 rx.pr, .int .i64 rx.dlo, .int .i64 rx.dhi, .int .i64 rx.ur, .int .i64 rx.co] 77)), (Bx, (.cells #[.int .i64 i, .int .i64 k] 86)), (w.heap.size + 1 + 1 + 1, (lookBox m (.slice (some ⟨b, off, none⟩) rs.length c1) (.slice A2 ls.length c2) (.slice A3 p3 c3) (.map (some (w.heap.size + 1 + 1)))))]) HR.out (by simp only [List.forall_mem_cons, List.forall_mem_nil, and_true]; exact ⟨(mS mZ), mZ, (mS (mS mZ)), (mS (mS (mS mZ))), by simp⟩)) (by have := hzW1.out; have := hzW25.out; have := hzW27.out; have := hzW29.out; omega) (by have := hzW1.out; have := hzW25.out; have := hzW27.out; have := hzW29.out; simp <;> omega) 0 (.int .i64 ry.st)) (by have := hzW1.out; have := hzW25.out; have := hzW27.out; have := hzW29.out; omega) (by have := hzW1.out; have := hzW25.out; have := hzW27.out; have := hzW29.out; simp <;> omega) 1 (.int .i64 ry.tk)) (by have := hzW1.out; have := hzW25.out; have := hzW27.out; have := hzW29.out; omega) (by have := hzW1.out; have := hzW25.out; have := hzW27.out; have := hzW29.out; simp <;> omega) 2 (.int .i64 ry.pr)) (by have := hzW1.out; have := hzW25.out; have := hzW27.out; have := hzW29.out; omega) (by have := hzW1.out; have := hzW25.out; have := hzW27.out; have := hzW29.out; simp <;> omega) 3 (.int .i64 ry.dlo)) (by have := hzW1.out; have := hzW25.out; have := hzW27.out; have := hzW29.out; omega) (by have := hzW1.out; have := hzW25.out; have := hzW27.out; have := hzW29.out; simp <;> omega) 4 (.int .i64 ry.dhi)) (by have := hzW1.out; have := hzW25.out; have := hzW27.out; have := hzW29.out; omega) (by have := hzW1.out; have := hzW25.out; have := hzW27.out; have := hzW29.out; simp <;> omega) 5 (.int .i64 ry.ur)) (by have := hzW1.out; have := hzW25.out; have := hzW27.out; have := hzW29.out; omega) (by have := hzW1.out; have := hzW25.out; have := hzW27.out; have := hzW29.out; simp <;> omega) 6 (.int .i64 ry.co))) (Lib.hid (by simp))
              clear HR
              have HR := Lib.hid hRn
              clear hRn
              refine hx_done (by kernel_rfl) ?_
              exact ⟨W25.heap.size, W1.heap.size, _, _, _, _, _, _, _, _, _, _, _, _, _, _, rfl, (RW.less (bs' := [(W1.heap.size, (.cells #[.int .i64 ry.st, .int .i64 ry.tk, .int .i64 ry.pr, .int .i64 ry.dlo, .int .i64 ry.dhi, .int .i64 ry.ur, .int .i64 ry.co] 77)), (W25.heap.size, (.cells #[.int .i64 rx.st, .int .i64 rx.tk, .int .i64 rx.pr, .int .i64 rx.dlo, .int .i64 rx.dhi, .int .i64 rx.ur, .int .i64 rx.co] 77)), (Bx, (.cells #[.int .i64 i, .int .i64 k] 86)), (w.heap.size + 1 + 1 + 1, (lookBox m (.slice (some ⟨b, off, none⟩) rs.length c1) (.slice A2 ls.length c2) (.slice A3 p3 c3) (.map (some (w.heap.size + 1 + 1)))))]) HR.out (by simp only [List.forall_mem_cons, List.forall_mem_nil, and_true]; exact ⟨mZ, (mS mZ), (mS (mS mZ)), (mS (mS (mS mZ))), by simp⟩)).frm⟩
            exact AllHX.nil
          exact AllHX.nil
        exact AllHX.nil
      exact AllHX.nil
    case aft4 =>
      rintro e a1 X1 hO
      obtain ⟨rfl, p, q, v13, v14, v15, v16, v17, v18, v19, v20, v21, v22, v23, v24, v25, v26, rfl, hF1⟩ := onlyN_is hO
      clear HR hO
      have HR := Lib.hid (RW.start hF1)
      have hpl := hF1.lt (mS mZ)
      have hql := hF1.lt mZ
      clear hF1
      refine wpIn_seq ?_
      refine wpIn_mono (Q := onlyN fun a1 X2 => ∃ u5 u6 u7 u8 u9 u10 u11 u12 u13 u14 u15 u16 u17 u18 u19 u20 u21 u22 u23 u24 u25 u26 u27 u28 u29 u30 u31 u32 u33 u34 u35 u36 u37 u38 u39 u40 u41 u42 u43 u44 u45 u46, a1 = { tmps := #[wtV m (.slice (some ⟨b, off, none⟩) rs.length c1) (.slice A2 ls.length c2) (.slice A3 p3 c3), .pointer (some ⟨w.heap.size, 0, none⟩), .pointer (some ⟨w.heap.size + 1, 0, none⟩), .pointer (some ⟨w.heap.size + 1 + 1 + 1, 0, none⟩), .pointer (some ⟨Bx, 0, none⟩), u5, u6, u7, u8, u9, u10, u11, u12, u13, u14, u15, u16, u17, u18, u19, u20, u21, u22, u23, u24, u25, u26, u27, u28, u29, u30, u31, u32, u33, u34, u35, u36, u37, u38, u39, u40, u41, u42, u43, u44, u45, u46, .bool (alarmB m.fall m.win ls rx ry), undef, undef, undef, undef], defers := [] } ∧ Frm X [(Bx, (.cells #[.int .i64 i, .int .i64 k] 86)), (w.heap.size + 1 + 1 + 1, (lookBox m (.slice (some ⟨b, off, none⟩) rs.length c1) (.slice A2 ls.length c2) (.slice A3 p3 c3) (.map (some (w.heap.size + 1 + 1)))))] X2) ?reg5 ?aft5
      case reg5 =>
        by_cases q0 : farI rx.tk ry.tk ≤ m.win
        · cases q1 : tellsB m.fall ls rx ry
          · have HV := Lib.hid (show alarmB m.fall m.win ls rx ry = tellsB m.fall ls ry rx by simp [alarmB, q0, q1])
            rw [q1] at HT1
            clear q1
            refine hx_start [(1, fun w' : World => ∀ o, w'.cell? ⟨p, o, none⟩ = #[Value.int .i64 rx.st, .int .i64 rx.tk, .int .i64 rx.pr, .int .i64 rx.dlo, .int .i64 rx.dhi, .int .i64 rx.ur, .int .i64 rx.co][o]?), (3, fun w' : World => ∀ o, w'.cell? ⟨q, o, none⟩ = #[Value.int .i64 ry.st, .int .i64 ry.tk, .int .i64 ry.pr, .int .i64 ry.dlo, .int .i64 ry.dhi, .int .i64 ry.ur, .int .i64 ry.co][o]?), (7, fun w' : World => ∀ o, w'.cell? ⟨w.heap.size + 1 + 1 + 1, o, none⟩ = #[Value.int .i64 m.n, (.slice (some ⟨b, off, none⟩) rs.length c1), (.slice A2 ls.length c2), (.slice A3 p3 c3), .int .i64 m.fall, .int .i64 m.win, .int .i64 m.hold, .int .i64 m.dawn, .int .i64 m.dusk, (.map (some (w.heap.size + 1 + 1)))][o]?), (10, fun w' : World => ∀ o, w'.cell? ⟨w.heap.size + 1 + 1 + 1, o, none⟩ = #[Value.int .i64 m.n, (.slice (some ⟨b, off, none⟩) rs.length c1), (.slice A2 ls.length c2), (.slice A3 p3 c3), .int .i64 m.fall, .int .i64 m.win, .int .i64 m.hold, .int .i64 m.dawn, .int .i64 m.dusk, (.map (some (w.heap.size + 1 + 1)))][o]?), (11, fun w' : World => ∀ o, w'.cell? ⟨p, o, none⟩ = #[Value.int .i64 rx.st, .int .i64 rx.tk, .int .i64 rx.pr, .int .i64 rx.dlo, .int .i64 rx.dhi, .int .i64 rx.ur, .int .i64 rx.co][o]?), (12, fun w' : World => ∀ o, w'.cell? ⟨q, o, none⟩ = #[Value.int .i64 ry.st, .int .i64 ry.tk, .int .i64 ry.pr, .int .i64 ry.dlo, .int .i64 ry.dhi, .int .i64 ry.ur, .int .i64 ry.co][o]?), (15, fun w' : World => ∀ o, w'.cell? ⟨w.heap.size + 1 + 1 + 1, o, none⟩ = #[Value.int .i64 m.n, (.slice (some ⟨b, off, none⟩) rs.length c1), (.slice A2 ls.length c2), (.slice A3 p3 c3), .int .i64 m.fall, .int .i64 m.win, .int .i64 m.hold, .int .i64 m.dawn, .int .i64 m.dusk, (.map (some (w.heap.size + 1 + 1)))][o]?), (16, fun w' : World => ∀ o, w'.cell? ⟨q, o, none⟩ = #[Value.int .i64 ry.st, .int .i64 ry.tk, .int .i64 ry.pr, .int .i64 ry.dlo, .int .i64 ry.dhi, .int .i64 ry.ur, .int .i64 ry.co][o]?), (17, fun w' : World => ∀ o, w'.cell? ⟨p, o, none⟩ = #[Value.int .i64 rx.st, .int .i64 rx.tk, .int .i64 rx.pr, .int .i64 rx.dlo, .int .i64 rx.dhi, .int .i64 rx.ur, .int .i64 rx.co][o]?)] (by kernel_rfl) (fM ⟨HR.out.drew.frm.cells (mS mZ), fM ⟨HR.out.drew.frm.cells mZ, fM ⟨HR.out.drew.frm.cells (mS (mS (mS mZ))), fM ⟨HR.out.drew.frm.cells (mS (mS (mS mZ))), fM ⟨HR.out.drew.frm.cells (mS mZ), fM ⟨HR.out.drew.frm.cells mZ, fM ⟨HR.out.drew.frm.cells (mS (mS (mS mZ))), fM ⟨HR.out.drew.frm.cells mZ, fM ⟨HR.out.drew.frm.cells (mS mZ), (by simp)⟩⟩⟩⟩⟩⟩⟩⟩⟩) ?_
            refine (fun (W66 : World) (hRn : RW X _ [(q, (.cells #[.int .i64 ry.st, .int .i64 ry.tk, .int .i64 ry.pr, .int .i64 ry.dlo, .int .i64 ry.dhi, .int .i64 ry.ur, .int .i64 ry.co] 77)), (p, (.cells #[.int .i64 rx.st, .int .i64 rx.tk, .int .i64 rx.pr, .int .i64 rx.dlo, .int .i64 rx.dhi, .int .i64 rx.ur, .int .i64 rx.co] 77)), (Bx, (.cells #[.int .i64 i, .int .i64 k] 86)), (w.heap.size + 1 + 1 + 1, (lookBox m (.slice (some ⟨b, off, none⟩) rs.length c1) (.slice A2 ls.length c2) (.slice A3 p3 c3) (.map (some (w.heap.size + 1 + 1)))))] [] W66) (hzW66 : Hid (W66.heap.size = X1.heap.size)) => (?_ : HX _ _ _ _ _ _ _ _ W66)) _ HR.out.drew (Lib.hid rfl)
            clear HR
            have HR := Lib.hid hRn
            clear hRn
            refine hx_pure (i := 0) (oi := ⟨some 27, _, _, _, _, _⟩) (v := ?v67) rfl (by kernel_rfl) (by kernel_rfl) (by kernel_rfl) (by kernel_rfl) (fun _ _ _ h => h) rfl (by kernel_rfl) ?hv67 ?rv67
            case hv67 => (intro w; go_simp) <;> (with_reducible rfl)
            try simp only [Act.put, List.setIfInBounds_toArray, List.set_cons_zero, List.set_cons_succ]
            refine hx_load (i := 1) (oi := ⟨some 28, _, _, _, _, _⟩) (v := ?v68) _ mZ rfl (by kernel_rfl) (by kernel_rfl) (by kernel_rfl) (by kernel_rfl) (fun _ _ _ h => h) rfl (by kernel_rfl) ?hv68 ?rv68
            case hv68 => (intro w hSw; (try dsimp only at hSw); go_simp) <;> (with_reducible rfl)
            try simp only [Act.put, List.setIfInBounds_toArray, List.set_cons_zero, List.set_cons_succ]
            refine hx_pure (i := 2) (oi := ⟨some 29, _, _, _, _, _⟩) (v := ?v69) rfl (by kernel_rfl) (by kernel_rfl) (by kernel_rfl) (by kernel_rfl) (fun _ _ _ h => h) rfl (by kernel_rfl) ?hv69 ?rv69
            case hv69 => (intro w; go_simp) <;> (with_reducible rfl)
            try simp only [Act.put, List.setIfInBounds_toArray, List.set_cons_zero, List.set_cons_succ]
            refine hx_load (i := 3) (oi := ⟨some 30, _, _, _, _, _⟩) (v := ?v70) _ (mS mZ) rfl (by kernel_rfl) (by kernel_rfl) (by kernel_rfl) (by kernel_rfl) (fun _ _ _ h => h) rfl (by kernel_rfl) ?hv70 ?rv70
            case hv70 => (intro w hSw; (try dsimp only at hSw); go_simp) <;> (with_reducible rfl)
            try simp only [Act.put, List.setIfInBounds_toArray, List.set_cons_zero, List.set_cons_succ]
            refine hx_pure (i := 5) (oi := ⟨some 32, _, _, _, _, _⟩) (v := ?v71) rfl (by kernel_rfl) (by kernel_rfl) (by kernel_rfl) (by kernel_rfl) (fun _ _ _ h => h) rfl (by kernel_rfl) ?hv71 ?rv71
            case hv71 => (intro w; go_simp) <;> (with_reducible rfl)
            try simp only [Act.put, List.setIfInBounds_toArray, List.set_cons_zero, List.set_cons_succ]
            refine hx_pure (i := 6) (oi := ⟨some 33, _, _, _, _, _⟩) (v := ?v72) rfl (by kernel_rfl) (by kernel_rfl) (by kernel_rfl) (by kernel_rfl) (fun _ _ _ h => h) rfl (by kernel_rfl) ?hv72 ?rv72
            case hv72 => (intro w; go_simp) <;> (with_reducible rfl)
            try simp only [Act.put, List.setIfInBounds_toArray, List.set_cons_zero, List.set_cons_succ]
            refine hx_load (i := 7) (oi := ⟨some 34, _, _, _, _, _⟩) (v := ?v73) _ (mS (mS mZ)) rfl (by kernel_rfl) (by kernel_rfl) (by kernel_rfl) (by kernel_rfl) (fun _ _ _ h => h) rfl (by kernel_rfl) ?hv73 ?rv73
            case hv73 => (intro w hSw; (try dsimp only at hSw); go_simp) <;> (with_reducible rfl)
            try simp only [Act.put, List.setIfInBounds_toArray, List.set_cons_zero, List.set_cons_succ]
            refine hx_ready (rs := [4]) (by kernel_rfl) (by simp) ?_
            refine AllHX.cons (i := 4) (o := ⟨some 31, _, _, _, _, _⟩) rfl rfl (by kernel_rfl) (fun K hK => ?s74) ?ms74
            case s74 =>
              (try go_simp)
              go_at_call 88
              refine (HFA.out _).mono ?_
              rintro e W9 ⟨rfl, rfl⟩
              (try go_wp2_with fail)
              refine hK.out _ _ (fM ⟨.inl (by kernel_rfl), fM ⟨.inl (by kernel_rfl), fM ⟨.inr (HR.out.frm.cells (mS (mS (mS mZ)))), fM ⟨.inr (HR.out.frm.cells (mS (mS (mS mZ)))), fM ⟨.inr (HR.out.frm.cells (mS mZ)), fM ⟨.inr (HR.out.frm.cells mZ), fM ⟨.inr (HR.out.frm.cells (mS (mS (mS mZ)))), fM ⟨.inr (HR.out.frm.cells mZ), fM ⟨.inr (HR.out.frm.cells (mS mZ)), (by simp)⟩⟩⟩⟩⟩⟩⟩⟩⟩) ?_
              refine hx_pure (i := 8) (oi := ⟨some 35, _, _, _, _, _⟩) (v := ?v75) rfl (by kernel_rfl) (by kernel_rfl) (by kernel_rfl) (by kernel_rfl) (fun _ _ _ h => h) rfl (by kernel_rfl) ?hv75 ?rv75
              case hv75 => (intro w; go_simp) <;> (with_reducible rfl)
              try simp only [Act.put, List.setIfInBounds_toArray, List.set_cons_zero, List.set_cons_succ]
              refine hx_pure (i := 9) (oi := ⟨some 36, _, _, _, _, _⟩) (v := ?v76) rfl (by kernel_rfl) (by kernel_rfl) (by kernel_rfl) (by kernel_rfl) (fun _ _ _ h => h) rfl (by kernel_rfl) ?hv76 ?rv76
              case hv76 => (intro w; go_simp) <;> (with_reducible rfl)
              try simp only [Act.put, List.setIfInBounds_toArray, List.set_cons_zero, List.set_cons_succ]
              refine hx_load (i := 10) (oi := ⟨some 37, _, _, _, _, _⟩) (v := ?v77) _ (mS (mS (mS mZ))) rfl (by kernel_rfl) (by kernel_rfl) (by kernel_rfl) (by kernel_rfl) (fun _ _ _ h => h) rfl (by kernel_rfl) ?hv77 ?rv77
              case hv77 => (intro w hSw; (try dsimp only at hSw); go_simp) <;> (with_reducible rfl)
              try simp only [Act.put, List.setIfInBounds_toArray, List.set_cons_zero, List.set_cons_succ]
              refine hx_load (i := 11) (oi := ⟨some 38, _, _, _, _, _⟩) (v := ?v78) _ (mS (mS (mS (mS mZ)))) rfl (by kernel_rfl) (by kernel_rfl) (by kernel_rfl) (by kernel_rfl) (fun _ _ _ h => h) rfl (by kernel_rfl) ?hv78 ?rv78
              case hv78 => (intro w hSw; (try dsimp only at hSw); go_simp) <;> (with_reducible rfl)
              try simp only [Act.put, List.setIfInBounds_toArray, List.set_cons_zero, List.set_cons_succ]
              refine hx_load (i := 12) (oi := ⟨some 39, _, _, _, _, _⟩) (v := ?v79) _ (mS (mS (mS (mS (mS mZ))))) rfl (by kernel_rfl) (by kernel_rfl) (by kernel_rfl) (by kernel_rfl) (fun _ _ _ h => h) rfl (by kernel_rfl) ?hv79 ?rv79
              case hv79 => (intro w hSw; (try dsimp only at hSw); go_simp) <;> (with_reducible rfl)
              try simp only [Act.put, List.setIfInBounds_toArray, List.set_cons_zero, List.set_cons_succ]
              refine hx_ready (rs := [13]) (by kernel_rfl) (by simp) ?_
              refine AllHX.cons (i := 13) (o := ⟨some 40, _, _, _, _, _⟩) rfl rfl (by kernel_rfl) (fun K hK => ?s80) ?ms80
              case s80 =>
                (try go_simp)
                go_at_call 89
                refine (HT1.out _ HR.out.frm.b).mono ?_
                rintro e W81 ⟨rfl, hbd1⟩
                have hRn := HR.out.below hbd1
                have hzW81 : Hid (W66.heap.size ≤ W81.heap.size) := Lib.hid hbd1.size
                clear HR hbd1
                have HR := Lib.hid hRn
                clear hRn
                (try go_wp2_with fail)
                refine hK.out _ _ (fM ⟨.inl (by kernel_rfl), fM ⟨.inl (by kernel_rfl), fM ⟨.inl (by kernel_rfl), fM ⟨.inl (by kernel_rfl), fM ⟨.inl (by kernel_rfl), fM ⟨.inl (by kernel_rfl), fM ⟨.inr (HR.out.frm.cells (mS (mS (mS mZ)))), fM ⟨.inr (HR.out.frm.cells mZ), fM ⟨.inr (HR.out.frm.cells (mS mZ)), (by simp)⟩⟩⟩⟩⟩⟩⟩⟩⟩) ?_
                refine hx_pure (i := 14) (oi := ⟨some 41, _, _, _, _, _⟩) (v := ?v82) rfl (by kernel_rfl) (by kernel_rfl) (by kernel_rfl) (by kernel_rfl) (fun _ _ _ h => h) rfl (by kernel_rfl) ?hv82 ?rv82
                case hv82 => (intro w; go_simp) <;> (with_reducible rfl)
                try simp only [Act.put, List.setIfInBounds_toArray, List.set_cons_zero, List.set_cons_succ]
                refine hx_load (i := 15) (oi := ⟨some 42, _, _, _, _, _⟩) (v := ?v83) _ (mS (mS (mS (mS (mS (mS mZ)))))) rfl (by kernel_rfl) (by kernel_rfl) (by kernel_rfl) (by kernel_rfl) (fun _ _ _ h => h) rfl (by kernel_rfl) ?hv83 ?rv83
                case hv83 => (intro w hSw; (try dsimp only at hSw); go_simp) <;> (with_reducible rfl)
                try simp only [Act.put, List.setIfInBounds_toArray, List.set_cons_zero, List.set_cons_succ]
                refine hx_load (i := 16) (oi := ⟨some 43, _, _, _, _, _⟩) (v := ?v84) _ (mS (mS (mS (mS (mS (mS (mS mZ))))))) rfl (by kernel_rfl) (by kernel_rfl) (by kernel_rfl) (by kernel_rfl) (fun _ _ _ h => h) rfl (by kernel_rfl) ?hv84 ?rv84
                case hv84 => (intro w hSw; (try dsimp only at hSw); go_simp) <;> (with_reducible rfl)
                try simp only [Act.put, List.setIfInBounds_toArray, List.set_cons_zero, List.set_cons_succ]
                refine hx_load (i := 17) (oi := ⟨some 44, _, _, _, _, _⟩) (v := ?v85) _ (mS (mS (mS (mS (mS (mS (mS (mS mZ)))))))) rfl (by kernel_rfl) (by kernel_rfl) (by kernel_rfl) (by kernel_rfl) (fun _ _ _ h => h) rfl (by kernel_rfl) ?hv85 ?rv85
                case hv85 => (intro w hSw; (try dsimp only at hSw); go_simp) <;> (with_reducible rfl)
                try simp only [Act.put, List.setIfInBounds_toArray, List.set_cons_zero, List.set_cons_succ]
                refine hx_ready (rs := [18]) (by kernel_rfl) (by simp) ?_
                refine AllHX.cons (i := 18) (o := ⟨some 45, _, _, _, _, _⟩) rfl rfl (by kernel_rfl) (fun K hK => ?s86) ?ms86
                case s86 =>
                  (try go_simp)
                  go_at_call 89
                  refine (HT2.out _ HR.out.frm.b).mono ?_
                  rintro e W87 ⟨rfl, hbd1⟩
                  have hRn := HR.out.below hbd1
                  have hzW87 : Hid (W81.heap.size ≤ W87.heap.size) := Lib.hid hbd1.size
                  clear HR hbd1
                  have HR := Lib.hid hRn
                  clear hRn
                  (try go_wp2_with fail)
                  refine hK.out _ _ (fM ⟨.inl (by kernel_rfl), fM ⟨.inl (by kernel_rfl), fM ⟨.inl (by kernel_rfl), fM ⟨.inl (by kernel_rfl), fM ⟨.inl (by kernel_rfl), fM ⟨.inl (by kernel_rfl), fM ⟨.inl (by kernel_rfl), fM ⟨.inl (by kernel_rfl), fM ⟨.inl (by kernel_rfl), (by simp)⟩⟩⟩⟩⟩⟩⟩⟩⟩) ?_
                  refine hx_pure (i := 19) (oi := ⟨some 46, _, _, _, _, _⟩) (v := ?v88) rfl (by kernel_rfl) (by kernel_rfl) (by kernel_rfl) (by kernel_rfl) (fun _ _ _ h => h) rfl (by kernel_rfl) ?hv88 ?rv88
                  case hv88 => (intro w; go_simp) <;> (with_reducible rfl)
                  try simp only [Act.put, List.setIfInBounds_toArray, List.set_cons_zero, List.set_cons_succ]
                  refine hx_pure (i := 20) (oi := ⟨some 47, _, _, _, _, _⟩) (v := ?v89) rfl (by kernel_rfl) (by kernel_rfl) (by kernel_rfl) (by kernel_rfl) (fun _ _ _ h => h) rfl (by kernel_rfl) ?hv89 ?rv89
                  case hv89 => (intro w; go_simp) <;> (with_reducible rfl)
                  try simp only [Act.put, List.setIfInBounds_toArray, List.set_cons_zero, List.set_cons_succ]
                  refine hx_done (by kernel_rfl) ?_
                  exact ⟨_, _, _, _, _, _, _, _, _, _, _, _, _, _, _, _, _, _, _, _, _, _, _, _, _, _, _, _, _, _, _, _, _, _, _, _, _, _, _, _, _, _, by rw [HV.out], (RW.less (bs' := [(Bx, (.cells #[.int .i64 i, .int .i64 k] 86)), (w.heap.size + 1 + 1 + 1, (lookBox m (.slice (some ⟨b, off, none⟩) rs.length c1) (.slice A2 ls.length c2) (.slice A3 p3 c3) (.map (some (w.heap.size + 1 + 1)))))]) HR.out (by simp only [List.forall_mem_cons, List.forall_mem_nil, and_true]; exact ⟨(mS (mS mZ)), (mS (mS (mS mZ))), by simp⟩)).frm⟩
                exact AllHX.nil
              exact AllHX.nil
            exact AllHX.nil
          · have HV := Lib.hid (show alarmB m.fall m.win ls rx ry = true by simp [alarmB, q0, q1])
            rw [q1] at HT1
            clear q1
            refine hx_start [(1, fun w' : World => ∀ o, w'.cell? ⟨p, o, none⟩ = #[Value.int .i64 rx.st, .int .i64 rx.tk, .int .i64 rx.pr, .int .i64 rx.dlo, .int .i64 rx.dhi, .int .i64 rx.ur, .int .i64 rx.co][o]?), (3, fun w' : World => ∀ o, w'.cell? ⟨q, o, none⟩ = #[Value.int .i64 ry.st, .int .i64 ry.tk, .int .i64 ry.pr, .int .i64 ry.dlo, .int .i64 ry.dhi, .int .i64 ry.ur, .int .i64 ry.co][o]?), (7, fun w' : World => ∀ o, w'.cell? ⟨w.heap.size + 1 + 1 + 1, o, none⟩ = #[Value.int .i64 m.n, (.slice (some ⟨b, off, none⟩) rs.length c1), (.slice A2 ls.length c2), (.slice A3 p3 c3), .int .i64 m.fall, .int .i64 m.win, .int .i64 m.hold, .int .i64 m.dawn, .int .i64 m.dusk, (.map (some (w.heap.size + 1 + 1)))][o]?), (10, fun w' : World => ∀ o, w'.cell? ⟨w.heap.size + 1 + 1 + 1, o, none⟩ = #[Value.int .i64 m.n, (.slice (some ⟨b, off, none⟩) rs.length c1), (.slice A2 ls.length c2), (.slice A3 p3 c3), .int .i64 m.fall, .int .i64 m.win, .int .i64 m.hold, .int .i64 m.dawn, .int .i64 m.dusk, (.map (some (w.heap.size + 1 + 1)))][o]?), (11, fun w' : World => ∀ o, w'.cell? ⟨p, o, none⟩ = #[Value.int .i64 rx.st, .int .i64 rx.tk, .int .i64 rx.pr, .int .i64 rx.dlo, .int .i64 rx.dhi, .int .i64 rx.ur, .int .i64 rx.co][o]?), (12, fun w' : World => ∀ o, w'.cell? ⟨q, o, none⟩ = #[Value.int .i64 ry.st, .int .i64 ry.tk, .int .i64 ry.pr, .int .i64 ry.dlo, .int .i64 ry.dhi, .int .i64 ry.ur, .int .i64 ry.co][o]?)] (by kernel_rfl) (fM ⟨HR.out.drew.frm.cells (mS mZ), fM ⟨HR.out.drew.frm.cells mZ, fM ⟨HR.out.drew.frm.cells (mS (mS (mS mZ))), fM ⟨HR.out.drew.frm.cells (mS (mS (mS mZ))), fM ⟨HR.out.drew.frm.cells (mS mZ), fM ⟨HR.out.drew.frm.cells mZ, (by simp)⟩⟩⟩⟩⟩⟩) ?_
            refine (fun (W46 : World) (hRn : RW X _ [(q, (.cells #[.int .i64 ry.st, .int .i64 ry.tk, .int .i64 ry.pr, .int .i64 ry.dlo, .int .i64 ry.dhi, .int .i64 ry.ur, .int .i64 ry.co] 77)), (p, (.cells #[.int .i64 rx.st, .int .i64 rx.tk, .int .i64 rx.pr, .int .i64 rx.dlo, .int .i64 rx.dhi, .int .i64 rx.ur, .int .i64 rx.co] 77)), (Bx, (.cells #[.int .i64 i, .int .i64 k] 86)), (w.heap.size + 1 + 1 + 1, (lookBox m (.slice (some ⟨b, off, none⟩) rs.length c1) (.slice A2 ls.length c2) (.slice A3 p3 c3) (.map (some (w.heap.size + 1 + 1)))))] [] W46) (hzW46 : Hid (W46.heap.size = X1.heap.size)) => (?_ : HX _ _ _ _ _ _ _ _ W46)) _ HR.out.drew (Lib.hid rfl)
            clear HR
            have HR := Lib.hid hRn
            clear hRn
            refine hx_pure (i := 0) (oi := ⟨some 27, _, _, _, _, _⟩) (v := ?v47) rfl (by kernel_rfl) (by kernel_rfl) (by kernel_rfl) (by kernel_rfl) (fun _ _ _ h => h) rfl (by kernel_rfl) ?hv47 ?rv47
            case hv47 => (intro w; go_simp) <;> (with_reducible rfl)
            try simp only [Act.put, List.setIfInBounds_toArray, List.set_cons_zero, List.set_cons_succ]
            refine hx_load (i := 1) (oi := ⟨some 28, _, _, _, _, _⟩) (v := ?v48) _ mZ rfl (by kernel_rfl) (by kernel_rfl) (by kernel_rfl) (by kernel_rfl) (fun _ _ _ h => h) rfl (by kernel_rfl) ?hv48 ?rv48
            case hv48 => (intro w hSw; (try dsimp only at hSw); go_simp) <;> (with_reducible rfl)
            try simp only [Act.put, List.setIfInBounds_toArray, List.set_cons_zero, List.set_cons_succ]
            refine hx_pure (i := 2) (oi := ⟨some 29, _, _, _, _, _⟩) (v := ?v49) rfl (by kernel_rfl) (by kernel_rfl) (by kernel_rfl) (by kernel_rfl) (fun _ _ _ h => h) rfl (by kernel_rfl) ?hv49 ?rv49
            case hv49 => (intro w; go_simp) <;> (with_reducible rfl)
            try simp only [Act.put, List.setIfInBounds_toArray, List.set_cons_zero, List.set_cons_succ]
            refine hx_load (i := 3) (oi := ⟨some 30, _, _, _, _, _⟩) (v := ?v50) _ (mS mZ) rfl (by kernel_rfl) (by kernel_rfl) (by kernel_rfl) (by kernel_rfl) (fun _ _ _ h => h) rfl (by kernel_rfl) ?hv50 ?rv50
            case hv50 => (intro w hSw; (try dsimp only at hSw); go_simp) <;> (with_reducible rfl)
            try simp only [Act.put, List.setIfInBounds_toArray, List.set_cons_zero, List.set_cons_succ]
            refine hx_pure (i := 5) (oi := ⟨some 32, _, _, _, _, _⟩) (v := ?v51) rfl (by kernel_rfl) (by kernel_rfl) (by kernel_rfl) (by kernel_rfl) (fun _ _ _ h => h) rfl (by kernel_rfl) ?hv51 ?rv51
            case hv51 => (intro w; go_simp) <;> (with_reducible rfl)
            try simp only [Act.put, List.setIfInBounds_toArray, List.set_cons_zero, List.set_cons_succ]
            refine hx_pure (i := 6) (oi := ⟨some 33, _, _, _, _, _⟩) (v := ?v52) rfl (by kernel_rfl) (by kernel_rfl) (by kernel_rfl) (by kernel_rfl) (fun _ _ _ h => h) rfl (by kernel_rfl) ?hv52 ?rv52
            case hv52 => (intro w; go_simp) <;> (with_reducible rfl)
            try simp only [Act.put, List.setIfInBounds_toArray, List.set_cons_zero, List.set_cons_succ]
            refine hx_load (i := 7) (oi := ⟨some 34, _, _, _, _, _⟩) (v := ?v53) _ (mS (mS mZ)) rfl (by kernel_rfl) (by kernel_rfl) (by kernel_rfl) (by kernel_rfl) (fun _ _ _ h => h) rfl (by kernel_rfl) ?hv53 ?rv53
            case hv53 => (intro w hSw; (try dsimp only at hSw); go_simp) <;> (with_reducible rfl)
            try simp only [Act.put, List.setIfInBounds_toArray, List.set_cons_zero, List.set_cons_succ]
            refine hx_ready (rs := [4]) (by kernel_rfl) (by simp) ?_
            refine AllHX.cons (i := 4) (o := ⟨some 31, _, _, _, _, _⟩) rfl rfl (by kernel_rfl) (fun K hK => ?s54) ?ms54
            case s54 =>
              (try go_simp)
              go_at_call 88
              refine (HFA.out _).mono ?_
              rintro e W9 ⟨rfl, rfl⟩
              (try go_wp2_with fail)
              refine hK.out _ _ (fM ⟨.inl (by kernel_rfl), fM ⟨.inl (by kernel_rfl), fM ⟨.inr (HR.out.frm.cells (mS (mS (mS mZ)))), fM ⟨.inr (HR.out.frm.cells (mS (mS (mS mZ)))), fM ⟨.inr (HR.out.frm.cells (mS mZ)), fM ⟨.inr (HR.out.frm.cells mZ), (by simp)⟩⟩⟩⟩⟩⟩) ?_
              refine hx_pure (i := 8) (oi := ⟨some 35, _, _, _, _, _⟩) (v := ?v55) rfl (by kernel_rfl) (by kernel_rfl) (by kernel_rfl) (by kernel_rfl) (fun _ _ _ h => h) rfl (by kernel_rfl) ?hv55 ?rv55
              case hv55 => (intro w; go_simp) <;> (with_reducible rfl)
              try simp only [Act.put, List.setIfInBounds_toArray, List.set_cons_zero, List.set_cons_succ]
              refine hx_pure (i := 9) (oi := ⟨some 36, _, _, _, _, _⟩) (v := ?v56) rfl (by kernel_rfl) (by kernel_rfl) (by kernel_rfl) (by kernel_rfl) (fun _ _ _ h => h) rfl (by kernel_rfl) ?hv56 ?rv56
              case hv56 => (intro w; go_simp) <;> (with_reducible rfl)
              try simp only [Act.put, List.setIfInBounds_toArray, List.set_cons_zero, List.set_cons_succ]
              refine hx_load (i := 10) (oi := ⟨some 37, _, _, _, _, _⟩) (v := ?v57) _ (mS (mS (mS mZ))) rfl (by kernel_rfl) (by kernel_rfl) (by kernel_rfl) (by kernel_rfl) (fun _ _ _ h => h) rfl (by kernel_rfl) ?hv57 ?rv57
              case hv57 => (intro w hSw; (try dsimp only at hSw); go_simp) <;> (with_reducible rfl)
              try simp only [Act.put, List.setIfInBounds_toArray, List.set_cons_zero, List.set_cons_succ]
              refine hx_load (i := 11) (oi := ⟨some 38, _, _, _, _, _⟩) (v := ?v58) _ (mS (mS (mS (mS mZ)))) rfl (by kernel_rfl) (by kernel_rfl) (by kernel_rfl) (by kernel_rfl) (fun _ _ _ h => h) rfl (by kernel_rfl) ?hv58 ?rv58
              case hv58 => (intro w hSw; (try dsimp only at hSw); go_simp) <;> (with_reducible rfl)
              try simp only [Act.put, List.setIfInBounds_toArray, List.set_cons_zero, List.set_cons_succ]
              refine hx_load (i := 12) (oi := ⟨some 39, _, _, _, _, _⟩) (v := ?v59) _ (mS (mS (mS (mS (mS mZ))))) rfl (by kernel_rfl) (by kernel_rfl) (by kernel_rfl) (by kernel_rfl) (fun _ _ _ h => h) rfl (by kernel_rfl) ?hv59 ?rv59
              case hv59 => (intro w hSw; (try dsimp only at hSw); go_simp) <;> (with_reducible rfl)
              try simp only [Act.put, List.setIfInBounds_toArray, List.set_cons_zero, List.set_cons_succ]
              refine hx_ready (rs := [13]) (by kernel_rfl) (by simp) ?_
              refine AllHX.cons (i := 13) (o := ⟨some 40, _, _, _, _, _⟩) rfl rfl (by kernel_rfl) (fun K hK => ?s60) ?ms60
              case s60 =>
                (try go_simp)
                go_at_call 89
                refine (HT1.out _ HR.out.frm.b).mono ?_
                rintro e W61 ⟨rfl, hbd1⟩
                have hRn := HR.out.below hbd1
                have hzW61 : Hid (W46.heap.size ≤ W61.heap.size) := Lib.hid hbd1.size
                clear HR hbd1
                have HR := Lib.hid hRn
                clear hRn
                (try go_wp2_with fail)
                refine hK.out _ _ (fM ⟨.inl (by kernel_rfl), fM ⟨.inl (by kernel_rfl), fM ⟨.inl (by kernel_rfl), fM ⟨.inl (by kernel_rfl), fM ⟨.inl (by kernel_rfl), fM ⟨.inl (by kernel_rfl), (by simp)⟩⟩⟩⟩⟩⟩) ?_
                refine hx_pure (i := 14) (oi := ⟨some 41, _, _, _, _, _⟩) (v := ?v62) rfl (by kernel_rfl) (by kernel_rfl) (by kernel_rfl) (by kernel_rfl) (fun _ _ _ h => h) rfl (by kernel_rfl) ?hv62 ?rv62
                case hv62 => (intro w; go_simp) <;> (with_reducible rfl)
                try simp only [Act.put, List.setIfInBounds_toArray, List.set_cons_zero, List.set_cons_succ]
                refine hx_skip (i := 15) (oi := ⟨some 42, _, _, _, _, _⟩) rfl (by kernel_rfl) (by kernel_rfl) (by kernel_rfl) (by kernel_rfl) (fun _ _ _ h => h) rfl (by kernel_rfl) ?_
                try simp only [Act.put, List.setIfInBounds_toArray, List.set_cons_zero, List.set_cons_succ]
                refine hx_skip (i := 16) (oi := ⟨some 43, _, _, _, _, _⟩) rfl (by kernel_rfl) (by kernel_rfl) (by kernel_rfl) (by kernel_rfl) (fun _ _ _ h => h) rfl (by kernel_rfl) ?_
                try simp only [Act.put, List.setIfInBounds_toArray, List.set_cons_zero, List.set_cons_succ]
                refine hx_skip (i := 17) (oi := ⟨some 44, _, _, _, _, _⟩) rfl (by kernel_rfl) (by kernel_rfl) (by kernel_rfl) (by kernel_rfl) (fun _ _ _ h => h) rfl (by kernel_rfl) ?_
                try simp only [Act.put, List.setIfInBounds_toArray, List.set_cons_zero, List.set_cons_succ]
                refine hx_ready (rs := [18]) (by kernel_rfl) (by simp) ?_
                refine AllHX.skip (i := 18) (o := ⟨some 45, _, _, _, _, _⟩) rfl (by kernel_rfl) (fun K hK => ?s63) ?ms63
                case s63 =>
                  refine hK.out _ _ (fM ⟨.inl (by kernel_rfl), fM ⟨.inl (by kernel_rfl), fM ⟨.inl (by kernel_rfl), fM ⟨.inl (by kernel_rfl), fM ⟨.inl (by kernel_rfl), fM ⟨.inl (by kernel_rfl), (by simp)⟩⟩⟩⟩⟩⟩) ?_
                  try simp only [Act.put, List.setIfInBounds_toArray, List.set_cons_zero, List.set_cons_succ]
                  refine hx_pure (i := 19) (oi := ⟨some 46, _, _, _, _, _⟩) (v := ?v64) rfl (by kernel_rfl) (by kernel_rfl) (by kernel_rfl) (by kernel_rfl) (fun _ _ _ h => h) rfl (by kernel_rfl) ?hv64 ?rv64
                  case hv64 => (intro w; go_simp) <;> (with_reducible rfl)
                  try simp only [Act.put, List.setIfInBounds_toArray, List.set_cons_zero, List.set_cons_succ]
                  refine hx_pure (i := 20) (oi := ⟨some 47, _, _, _, _, _⟩) (v := ?v65) rfl (by kernel_rfl) (by kernel_rfl) (by kernel_rfl) (by kernel_rfl) (fun _ _ _ h => h) rfl (by kernel_rfl) ?hv65 ?rv65
                  case hv65 => (intro w; go_simp) <;> (with_reducible rfl)
                  try simp only [Act.put, List.setIfInBounds_toArray, List.set_cons_zero, List.set_cons_succ]
                  refine hx_done (by kernel_rfl) ?_
                  exact ⟨_, _, _, _, _, _, _, _, _, _, _, _, _, _, _, _, _, _, _, _, _, _, _, _, _, _, _, _, _, _, _, _, _, _, _, _, _, _, _, _, _, _, by rw [HV.out], (RW.less (bs' := [(Bx, (.cells #[.int .i64 i, .int .i64 k] 86)), (w.heap.size + 1 + 1 + 1, (lookBox m (.slice (some ⟨b, off, none⟩) rs.length c1) (.slice A2 ls.length c2) (.slice A3 p3 c3) (.map (some (w.heap.size + 1 + 1)))))]) HR.out (by simp only [List.forall_mem_cons, List.forall_mem_nil, and_true]; exact ⟨(mS (mS mZ)), (mS (mS (mS mZ))), by simp⟩)).frm⟩
                exact AllHX.nil
              exact AllHX.nil
            exact AllHX.nil
        · have HV := Lib.hid (show alarmB m.fall m.win ls rx ry = false by simp [alarmB, q0])
          have q9 : decide (farI rx.tk ry.tk ≤ m.win) = false := by simp [q0]
          refine hx_start [(1, fun w' : World => ∀ o, w'.cell? ⟨p, o, none⟩ = #[Value.int .i64 rx.st, .int .i64 rx.tk, .int .i64 rx.pr, .int .i64 rx.dlo, .int .i64 rx.dhi, .int .i64 rx.ur, .int .i64 rx.co][o]?), (3, fun w' : World => ∀ o, w'.cell? ⟨q, o, none⟩ = #[Value.int .i64 ry.st, .int .i64 ry.tk, .int .i64 ry.pr, .int .i64 ry.dlo, .int .i64 ry.dhi, .int .i64 ry.ur, .int .i64 ry.co][o]?), (7, fun w' : World => ∀ o, w'.cell? ⟨w.heap.size + 1 + 1 + 1, o, none⟩ = #[Value.int .i64 m.n, (.slice (some ⟨b, off, none⟩) rs.length c1), (.slice A2 ls.length c2), (.slice A3 p3 c3), .int .i64 m.fall, .int .i64 m.win, .int .i64 m.hold, .int .i64 m.dawn, .int .i64 m.dusk, (.map (some (w.heap.size + 1 + 1)))][o]?)] (by kernel_rfl) (fM ⟨HR.out.drew.frm.cells (mS mZ), fM ⟨HR.out.drew.frm.cells mZ, fM ⟨HR.out.drew.frm.cells (mS (mS (mS mZ))), (by simp)⟩⟩⟩) ?_
          refine (fun (W32 : World) (hRn : RW X _ [(q, (.cells #[.int .i64 ry.st, .int .i64 ry.tk, .int .i64 ry.pr, .int .i64 ry.dlo, .int .i64 ry.dhi, .int .i64 ry.ur, .int .i64 ry.co] 77)), (p, (.cells #[.int .i64 rx.st, .int .i64 rx.tk, .int .i64 rx.pr, .int .i64 rx.dlo, .int .i64 rx.dhi, .int .i64 rx.ur, .int .i64 rx.co] 77)), (Bx, (.cells #[.int .i64 i, .int .i64 k] 86)), (w.heap.size + 1 + 1 + 1, (lookBox m (.slice (some ⟨b, off, none⟩) rs.length c1) (.slice A2 ls.length c2) (.slice A3 p3 c3) (.map (some (w.heap.size + 1 + 1)))))] [] W32) (hzW32 : Hid (W32.heap.size = X1.heap.size)) => (?_ : HX _ _ _ _ _ _ _ _ W32)) _ HR.out.drew (Lib.hid rfl)
          clear HR
          have HR := Lib.hid hRn
          clear hRn
          refine hx_pure (i := 0) (oi := ⟨some 27, _, _, _, _, _⟩) (v := ?v33) rfl (by kernel_rfl) (by kernel_rfl) (by kernel_rfl) (by kernel_rfl) (fun _ _ _ h => h) rfl (by kernel_rfl) ?hv33 ?rv33
          case hv33 => (intro w; go_simp) <;> (with_reducible rfl)
          try simp only [Act.put, List.setIfInBounds_toArray, List.set_cons_zero, List.set_cons_succ]
          refine hx_load (i := 1) (oi := ⟨some 28, _, _, _, _, _⟩) (v := ?v34) _ mZ rfl (by kernel_rfl) (by kernel_rfl) (by kernel_rfl) (by kernel_rfl) (fun _ _ _ h => h) rfl (by kernel_rfl) ?hv34 ?rv34
          case hv34 => (intro w hSw; (try dsimp only at hSw); go_simp) <;> (with_reducible rfl)
          try simp only [Act.put, List.setIfInBounds_toArray, List.set_cons_zero, List.set_cons_succ]
          refine hx_pure (i := 2) (oi := ⟨some 29, _, _, _, _, _⟩) (v := ?v35) rfl (by kernel_rfl) (by kernel_rfl) (by kernel_rfl) (by kernel_rfl) (fun _ _ _ h => h) rfl (by kernel_rfl) ?hv35 ?rv35
          case hv35 => (intro w; go_simp) <;> (with_reducible rfl)
          try simp only [Act.put, List.setIfInBounds_toArray, List.set_cons_zero, List.set_cons_succ]
          refine hx_load (i := 3) (oi := ⟨some 30, _, _, _, _, _⟩) (v := ?v36) _ (mS mZ) rfl (by kernel_rfl) (by kernel_rfl) (by kernel_rfl) (by kernel_rfl) (fun _ _ _ h => h) rfl (by kernel_rfl) ?hv36 ?rv36
          case hv36 => (intro w hSw; (try dsimp only at hSw); go_simp) <;> (with_reducible rfl)
          try simp only [Act.put, List.setIfInBounds_toArray, List.set_cons_zero, List.set_cons_succ]
          refine hx_pure (i := 5) (oi := ⟨some 32, _, _, _, _, _⟩) (v := ?v37) rfl (by kernel_rfl) (by kernel_rfl) (by kernel_rfl) (by kernel_rfl) (fun _ _ _ h => h) rfl (by kernel_rfl) ?hv37 ?rv37
          case hv37 => (intro w; go_simp) <;> (with_reducible rfl)
          try simp only [Act.put, List.setIfInBounds_toArray, List.set_cons_zero, List.set_cons_succ]
          refine hx_pure (i := 6) (oi := ⟨some 33, _, _, _, _, _⟩) (v := ?v38) rfl (by kernel_rfl) (by kernel_rfl) (by kernel_rfl) (by kernel_rfl) (fun _ _ _ h => h) rfl (by kernel_rfl) ?hv38 ?rv38
          case hv38 => (intro w; go_simp) <;> (with_reducible rfl)
          try simp only [Act.put, List.setIfInBounds_toArray, List.set_cons_zero, List.set_cons_succ]
          refine hx_load (i := 7) (oi := ⟨some 34, _, _, _, _, _⟩) (v := ?v39) _ (mS (mS mZ)) rfl (by kernel_rfl) (by kernel_rfl) (by kernel_rfl) (by kernel_rfl) (fun _ _ _ h => h) rfl (by kernel_rfl) ?hv39 ?rv39
          case hv39 => (intro w hSw; (try dsimp only at hSw); go_simp) <;> (with_reducible rfl)
          try simp only [Act.put, List.setIfInBounds_toArray, List.set_cons_zero, List.set_cons_succ]
          refine hx_ready (rs := [4]) (by kernel_rfl) (by simp) ?_
          refine AllHX.cons (i := 4) (o := ⟨some 31, _, _, _, _, _⟩) rfl rfl (by kernel_rfl) (fun K hK => ?s40) ?ms40
          case s40 =>
            (try go_simp)
            go_at_call 88
            refine (HFA.out _).mono ?_
            rintro e W9 ⟨rfl, rfl⟩
            (try go_wp2_with fail)
            refine hK.out _ _ (fM ⟨.inl (by kernel_rfl), fM ⟨.inl (by kernel_rfl), fM ⟨.inr (HR.out.frm.cells (mS (mS (mS mZ)))), (by simp)⟩⟩⟩) ?_
            refine hx_pure (i := 8) (oi := ⟨some 35, _, _, _, _, _⟩) (v := ?v41) rfl (by kernel_rfl) (by kernel_rfl) (by kernel_rfl) (by kernel_rfl) (fun _ _ _ h => h) rfl (by kernel_rfl) ?hv41 ?rv41
            case hv41 => (intro w; go_simp) <;> (with_reducible rfl)
            try simp only [Act.put, List.setIfInBounds_toArray, List.set_cons_zero, List.set_cons_succ]
            refine hx_pure (i := 9) (oi := ⟨some 36, _, _, _, _, _⟩) (v := ?v42) rfl (by kernel_rfl) (by kernel_rfl) (by kernel_rfl) (by kernel_rfl) (fun _ _ _ h => h) rfl (by kernel_rfl) ?hv42 ?rv42
            case hv42 => (intro w; go_simp) <;> (with_reducible rfl)
            try simp only [Act.put, List.setIfInBounds_toArray, List.set_cons_zero, List.set_cons_succ]
            refine hx_skip (i := 10) (oi := ⟨some 37, _, _, _, _, _⟩) rfl (by kernel_rfl) (by kernel_rfl) (by kernel_rfl) (by kernel_rfl) (fun _ _ _ h => h) rfl (by kernel_rfl) ?_
            try simp only [Act.put, List.setIfInBounds_toArray, List.set_cons_zero, List.set_cons_succ]
            refine hx_skip (i := 11) (oi := ⟨some 38, _, _, _, _, _⟩) rfl (by kernel_rfl) (by kernel_rfl) (by kernel_rfl) (by kernel_rfl) (fun _ _ _ h => h) rfl (by kernel_rfl) ?_
            try simp only [Act.put, List.setIfInBounds_toArray, List.set_cons_zero, List.set_cons_succ]
            refine hx_skip (i := 12) (oi := ⟨some 39, _, _, _, _, _⟩) rfl (by kernel_rfl) (by kernel_rfl) (by kernel_rfl) (by kernel_rfl) (fun _ _ _ h => h) rfl (by kernel_rfl) ?_
            try simp only [Act.put, List.setIfInBounds_toArray, List.set_cons_zero, List.set_cons_succ]
            refine hx_ready (rs := [13]) (by kernel_rfl) (by simp) ?_
            refine AllHX.skip (i := 13) (o := ⟨some 40, _, _, _, _, _⟩) rfl (by kernel_rfl) (fun K hK => ?s43) ?ms43
            case s43 =>
              refine hK.out _ _ (fM ⟨.inl (by kernel_rfl), fM ⟨.inl (by kernel_rfl), fM ⟨.inl (by kernel_rfl), (by simp)⟩⟩⟩) ?_
              try simp only [Act.put, List.setIfInBounds_toArray, List.set_cons_zero, List.set_cons_succ]
              refine hx_skip (i := 14) (oi := ⟨some 41, _, _, _, _, _⟩) rfl (by kernel_rfl) (by kernel_rfl) (by kernel_rfl) (by kernel_rfl) (fun _ _ _ h => h) rfl (by kernel_rfl) ?_
              try simp only [Act.put, List.setIfInBounds_toArray, List.set_cons_zero, List.set_cons_succ]
              refine hx_skip (i := 15) (oi := ⟨some 42, _, _, _, _, _⟩) rfl (by kernel_rfl) (by kernel_rfl) (by kernel_rfl) (by kernel_rfl) (fun _ _ _ h => h) rfl (by kernel_rfl) ?_
              try simp only [Act.put, List.setIfInBounds_toArray, List.set_cons_zero, List.set_cons_succ]
              refine hx_skip (i := 16) (oi := ⟨some 43, _, _, _, _, _⟩) rfl (by kernel_rfl) (by kernel_rfl) (by kernel_rfl) (by kernel_rfl) (fun _ _ _ h => h) rfl (by kernel_rfl) ?_
              try simp only [Act.put, List.setIfInBounds_toArray, List.set_cons_zero, List.set_cons_succ]
              refine hx_skip (i := 17) (oi := ⟨some 44, _, _, _, _, _⟩) rfl (by kernel_rfl) (by kernel_rfl) (by kernel_rfl) (by kernel_rfl) (fun _ _ _ h => h) rfl (by kernel_rfl) ?_
              try simp only [Act.put, List.setIfInBounds_toArray, List.set_cons_zero, List.set_cons_succ]
              refine hx_ready (rs := [18]) (by kernel_rfl) (by simp) ?_
              refine AllHX.skip (i := 18) (o := ⟨some 45, _, _, _, _, _⟩) rfl (by kernel_rfl) (fun K hK => ?s44) ?ms44
              case s44 =>
                refine hK.out _ _ (fM ⟨.inl (by kernel_rfl), fM ⟨.inl (by kernel_rfl), fM ⟨.inl (by kernel_rfl), (by simp)⟩⟩⟩) ?_
                try simp only [Act.put, List.setIfInBounds_toArray, List.set_cons_zero, List.set_cons_succ]
                refine hx_skip (i := 19) (oi := ⟨some 46, _, _, _, _, _⟩) rfl (by kernel_rfl) (by kernel_rfl) (by kernel_rfl) (by kernel_rfl) (fun _ _ _ h => h) rfl (by kernel_rfl) ?_
                try simp only [Act.put, List.setIfInBounds_toArray, List.set_cons_zero, List.set_cons_succ]
                refine hx_pure (i := 20) (oi := ⟨some 47, _, _, _, _, _⟩) (v := ?v45) rfl (by kernel_rfl) (by kernel_rfl) (by kernel_rfl) (by kernel_rfl) (fun _ _ _ h => h) rfl (by kernel_rfl) ?hv45 ?rv45
                case hv45 => (intro w; go_simp) <;> (with_reducible rfl)
                try simp only [Act.put, List.setIfInBounds_toArray, List.set_cons_zero, List.set_cons_succ]
                refine hx_done (by kernel_rfl) ?_
                exact ⟨_, _, _, _, _, _, _, _, _, _, _, _, _, _, _, _, _, _, _, _, _, _, _, _, _, _, _, _, _, _, _, _, _, _, _, _, _, _, _, _, _, _, by rw [HV.out], (RW.less (bs' := [(Bx, (.cells #[.int .i64 i, .int .i64 k] 86)), (w.heap.size + 1 + 1 + 1, (lookBox m (.slice (some ⟨b, off, none⟩) rs.length c1) (.slice A2 ls.length c2) (.slice A3 p3 c3) (.map (some (w.heap.size + 1 + 1)))))]) HR.out (by simp only [List.forall_mem_cons, List.forall_mem_nil, and_true]; exact ⟨(mS (mS mZ)), (mS (mS (mS mZ))), by simp⟩)).frm⟩
              exact AllHX.nil
            exact AllHX.nil
          exact AllHX.nil
      case aft5 =>
        rintro e a1 X2 hO
        obtain ⟨rfl, u5, u6, u7, u8, u9, u10, u11, u12, u13, u14, u15, u16, u17, u18, u19, u20, u21, u22, u23, u24, u25, u26, u27, u28, u29, u30, u31, u32, u33, u34, u35, u36, u37, u38, u39, u40, u41, u42, u43, u44, u45, u46, rfl, hF2⟩ := onlyN_is hO
        clear hO
        have HF2 := Lib.hid hF2
        have y0 := hF2.cells (mS mZ)
        have y1 := hF2.cells mZ
        have HFX := Lib.hid (HF.out.below hF2.b)
        have HMX := Lib.hid (HM.out.below hF2.b HM.out.lt)
        clear HR hF2 HT1 HT2 HFA
        cases qa : alarmB m.fall m.win ls rx ry
        · gi_wp2
          refine ⟨keeps_of_below HF2.out.b, KeepS.below HF2.out.b, HFX.out, ?_⟩
          show AlMapN (pre ++ [x]).length _ _ (fP m ls rs (valsP (pre ++ [x])))
          rw [HLN.out, HVL.out, fP_no (HAL.out.trans qa)]
          exact HMX.out.mono (by omega)
        · obtain ⟨nM, DM, hnM, hown, hfM⟩ := HMX.out
          have HFM := Lib.hid hfM
          clear hfM
          gi_wp2_with (gi_at_mapUpdate; refine wpListIn_mapUpdate_own _ rfl _ _ _ 91 rfl 86 4 al_keyed Tryz.underlying91 _ (w.heap.size + 1 + 1) nM _ rfl hown (by unfold maxLen; omega) _ _ _ rfl rfl (al_key X2 (i := i) (k := k) (by omega) (by omega)) _ [] (plainElem_bool Tryz.underlying4 true) ?_; intro w1 hown1 hgrow1)
          have hml := HMX.out.lt
          refine ⟨(keeps_of_below HF2.out.b).trans (KeepsFrom.of_grownBy hgrow1 (fun j e => by cases e; omega)), (KeepS.below HF2.out.b).trans (KeepS.grown hgrow1 (fun j e => by cases e; omega)), HFX.out.grownR hgrow1 (fun j e => by cases e; omega) (fun p hp e => ?_), ?_⟩
          · simp only [List.mem_cons, List.not_mem_nil, or_false] at hp
            rcases hp with rfl | rfl | rfl <;> simp only [Option.some.injEq] at e <;> omega
          show AlMapN (pre ++ [x]).length _ _ (fP m ls rs (valsP (pre ++ [x])))
          rw [HLN.out, HVL.out, fP_yes (HAL.out.trans qa)]
          exact AlMapN.put (by omega) hown HFM.out (by omega) (by omega) hown1
  case done =>
    rintro D ys X hD hS ⟨hF, hM⟩ hK
    have HF := Lib.hid hF
    have HM := Lib.hid hM
    have HK := Lib.hid hK
    have x0 := hF.cells (mS mZ)
    have y0 := hF.cells (mS (mS mZ))
    have f0 := hF.free (mS (mS mZ))
    have l0 := hF.lt (mS (mS mZ))
    have hs0 := hF.size
    clear hF hM hK k4
    gi_wp2
    obtain ⟨W4, hW4⟩ : ∃ W4, setAll (w.heap.size + 1) 0 [Value.int .i64 m.n, (.slice A1 rs.length c1), (.slice A2 ls.length c2), (.slice A3 p3 c3), .int .i64 m.fall, .int .i64 m.win, .int .i64 m.hold, .int .i64 m.dawn, .int .i64 m.dusk, (.map (some (w.heap.size + 1 + 1)))] X = W4 := ⟨_, rfl⟩
    have hg := setAll_grown (k := w.heap.size + 1) [Value.int .i64 m.n, (.slice A1 rs.length c1), (.slice A2 ls.length c2), (.slice A3 p3 c3), .int .i64 m.fall, .int .i64 m.win, .int .i64 m.hold, .int .i64 m.dawn, .int .i64 m.dusk, (.map (some (w.heap.size + 1 + 1)))] 0 X
    have hb := setAll_blk [Value.int .i64 m.n, (.slice A1 rs.length c1), (.slice A2 ls.length c2), (.slice A3 p3 c3), .int .i64 m.fall, .int .i64 m.win, .int .i64 m.hold, .int .i64 m.dawn, .int .i64 m.dusk, (.map (some (w.heap.size + 1 + 1)))] 0 X _ (HF.out.h _ (mS (mS mZ))) rfl
    rw [hW4] at hg hb
    simp only [setAll, Nat.zero_add, Nat.reduceAdd] at hW4
    rw [hW4]
    have hDk : W4.heap[D]? = some (.deferred (some [])) := (hg.block D (lt_of_blk HK.out) (fun e => by cases e; omega)).trans HK.out
    refine ⟨by simp, .inl ⟨_, _, rfl, run_takeDeferred hDk, ?_⟩⟩
    have hgf := grownBy_putObj' W4 D (.deferred none)
    have l4 := lt_of_blk hb
    have v1 := (hgf.block (w.heap.size + 1) l4 (by simp; omega)).trans hb
    have d1 := (boxCells v1).1
    have hM4 := HM.out.block (w' := W4) fun o ho => (hg.block _ HM.out.lt (by simp)).trans ho
    refine ⟨lookV m (.slice A1 rs.length c1) (.slice A2 ls.length c2) (.slice A3 p3 c3) (.map (some (w.heap.size + 1 + 1))), by simp [results, Tryz.results58, go_sem, d1], _, rfl, by omega, ⟨ys.length, ?_⟩, (HF.out.b.grown hg HF.out.b.size (fun k hk => by cases hk; omega)).grown hgf ?_ (fun k hk => by cases hk; omega)⟩
    · rw [← hS]
      exact hM4.block fun o ho => (hgf.block _ hM4.lt (by simp; omega)).trans ho
    · exact Nat.le_trans HF.out.b.size hg.size
end Go.Proofs.YtldimlnllmojiaaGreat
