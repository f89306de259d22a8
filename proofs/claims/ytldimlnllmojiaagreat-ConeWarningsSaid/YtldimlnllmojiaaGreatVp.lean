/- Part of a claim on cone. -/
import Derived.Test.YtldimlnllmojiaaGreatVo
import Derived.Maps.OwnSet
import Derived.Maps.OwnIn
import Derived.DeepKeys4
import Derived.MapViews
set_option linter.unusedVariables false
set_option linter.unusedSimpArgs false
namespace Go.Proofs.YtldimlnllmojiaaGreat
open Go.RowKit
open Go.Shelf
open Go.Maps Go.WideMaps
attribute [local go_sem] Oper.semAt_some
theorem al_laid : laidOutB Tryz.prog = true := by kernel_rfl
theorem al_row : 86 < Tryz.prog.types.size := of_decide_eq_true (by kernel_rfl)
theorem al_deep : Tryz.prog.keyTypeAt (Tryz.prog.types.size + 1) 86 = true := by kernel_rfl
theorem al_keyed : Keyed Tryz.prog 86 := Keyed.of_law (deep_law_laid al_laid (m := 2) (by omega) al_row (by kernel_rfl) (by simp only [Tryz.underlying86]))
noncomputable def alK (i k : Nat) : Lit := (keyOf Tryz.prog 86 (prV i k)).getD (.bool false)
theorem al_c3 : Tryz.prog.cellsOf 3 = 1 := by kernel_rfl
theorem al_c : 2 = Tryz.prog.cellsOf 86 := by kernel_rfl
theorem al_int {H : Type} (enc : TypeId × Value → H) (w : World) (sp : Nat → Bool) (n : Nat) {x : Int} (hx : (Lit.int .i64 x).wf = true) : DataW.trod enc Tryz.prog w 0 sp true (n + 1) 3 [.int .i64 x] = some (.lit (.int .i64 x), []) := by
  rw [DataW.trod_step]
  unfold DataW.trodStep
  rw [Tryz.underlying3]
  exact if_pos ⟨rfl, hx⟩
theorem al_trod {H : Type} (enc : TypeId × Value → H) (w : World) (sp : Nat → Bool) {x y : Int} (hx : (Lit.int .i64 x).wf = true) (hy : (Lit.int .i64 y).wf = true) : DataW.trod enc Tryz.prog w 0 sp true 2 86 [.int .i64 x, .int .i64 y] = some (.agg [.lit (.int .i64 x), .lit (.int .i64 y)], []) := by
  rw [DataW.trod_step]
  unfold DataW.trodStep
  rw [Tryz.underlying86]
  refine (if_pos al_c).trans ?_
  simp [al_c3, al_int enc w sp 0 hx, al_int enc w sp 0 hy]
theorem al_key {i k : Nat} (w : World) (hi : i < 100) (hk : k < 100) : keyOf Tryz.prog 86 (prV i k) = some (alK i k) := by
  have w1 : (Lit.int .i64 (i : Int)).wf = true := WalkArith.wf_i64 (by omega)
  have w2 : (Lit.int .i64 (k : Int)).wf = true := WalkArith.wf_i64 (by omega)
  have hf : (prV i k).formed Tryz.prog 86 = true := by unfold Value.formed; simp only [Tryz.underlying86]; rw [← al_c]; rfl
  have ht : DataW.Trod (fun _ => ()) Tryz.prog w 0 (fun _ => false) true 86 (prV i k) (.agg [.lit (.int .i64 i), .lit (.int .i64 k)]) [] := ⟨2, al_trod _ w _ w1 w2⟩
  obtain ⟨h, -⟩ := keyOf_asKey al_deep (by simp only [Tryz.underlying86]) hf ht
  unfold alK
  rw [h]
  rfl
theorem al_inj (w : World) {i k i' k' : Nat} (hi : i < 100) (hk : k < 100) (hi' : i' < 100) (hk' : k' < 100) (h : alK i k = alK i' k') : i = i' ∧ k = k' := by
  have h1 := al_key w hi hk
  have h2 := al_key w hi' hk'
  rw [← h] at h2
  have e := al_keyed.inj h1 h2
  simp only [Value.agg.injEq, Array.mk.injEq, List.cons.injEq, Value.int.injEq, true_and, and_true] at e
  omega
def AlMapN (N : Nat) (w : World) (M : Nat) (f : Nat → Nat → Bool) : Prop :=
  ∃ (n : Nat) (D : DataW Unit), n ≤ N ∧ w.ownsMap Tryz.prog 86 (plainElem Tryz.prog 4) M n D ∧ ∀ i k, i < 100 → k < 100 → D.atKey (alK i k) (.lit (.bool false)) = .lit (.bool (f i k))
theorem ownsMap_block {H : Type} {P : Program} {kt : TypeId} {R : Value → Option (DataW H × List MemPlace)} {w w' : World} {b n : Nat} {D : DataW H} (h : w.ownsMap P kt R b n D) (hs : ∀ o, w.heap[b]? = some o → w'.heap[b]? = some o) : w'.ownsMap P kt R b n D := by
  obtain ⟨es, clock, hb, F, hn, hD⟩ := h
  exact ⟨es, clock, hs _ hb, F, hn, hD⟩
theorem AlMapN.mono {N N' : Nat} {w : World} {M : Nat} {f : Nat → Nat → Bool} (h : AlMapN N w M f) (hn : N ≤ N') : AlMapN N' w M f := by
  obtain ⟨n, D, h0, h, hf⟩ := h
  exact ⟨n, D, by omega, h, hf⟩
theorem AlMapN.lt {N : Nat} {w : World} {M : Nat} {f : Nat → Nat → Bool} (h : AlMapN N w M f) : M < w.heap.size := by
  obtain ⟨n, D, _, h, _⟩ := h
  exact h.lt
theorem AlMapN.block {N : Nat} {w w' : World} {M : Nat} {f : Nat → Nat → Bool} (h : AlMapN N w M f) (hs : ∀ o, w.heap[M]? = some o → w'.heap[M]? = some o) : AlMapN N w' M f := by
  obtain ⟨n, D, hn, h, hf⟩ := h
  exact ⟨n, D, hn, ownsMap_block h hs, hf⟩
theorem AlMapN.below {N : Nat} {w w' : World} {M B : Nat} {f : Nat → Nat → Bool} (h : AlMapN N w M f) (hb : Below B w w') (hB : M < B) : AlMapN N w' M f := h.block fun o ho => (hb.block M hB).trans ho
theorem AlMapN.made (w : World) : AlMapN 0 (w.alloc (.map #[] 0)) w.heap.size fun _ _ => false := ⟨0, _, by omega, World.ownsMap_made w _ _ _, fun i k _ _ => WideAt.atKey_none _ (by simp)⟩
theorem al_zero (w : World) : (zeroValue 4).run Tryz.prog w = .ok (.bool false) w := by kernel_rfl
theorem AlMapN.look {N : Nat} {w : World} {M : Nat} {f : Nat → Nat → Bool} (h : AlMapN N w M f) {i k : Nat} (hi : i < 100) (hk : k < 100) : (Instr.lookup 91 (.map (some M)) (prV i k) false).run Tryz.prog w = .ok (.bool (f i k)) w := by
  obtain ⟨n, D, hn, h, hf⟩ := h
  obtain ⟨v, ps, hrun, hv⟩ := h.lookup al_keyed Tryz.underlying91 (al_zero w) (plainElem_bool Tryz.underlying4 false) (al_key w hi hk)
  rw [hf i k hi hk] at hv
  rw [hrun]
  have e : v = .bool (f i k) := by
    unfold plainElem at hv
    simp only [Tryz.underlying4] at hv
    cases v <;> simp at hv
    rw [hv.1]
  rw [e]
theorem AlMapN.put {N : Nat} {w : World} {M : Nat} {f : Nat → Nat → Bool} {n : Nat} {D : DataW Unit} (hn : n + 1 ≤ N) (h : w.ownsMap Tryz.prog 86 (plainElem Tryz.prog 4) M n D) (hf : ∀ i k, i < 100 → k < 100 → D.atKey (alK i k) (.lit (.bool false)) = .lit (.bool (f i k))) {i k : Nat} (hi : i < 100) (hk : k < 100) {w' : World} (h' : w'.ownsMap Tryz.prog 86 (plainElem Tryz.prog 4) M (n + 1) (D.put (alK i k) (.lit (.bool true)))) :
    AlMapN N w' M fun i' k' => if i' = i ∧ k' = k then true else f i' k' := by
  have hm := h.isMap
  have hk0 := al_key w hi hk
  have hinj : ∀ i' k', i' < 100 → k' < 100 → alK i' k' = alK i k → i' = i ∧ k' = k := fun i' k' h1 h2 => al_inj w h1 h2 hi hk
  refine ⟨n + 1, _, hn, h', fun i' k' hi' hk' => ?_⟩
  clear h'
  generalize hkl : alK i k = kl at *
  have hkk := al_keyed.key hk0
  show _ = DataW.lit (Lit.bool (if i' = i ∧ k' = k then true else f i' k'))
  by_cases e : i' = i ∧ k' = k
  · rw [if_pos e, e.1, e.2, hkl]
    exact atKey_put_same hm hkk _ _
  · rw [if_neg e, atKey_put_other (fun x => e (hinj _ _ hi' hk' x)) _ _]
    exact hf i' k' hi' hk'
theorem valsP_filter {n : Nat} (f : Nat → Nat → Bool) (l : List (PairT n)) : valsP (l.filter fun x => f x.i x.k) = (valsP l).filter fun p => f p.1 p.2 := by
  unfold valsP
  rw [List.filter_map]
  rfl
set_option maxHeartbeats 4000000 in
set_option maxRecDepth 100000 in
theorem alarms1_in {N : Nat} (n : Nat) (m : Wn) (A : Option Addr) (c : Nat) (L P : Value) (M : Nat) (cs : List Rep) (f : Nat → Nat → Bool) (hlen : cs.length ≤ 12) (B : Nat) (w : World) (hB : w.heap[B]? = some (lookBox m (.slice A cs.length c) L P (.map (some M)))) (hM : AlMapN N w M f) :
    SeqZ n Tryz.prog 90 #[.pointer (some ⟨B, 0, none⟩)] (fun x : PairT cs.length => #[prV x.i x.k]) (fun k => k = B ∨ k = M) 2 (fun ys => valsP ys = (pairsTo cs.length cs.length).filter fun p => f p.1 p.2) (fun _ => True) 1000 w := by
  intro l J Jx W hbW hsz hJ hJx hY h0
  have hBl : B < w.heap.size := (Array.getElem?_eq_some_iff.1 hB).1
  have hMl := hM.lt
  have HB := Lib.hid ((hbW.block _ hBl).trans hB)
  have HM := Lib.hid (hM.below hbW hMl)
  clear hB hM hbW
  refine callsIn_wide.2 ((callsIn_wide (n := 10)).1 ?_)
  refine callsIn_of_wp_marks Tryz.func90 rfl trivial ?_ rfl
  simp only [Tryz.ntmps90, List.size_toArray, List.length_cons, List.length_nil, Nat.reduceAdd, Nat.reduceSub, Array.replicate_succ, Array.replicate_zero, List.push_toArray, List.append_toArray, List.nil_append, List.cons_append]
  have hbx := (boxCells (blk_alloc HB.out (.cells #[Value.func (.yield l) #[] #[]] 119))).1
  gi_wp2_with (refine ⟨trivial, ?_⟩; gi_at_call 87; refine (callsIn_wide.2 (pairs_any _ _ _ _ _ _)).mono ?_; rintro e w' ⟨rfl, rfl⟩)
  clear hbx
  have hb0 : Below W.heap.size W ((W.alloc (.cells #[Value.func (.yield l) #[] #[]] 119)).alloc (lookBox m (.slice A cs.length c) L P (.map (some M)))) := ((Below.refl _ W).alloc (Nat.le_refl _) _).alloc (by simp) _
  have k0 : ((W.alloc (.cells #[Value.func (.yield l) #[] #[]] 119)).alloc (lookBox m (.slice A cs.length c) L P (.map (some M)))).heap[W.heap.size]? = some (.cells #[Value.func (.yield l) #[] #[]] 119) := blk_alloc (heap_new _ _ rfl) _
  have k1 : ((W.alloc (.cells #[Value.func (.yield l) #[] #[]] 119)).alloc (lookBox m (.slice A cs.length c) L P (.map (some M)))).heap[W.heap.size + 1]? = some (lookBox m (.slice A cs.length c) L P (.map (some M))) := heap_new _ _ (by simp)
  have hz0 : ((W.alloc (.cells #[Value.func (.yield l) #[] #[]] 119)).alloc (lookBox m (.slice A cs.length c) L P (.map (some M)))).heap.size = W.heap.size + 2 := by simp
  have HJ0 : Hid (J [] ((W.alloc (.cells #[Value.func (.yield l) #[] #[]] 119)).alloc (lookBox m (.slice A cs.length c) L P (.map (some M))))) := Lib.hid (hJ.alloc _ (hJ.alloc _ h0))
  generalize (W.alloc (.cells #[Value.func (.yield l) #[] #[]] 119)).alloc (lookBox m (.slice A cs.length c) L P (.map (some M))) = V0 at *
  refine wpIn_rangeFunc_ownH rfl (by omega) (gf := 109) (lb := #[.pointer (some ⟨W.heap.size + 1, 0, none⟩)]) rfl trivial (enters_of Tryz.func109 (by kernel_rfl) rfl)
    (encs := fun x : PairT cs.length => #[prV x.i x.k]) (Kp := KeepS fun k => k = W.heap.size + 1) (S := fun ys => valsP ys = pairsTo cs.length cs.length) (Sp := fun _ => True) (N := 1000) (w0 := V0)
    (fun l' J' Jx' X hX _ _ hY' hJ' => pairs1_in 9 (by omega) m A c L P (.map (some M)) cs hlen l' (W.heap.size + 1) J' Jx' X hY' ((hX.block _ (by omega)).trans k1) hJ')
    (fun h k => h.trans k) (fun X l' o o' h1 h2 h3 h4 => KeepS.put (by omega)) (Below.refl _ _) (fun _ => rfl)
    (fun pre X => J (pre.filter fun x => f x.i x.k) X ∧ X.heap[W.heap.size]? = some (.cells #[Value.func (.yield l) #[] #[]] 119) ∧ X.heap[W.heap.size + 1]? = some (lookBox m (.slice A cs.length c) L P (.map (some M))) ∧ X.heap[B]? = some (lookBox m (.slice A cs.length c) L P (.map (some M))) ∧ AlMapN N X M f ∧ W.heap.size + 2 ≤ X.heap.size)
    (fun co pre X => co = .ret ∧ ∃ q, Jx q X)
    ?hI ?hIx ⟨HJ0.out, k0, k1, (hb0.block _ (by omega)).trans HB.out, HM.out.below hb0 (by omega), by omega⟩
    (fun x a' X => ∃ Bx, W.heap.size + 2 ≤ Bx ∧ X.heap[Bx]? = some (.cells #[.int .i64 x.i, .int .i64 x.k] 86) ∧ a' = { tmps := #[Value.func (.yield l) #[] #[], .pointer (some ⟨B, 0, none⟩), .pointer (some ⟨W.heap.size, 0, none⟩), .pointer (some ⟨Bx, 0, none⟩), lookV m (.slice A cs.length c) L P (.map (some M)), Value.func (.func 109) #[] #[.pointer (some ⟨W.heap.size + 1, 0, none⟩)], prV x.i x.k, undef, undef, undef, undef, undef, undef, undef, undef, undef, undef], defers := [] })
    ?hAx ?assign ?body ?done ?stop
  case hI =>
    rintro pre X Y row ⟨hj, q0, q1, qB, qM, hz⟩ hg hr
    have hne : ∀ k o, k < W.heap.size + 2 → X.heap[k]? = some o → Y.heap[k]? = some o := fun k o hk ho => (hg.block k (Array.getElem?_eq_some_iff.1 ho).1 (fun e => by have := (hr k e.symm).1; omega)).trans ho
    exact ⟨hJ _ _ _ _ hj hg (fun r e => ⟨by have := (hr r e).1; omega, (hr r e).2⟩), hne _ _ (by omega) q0, hne _ _ (by omega) q1, hne _ _ (by omega) qB, qM.block fun o ho => hne _ _ (by omega) ho, Nat.le_trans hz hg.size⟩
  case hIx =>
    rintro co pre X Y row ⟨rfl, q, hq⟩ hg hr
    exact ⟨rfl, q, hJx _ _ _ _ hq hg (fun r e => ⟨by have := (hr r e).1; omega, (hr r e).2⟩)⟩
  case hAx =>
    rintro x a' _ X Y row ⟨Bx, h1, h2, h3⟩ hg hr
    have hlt : Bx < X.heap.size := (Array.getElem?_eq_some_iff.1 h2).1
    refine ⟨Bx, h1, (hg.block _ hlt fun e => ?_).trans h2, h3⟩
    obtain ⟨o, ho, hoc⟩ := (hr Bx e.symm).2
    rw [h2] at ho
    cases ho
    cases hoc
  case assign =>
    rintro l' pre x X Kq ⟨hj, q0, q1, qB, qM, hz⟩ hK
    gi_wp2
    exact hK _ _ ((KeepsOthers.alloc _ _).from _) (KeepS.grown (World.grownBy_alloc _ _ none) (fun _ h => by cases h)) ⟨hJ.alloc _ hj, blk_alloc q0 _, blk_alloc q1 _, blk_alloc qB _, qM.block (fun o ho => blk_alloc ho _), by simp; omega⟩ ⟨X.heap.size, hz, World.alloc_heap_new _ _, rfl⟩
  case body =>
    rintro l' pre x a' X hl ⟨r, hr⟩ ⟨hj, q0, q1, qB, qM, hz⟩ ⟨Bx, hBx, hX, rfl⟩ hlt
    obtain ⟨hx1, hx2⟩ := x.lt
    have HLK := Lib.hid (qM.look (i := x.i) (k := x.k) (by omega) (by omega))
    have hlk := HLK.out
    have Q0 := Lib.hid q0
    have Q1 := Lib.hid q1
    have QB := Lib.hid qB
    have QM := Lib.hid qM
    have HJ := Lib.hid hj
    have x1 := (boxCells hX).1
    have y0 := (boxCells q0).1
    have b0 := (boxCells qB).1
    have HFL : Hid ((pre ++ [x]).filter (fun x => f x.i x.k) = pre.filter (fun x => f x.i x.k) ++ (if f x.i x.k then [x] else [])) := Lib.hid (by rw [List.filter_append]; by_cases e : f x.i x.k = true <;> simp [e])
    have hfl : (pre.filter fun x => f x.i x.k).length < 1000 := Nat.lt_of_le_of_lt (List.length_filter_le _ _) hlt
    clear k0 k1 hj q0 q1 qB qM
    cases hq : f x.i x.k
    · rw [hq] at hlk HFL
      gi_wp2
      refine ⟨fun _ h => (by cases h), ?_⟩
      gi_wp2
      refine ⟨KeepsFrom.refl _ _, KeepS.refl _ _, ?_, Q0.out, Q1.out, QB.out, QM.out, hz⟩
      show J (List.filter _ (pre ++ [x])) _
      rw [HFL.out]
      simpa using HJ.out
    · rw [hq] at hlk HFL
      obtain ⟨fn, tmps, assign, body, hy, hR⟩ := hY (pre.filter fun x => f x.i x.k) x X HJ.out hz hfl
      have HR := Lib.hid hR
      clear hR hY hJx
      gi_wp2
      refine (round_wide HR.out).mono ?_
      rintro e W3 ⟨hkf, hks, (⟨rfl, hJ3⟩ | ⟨rfl, hJ3⟩)⟩
      · have HKF := Lib.hid hkf
        have HKS := Lib.hid hks
        have HJ3 := Lib.hid hJ3
        clear hkf hks hJ3
        gi_wp2
        refine ⟨⟨HKF.out.size, fun k o hk ho hc => HKF.out.same k o (by omega) ho hc⟩, HKS.out.mono (fun k e => .inr (by subst e; omega)), ?_, HKS.out.same _ _ (.inr (by omega)) Q0.out, HKS.out.same _ _ (.inr (by omega)) Q1.out, HKS.out.same _ _ (.inl (.inl rfl)) QB.out, QM.out.block (fun o ho => HKS.out.same _ _ (.inl (.inr rfl)) ho), Nat.le_trans hz HKS.out.size⟩
        show J (List.filter _ (pre ++ [x])) _
        rw [HFL.out]
        simpa using HJ3.out
      · have HKF := Lib.hid hkf
        have HKS := Lib.hid hks
        have HJ3 := Lib.hid hJ3
        clear hkf hks hJ3
        gi_wp2
        exact ⟨⟨HKF.out.size, fun k o hk ho hc => HKF.out.same k o (by omega) ho hc⟩, rfl, _, HJ3.out⟩
  case done =>
    rintro D ys X hD hS ⟨hj, q0, q1, qB, qM, hz⟩ hK
    gi_wp2
    refine ⟨by simp, .inl ⟨_, _, rfl, run_takeDeferred hK, _, results_none rfl _ _ _, ⟨_, rfl⟩, .inl ⟨_, ?_, hJ.putObj _ hj (by omega) hK rfl⟩⟩⟩
    rw [valsP_filter, hS]
  case stop =>
    rintro D co pre X hD _ ⟨rfl, q, hq⟩ hK
    gi_wp2
    exact ⟨by simp, .inl ⟨_, _, rfl, run_takeDeferred hK, _, results_none rfl _ _ _, ⟨_, rfl⟩, .inr ⟨q, trivial, hJx.putObj _ hq (by omega) hK rfl⟩⟩⟩
end Go.Proofs.YtldimlnllmojiaaGreat
