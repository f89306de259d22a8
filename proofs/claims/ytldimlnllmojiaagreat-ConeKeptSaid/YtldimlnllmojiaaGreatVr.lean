/- Part of a claim on cone. -/
import Derived.Test.YtldimlnllmojiaaGreatVq
import Derived.Test.YtldimlnllmojiaaGreatGA1
set_option linter.unusedVariables false
set_option linter.unusedSimpArgs false
namespace Go.Proofs.YtldimlnllmojiaaGreat
open Go.RowKit
open Go.Shelf
open Go.Maps
attribute [local go_sem] Oper.semAt_some
def spC (x : Int × Int) : List Value := [.int .i64 x.1, .int .i64 x.2]
def spsC : List (Int × Int) → List Value
  | [] => []
  | c :: r => spC c ++ spsC r
theorem spsC_len : ∀ cs : List (Int × Int), (spsC cs).length = cs.length * 2
  | [] => rfl
  | c :: r => by simp only [spsC, spC, List.length_append, List.length_cons, List.length_nil, spsC_len r]; omega
theorem spsC_at : ∀ (cs : List (Int × Int)) (i : Nat) (c : Int × Int), cs[i]? = some c → (spsC cs)[i * 2]? = some (.int .i64 c.1) ∧ (spsC cs)[i * 2 + 1]? = some (.int .i64 c.2)
  | [], i, c, h => by simp at h
  | x :: r, 0, c, h => by
    obtain rfl : x = c := by simpa using h
    exact ⟨rfl, rfl⟩
  | x :: r, i + 1, c, h => by
    obtain ⟨a, b⟩ := spsC_at r i c (by simpa using h)
    have e : ∀ k, (spsC (x :: r))[k + 2]? = (spsC r)[k]? := fun k => by
      rw [spsC, List.getElem?_append_right (by simp [spC])]
      simp [spC]
    rw [show (i + 1) * 2 = i * 2 + 2 by omega, show i * 2 + 2 + 1 = (i * 2 + 1) + 2 by omega, e, e]
    exact ⟨a, b⟩
theorem spsC_add (cs : List (Int × Int)) (c : Int × Int) : spsC (cs ++ [c]) = spsC cs ++ spC c := by
  induction cs with
  | nil => simp [spsC]
  | cons x r ih => simp only [List.cons_append, spsC, ih, List.append_assoc]
theorem Tryz.infoSpan : (Tryz.prog.info? 56).map (fun i => (i.zero, i.size, i.bytes)) = some (some (.agg #[.int .i64 0, .int .i64 0]), 2, 16) := by kernel_rfl
theorem Tryz.infoAlarm : (Tryz.prog.info? 86).map (fun i => (i.zero, i.size, i.bytes)) = some (some (.agg #[.int .i64 0, .int .i64 0]), 2, 16) := by kernel_rfl
theorem wp_two {w : World} {o : Oper} {a : Act} {K : Act → World → Prop} {Q : Exit → Act → World → Prop} {st et : TypeId} (hu : Tryz.prog.underlying st = some (.slice et)) (hinf : (Tryz.prog.info? et).map (fun i => (i.zero, i.size, i.bytes)) = some (some (.agg #[.int .i64 0, .int .i64 0]), 2, 16)) (s x : Operand) (ho : o.op = .call { callee := .builtin .append, args := #[s, x], argTypes := #[st, st] })
    {base N n : Nat} {v : Value} {zs : List (Int × Int)} {y : Int × Int} (hn : zs.length = n) (hs : a.eval s = v) (hown : w.ownsRow base et 2 v n (spsC zs)) (hx : a.eval x = .slice (some ⟨N, 0, none⟩) 1 1) (hN : w.heap[N]? = some (.cells #[.int .i64 y.1, .int .i64 y.2] et)) (hl : n ≤ 100000) (hbase : base ≤ w.heap.size)
    (h : ∀ g cap w', w'.ownsRow base et 2 (.slice (some ⟨g, 0, none⟩) (n + 1) cap) (n + 1) (spsC (zs ++ [y])) → w.grownBy w' v.ownBlock → (v.ownBlock = some g ∨ g = w.heap.size) → g < w'.heap.size → K (a.put o.dst (.slice (some ⟨g, 0, none⟩) (n + 1) cap)) w') : o.wp Tryz.prog a w K Q := by
  subst hn
  obtain ⟨i0, hi0, hz0, hz1, hz2⟩ := info_parts hinf
  obtain ⟨hc, _⟩ := boxCells hN
  refine wp_append_lies w s x _ ho base et i0 _ 2 16 hu hi0 hz0 hz1 hz2 rfl (by omega) v zs.length (spsC zs) hs hown ⟨N, 0, none⟩ 1 1 (spC y) hx rfl (fun j u hj => ?_) (fun u hu => by simp [spC] at hu; rcases hu with rfl | rfl <;> rfl) (by omega) (by unfold maxLen; omega) (by omega) hbase _ rfl ?_
  · rw [Go.WideShapes.add_plain, Nat.zero_add, hc j]
    simpa [spC] using hj
  · intro g cap w1 hown1 hgrow hat hlt
    rw [← spsC_add] at hown1
    exact h g cap w1 hown1 hgrow hat hlt
theorem own_two {w : World} {base n : Nat} {v : Value} {et : TypeId} {zs : List (Int × Int)} (h : w.ownsRow base et 2 v n (spsC zs)) (hn : zs.length = n) : Sps w v zs ∧ ∀ A c k, v = .slice A k c → ∀ b off, A = some ⟨b, off, none⟩ → base ≤ b ∧ b < w.heap.size := by
  subst hn
  have hlt := h.lt
  have hh := h
  rcases h.2 with ⟨h0, hz⟩ | ⟨g, cap, cur, hv, hb0, hg, h1, h2, h3, h4⟩
  · subst h0
    have : zs = [] := List.length_eq_zero_iff.1 hz
    subst this
    exact ⟨⟨none, 0, rfl, Nat.le_refl _, by unfold maxLen; omega, .inl rfl⟩, fun A c k e b off hA => by cases e; cases hA⟩
  · subst hv
    have hat := fun j hj => World.ownsRow.cellAt hh j hj
    refine ⟨⟨_, cap, rfl, h1, h2, .inr ⟨g, 0, rfl, (hlt g rfl).2, fun i z hi => ?_⟩⟩, fun A c k e b off hA => by cases e; cases hA; exact hlt g rfl⟩
    have hil := (List.getElem?_eq_some_iff.1 hi).1
    have hzl := spsC_len zs
    obtain ⟨a, b⟩ := spsC_at zs i z hi
    simp only [Nat.zero_add]
    exact ⟨(hat _ (by omega)).trans a, (hat _ (by omega)).trans b⟩
set_option maxHeartbeats 8000000 in
set_option maxRecDepth 100000 in
theorem sights_any (m : Wn) (A1 A2 A3 : Option Addr) (rs : List Rep) (ls : List Lnk) (c1 c2 p3 c3 M N : Nat) (f : Nat) (F1 C1 : Array Value) (d : Nat → Int) (w : World) (h1 : Reps w (.slice A1 rs.length c1) rs) (hM : AlMapN N w M (fP m ls rs (pairsTo rs.length rs.length))) (hlen : rs.length ≤ 12) (hg : ∀ x ∈ rs, 0 ≤ x.tk ∧ x.tk ≤ 100000) (hho : 0 ≤ m.hold ∧ m.hold ≤ 100000)
    (hcf : ∀ args w, (callFunc f args).run Tryz.prog w = .ok (.enter f args) w) (hd : ∀ i, i < rs.length → 0 ≤ d i ∧ d i ≤ 100000) (hD : ∀ i V, i < rs.length → Below w.heap.size w V → Calls Tryz.prog f (F1 ++ #[.int .i64 i] ++ C1) V fun e w' => e = .returned (.int .i64 (d i)) ∧ Below V.heap.size V w') :
    Calls Tryz.prog 92 #[lookV m (.slice A1 rs.length c1) (.slice A2 ls.length c2) (.slice A3 p3 c3) (.map (some M)), (Value.func (.func f) F1 C1)] w fun e w' => ∃ A c, e = .returned (.slice A (siL m ls rs d).length c) ∧ Sps w' (.slice A (siL m ls rs d).length c) (siL m ls rs d) ∧ (∀ b off, A = some ⟨b, off, none⟩ → w.heap.size ≤ b ∧ b < w'.heap.size) ∧ Below w.heap.size w w' := by
  have H1 := Lib.hid h1
  have HM := Lib.hid hM
  have HG := Lib.hid hg
  have HCF := Lib.hid hcf
  have HD := Lib.hid hD
  have HDB := Lib.hid hd
  clear h1 hM hg hcf hD hd
  refine (callsIn_wide (n := 2)).1 ?_
  refine callsIn_of_wp_marks Tryz.func92 rfl trivial ?_ rfl
  simp only [Tryz.ntmps92, List.size_toArray, List.length_cons, List.length_nil, Nat.reduceAdd, Nat.reduceSub, Array.replicate_succ, Array.replicate_zero, List.push_toArray, List.append_toArray, List.nil_append, List.cons_append]
  gi_wp2_with (refine ⟨trivial, ?_⟩; gi_at_call 59; refine (callsIn_wide.2 (alarms_any _ _ _ _ _ _)).mono ?_; rintro e w' ⟨rfl, rfl⟩)
  have HF0 := Lib.hid ((((((Frm.nil w).add (k := w.heap.size) (lookBox m (.slice A1 rs.length c1) (.slice A2 ls.length c2) (.slice A3 p3 c3) (.map (some M))) rfl).add (k := w.heap.size + 1) (.cells #[(Value.func (.func f) F1 C1)] 121) (by simp)).add (k := w.heap.size + 1 + 1) (.cells #[.slice none 0 0] 100) (by simp)).add (k := w.heap.size + 1 + 1 + 1) (lookBox m (.slice A1 rs.length c1) (.slice A2 ls.length c2) (.slice A3 p3 c3) (.map (some M))) (by simp)).less (bs' := [(w.heap.size + 1 + 1 + 1, (lookBox m (.slice A1 rs.length c1) (.slice A2 ls.length c2) (.slice A3 p3 c3) (.map (some M)))), (w.heap.size + 1, (.cells #[(Value.func (.func f) F1 C1)] 121)), (w.heap.size, (lookBox m (.slice A1 rs.length c1) (.slice A2 ls.length c2) (.slice A3 p3 c3) (.map (some M))))]) (by simp))
  have k2 : ((((w.alloc (lookBox m (.slice A1 rs.length c1) (.slice A2 ls.length c2) (.slice A3 p3 c3) (.map (some M)))).alloc (.cells #[(Value.func (.func f) F1 C1)] 121)).alloc (.cells #[.slice none 0 0] 100)).alloc (lookBox m (.slice A1 rs.length c1) (.slice A2 ls.length c2) (.slice A3 p3 c3) (.map (some M)))).heap[w.heap.size + 1 + 1]? = some (.cells #[.slice none 0 0] 100) := blk_alloc (heap_new _ _ (by simp)) _
  have hz0 : ((((w.alloc (lookBox m (.slice A1 rs.length c1) (.slice A2 ls.length c2) (.slice A3 p3 c3) (.map (some M)))).alloc (.cells #[(Value.func (.func f) F1 C1)] 121)).alloc (.cells #[.slice none 0 0] 100)).alloc (lookBox m (.slice A1 rs.length c1) (.slice A2 ls.length c2) (.slice A3 p3 c3) (.map (some M)))).heap.size = w.heap.size + 1 + 1 + 1 + 1 := by simp
  generalize ((((w.alloc (lookBox m (.slice A1 rs.length c1) (.slice A2 ls.length c2) (.slice A3 p3 c3) (.map (some M)))).alloc (.cells #[(Value.func (.func f) F1 C1)] 121)).alloc (.cells #[.slice none 0 0] 100)).alloc (lookBox m (.slice A1 rs.length c1) (.slice A2 ls.length c2) (.slice A3 p3 c3) (.map (some M)))) = V0 at *
  have hz1 : V0.heap.size ≤ w.heap.size + 1 + 1 + 1 + 1 := by omega
  have hz2 : w.heap.size + 1 + 1 + 1 + 1 ≤ V0.heap.size := by omega
  clear hz0
  have k3 := HF0.out.h _ mZ
  have hMl := HM.out.lt
  refine wpIn_rangeFunc_Z (by omega) (gf := 90) (lb := #[.pointer (some ⟨w.heap.size + 1 + 1 + 1, 0, none⟩)]) rfl (enters_of Tryz.func90 (by kernel_rfl) rfl)
    (alarms1_in 1 m A1 c1 (.slice A2 ls.length c2) (.slice A3 p3 c3) M rs (fP m ls rs (pairsTo rs.length rs.length)) hlen (w.heap.size + 1 + 1 + 1) V0 k3 (HM.out.below HF0.out.b hMl))
    (fun k hk => by rcases hk with rfl | rfl <;> omega) (fun _ => rfl)
    (fun pre X => ∃ v, Frm w [(w.heap.size + 1 + 1 + 1, (lookBox m (.slice A1 rs.length c1) (.slice A2 ls.length c2) (.slice A3 p3 c3) (.map (some M)))), (w.heap.size + 1, (.cells #[(Value.func (.func f) F1 C1)] 121)), (w.heap.size, (lookBox m (.slice A1 rs.length c1) (.slice A2 ls.length c2) (.slice A3 p3 c3) (.map (some M))))] X ∧ X.heap[w.heap.size + 1 + 1]? = some (.cells #[v] 100) ∧ X.ownsRow (V0.heap.size + 2 + 2) 56 2 v (spsOf m rs d (valsP pre)).length (spsC (spsOf m rs d (valsP pre))))
    (fun co pre X => False)
    ?hI (fun _ _ _ _ _ h _ _ => h) ⟨_, HF0.out, k2, World.ownsRow_nil ..⟩
    (fun x a' X => ∃ Bx, V0.heap.size + 2 + 2 ≤ Bx ∧ X.heap[Bx]? = some (.cells #[.int .i64 x.i, .int .i64 x.k] 86) ∧ a' = { tmps := #[lookV m (.slice A1 rs.length c1) (.slice A2 ls.length c2) (.slice A3 p3 c3) (.map (some M)), (Value.func (.func f) F1 C1), .pointer (some ⟨w.heap.size, 0, none⟩), .pointer (some ⟨w.heap.size + 1, 0, none⟩), .slice none 0 0, .pointer (some ⟨w.heap.size + 1 + 1, 0, none⟩), .pointer (some ⟨Bx, 0, none⟩), undef, undef, undef, lookV m (.slice A1 rs.length c1) (.slice A2 ls.length c2) (.slice A3 p3 c3) (.map (some M)), Value.func (.func 90) #[] #[.pointer (some ⟨w.heap.size + 1 + 1 + 1, 0, none⟩)], prV x.i x.k, undef, undef, undef, undef, undef, undef, undef, undef, undef, undef, undef, undef, undef, undef, undef, undef, undef, undef, undef, undef, undef, undef, undef, undef, undef, undef, undef, undef, undef, undef, undef, undef, undef, undef, undef, undef, undef, undef, undef, undef, undef, undef, undef, undef, undef, undef, undef, undef, undef, undef], defers := [] })
    ?hAx ?assign ?body ?done (fun _ _ _ _ _ _ h _ => h.elim)
  case hI =>
    rintro pre X Y row ⟨v, hF, hS, hO⟩ hg hr
    have hs2 := lt_of_blk hS
    refine ⟨v, hF.grownR hg (fun k hk => by have := (hr k hk).1; omega) (fun p hp e => ?_), (hg.block _ hs2 (fun e => by have := (hr _ e.symm).1; omega)).trans hS, hO.kept hg ?_⟩
    · have h1 := (hr _ e.symm).1
      simp only [List.mem_cons, List.not_mem_nil, or_false] at hp
      rcases hp with rfl | rfl | rfl <;> simp only at h1 <;> omega
    · cases hv : v.ownBlock with
      | none => exact .inl rfl
      | some g =>
        refine .inr fun e => ?_
        obtain ⟨cs, t, fr, hc⟩ := own_cells hO g hv
        obtain ⟨o, ho, hoc⟩ := (hr g e.symm).2
        rw [hc] at ho
        cases ho
        cases hoc
  case hAx =>
    rintro x a' _ X Y row ⟨Bx, h1, h2, h3⟩ hg hr
    have hlt : Bx < X.heap.size := (Array.getElem?_eq_some_iff.1 h2).1
    refine ⟨Bx, h1, (hg.block _ hlt fun e => ?_).trans h2, h3⟩
    obtain ⟨o, ho, hoc⟩ := (hr Bx e.symm).2
    rw [h2] at ho
    cases ho
    cases hoc
  case assign =>
    rintro l' pre x X Kq ⟨v, hF, hS, hO⟩ hsz hK
    gi_wp2
    exact hK _ _ ((KeepsOthers.alloc _ _).from _) (KeepS.grown (World.grownBy_alloc _ _ none) (fun _ h => by cases h)) ⟨v, hF.alloc _, blk_alloc hS _, hO.alloc _⟩ ⟨X.heap.size, hsz, World.alloc_heap_new _ _, rfl⟩
  case body =>
    rintro l' pre x a' X hl ⟨r, hr⟩ ⟨v, hF, hS, hO⟩ ⟨Bx, hBx, hX, rfl⟩ hsz hlt
    obtain ⟨hx1, hx2⟩ := x.lt
    have hi2 : x.i < rs.length := by omega
    have HVL : Hid (spsOf m rs d (valsP (pre ++ [x])) = spsOf m rs d (valsP pre) ++ (if (spOf m rs d (x.i, x.k)).1 ≤ (spOf m rs d (x.i, x.k)).2 then [spOf m rs d (x.i, x.k)] else [])) := Lib.hid (by rw [valsP_snoc, spsOf_snoc])
    have hll : (spsOf m rs d (valsP pre)).length ≤ 1000 := by
      have h1 : (spsOf m rs d (valsP pre)).length ≤ ((valsP pre).map (spOf m rs d)).length := List.length_filter_le _ _
      have h2 : ((valsP pre).map (spOf m rs d)).length = pre.length := by simp [valsP]
      omega
    obtain ⟨rx, hrx⟩ : ∃ y, rs[x.i]? = some y := ⟨_, List.getElem?_eq_getElem hi2⟩
    obtain ⟨ry, hry⟩ : ∃ y, rs[x.k]? = some y := ⟨_, List.getElem?_eq_getElem hx2⟩
    have HXI := Lib.hid hrx
    have HXK := Lib.hid hry
    have g1 := HG.out rx (List.mem_of_getElem? hrx)
    have g2 := HG.out ry (List.mem_of_getElem? hry)
    have g3 := HDB.out x.i hi2
    have g4 := HDB.out x.k hx2
    have HX1 : Hid (Reps X (.slice A1 rs.length c1) rs) := Lib.hid (Rws.below H1.out hF.b (Nat.le_refl _))
    have HDI : Hid (∀ V, Below X.heap.size X V → Calls Tryz.prog f (F1 ++ #[.int .i64 x.i] ++ C1) V fun e w' => e = .returned (.int .i64 (d x.i)) ∧ Below V.heap.size V w') := Lib.hid fun V hV => HD.out x.i V hi2 (hF.b.trans (hV.mono hF.b.size))
    have HDK : Hid (∀ V, Below X.heap.size X V → Calls Tryz.prog f (F1 ++ #[.int .i64 x.k] ++ C1) V fun e w' => e = .returned (.int .i64 (d x.k)) ∧ Below V.heap.size V w') := Lib.hid fun V hV => HD.out x.k V hx2 (hF.b.trans (hV.mono hF.b.size))
    have HSP : Hid (spOf m rs d (x.i, x.k) = (max (rx.tk + d x.i) (ry.tk + d x.k), max rx.tk ry.tk + m.hold - 1)) := Lib.hid (by unfold spOf comeF tillF; rw [repAt_some hrx, repAt_some hry])
    generalize d x.i = di at *
    generalize d x.k = dk at *
    obtain ⟨b, off, hA, hc1, hc2, -⟩ := rep_cells HX1.out hrx
    subst hA
    unfold maxLen at hc2
    have hl3 := hF.lt mZ
    have hBlt := lt_of_blk hX
    have e1 : IntKind.i64.wrap (rx.tk + di) = rx.tk + di := IntWalk.i64_in _ (by omega)
    have e2 : IntKind.i64.wrap (ry.tk + dk) = ry.tk + dk := IntWalk.i64_in _ (by omega)
    have e3 : IntKind.i64.wrap (max rx.tk ry.tk + m.hold) = max rx.tk ry.tk + m.hold := IntWalk.i64_in _ (by omega)
    have e4 : IntKind.i64.wrap (max rx.tk ry.tk + m.hold - 1) = max rx.tk ry.tk + m.hold - 1 := IntWalk.i64_in _ (by omega)
    have hm1 := fun w => run_max Tryz.prog #[3, 3] 3 (rx.tk + di) (ry.tk + dk) w
    have hm2 := fun w => run_max Tryz.prog #[3, 3] 3 rx.tk ry.tk w
    have HR := Lib.hid (show RW X X.heap.size [(Bx, (.cells #[.int .i64 x.i, .int .i64 x.k] 86)), (w.heap.size, (lookBox m (.slice (some ⟨b, off, none⟩) rs.length c1) (.slice A2 ls.length c2) (.slice A3 p3 c3) (.map (some M)))), (w.heap.size + 1, (.cells #[(Value.func (.func f) F1 C1)] 121))] [] X from RW.start ⟨Below.refl _ _, by
      intro p hp
      simp only [List.mem_cons, List.not_mem_nil, or_false] at hp
      rcases hp with rfl | rfl | rfl
      · exact hX
      · exact hF.h _ (mS (mS mZ))
      · exact hF.h _ (mS mZ)⟩)
    have HF := Lib.hid hF
    have HS := Lib.hid hS
    have HO := Lib.hid hO
    clear hF hS hO hX hrx hry k2 k3 HD
    generalize x.i = i at *
    generalize x.k = k at *
    refine wpIn_block ?_
    refine wpIn_seq ?_
    refine wpIn_mono (Q := onlyN fun a1 X1 => ∃ p q v13 v14 v15 v16 v17 v18 v19 v20 v21 v22 v23 v24 v25 v26, a1 = { tmps := #[lookV m (.slice (some ⟨b, off, none⟩) rs.length c1) (.slice A2 ls.length c2) (.slice A3 p3 c3) (.map (some M)), (Value.func (.func f) F1 C1), .pointer (some ⟨w.heap.size, 0, none⟩), .pointer (some ⟨w.heap.size + 1, 0, none⟩), .slice none 0 0, .pointer (some ⟨w.heap.size + 1 + 1, 0, none⟩), .pointer (some ⟨Bx, 0, none⟩), .pointer (some ⟨p, 0, none⟩), .pointer (some ⟨q, 0, none⟩), undef, lookV m (.slice (some ⟨b, off, none⟩) rs.length c1) (.slice A2 ls.length c2) (.slice A3 p3 c3) (.map (some M)), Value.func (.func 90) #[] #[.pointer (some ⟨w.heap.size + 1 + 1 + 1, 0, none⟩)], prV i k, v13, v14, v15, v16, v17, v18, v19, v20, v21, v22, v23, v24, v25, v26, undef, undef, undef, undef, undef, undef, undef, undef, undef, undef, undef, undef, undef, undef, undef, undef, undef, undef, undef, undef, undef, undef, undef, undef, undef, undef, undef, undef, undef, undef, undef, undef, undef, undef, undef, undef], defers := [] } ∧ Frm X [(q, (.cells #[.int .i64 ry.st, .int .i64 ry.tk, .int .i64 ry.pr, .int .i64 ry.dlo, .int .i64 ry.dhi, .int .i64 ry.ur, .int .i64 ry.co] 77)), (p, (.cells #[.int .i64 rx.st, .int .i64 rx.tk, .int .i64 rx.pr, .int .i64 rx.dlo, .int .i64 rx.dhi, .int .i64 rx.ur, .int .i64 rx.co] 77)), (Bx, (.cells #[.int .i64 i, .int .i64 k] 86)), (w.heap.size, (lookBox m (.slice (some ⟨b, off, none⟩) rs.length c1) (.slice A2 ls.length c2) (.slice A3 p3 c3) (.map (some M)))), (w.heap.size + 1, (.cells #[(Value.func (.func f) F1 C1)] 121))] X1) ?reg4 ?aft4
    case reg4 =>
      refine hx_start [(2, fun w' : World => ∀ o, w'.cell? ⟨w.heap.size, o, none⟩ = #[Value.int .i64 m.n, (.slice (some ⟨b, off, none⟩) rs.length c1), (.slice A2 ls.length c2), (.slice A3 p3 c3), .int .i64 m.fall, .int .i64 m.win, .int .i64 m.hold, .int .i64 m.dawn, .int .i64 m.dusk, (.map (some M))][o]?), (4, fun w' : World => ∀ o, w'.cell? ⟨Bx, o, none⟩ = #[Value.int .i64 i, .int .i64 k][o]?), (6, fun w' : World => w'.cell? ⟨b, off + i * 7, none⟩ = some (.int .i64 rx.st) ∧ w'.cell? ⟨b, off + i * 7 + 1, none⟩ = some (.int .i64 rx.tk) ∧ w'.cell? ⟨b, off + i * 7 + 2, none⟩ = some (.int .i64 rx.pr) ∧ w'.cell? ⟨b, off + i * 7 + 3, none⟩ = some (.int .i64 rx.dlo) ∧ w'.cell? ⟨b, off + i * 7 + 4, none⟩ = some (.int .i64 rx.dhi) ∧ w'.cell? ⟨b, off + i * 7 + 5, none⟩ = some (.int .i64 rx.ur) ∧ w'.cell? ⟨b, off + i * 7 + 6, none⟩ = some (.int .i64 rx.co)), (9, fun w' : World => ∀ o, w'.cell? ⟨w.heap.size, o, none⟩ = #[Value.int .i64 m.n, (.slice (some ⟨b, off, none⟩) rs.length c1), (.slice A2 ls.length c2), (.slice A3 p3 c3), .int .i64 m.fall, .int .i64 m.win, .int .i64 m.hold, .int .i64 m.dawn, .int .i64 m.dusk, (.map (some M))][o]?), (11, fun w' : World => ∀ o, w'.cell? ⟨Bx, o, none⟩ = #[Value.int .i64 i, .int .i64 k][o]?), (13, fun w' : World => w'.cell? ⟨b, off + k * 7, none⟩ = some (.int .i64 ry.st) ∧ w'.cell? ⟨b, off + k * 7 + 1, none⟩ = some (.int .i64 ry.tk) ∧ w'.cell? ⟨b, off + k * 7 + 2, none⟩ = some (.int .i64 ry.pr) ∧ w'.cell? ⟨b, off + k * 7 + 3, none⟩ = some (.int .i64 ry.dlo) ∧ w'.cell? ⟨b, off + k * 7 + 4, none⟩ = some (.int .i64 ry.dhi) ∧ w'.cell? ⟨b, off + k * 7 + 5, none⟩ = some (.int .i64 ry.ur) ∧ w'.cell? ⟨b, off + k * 7 + 6, none⟩ = some (.int .i64 ry.co))] (by kernel_rfl) (fM ⟨HR.out.drew.frm.cells (mS mZ), fM ⟨HR.out.drew.frm.cells mZ, fM ⟨rep_at HX1.out HR.out.drew.frm.b HXI.out, fM ⟨HR.out.drew.frm.cells (mS mZ), fM ⟨HR.out.drew.frm.cells mZ, fM ⟨rep_at HX1.out HR.out.drew.frm.b HXK.out, (by simp)⟩⟩⟩⟩⟩⟩) ?_
      refine (fun (W1 : World) (hRn : RW X _ [(Bx, (.cells #[.int .i64 i, .int .i64 k] 86)), (w.heap.size, (lookBox m (.slice (some ⟨b, off, none⟩) rs.length c1) (.slice A2 ls.length c2) (.slice A3 p3 c3) (.map (some M)))), (w.heap.size + 1, (.cells #[(Value.func (.func f) F1 C1)] 121))] [] W1) (hzW1 : Hid (W1.heap.size = X.heap.size)) => (?_ : HX _ _ _ _ _ _ _ _ W1)) _ HR.out.drew (Lib.hid rfl)
      clear HR
      have HR := Lib.hid hRn
      clear hRn
      refine hx_pure (i := 0) (oi := ⟨some 13, _, _, _, _, _⟩) (v := ?v2) rfl (by kernel_rfl) (by kernel_rfl) (by kernel_rfl) (by kernel_rfl) (fun _ _ _ h => h) rfl (by kernel_rfl) ?hv2 ?rv2
      case hv2 => (intro w; go_simp) <;> (with_reducible rfl)
      try simp only [Act.put, List.setIfInBounds_toArray, List.set_cons_zero, List.set_cons_succ]
      refine hx_pure (i := 1) (oi := ⟨some 14, _, _, _, _, _⟩) (v := ?v3) rfl (by kernel_rfl) (by kernel_rfl) (by kernel_rfl) (by kernel_rfl) (fun _ _ _ h => h) rfl (by kernel_rfl) ?hv3 ?rv3
      case hv3 => (intro w; go_simp) <;> (with_reducible rfl)
      try simp only [Act.put, List.setIfInBounds_toArray, List.set_cons_zero, List.set_cons_succ]
      refine hx_load (i := 2) (oi := ⟨some 15, _, _, _, _, _⟩) (v := ?v4) _ mZ rfl (by kernel_rfl) (by kernel_rfl) (by kernel_rfl) (by kernel_rfl) (fun _ _ _ h => h) rfl (by kernel_rfl) ?hv4 ?rv4
      case hv4 => (intro w hSw; (try dsimp only at hSw); go_simp) <;> (with_reducible rfl)
      try simp only [Act.put, List.setIfInBounds_toArray, List.set_cons_zero, List.set_cons_succ]
      refine hx_pure (i := 3) (oi := ⟨some 16, _, _, _, _, _⟩) (v := ?v5) rfl (by kernel_rfl) (by kernel_rfl) (by kernel_rfl) (by kernel_rfl) (fun _ _ _ h => h) rfl (by kernel_rfl) ?hv5 ?rv5
      case hv5 => (intro w; go_simp) <;> (with_reducible rfl)
      try simp only [Act.put, List.setIfInBounds_toArray, List.set_cons_zero, List.set_cons_succ]
      refine hx_load (i := 4) (oi := ⟨some 17, _, _, _, _, _⟩) (v := ?v6) _ (mS mZ) rfl (by kernel_rfl) (by kernel_rfl) (by kernel_rfl) (by kernel_rfl) (fun _ _ _ h => h) rfl (by kernel_rfl) ?hv6 ?rv6
      case hv6 => (intro w hSw; (try dsimp only at hSw); go_simp) <;> (with_reducible rfl)
      try simp only [Act.put, List.setIfInBounds_toArray, List.set_cons_zero, List.set_cons_succ]
      refine hx_pure (i := 5) (oi := ⟨some 18, _, _, _, _, _⟩) (v := ?v7) rfl (by kernel_rfl) (by kernel_rfl) (by kernel_rfl) (by kernel_rfl) (fun _ _ _ h => h) rfl (by kernel_rfl) ?hv7 ?rv7
      case hv7 => (intro w; go_simp) <;> (with_reducible rfl)
      try simp only [Act.put, List.setIfInBounds_toArray, List.set_cons_zero, List.set_cons_succ]
      refine hx_load (i := 6) (oi := ⟨some 19, _, _, _, _, _⟩) (v := ?v8) _ (mS (mS mZ)) rfl (by kernel_rfl) (by kernel_rfl) (by kernel_rfl) (by kernel_rfl) (fun _ _ _ h => h) rfl (by kernel_rfl) ?hv8 ?rv8
      case hv8 => (intro w hSw; (try dsimp only at hSw); go_simp) <;> (with_reducible rfl)
      try simp only [Act.put, List.setIfInBounds_toArray, List.set_cons_zero, List.set_cons_succ]
      refine hx_pure (i := 7) (oi := ⟨some 20, _, _, _, _, _⟩) (v := ?v9) rfl (by kernel_rfl) (by kernel_rfl) (by kernel_rfl) (by kernel_rfl) (fun _ _ _ h => h) rfl (by kernel_rfl) ?hv9 ?rv9
      case hv9 => (intro w; go_simp) <;> (with_reducible rfl)
      try simp only [Act.put, List.setIfInBounds_toArray, List.set_cons_zero, List.set_cons_succ]
      refine hx_pure (i := 8) (oi := ⟨some 21, _, _, _, _, _⟩) (v := ?v10) rfl (by kernel_rfl) (by kernel_rfl) (by kernel_rfl) (by kernel_rfl) (fun _ _ _ h => h) rfl (by kernel_rfl) ?hv10 ?rv10
      case hv10 => (intro w; go_simp) <;> (with_reducible rfl)
      try simp only [Act.put, List.setIfInBounds_toArray, List.set_cons_zero, List.set_cons_succ]
      refine hx_load (i := 9) (oi := ⟨some 22, _, _, _, _, _⟩) (v := ?v11) _ (mS (mS (mS mZ))) rfl (by kernel_rfl) (by kernel_rfl) (by kernel_rfl) (by kernel_rfl) (fun _ _ _ h => h) rfl (by kernel_rfl) ?hv11 ?rv11
      case hv11 => (intro w hSw; (try dsimp only at hSw); go_simp) <;> (with_reducible rfl)
      try simp only [Act.put, List.setIfInBounds_toArray, List.set_cons_zero, List.set_cons_succ]
      refine hx_pure (i := 10) (oi := ⟨some 23, _, _, _, _, _⟩) (v := ?v12) rfl (by kernel_rfl) (by kernel_rfl) (by kernel_rfl) (by kernel_rfl) (fun _ _ _ h => h) rfl (by kernel_rfl) ?hv12 ?rv12
      case hv12 => (intro w; go_simp) <;> (with_reducible rfl)
      try simp only [Act.put, List.setIfInBounds_toArray, List.set_cons_zero, List.set_cons_succ]
      refine hx_load (i := 11) (oi := ⟨some 24, _, _, _, _, _⟩) (v := ?v13) _ (mS (mS (mS (mS mZ)))) rfl (by kernel_rfl) (by kernel_rfl) (by kernel_rfl) (by kernel_rfl) (fun _ _ _ h => h) rfl (by kernel_rfl) ?hv13 ?rv13
      case hv13 => (intro w hSw; (try dsimp only at hSw); go_simp) <;> (with_reducible rfl)
      try simp only [Act.put, List.setIfInBounds_toArray, List.set_cons_zero, List.set_cons_succ]
      refine hx_pure (i := 12) (oi := ⟨some 25, _, _, _, _, _⟩) (v := ?v14) rfl (by kernel_rfl) (by kernel_rfl) (by kernel_rfl) (by kernel_rfl) (fun _ _ _ h => h) rfl (by kernel_rfl) ?hv14 ?rv14
      case hv14 => (intro w; go_simp) <;> (with_reducible rfl)
      try simp only [Act.put, List.setIfInBounds_toArray, List.set_cons_zero, List.set_cons_succ]
      refine hx_load (i := 13) (oi := ⟨some 26, _, _, _, _, _⟩) (v := ?v15) _ (mS (mS (mS (mS (mS mZ))))) rfl (by kernel_rfl) (by kernel_rfl) (by kernel_rfl) (by kernel_rfl) (fun _ _ _ h => h) rfl (by kernel_rfl) ?hv15 ?rv15
      case hv15 => (intro w hSw; (try dsimp only at hSw); go_simp) <;> (with_reducible rfl)
      try simp only [Act.put, List.setIfInBounds_toArray, List.set_cons_zero, List.set_cons_succ]
      refine hx_ready (rs := [14, 15]) (by kernel_rfl) (by simp) ?_
      refine AllHX.cons (i := 14) (o := ⟨some 7, _, _, _, _, _⟩) rfl rfl (by kernel_rfl) (fun K hK => ?s16) ?ms16
      case s16 =>
        (try go_simp)
        refine (fun (W17 : World) (hRn : RW X _ [(W1.heap.size, (.cells #[.int .i64 0, .int .i64 0, .int .i64 0, .int .i64 0, .int .i64 0, .int .i64 0, .int .i64 0] 77)), (Bx, (.cells #[.int .i64 i, .int .i64 k] 86)), (w.heap.size, (lookBox m (.slice (some ⟨b, off, none⟩) rs.length c1) (.slice A2 ls.length c2) (.slice A3 p3 c3) (.map (some M)))), (w.heap.size + 1, (.cells #[(Value.func (.func f) F1 C1)] 121))] [] W17) (hzW17 : Hid (W17.heap.size = W1.heap.size + 1)) => hK.out _ W17 (fM ⟨.inr (hRn.frm.cells (mS (mS mZ))), fM ⟨.inr (hRn.frm.cells (mS mZ)), fM ⟨.inr (rep_at HX1.out hRn.frm.b HXI.out), fM ⟨.inr (hRn.frm.cells (mS (mS mZ))), fM ⟨.inr (hRn.frm.cells (mS mZ)), fM ⟨.inr (rep_at HX1.out hRn.frm.b HXK.out), (by simp)⟩⟩⟩⟩⟩⟩) ?_) _ (HR.out.add (.cells #[.int .i64 0, .int .i64 0, .int .i64 0, .int .i64 0, .int .i64 0, .int .i64 0, .int .i64 0] 77) rfl) (Lib.hid (by simp))
        clear HR
        have HR := Lib.hid hRn
        clear hRn
        refine hx_ready (rs := [15]) (by kernel_rfl) (by simp) ?_
        refine AllHX.cons (i := 15) (o := ⟨some 8, _, _, _, _, _⟩) rfl rfl (by kernel_rfl) (fun K hK => ?s18) ?ms18
        case s18 =>
          (try go_simp)
          refine (fun (W19 : World) (hRn : RW X _ [(W17.heap.size, (.cells #[.int .i64 0, .int .i64 0, .int .i64 0, .int .i64 0, .int .i64 0, .int .i64 0, .int .i64 0] 77)), (W1.heap.size, (.cells #[.int .i64 0, .int .i64 0, .int .i64 0, .int .i64 0, .int .i64 0, .int .i64 0, .int .i64 0] 77)), (Bx, (.cells #[.int .i64 i, .int .i64 k] 86)), (w.heap.size, (lookBox m (.slice (some ⟨b, off, none⟩) rs.length c1) (.slice A2 ls.length c2) (.slice A3 p3 c3) (.map (some M)))), (w.heap.size + 1, (.cells #[(Value.func (.func f) F1 C1)] 121))] [] W19) (hzW19 : Hid (W19.heap.size = W17.heap.size + 1)) => hK.out _ W19 (fM ⟨.inr (hRn.frm.cells (mS (mS (mS mZ)))), fM ⟨.inr (hRn.frm.cells (mS (mS mZ))), fM ⟨.inr (rep_at HX1.out hRn.frm.b HXI.out), fM ⟨.inr (hRn.frm.cells (mS (mS (mS mZ)))), fM ⟨.inr (hRn.frm.cells (mS (mS mZ))), fM ⟨.inr (rep_at HX1.out hRn.frm.b HXK.out), (by simp)⟩⟩⟩⟩⟩⟩) ?_) _ (HR.out.add (.cells #[.int .i64 0, .int .i64 0, .int .i64 0, .int .i64 0, .int .i64 0, .int .i64 0, .int .i64 0] 77) rfl) (Lib.hid (by simp))
          clear HR
          have HR := Lib.hid hRn
          clear hRn
          refine hx_ready (rs := [16]) (by kernel_rfl) (by simp) ?_
          refine AllHX.cons (i := 16) (o := ⟨none, _, _, _, _, _⟩) rfl rfl (by kernel_rfl) (fun K hK => ?s20) ?ms20
          case s20 =>
            have u0 := (boxCells (HR.out.frm.h _ (mS mZ))).1
            have f0 := (boxCells (HR.out.frm.h _ (mS mZ))).2
            have l0 := lt_of_blk (HR.out.frm.h _ (mS mZ))
            (try go_simp)
            clear u0 f0 l0
            refine (fun (W21 : World) (hRn : RW X _ [(W1.heap.size, (.cells #[.int .i64 rx.st, .int .i64 rx.tk, .int .i64 rx.pr, .int .i64 rx.dlo, .int .i64 rx.dhi, .int .i64 rx.ur, .int .i64 rx.co] 77)), (W17.heap.size, (.cells #[.int .i64 0, .int .i64 0, .int .i64 0, .int .i64 0, .int .i64 0, .int .i64 0, .int .i64 0] 77)), (Bx, (.cells #[.int .i64 i, .int .i64 k] 86)), (w.heap.size, (lookBox m (.slice (some ⟨b, off, none⟩) rs.length c1) (.slice A2 ls.length c2) (.slice A3 p3 c3) (.map (some M)))), (w.heap.size + 1, (.cells #[(Value.func (.func f) F1 C1)] 121))] [] W21) (hzW21 : Hid (W21.heap.size = W19.heap.size)) => hK.out _ W21 (fM ⟨.inl (by kernel_rfl), fM ⟨.inl (by kernel_rfl), fM ⟨.inl (by kernel_rfl), fM ⟨.inr (hRn.frm.cells (mS (mS (mS mZ)))), fM ⟨.inr (hRn.frm.cells (mS (mS mZ))), fM ⟨.inr (rep_at HX1.out hRn.frm.b HXK.out), (by simp)⟩⟩⟩⟩⟩⟩) ?_) _ ((RW.put (RW.put (RW.put (RW.put (RW.put (RW.put (RW.put (RW.less (bs' := [(W1.heap.size, (.cells #[.int .i64 0, .int .i64 0, .int .i64 0, .int .i64 0, .int .i64 0, .int .i64 0, .int .i64 0] 77)), (W17.heap.size, (.cells #[.int .i64 0, .int .i64 0, .int .i64 0, .int .i64 0, .int .i64 0, .int .i64 0, .int .i64 0] 77)), (Bx, (.cells #[.int .i64 i, .int .i64 k] 86)), (w.heap.size, (lookBox m (.slice (some ⟨b, off, none⟩) rs.length c1) (.slice A2 ls.length c2) (.slice A3 p3 c3) (.map (some M)))), (w.heap.size + 1, (.cells #[(Value.func (.func f) F1 C1)] 121))]) HR.out (by simp only [List.forall_mem_cons, List.forall_mem_nil, and_true]; exact ⟨(mS mZ), mZ, (mS (mS mZ)), (mS (mS (mS mZ))), (mS (mS (mS (mS mZ)))), by simp⟩)) (by have := hzW1.out; have := hzW17.out; have := hzW19.out; omega) (by have := hzW1.out; have := hzW17.out; have := hzW19.out; simp <;> omega) 0 (.int .i64 rx.st)) (by have := hzW1.out; have := hzW17.out; have := hzW19.out; omega) (by have := hzW1.out; have := hzW17.out; have := hzW19.out; simp <;> omega) 1 (.int .i64 rx.tk)) (by have := hzW1.out; have := hzW17.out; have := hzW19.out; omega) (by have := hzW1.out; have := hzW17.out; have := hzW19.out; simp <;> omega) 2 (.int .i64 rx.pr)) (by have := hzW1.out; have := hzW17.out; have := hzW19.out; omega) (by have := hzW1.out; have := hzW17.out; have := hzW19.out; simp <;> omega) 3 (.int .i64 rx.dlo)) (by have := hzW1.out; have := hzW17.out; have := hzW19.out; omega) (by have := hzW1.out; have := hzW17.out; have := hzW19.out; simp <;> omega) 4 (.int .i64 rx.dhi)) (by have := hzW1.out; have := hzW17.out; have := hzW19.out; omega) (by have := hzW1.out; have := hzW17.out; have := hzW19.out; simp <;> omega) 5 (.int .i64 rx.ur)) (by have := hzW1.out; have := hzW17.out; have := hzW19.out; omega) (by have := hzW1.out; have := hzW17.out; have := hzW19.out; simp <;> omega) 6 (.int .i64 rx.co))) (Lib.hid (by simp))
            clear HR
            have HR := Lib.hid hRn
            clear hRn
            refine hx_ready (rs := [17]) (by kernel_rfl) (by simp) ?_
            refine AllHX.cons (i := 17) (o := ⟨none, _, _, _, _, _⟩) rfl rfl (by kernel_rfl) (fun K hK => ?s22) ?ms22
            case s22 =>
              have u0 := (boxCells (HR.out.frm.h _ (mS mZ))).1
              have f0 := (boxCells (HR.out.frm.h _ (mS mZ))).2
              have l0 := lt_of_blk (HR.out.frm.h _ (mS mZ))
              (try go_simp)
              clear u0 f0 l0
              refine (fun (W23 : World) (hRn : RW X _ [(W17.heap.size, (.cells #[.int .i64 ry.st, .int .i64 ry.tk, .int .i64 ry.pr, .int .i64 ry.dlo, .int .i64 ry.dhi, .int .i64 ry.ur, .int .i64 ry.co] 77)), (W1.heap.size, (.cells #[.int .i64 rx.st, .int .i64 rx.tk, .int .i64 rx.pr, .int .i64 rx.dlo, .int .i64 rx.dhi, .int .i64 rx.ur, .int .i64 rx.co] 77)), (Bx, (.cells #[.int .i64 i, .int .i64 k] 86)), (w.heap.size, (lookBox m (.slice (some ⟨b, off, none⟩) rs.length c1) (.slice A2 ls.length c2) (.slice A3 p3 c3) (.map (some M)))), (w.heap.size + 1, (.cells #[(Value.func (.func f) F1 C1)] 121))] [] W23) (hzW23 : Hid (W23.heap.size = W21.heap.size)) => hK.out _ W23 (fM ⟨.inl (by kernel_rfl), fM ⟨.inl (by kernel_rfl), fM ⟨.inl (by kernel_rfl), fM ⟨.inl (by kernel_rfl), fM ⟨.inl (by kernel_rfl), fM ⟨.inl (by kernel_rfl), (by simp)⟩⟩⟩⟩⟩⟩) ?_) _ ((RW.put (RW.put (RW.put (RW.put (RW.put (RW.put (RW.put (RW.less (bs' := [(W17.heap.size, (.cells #[.int .i64 0, .int .i64 0, .int .i64 0, .int .i64 0, .int .i64 0, .int .i64 0, .int .i64 0] 77)), (W1.heap.size, (.cells #[.int .i64 rx.st, .int .i64 rx.tk, .int .i64 rx.pr, .int .i64 rx.dlo, .int .i64 rx.dhi, .int .i64 rx.ur, .int .i64 rx.co] 77)), (Bx, (.cells #[.int .i64 i, .int .i64 k] 86)), (w.heap.size, (lookBox m (.slice (some ⟨b, off, none⟩) rs.length c1) (.slice A2 ls.length c2) (.slice A3 p3 c3) (.map (some M)))), (w.heap.size + 1, (.cells #[(Value.func (.func f) F1 C1)] 121))]) HR.out (by simp only [List.forall_mem_cons, List.forall_mem_nil, and_true]; exact ⟨(mS mZ), mZ, (mS (mS mZ)), (mS (mS (mS mZ))), (mS (mS (mS (mS mZ)))), by simp⟩)) (by have := hzW1.out; have := hzW17.out; have := hzW19.out; have := hzW21.out; omega) (by have := hzW1.out; have := hzW17.out; have := hzW19.out; have := hzW21.out; simp <;> omega) 0 (.int .i64 ry.st)) (by have := hzW1.out; have := hzW17.out; have := hzW19.out; have := hzW21.out; omega) (by have := hzW1.out; have := hzW17.out; have := hzW19.out; have := hzW21.out; simp <;> omega) 1 (.int .i64 ry.tk)) (by have := hzW1.out; have := hzW17.out; have := hzW19.out; have := hzW21.out; omega) (by have := hzW1.out; have := hzW17.out; have := hzW19.out; have := hzW21.out; simp <;> omega) 2 (.int .i64 ry.pr)) (by have := hzW1.out; have := hzW17.out; have := hzW19.out; have := hzW21.out; omega) (by have := hzW1.out; have := hzW17.out; have := hzW19.out; have := hzW21.out; simp <;> omega) 3 (.int .i64 ry.dlo)) (by have := hzW1.out; have := hzW17.out; have := hzW19.out; have := hzW21.out; omega) (by have := hzW1.out; have := hzW17.out; have := hzW19.out; have := hzW21.out; simp <;> omega) 4 (.int .i64 ry.dhi)) (by have := hzW1.out; have := hzW17.out; have := hzW19.out; have := hzW21.out; omega) (by have := hzW1.out; have := hzW17.out; have := hzW19.out; have := hzW21.out; simp <;> omega) 5 (.int .i64 ry.ur)) (by have := hzW1.out; have := hzW17.out; have := hzW19.out; have := hzW21.out; omega) (by have := hzW1.out; have := hzW17.out; have := hzW19.out; have := hzW21.out; simp <;> omega) 6 (.int .i64 ry.co))) (Lib.hid (by simp))
              clear HR
              have HR := Lib.hid hRn
              clear hRn
              refine hx_done (by kernel_rfl) ?_
              exact ⟨W1.heap.size, W17.heap.size, _, _, _, _, _, _, _, _, _, _, _, _, _, _, rfl, (RW.less (bs' := [(W17.heap.size, (.cells #[.int .i64 ry.st, .int .i64 ry.tk, .int .i64 ry.pr, .int .i64 ry.dlo, .int .i64 ry.dhi, .int .i64 ry.ur, .int .i64 ry.co] 77)), (W1.heap.size, (.cells #[.int .i64 rx.st, .int .i64 rx.tk, .int .i64 rx.pr, .int .i64 rx.dlo, .int .i64 rx.dhi, .int .i64 rx.ur, .int .i64 rx.co] 77)), (Bx, (.cells #[.int .i64 i, .int .i64 k] 86)), (w.heap.size, (lookBox m (.slice (some ⟨b, off, none⟩) rs.length c1) (.slice A2 ls.length c2) (.slice A3 p3 c3) (.map (some M)))), (w.heap.size + 1, (.cells #[(Value.func (.func f) F1 C1)] 121))]) HR.out (by simp only [List.forall_mem_cons, List.forall_mem_nil, and_true]; exact ⟨mZ, (mS mZ), (mS (mS mZ)), (mS (mS (mS mZ))), (mS (mS (mS (mS mZ)))), by simp⟩)).frm⟩
            exact AllHX.nil
          exact AllHX.nil
        exact AllHX.nil
      refine AllHX.cons (i := 15) (o := ⟨some 8, _, _, _, _, _⟩) rfl rfl (by kernel_rfl) (fun K hK => ?s24) ?ms24
      case s24 =>
        (try go_simp)
        refine (fun (W25 : World) (hRn : RW X _ [(W1.heap.size, (.cells #[.int .i64 0, .int .i64 0, .int .i64 0, .int .i64 0, .int .i64 0, .int .i64 0, .int .i64 0] 77)), (Bx, (.cells #[.int .i64 i, .int .i64 k] 86)), (w.heap.size, (lookBox m (.slice (some ⟨b, off, none⟩) rs.length c1) (.slice A2 ls.length c2) (.slice A3 p3 c3) (.map (some M)))), (w.heap.size + 1, (.cells #[(Value.func (.func f) F1 C1)] 121))] [] W25) (hzW25 : Hid (W25.heap.size = W1.heap.size + 1)) => hK.out _ W25 (fM ⟨.inr (hRn.frm.cells (mS (mS mZ))), fM ⟨.inr (hRn.frm.cells (mS mZ)), fM ⟨.inr (rep_at HX1.out hRn.frm.b HXI.out), fM ⟨.inr (hRn.frm.cells (mS (mS mZ))), fM ⟨.inr (hRn.frm.cells (mS mZ)), fM ⟨.inr (rep_at HX1.out hRn.frm.b HXK.out), (by simp)⟩⟩⟩⟩⟩⟩) ?_) _ (HR.out.add (.cells #[.int .i64 0, .int .i64 0, .int .i64 0, .int .i64 0, .int .i64 0, .int .i64 0, .int .i64 0] 77) rfl) (Lib.hid (by simp))
        clear HR
        have HR := Lib.hid hRn
        clear hRn
        refine hx_ready (rs := [14]) (by kernel_rfl) (by simp) ?_
        refine AllHX.cons (i := 14) (o := ⟨some 7, _, _, _, _, _⟩) rfl rfl (by kernel_rfl) (fun K hK => ?s26) ?ms26
        case s26 =>
          (try go_simp)
          refine (fun (W27 : World) (hRn : RW X _ [(W25.heap.size, (.cells #[.int .i64 0, .int .i64 0, .int .i64 0, .int .i64 0, .int .i64 0, .int .i64 0, .int .i64 0] 77)), (W1.heap.size, (.cells #[.int .i64 0, .int .i64 0, .int .i64 0, .int .i64 0, .int .i64 0, .int .i64 0, .int .i64 0] 77)), (Bx, (.cells #[.int .i64 i, .int .i64 k] 86)), (w.heap.size, (lookBox m (.slice (some ⟨b, off, none⟩) rs.length c1) (.slice A2 ls.length c2) (.slice A3 p3 c3) (.map (some M)))), (w.heap.size + 1, (.cells #[(Value.func (.func f) F1 C1)] 121))] [] W27) (hzW27 : Hid (W27.heap.size = W25.heap.size + 1)) => hK.out _ W27 (fM ⟨.inr (hRn.frm.cells (mS (mS (mS mZ)))), fM ⟨.inr (hRn.frm.cells (mS (mS mZ))), fM ⟨.inr (rep_at HX1.out hRn.frm.b HXI.out), fM ⟨.inr (hRn.frm.cells (mS (mS (mS mZ)))), fM ⟨.inr (hRn.frm.cells (mS (mS mZ))), fM ⟨.inr (rep_at HX1.out hRn.frm.b HXK.out), (by simp)⟩⟩⟩⟩⟩⟩) ?_) _ (HR.out.add (.cells #[.int .i64 0, .int .i64 0, .int .i64 0, .int .i64 0, .int .i64 0, .int .i64 0, .int .i64 0] 77) rfl) (Lib.hid (by simp))
          clear HR
          have HR := Lib.hid hRn
          clear hRn
          refine hx_ready (rs := [16]) (by kernel_rfl) (by simp) ?_
          refine AllHX.cons (i := 16) (o := ⟨none, _, _, _, _, _⟩) rfl rfl (by kernel_rfl) (fun K hK => ?s28) ?ms28
          case s28 =>
            have u0 := (boxCells (HR.out.frm.h _ mZ)).1
            have f0 := (boxCells (HR.out.frm.h _ mZ)).2
            have l0 := lt_of_blk (HR.out.frm.h _ mZ)
            (try go_simp)
            clear u0 f0 l0
            refine (fun (W29 : World) (hRn : RW X _ [(W25.heap.size, (.cells #[.int .i64 rx.st, .int .i64 rx.tk, .int .i64 rx.pr, .int .i64 rx.dlo, .int .i64 rx.dhi, .int .i64 rx.ur, .int .i64 rx.co] 77)), (W1.heap.size, (.cells #[.int .i64 0, .int .i64 0, .int .i64 0, .int .i64 0, .int .i64 0, .int .i64 0, .int .i64 0] 77)), (Bx, (.cells #[.int .i64 i, .int .i64 k] 86)), (w.heap.size, (lookBox m (.slice (some ⟨b, off, none⟩) rs.length c1) (.slice A2 ls.length c2) (.slice A3 p3 c3) (.map (some M)))), (w.heap.size + 1, (.cells #[(Value.func (.func f) F1 C1)] 121))] [] W29) (hzW29 : Hid (W29.heap.size = W27.heap.size)) => hK.out _ W29 (fM ⟨.inl (by kernel_rfl), fM ⟨.inl (by kernel_rfl), fM ⟨.inl (by kernel_rfl), fM ⟨.inr (hRn.frm.cells (mS (mS (mS mZ)))), fM ⟨.inr (hRn.frm.cells (mS (mS mZ))), fM ⟨.inr (rep_at HX1.out hRn.frm.b HXK.out), (by simp)⟩⟩⟩⟩⟩⟩) ?_) _ ((RW.put (RW.put (RW.put (RW.put (RW.put (RW.put (RW.put (RW.less (bs' := [(W25.heap.size, (.cells #[.int .i64 0, .int .i64 0, .int .i64 0, .int .i64 0, .int .i64 0, .int .i64 0, .int .i64 0] 77)), (W1.heap.size, (.cells #[.int .i64 0, .int .i64 0, .int .i64 0, .int .i64 0, .int .i64 0, .int .i64 0, .int .i64 0] 77)), (Bx, (.cells #[.int .i64 i, .int .i64 k] 86)), (w.heap.size, (lookBox m (.slice (some ⟨b, off, none⟩) rs.length c1) (.slice A2 ls.length c2) (.slice A3 p3 c3) (.map (some M)))), (w.heap.size + 1, (.cells #[(Value.func (.func f) F1 C1)] 121))]) HR.out (by simp only [List.forall_mem_cons, List.forall_mem_nil, and_true]; exact ⟨mZ, (mS mZ), (mS (mS mZ)), (mS (mS (mS mZ))), (mS (mS (mS (mS mZ)))), by simp⟩)) (by have := hzW1.out; have := hzW25.out; have := hzW27.out; omega) (by have := hzW1.out; have := hzW25.out; have := hzW27.out; simp <;> omega) 0 (.int .i64 rx.st)) (by have := hzW1.out; have := hzW25.out; have := hzW27.out; omega) (by have := hzW1.out; have := hzW25.out; have := hzW27.out; simp <;> omega) 1 (.int .i64 rx.tk)) (by have := hzW1.out; have := hzW25.out; have := hzW27.out; omega) (by have := hzW1.out; have := hzW25.out; have := hzW27.out; simp <;> omega) 2 (.int .i64 rx.pr)) (by have := hzW1.out; have := hzW25.out; have := hzW27.out; omega) (by have := hzW1.out; have := hzW25.out; have := hzW27.out; simp <;> omega) 3 (.int .i64 rx.dlo)) (by have := hzW1.out; have := hzW25.out; have := hzW27.out; omega) (by have := hzW1.out; have := hzW25.out; have := hzW27.out; simp <;> omega) 4 (.int .i64 rx.dhi)) (by have := hzW1.out; have := hzW25.out; have := hzW27.out; omega) (by have := hzW1.out; have := hzW25.out; have := hzW27.out; simp <;> omega) 5 (.int .i64 rx.ur)) (by have := hzW1.out; have := hzW25.out; have := hzW27.out; omega) (by have := hzW1.out; have := hzW25.out; have := hzW27.out; simp <;> omega) 6 (.int .i64 rx.co))) (Lib.hid (by simp))
            clear HR
            have HR := Lib.hid hRn
            clear hRn
            refine hx_ready (rs := [17]) (by kernel_rfl) (by simp) ?_
            refine AllHX.cons (i := 17) (o := ⟨none, _, _, _, _, _⟩) rfl rfl (by kernel_rfl) (fun K hK => ?s30) ?ms30
            case s30 =>
              have u0 := (boxCells (HR.out.frm.h _ (mS mZ))).1
              have f0 := (boxCells (HR.out.frm.h _ (mS mZ))).2
              have l0 := lt_of_blk (HR.out.frm.h _ (mS mZ))
              (try go_simp)
              clear u0 f0 l0
              refine (fun (W31 : World) (hRn : RW X _ [(W1.heap.size, (.cells #[.int .i64 ry.st, .int .i64 ry.tk, .int .i64 ry.pr, .int .i64 ry.dlo, .int .i64 ry.dhi, .int .i64 ry.ur, .int .i64 ry.co] 77)), (W25.heap.size, (.cells #[.int .i64 rx.st, .int .i64 rx.tk, .int .i64 rx.pr, .int .i64 rx.dlo, .int .i64 rx.dhi, .int .i64 rx.ur, .int .i64 rx.co] 77)), (Bx, (.cells #[.int .i64 i, .int .i64 k] 86)), (w.heap.size, (lookBox m (.slice (some ⟨b, off, none⟩) rs.length c1) (.slice A2 ls.length c2) (.slice A3 p3 c3) (.map (some M)))), (w.heap.size + 1, (.cells #[(Value.func (.func f) F1 C1)] 121))] [] W31) (hzW31 : Hid (W31.heap.size = W29.heap.size)) => hK.out _ W31 (fM ⟨.inl (by kernel_rfl), fM ⟨.inl (by kernel_rfl), fM ⟨.inl (by kernel_rfl), fM ⟨.inl (by kernel_rfl), fM ⟨.inl (by kernel_rfl), fM ⟨.inl (by kernel_rfl), (by simp)⟩⟩⟩⟩⟩⟩) ?_) _ ((RW.put (RW.put (RW.put (RW.put (RW.put (RW.put (RW.put (RW.less (bs' := [(W1.heap.size, (.cells #[.int .i64 0, .int .i64 0, .int .i64 0, .int .i64 0, .int .i64 0, .int .i64 0, .int .i64 0] 77)), (W25.heap.size, (.cells #[.int .i64 rx.st, .int .i64 rx.tk, .int .i64 rx.pr, .int .i64 rx.dlo, .int .i64 rx.dhi, .int .i64 rx.ur, .int .i64 rx.co] 77)), (Bx, (.cells #[.int .i64 i, .int .i64 k] 86)), (w.heap.size, (lookBox m (.slice (some ⟨b, off, none⟩) rs.length c1) (.slice A2 ls.length c2) (.slice A3 p3 c3) (.map (some M)))), (w.heap.size + 1, (.cells #[(Value.func (.func f) F1 C1)] 121))]) HR.out (by simp only [List.forall_mem_cons, List.forall_mem_nil, and_true]; exact ⟨(mS mZ), mZ, (mS (mS mZ)), (mS (mS (mS mZ))), (mS (mS (mS (mS mZ)))), by simp⟩)) (by have := hzW1.out; have := hzW25.out; have := hzW27.out; have := hzW29.out; omega) (by have := hzW1.out; have := hzW25.out; have := hzW27.out; have := hzW29.out; simp <;> omega) 0 (.int .i64 ry.st)) (by have := hzW1.out; have := hzW25.out; have := hzW27.out; have := hzW29.out; omega) (by have := hzW1.out; have := hzW25.out; have := hzW27.out; have := hzW29.out; simp <;> omega) 1 (.int .i64 ry.tk)) (by have := hzW1.out; have := hzW25.out; have := hzW27.out; have := hzW29.out; omega) (by have := hzW1.out; have := hzW25.out; have := hzW27.out; have := hzW29.out; simp <;> omega) 2 (.int .i64 ry.pr)) (by have := hzW1.out; have := hzW25.out; have := hzW27.out; have := hzW29.out; omega) (by have := hzW1.out; have := hzW25.out; have := hzW27.out; have := hzW29.out; simp <;> omega) 3 (.int .i64 ry.dlo)) (by have := hzW1.out; have := hzW25.out; have := hzW27.out; have := hzW29.out; omega) (by have := hzW1.out; have := hzW25.out; have := hzW27.out; have := hzW29.out; simp <;> omega) 4 (.int .i64 ry.dhi)) (by have := hzW1.out; have := hzW25.out; have := hzW27.out; have := hzW29.out; omega) (by have := hzW1.out; have := hzW25.out; have := hzW27.out; have := hzW29.out; simp <;> omega) 5 (.int .i64 ry.ur)) (by have := hzW1.out; have := hzW25.out; have := hzW27.out; have := hzW29.out; omega) (by have := hzW1.out; have := hzW25.out; have := hzW27.out; have := hzW29.out; simp <;> omega) 6 (.int .i64 ry.co))) (Lib.hid (by simp))
              clear HR
              have HR := Lib.hid hRn
              clear hRn
              refine hx_done (by kernel_rfl) ?_
              exact ⟨W25.heap.size, W1.heap.size, _, _, _, _, _, _, _, _, _, _, _, _, _, _, rfl, (RW.less (bs' := [(W1.heap.size, (.cells #[.int .i64 ry.st, .int .i64 ry.tk, .int .i64 ry.pr, .int .i64 ry.dlo, .int .i64 ry.dhi, .int .i64 ry.ur, .int .i64 ry.co] 77)), (W25.heap.size, (.cells #[.int .i64 rx.st, .int .i64 rx.tk, .int .i64 rx.pr, .int .i64 rx.dlo, .int .i64 rx.dhi, .int .i64 rx.ur, .int .i64 rx.co] 77)), (Bx, (.cells #[.int .i64 i, .int .i64 k] 86)), (w.heap.size, (lookBox m (.slice (some ⟨b, off, none⟩) rs.length c1) (.slice A2 ls.length c2) (.slice A3 p3 c3) (.map (some M)))), (w.heap.size + 1, (.cells #[(Value.func (.func f) F1 C1)] 121))]) HR.out (by simp only [List.forall_mem_cons, List.forall_mem_nil, and_true]; exact ⟨mZ, (mS mZ), (mS (mS mZ)), (mS (mS (mS mZ))), (mS (mS (mS (mS mZ)))), by simp⟩)).frm⟩
            exact AllHX.nil
          exact AllHX.nil
        exact AllHX.nil
      exact AllHX.nil
    case aft4 =>
      rintro e a1 X1 hO
      obtain ⟨rfl, p, q, v13, v14, v15, v16, v17, v18, v19, v20, v21, v22, v23, v24, v25, v26, rfl, hF1⟩ := onlyN_is hO
      clear HR hO
      have HR := Lib.hid (RW.start hF1)
      have hpl := hF1.lt (mS mZ)
      have hql := hF1.lt mZ
      have hXX := hF1.b.size
      clear hF1
      refine wpIn_seq ?_
      refine wpIn_mono (Q := onlyN fun a1 X2 => ∃ sp t7 t8 u10 u11 u12 u13 u14 u15 u16 u17 u18 u19 u20 u21 u22 u23 u24 u25 u26 u27 u28 u29 u30 u31 u32 u33 u34 u35 u36 u37 u38 u39 u40 u41 u42 u43 u44 u45 u46 u47 u48 u49 u50 u51 u52, a1 = { tmps := #[lookV m (.slice (some ⟨b, off, none⟩) rs.length c1) (.slice A2 ls.length c2) (.slice A3 p3 c3) (.map (some M)), (Value.func (.func f) F1 C1), .pointer (some ⟨w.heap.size, 0, none⟩), .pointer (some ⟨w.heap.size + 1, 0, none⟩), .slice none 0 0, .pointer (some ⟨w.heap.size + 1 + 1, 0, none⟩), .pointer (some ⟨Bx, 0, none⟩), t7, t8, .pointer (some ⟨sp, 0, none⟩), u10, u11, u12, u13, u14, u15, u16, u17, u18, u19, u20, u21, u22, u23, u24, u25, u26, u27, u28, u29, u30, u31, u32, u33, u34, u35, u36, u37, u38, u39, u40, u41, u42, u43, u44, u45, u46, u47, u48, u49, u50, u51, u52, undef, undef, undef, undef, undef, undef, undef, undef, undef, undef], defers := [] } ∧ Frm X [(sp, (.cells #[.int .i64 (max (rx.tk + di) (ry.tk + dk)), .int .i64 (max rx.tk ry.tk + m.hold - 1)] 56)), (Bx, (.cells #[.int .i64 i, .int .i64 k] 86)), (w.heap.size, (lookBox m (.slice (some ⟨b, off, none⟩) rs.length c1) (.slice A2 ls.length c2) (.slice A3 p3 c3) (.map (some M)))), (w.heap.size + 1, (.cells #[(Value.func (.func f) F1 C1)] 121))] X2) ?reg5 ?aft5
      case reg5 =>
        refine hx_start [(1, fun w' : World => ∀ o, w'.cell? ⟨p, o, none⟩ = #[Value.int .i64 rx.st, .int .i64 rx.tk, .int .i64 rx.pr, .int .i64 rx.dlo, .int .i64 rx.dhi, .int .i64 rx.ur, .int .i64 rx.co][o]?), (2, fun w' : World => ∀ o, w'.cell? ⟨w.heap.size + 1, o, none⟩ = #[(Value.func (.func f) F1 C1)][o]?), (4, fun w' : World => ∀ o, w'.cell? ⟨Bx, o, none⟩ = #[Value.int .i64 i, .int .i64 k][o]?), (8, fun w' : World => ∀ o, w'.cell? ⟨q, o, none⟩ = #[Value.int .i64 ry.st, .int .i64 ry.tk, .int .i64 ry.pr, .int .i64 ry.dlo, .int .i64 ry.dhi, .int .i64 ry.ur, .int .i64 ry.co][o]?), (9, fun w' : World => ∀ o, w'.cell? ⟨w.heap.size + 1, o, none⟩ = #[(Value.func (.func f) F1 C1)][o]?), (11, fun w' : World => ∀ o, w'.cell? ⟨Bx, o, none⟩ = #[Value.int .i64 i, .int .i64 k][o]?), (16, fun w' : World => ∀ o, w'.cell? ⟨p, o, none⟩ = #[Value.int .i64 rx.st, .int .i64 rx.tk, .int .i64 rx.pr, .int .i64 rx.dlo, .int .i64 rx.dhi, .int .i64 rx.ur, .int .i64 rx.co][o]?), (18, fun w' : World => ∀ o, w'.cell? ⟨q, o, none⟩ = #[Value.int .i64 ry.st, .int .i64 ry.tk, .int .i64 ry.pr, .int .i64 ry.dlo, .int .i64 ry.dhi, .int .i64 ry.ur, .int .i64 ry.co][o]?), (22, fun w' : World => ∀ o, w'.cell? ⟨w.heap.size, o, none⟩ = #[Value.int .i64 m.n, (.slice (some ⟨b, off, none⟩) rs.length c1), (.slice A2 ls.length c2), (.slice A3 p3 c3), .int .i64 m.fall, .int .i64 m.win, .int .i64 m.hold, .int .i64 m.dawn, .int .i64 m.dusk, (.map (some M))][o]?)] (by kernel_rfl) (fM ⟨HR.out.drew.frm.cells (mS mZ), fM ⟨HR.out.drew.frm.cells (mS (mS (mS (mS mZ)))), fM ⟨HR.out.drew.frm.cells (mS (mS mZ)), fM ⟨HR.out.drew.frm.cells mZ, fM ⟨HR.out.drew.frm.cells (mS (mS (mS (mS mZ)))), fM ⟨HR.out.drew.frm.cells (mS (mS mZ)), fM ⟨HR.out.drew.frm.cells (mS mZ), fM ⟨HR.out.drew.frm.cells mZ, fM ⟨HR.out.drew.frm.cells (mS (mS (mS mZ))), (by simp)⟩⟩⟩⟩⟩⟩⟩⟩⟩) ?_
        refine (fun (W32 : World) (hRn : RW X _ [(q, (.cells #[.int .i64 ry.st, .int .i64 ry.tk, .int .i64 ry.pr, .int .i64 ry.dlo, .int .i64 ry.dhi, .int .i64 ry.ur, .int .i64 ry.co] 77)), (p, (.cells #[.int .i64 rx.st, .int .i64 rx.tk, .int .i64 rx.pr, .int .i64 rx.dlo, .int .i64 rx.dhi, .int .i64 rx.ur, .int .i64 rx.co] 77)), (Bx, (.cells #[.int .i64 i, .int .i64 k] 86)), (w.heap.size, (lookBox m (.slice (some ⟨b, off, none⟩) rs.length c1) (.slice A2 ls.length c2) (.slice A3 p3 c3) (.map (some M)))), (w.heap.size + 1, (.cells #[(Value.func (.func f) F1 C1)] 121))] [] W32) (hzW32 : Hid (W32.heap.size = X1.heap.size)) => (?_ : HX _ _ _ _ _ _ _ _ W32)) _ HR.out.drew (Lib.hid rfl)
        clear HR
        have HR := Lib.hid hRn
        clear hRn
        refine hx_pure (i := 0) (oi := ⟨some 27, _, _, _, _, _⟩) (v := ?v33) rfl (by kernel_rfl) (by kernel_rfl) (by kernel_rfl) (by kernel_rfl) (fun _ _ _ h => h) rfl (by kernel_rfl) ?hv33 ?rv33
        case hv33 => (intro w; go_simp) <;> (with_reducible rfl)
        try simp only [Act.put, List.setIfInBounds_toArray, List.set_cons_zero, List.set_cons_succ]
        refine hx_load (i := 1) (oi := ⟨some 28, _, _, _, _, _⟩) (v := ?v34) _ mZ rfl (by kernel_rfl) (by kernel_rfl) (by kernel_rfl) (by kernel_rfl) (fun _ _ _ h => h) rfl (by kernel_rfl) ?hv34 ?rv34
        case hv34 => (intro w hSw; (try dsimp only at hSw); go_simp) <;> (with_reducible rfl)
        try simp only [Act.put, List.setIfInBounds_toArray, List.set_cons_zero, List.set_cons_succ]
        refine hx_load (i := 2) (oi := ⟨some 29, _, _, _, _, _⟩) (v := ?v35) _ (mS mZ) rfl (by kernel_rfl) (by kernel_rfl) (by kernel_rfl) (by kernel_rfl) (fun _ _ _ h => h) rfl (by kernel_rfl) ?hv35 ?rv35
        case hv35 => (intro w hSw; (try dsimp only at hSw); go_simp) <;> (with_reducible rfl)
        try simp only [Act.put, List.setIfInBounds_toArray, List.set_cons_zero, List.set_cons_succ]
        refine hx_pure (i := 3) (oi := ⟨some 30, _, _, _, _, _⟩) (v := ?v36) rfl (by kernel_rfl) (by kernel_rfl) (by kernel_rfl) (by kernel_rfl) (fun _ _ _ h => h) rfl (by kernel_rfl) ?hv36 ?rv36
        case hv36 => (intro w; go_simp) <;> (with_reducible rfl)
        try simp only [Act.put, List.setIfInBounds_toArray, List.set_cons_zero, List.set_cons_succ]
        refine hx_load (i := 4) (oi := ⟨some 31, _, _, _, _, _⟩) (v := ?v37) _ (mS (mS mZ)) rfl (by kernel_rfl) (by kernel_rfl) (by kernel_rfl) (by kernel_rfl) (fun _ _ _ h => h) rfl (by kernel_rfl) ?hv37 ?rv37
        case hv37 => (intro w hSw; (try dsimp only at hSw); go_simp) <;> (with_reducible rfl)
        try simp only [Act.put, List.setIfInBounds_toArray, List.set_cons_zero, List.set_cons_succ]
        refine hx_pure (i := 7) (oi := ⟨some 34, _, _, _, _, _⟩) (v := ?v38) rfl (by kernel_rfl) (by kernel_rfl) (by kernel_rfl) (by kernel_rfl) (fun _ _ _ h => h) rfl (by kernel_rfl) ?hv38 ?rv38
        case hv38 => (intro w; go_simp) <;> (with_reducible rfl)
        try simp only [Act.put, List.setIfInBounds_toArray, List.set_cons_zero, List.set_cons_succ]
        refine hx_load (i := 8) (oi := ⟨some 35, _, _, _, _, _⟩) (v := ?v39) _ (mS (mS (mS mZ))) rfl (by kernel_rfl) (by kernel_rfl) (by kernel_rfl) (by kernel_rfl) (fun _ _ _ h => h) rfl (by kernel_rfl) ?hv39 ?rv39
        case hv39 => (intro w hSw; (try dsimp only at hSw); go_simp) <;> (with_reducible rfl)
        try simp only [Act.put, List.setIfInBounds_toArray, List.set_cons_zero, List.set_cons_succ]
        refine hx_load (i := 9) (oi := ⟨some 36, _, _, _, _, _⟩) (v := ?v40) _ (mS (mS (mS (mS mZ)))) rfl (by kernel_rfl) (by kernel_rfl) (by kernel_rfl) (by kernel_rfl) (fun _ _ _ h => h) rfl (by kernel_rfl) ?hv40 ?rv40
        case hv40 => (intro w hSw; (try dsimp only at hSw); go_simp) <;> (with_reducible rfl)
        try simp only [Act.put, List.setIfInBounds_toArray, List.set_cons_zero, List.set_cons_succ]
        refine hx_pure (i := 10) (oi := ⟨some 37, _, _, _, _, _⟩) (v := ?v41) rfl (by kernel_rfl) (by kernel_rfl) (by kernel_rfl) (by kernel_rfl) (fun _ _ _ h => h) rfl (by kernel_rfl) ?hv41 ?rv41
        case hv41 => (intro w; go_simp) <;> (with_reducible rfl)
        try simp only [Act.put, List.setIfInBounds_toArray, List.set_cons_zero, List.set_cons_succ]
        refine hx_load (i := 11) (oi := ⟨some 38, _, _, _, _, _⟩) (v := ?v42) _ (mS (mS (mS (mS (mS mZ))))) rfl (by kernel_rfl) (by kernel_rfl) (by kernel_rfl) (by kernel_rfl) (fun _ _ _ h => h) rfl (by kernel_rfl) ?hv42 ?rv42
        case hv42 => (intro w hSw; (try dsimp only at hSw); go_simp) <;> (with_reducible rfl)
        try simp only [Act.put, List.setIfInBounds_toArray, List.set_cons_zero, List.set_cons_succ]
        refine hx_pure (i := 15) (oi := ⟨some 42, _, _, _, _, _⟩) (v := ?v43) rfl (by kernel_rfl) (by kernel_rfl) (by kernel_rfl) (by kernel_rfl) (fun _ _ _ h => h) rfl (by kernel_rfl) ?hv43 ?rv43
        case hv43 => (intro w; go_simp) <;> (with_reducible rfl)
        try simp only [Act.put, List.setIfInBounds_toArray, List.set_cons_zero, List.set_cons_succ]
        refine hx_load (i := 16) (oi := ⟨some 43, _, _, _, _, _⟩) (v := ?v44) _ (mS (mS (mS (mS (mS (mS mZ)))))) rfl (by kernel_rfl) (by kernel_rfl) (by kernel_rfl) (by kernel_rfl) (fun _ _ _ h => h) rfl (by kernel_rfl) ?hv44 ?rv44
        case hv44 => (intro w hSw; (try dsimp only at hSw); go_simp) <;> (with_reducible rfl)
        try simp only [Act.put, List.setIfInBounds_toArray, List.set_cons_zero, List.set_cons_succ]
        refine hx_pure (i := 17) (oi := ⟨some 44, _, _, _, _, _⟩) (v := ?v45) rfl (by kernel_rfl) (by kernel_rfl) (by kernel_rfl) (by kernel_rfl) (fun _ _ _ h => h) rfl (by kernel_rfl) ?hv45 ?rv45
        case hv45 => (intro w; go_simp) <;> (with_reducible rfl)
        try simp only [Act.put, List.setIfInBounds_toArray, List.set_cons_zero, List.set_cons_succ]
        refine hx_load (i := 18) (oi := ⟨some 45, _, _, _, _, _⟩) (v := ?v46) _ (mS (mS (mS (mS (mS (mS (mS mZ))))))) rfl (by kernel_rfl) (by kernel_rfl) (by kernel_rfl) (by kernel_rfl) (fun _ _ _ h => h) rfl (by kernel_rfl) ?hv46 ?rv46
        case hv46 => (intro w hSw; (try dsimp only at hSw); go_simp) <;> (with_reducible rfl)
        try simp only [Act.put, List.setIfInBounds_toArray, List.set_cons_zero, List.set_cons_succ]
        refine hx_pure (i := 19) (oi := ⟨some 46, _, _, _, _, _⟩) (v := .int .i64 (max rx.tk ry.tk)) rfl (by kernel_rfl) (by kernel_rfl) (by kernel_rfl) (by kernel_rfl) (fun _ _ _ h => h) rfl (by kernel_rfl) ?hv47 ?rv47
        case hv47 => (intro w; have h := hm2 w; simp [execOp, Act.eval, Sem.run_bind, Result.andThen, go_sem, h])
        try simp only [Act.put, List.setIfInBounds_toArray, List.set_cons_zero, List.set_cons_succ]
        refine hx_pure (i := 20) (oi := ⟨some 47, _, _, _, _, _⟩) (v := ?v48) rfl (by kernel_rfl) (by kernel_rfl) (by kernel_rfl) (by kernel_rfl) (fun _ _ _ h => h) rfl (by kernel_rfl) ?hv48 ?rv48
        case hv48 => (intro w; go_simp) <;> (with_reducible rfl)
        try simp only [Act.put, List.setIfInBounds_toArray, List.set_cons_zero, List.set_cons_succ]
        refine hx_pure (i := 21) (oi := ⟨some 48, _, _, _, _, _⟩) (v := ?v49) rfl (by kernel_rfl) (by kernel_rfl) (by kernel_rfl) (by kernel_rfl) (fun _ _ _ h => h) rfl (by kernel_rfl) ?hv49 ?rv49
        case hv49 => (intro w; go_simp) <;> (with_reducible rfl)
        try simp only [Act.put, List.setIfInBounds_toArray, List.set_cons_zero, List.set_cons_succ]
        refine hx_load (i := 22) (oi := ⟨some 49, _, _, _, _, _⟩) (v := ?v50) _ (mS (mS (mS (mS (mS (mS (mS (mS mZ)))))))) rfl (by kernel_rfl) (by kernel_rfl) (by kernel_rfl) (by kernel_rfl) (fun _ _ _ h => h) rfl (by kernel_rfl) ?hv50 ?rv50
        case hv50 => (intro w hSw; (try dsimp only at hSw); go_simp) <;> (with_reducible rfl)
        try simp only [Act.put, List.setIfInBounds_toArray, List.set_cons_zero, List.set_cons_succ]
        refine hx_pure (i := 23) (oi := ⟨some 50, _, _, _, _, _⟩) (v := ?v51) rfl (by kernel_rfl) (by kernel_rfl) (by kernel_rfl) (by kernel_rfl) (fun _ _ _ h => h) rfl (by kernel_rfl) ?hv51 ?rv51
        case hv51 => (intro w; go_simp) <;> (with_reducible rfl)
        try simp only [Act.put, List.setIfInBounds_toArray, List.set_cons_zero, List.set_cons_succ]
        refine hx_pure (i := 24) (oi := ⟨some 51, _, _, _, _, _⟩) (v := ?v52) rfl (by kernel_rfl) (by kernel_rfl) (by kernel_rfl) (by kernel_rfl) (fun _ _ _ h => h) rfl (by kernel_rfl) ?hv52 ?rv52
        case hv52 => (intro w; go_simp) <;> (with_reducible rfl)
        try simp only [Act.put, List.setIfInBounds_toArray, List.set_cons_zero, List.set_cons_succ]
        refine hx_ready (rs := [5, 26]) (by kernel_rfl) (by simp) ?_
        refine AllHX.cons (i := 5) (o := ⟨some 32, _, _, _, _, _⟩) rfl rfl (by kernel_rfl) (fun K hK => ?s53) ?ms53
        case s53 =>
          refine wp_fnval rfl (by rfl) (by rfl) HCF.out (HDI.out _ HR.out.frm.b) ?_
          intro W54 hbd1
          have hRn := HR.out.below hbd1
          have hzW54 : Hid (W32.heap.size ≤ W54.heap.size) := Lib.hid hbd1.size
          clear HR hbd1
          have HR := Lib.hid hRn
          clear hRn
          refine hK.out _ _ (fM ⟨.inr (HR.out.frm.cells (mS mZ)), fM ⟨.inl (by kernel_rfl), fM ⟨.inl (by kernel_rfl), fM ⟨.inr (HR.out.frm.cells mZ), fM ⟨.inr (HR.out.frm.cells (mS (mS (mS (mS mZ))))), fM ⟨.inr (HR.out.frm.cells (mS (mS mZ))), fM ⟨.inr (HR.out.frm.cells (mS mZ)), fM ⟨.inr (HR.out.frm.cells mZ), fM ⟨.inr (HR.out.frm.cells (mS (mS (mS mZ)))), (by simp)⟩⟩⟩⟩⟩⟩⟩⟩⟩) ?_
          try simp only [Act.put, List.setIfInBounds_toArray, List.set_cons_zero, List.set_cons_succ]
          refine hx_pure (i := 6) (oi := ⟨some 33, _, _, _, _, _⟩) (v := ?v55) rfl (by kernel_rfl) (by kernel_rfl) (by kernel_rfl) (by kernel_rfl) (fun _ _ _ h => h) rfl (by kernel_rfl) ?hv55 ?rv55
          case hv55 => (intro w; go_simp) <;> (with_reducible rfl)
          try simp only [Act.put, List.setIfInBounds_toArray, List.set_cons_zero, List.set_cons_succ]
          refine hx_ready (rs := [12, 26]) (by kernel_rfl) (by simp) ?_
          refine AllHX.cons (i := 12) (o := ⟨some 39, _, _, _, _, _⟩) rfl rfl (by kernel_rfl) (fun K hK => ?s56) ?ms56
          case s56 =>
            refine wp_fnval rfl (by rfl) (by rfl) HCF.out (HDK.out _ HR.out.frm.b) ?_
            intro W57 hbd1
            have hRn := HR.out.below hbd1
            have hzW57 : Hid (W54.heap.size ≤ W57.heap.size) := Lib.hid hbd1.size
            clear HR hbd1
            have HR := Lib.hid hRn
            clear hRn
            refine hK.out _ _ (fM ⟨.inr (HR.out.frm.cells (mS mZ)), fM ⟨.inl (by kernel_rfl), fM ⟨.inl (by kernel_rfl), fM ⟨.inr (HR.out.frm.cells mZ), fM ⟨.inl (by kernel_rfl), fM ⟨.inl (by kernel_rfl), fM ⟨.inr (HR.out.frm.cells (mS mZ)), fM ⟨.inr (HR.out.frm.cells mZ), fM ⟨.inr (HR.out.frm.cells (mS (mS (mS mZ)))), (by simp)⟩⟩⟩⟩⟩⟩⟩⟩⟩) ?_
            try simp only [Act.put, List.setIfInBounds_toArray, List.set_cons_zero, List.set_cons_succ]
            refine hx_pure (i := 13) (oi := ⟨some 40, _, _, _, _, _⟩) (v := ?v58) rfl (by kernel_rfl) (by kernel_rfl) (by kernel_rfl) (by kernel_rfl) (fun _ _ _ h => h) rfl (by kernel_rfl) ?hv58 ?rv58
            case hv58 => (intro w; go_simp) <;> (with_reducible rfl)
            try simp only [Act.put, List.setIfInBounds_toArray, List.set_cons_zero, List.set_cons_succ]
            refine hx_pure (i := 14) (oi := ⟨some 41, _, _, _, _, _⟩) (v := .int .i64 (max (rx.tk + di) (ry.tk + dk))) rfl (by kernel_rfl) (by kernel_rfl) (by kernel_rfl) (by kernel_rfl) (fun _ _ _ h => h) rfl (by kernel_rfl) ?hv59 ?rv59
            case hv59 => (intro w; have h := hm1 w; simp [execOp, Act.eval, Sem.run_bind, Result.andThen, go_sem, h])
            try simp only [Act.put, List.setIfInBounds_toArray, List.set_cons_zero, List.set_cons_succ]
            refine hx_pure (i := 25) (oi := ⟨some 52, _, _, _, _, _⟩) (v := ?v60) rfl (by kernel_rfl) (by kernel_rfl) (by kernel_rfl) (by kernel_rfl) (fun _ _ _ h => h) rfl (by kernel_rfl) ?hv60 ?rv60
            case hv60 => (intro w; go_simp) <;> (with_reducible rfl)
            try simp only [Act.put, List.setIfInBounds_toArray, List.set_cons_zero, List.set_cons_succ]
            refine hx_ready (rs := [26]) (by kernel_rfl) (by simp) ?_
            refine AllHX.cons (i := 26) (o := ⟨some 9, _, _, _, _, _⟩) rfl rfl (by kernel_rfl) (fun K hK => ?s61) ?ms61
            case s61 =>
              (try go_simp)
              refine (fun (W62 : World) (hRn : RW X _ [(W57.heap.size, (.cells #[.int .i64 0, .int .i64 0] 56)), (q, (.cells #[.int .i64 ry.st, .int .i64 ry.tk, .int .i64 ry.pr, .int .i64 ry.dlo, .int .i64 ry.dhi, .int .i64 ry.ur, .int .i64 ry.co] 77)), (p, (.cells #[.int .i64 rx.st, .int .i64 rx.tk, .int .i64 rx.pr, .int .i64 rx.dlo, .int .i64 rx.dhi, .int .i64 rx.ur, .int .i64 rx.co] 77)), (Bx, (.cells #[.int .i64 i, .int .i64 k] 86)), (w.heap.size, (lookBox m (.slice (some ⟨b, off, none⟩) rs.length c1) (.slice A2 ls.length c2) (.slice A3 p3 c3) (.map (some M)))), (w.heap.size + 1, (.cells #[(Value.func (.func f) F1 C1)] 121))] [] W62) (hzW62 : Hid (W62.heap.size = W57.heap.size + 1)) => hK.out _ W62 (fM ⟨.inr (hRn.frm.cells (mS (mS mZ))), fM ⟨.inl (by kernel_rfl), fM ⟨.inl (by kernel_rfl), fM ⟨.inr (hRn.frm.cells (mS mZ)), fM ⟨.inl (by kernel_rfl), fM ⟨.inl (by kernel_rfl), fM ⟨.inr (hRn.frm.cells (mS (mS mZ))), fM ⟨.inr (hRn.frm.cells (mS mZ)), fM ⟨.inr (hRn.frm.cells (mS (mS (mS (mS mZ))))), (by simp)⟩⟩⟩⟩⟩⟩⟩⟩⟩) ?_) _ (HR.out.add (.cells #[.int .i64 0, .int .i64 0] 56) rfl) (Lib.hid (by simp))
              clear HR
              have HR := Lib.hid hRn
              clear hRn
              refine hx_ready (rs := [27]) (by kernel_rfl) (by simp) ?_
              refine AllHX.cons (i := 27) (o := ⟨none, _, _, _, _, _⟩) rfl rfl (by kernel_rfl) (fun K hK => ?s63) ?ms63
              case s63 =>
                have u0 := (boxCells (HR.out.frm.h _ mZ)).1
                have f0 := (boxCells (HR.out.frm.h _ mZ)).2
                have l0 := lt_of_blk (HR.out.frm.h _ mZ)
                (try go_simp)
                clear u0 f0 l0
                refine (fun (W64 : World) (hRn : RW X _ [(W57.heap.size, (.cells #[.int .i64 (max (rx.tk + di) (ry.tk + dk)), .int .i64 (max rx.tk ry.tk + m.hold - 1)] 56)), (q, (.cells #[.int .i64 ry.st, .int .i64 ry.tk, .int .i64 ry.pr, .int .i64 ry.dlo, .int .i64 ry.dhi, .int .i64 ry.ur, .int .i64 ry.co] 77)), (p, (.cells #[.int .i64 rx.st, .int .i64 rx.tk, .int .i64 rx.pr, .int .i64 rx.dlo, .int .i64 rx.dhi, .int .i64 rx.ur, .int .i64 rx.co] 77)), (Bx, (.cells #[.int .i64 i, .int .i64 k] 86)), (w.heap.size, (lookBox m (.slice (some ⟨b, off, none⟩) rs.length c1) (.slice A2 ls.length c2) (.slice A3 p3 c3) (.map (some M)))), (w.heap.size + 1, (.cells #[(Value.func (.func f) F1 C1)] 121))] [] W64) (hzW64 : Hid (W64.heap.size = W62.heap.size)) => hK.out _ W64 (fM ⟨.inl (by kernel_rfl), fM ⟨.inl (by kernel_rfl), fM ⟨.inl (by kernel_rfl), fM ⟨.inl (by kernel_rfl), fM ⟨.inl (by kernel_rfl), fM ⟨.inl (by kernel_rfl), fM ⟨.inl (by kernel_rfl), fM ⟨.inl (by kernel_rfl), fM ⟨.inl (by kernel_rfl), (by simp)⟩⟩⟩⟩⟩⟩⟩⟩⟩) ?_) _ ((RW.put (RW.put (RW.less (bs' := [(W57.heap.size, (.cells #[.int .i64 0, .int .i64 0] 56)), (q, (.cells #[.int .i64 ry.st, .int .i64 ry.tk, .int .i64 ry.pr, .int .i64 ry.dlo, .int .i64 ry.dhi, .int .i64 ry.ur, .int .i64 ry.co] 77)), (p, (.cells #[.int .i64 rx.st, .int .i64 rx.tk, .int .i64 rx.pr, .int .i64 rx.dlo, .int .i64 rx.dhi, .int .i64 rx.ur, .int .i64 rx.co] 77)), (Bx, (.cells #[.int .i64 i, .int .i64 k] 86)), (w.heap.size, (lookBox m (.slice (some ⟨b, off, none⟩) rs.length c1) (.slice A2 ls.length c2) (.slice A3 p3 c3) (.map (some M)))), (w.heap.size + 1, (.cells #[(Value.func (.func f) F1 C1)] 121))]) HR.out (by simp only [List.forall_mem_cons, List.forall_mem_nil, and_true]; exact ⟨mZ, (mS mZ), (mS (mS mZ)), (mS (mS (mS mZ))), (mS (mS (mS (mS mZ)))), (mS (mS (mS (mS (mS mZ))))), by simp⟩)) (by have := hzW32.out; have := hzW54.out; have := hzW57.out; have := hzW62.out; omega) (by have := hzW32.out; have := hzW54.out; have := hzW57.out; have := hzW62.out; simp <;> omega) 0 (.int .i64 (max (rx.tk + di) (ry.tk + dk)))) (by have := hzW32.out; have := hzW54.out; have := hzW57.out; have := hzW62.out; omega) (by have := hzW32.out; have := hzW54.out; have := hzW57.out; have := hzW62.out; simp <;> omega) 1 (.int .i64 (max rx.tk ry.tk + m.hold - 1)))) (Lib.hid (by simp))
                clear HR
                have HR := Lib.hid hRn
                clear hRn
                refine hx_done (by kernel_rfl) ?_
                exact ⟨W57.heap.size, _, _, _, _, _, _, _, _, _, _, _, _, _, _, _, _, _, _, _, _, _, _, _, _, _, _, _, _, _, _, _, _, _, _, _, _, _, _, _, _, _, _, _, _, _, rfl, (RW.less (bs' := [(W57.heap.size, (.cells #[.int .i64 (max (rx.tk + di) (ry.tk + dk)), .int .i64 (max rx.tk ry.tk + m.hold - 1)] 56)), (Bx, (.cells #[.int .i64 i, .int .i64 k] 86)), (w.heap.size, (lookBox m (.slice (some ⟨b, off, none⟩) rs.length c1) (.slice A2 ls.length c2) (.slice A3 p3 c3) (.map (some M)))), (w.heap.size + 1, (.cells #[(Value.func (.func f) F1 C1)] 121))]) HR.out (by simp only [List.forall_mem_cons, List.forall_mem_nil, and_true]; exact ⟨mZ, (mS (mS (mS mZ))), (mS (mS (mS (mS mZ)))), (mS (mS (mS (mS (mS mZ))))), by simp⟩)).frm⟩
              exact AllHX.nil
            exact AllHX.nil
          refine AllHX.cons (i := 26) (o := ⟨some 9, _, _, _, _, _⟩) rfl rfl (by kernel_rfl) (fun K hK => ?s65) ?ms65
          case s65 =>
            (try go_simp)
            refine (fun (W66 : World) (hRn : RW X _ [(W54.heap.size, (.cells #[.int .i64 0, .int .i64 0] 56)), (q, (.cells #[.int .i64 ry.st, .int .i64 ry.tk, .int .i64 ry.pr, .int .i64 ry.dlo, .int .i64 ry.dhi, .int .i64 ry.ur, .int .i64 ry.co] 77)), (p, (.cells #[.int .i64 rx.st, .int .i64 rx.tk, .int .i64 rx.pr, .int .i64 rx.dlo, .int .i64 rx.dhi, .int .i64 rx.ur, .int .i64 rx.co] 77)), (Bx, (.cells #[.int .i64 i, .int .i64 k] 86)), (w.heap.size, (lookBox m (.slice (some ⟨b, off, none⟩) rs.length c1) (.slice A2 ls.length c2) (.slice A3 p3 c3) (.map (some M)))), (w.heap.size + 1, (.cells #[(Value.func (.func f) F1 C1)] 121))] [] W66) (hzW66 : Hid (W66.heap.size = W54.heap.size + 1)) => hK.out _ W66 (fM ⟨.inr (hRn.frm.cells (mS (mS mZ))), fM ⟨.inl (by kernel_rfl), fM ⟨.inl (by kernel_rfl), fM ⟨.inr (hRn.frm.cells (mS mZ)), fM ⟨.inr (hRn.frm.cells (mS (mS (mS (mS (mS mZ)))))), fM ⟨.inr (hRn.frm.cells (mS (mS (mS mZ)))), fM ⟨.inr (hRn.frm.cells (mS (mS mZ))), fM ⟨.inr (hRn.frm.cells (mS mZ)), fM ⟨.inr (hRn.frm.cells (mS (mS (mS (mS mZ))))), (by simp)⟩⟩⟩⟩⟩⟩⟩⟩⟩) ?_) _ (HR.out.add (.cells #[.int .i64 0, .int .i64 0] 56) rfl) (Lib.hid (by simp))
            clear HR
            have HR := Lib.hid hRn
            clear hRn
            refine hx_ready (rs := [12]) (by kernel_rfl) (by simp) ?_
            refine AllHX.cons (i := 12) (o := ⟨some 39, _, _, _, _, _⟩) rfl rfl (by kernel_rfl) (fun K hK => ?s67) ?ms67
            case s67 =>
              refine wp_fnval rfl (by rfl) (by rfl) HCF.out (HDK.out _ HR.out.frm.b) ?_
              intro W68 hbd1
              have hRn := HR.out.below hbd1
              have hzW68 : Hid (W66.heap.size ≤ W68.heap.size) := Lib.hid hbd1.size
              clear HR hbd1
              have HR := Lib.hid hRn
              clear hRn
              refine hK.out _ _ (fM ⟨.inr (HR.out.frm.cells (mS (mS mZ))), fM ⟨.inl (by kernel_rfl), fM ⟨.inl (by kernel_rfl), fM ⟨.inr (HR.out.frm.cells (mS mZ)), fM ⟨.inl (by kernel_rfl), fM ⟨.inl (by kernel_rfl), fM ⟨.inr (HR.out.frm.cells (mS (mS mZ))), fM ⟨.inr (HR.out.frm.cells (mS mZ)), fM ⟨.inr (HR.out.frm.cells (mS (mS (mS (mS mZ))))), (by simp)⟩⟩⟩⟩⟩⟩⟩⟩⟩) ?_
              try simp only [Act.put, List.setIfInBounds_toArray, List.set_cons_zero, List.set_cons_succ]
              refine hx_pure (i := 13) (oi := ⟨some 40, _, _, _, _, _⟩) (v := ?v69) rfl (by kernel_rfl) (by kernel_rfl) (by kernel_rfl) (by kernel_rfl) (fun _ _ _ h => h) rfl (by kernel_rfl) ?hv69 ?rv69
              case hv69 => (intro w; go_simp) <;> (with_reducible rfl)
              try simp only [Act.put, List.setIfInBounds_toArray, List.set_cons_zero, List.set_cons_succ]
              refine hx_pure (i := 14) (oi := ⟨some 41, _, _, _, _, _⟩) (v := .int .i64 (max (rx.tk + di) (ry.tk + dk))) rfl (by kernel_rfl) (by kernel_rfl) (by kernel_rfl) (by kernel_rfl) (fun _ _ _ h => h) rfl (by kernel_rfl) ?hv70 ?rv70
              case hv70 => (intro w; have h := hm1 w; simp [execOp, Act.eval, Sem.run_bind, Result.andThen, go_sem, h])
              try simp only [Act.put, List.setIfInBounds_toArray, List.set_cons_zero, List.set_cons_succ]
              refine hx_pure (i := 25) (oi := ⟨some 52, _, _, _, _, _⟩) (v := ?v71) rfl (by kernel_rfl) (by kernel_rfl) (by kernel_rfl) (by kernel_rfl) (fun _ _ _ h => h) rfl (by kernel_rfl) ?hv71 ?rv71
              case hv71 => (intro w; go_simp) <;> (with_reducible rfl)
              try simp only [Act.put, List.setIfInBounds_toArray, List.set_cons_zero, List.set_cons_succ]
              refine hx_ready (rs := [27]) (by kernel_rfl) (by simp) ?_
              refine AllHX.cons (i := 27) (o := ⟨none, _, _, _, _, _⟩) rfl rfl (by kernel_rfl) (fun K hK => ?s72) ?ms72
              case s72 =>
                have u0 := (boxCells (HR.out.frm.h _ mZ)).1
                have f0 := (boxCells (HR.out.frm.h _ mZ)).2
                have l0 := lt_of_blk (HR.out.frm.h _ mZ)
                (try go_simp)
                clear u0 f0 l0
                refine (fun (W73 : World) (hRn : RW X _ [(W54.heap.size, (.cells #[.int .i64 (max (rx.tk + di) (ry.tk + dk)), .int .i64 (max rx.tk ry.tk + m.hold - 1)] 56)), (q, (.cells #[.int .i64 ry.st, .int .i64 ry.tk, .int .i64 ry.pr, .int .i64 ry.dlo, .int .i64 ry.dhi, .int .i64 ry.ur, .int .i64 ry.co] 77)), (p, (.cells #[.int .i64 rx.st, .int .i64 rx.tk, .int .i64 rx.pr, .int .i64 rx.dlo, .int .i64 rx.dhi, .int .i64 rx.ur, .int .i64 rx.co] 77)), (Bx, (.cells #[.int .i64 i, .int .i64 k] 86)), (w.heap.size, (lookBox m (.slice (some ⟨b, off, none⟩) rs.length c1) (.slice A2 ls.length c2) (.slice A3 p3 c3) (.map (some M)))), (w.heap.size + 1, (.cells #[(Value.func (.func f) F1 C1)] 121))] [] W73) (hzW73 : Hid (W73.heap.size = W68.heap.size)) => hK.out _ W73 (fM ⟨.inl (by kernel_rfl), fM ⟨.inl (by kernel_rfl), fM ⟨.inl (by kernel_rfl), fM ⟨.inl (by kernel_rfl), fM ⟨.inl (by kernel_rfl), fM ⟨.inl (by kernel_rfl), fM ⟨.inl (by kernel_rfl), fM ⟨.inl (by kernel_rfl), fM ⟨.inl (by kernel_rfl), (by simp)⟩⟩⟩⟩⟩⟩⟩⟩⟩) ?_) _ ((RW.put (RW.put (RW.less (bs' := [(W54.heap.size, (.cells #[.int .i64 0, .int .i64 0] 56)), (q, (.cells #[.int .i64 ry.st, .int .i64 ry.tk, .int .i64 ry.pr, .int .i64 ry.dlo, .int .i64 ry.dhi, .int .i64 ry.ur, .int .i64 ry.co] 77)), (p, (.cells #[.int .i64 rx.st, .int .i64 rx.tk, .int .i64 rx.pr, .int .i64 rx.dlo, .int .i64 rx.dhi, .int .i64 rx.ur, .int .i64 rx.co] 77)), (Bx, (.cells #[.int .i64 i, .int .i64 k] 86)), (w.heap.size, (lookBox m (.slice (some ⟨b, off, none⟩) rs.length c1) (.slice A2 ls.length c2) (.slice A3 p3 c3) (.map (some M)))), (w.heap.size + 1, (.cells #[(Value.func (.func f) F1 C1)] 121))]) HR.out (by simp only [List.forall_mem_cons, List.forall_mem_nil, and_true]; exact ⟨mZ, (mS mZ), (mS (mS mZ)), (mS (mS (mS mZ))), (mS (mS (mS (mS mZ)))), (mS (mS (mS (mS (mS mZ))))), by simp⟩)) (by have := hzW32.out; have := hzW54.out; have := hzW66.out; have := hzW68.out; omega) (by have := hzW32.out; have := hzW54.out; have := hzW66.out; have := hzW68.out; simp <;> omega) 0 (.int .i64 (max (rx.tk + di) (ry.tk + dk)))) (by have := hzW32.out; have := hzW54.out; have := hzW66.out; have := hzW68.out; omega) (by have := hzW32.out; have := hzW54.out; have := hzW66.out; have := hzW68.out; simp <;> omega) 1 (.int .i64 (max rx.tk ry.tk + m.hold - 1)))) (Lib.hid (by simp))
                clear HR
                have HR := Lib.hid hRn
                clear hRn
                refine hx_done (by kernel_rfl) ?_
                exact ⟨W54.heap.size, _, _, _, _, _, _, _, _, _, _, _, _, _, _, _, _, _, _, _, _, _, _, _, _, _, _, _, _, _, _, _, _, _, _, _, _, _, _, _, _, _, _, _, _, _, rfl, (RW.less (bs' := [(W54.heap.size, (.cells #[.int .i64 (max (rx.tk + di) (ry.tk + dk)), .int .i64 (max rx.tk ry.tk + m.hold - 1)] 56)), (Bx, (.cells #[.int .i64 i, .int .i64 k] 86)), (w.heap.size, (lookBox m (.slice (some ⟨b, off, none⟩) rs.length c1) (.slice A2 ls.length c2) (.slice A3 p3 c3) (.map (some M)))), (w.heap.size + 1, (.cells #[(Value.func (.func f) F1 C1)] 121))]) HR.out (by simp only [List.forall_mem_cons, List.forall_mem_nil, and_true]; exact ⟨mZ, (mS (mS (mS mZ))), (mS (mS (mS (mS mZ)))), (mS (mS (mS (mS (mS mZ))))), by simp⟩)).frm⟩
              exact AllHX.nil
            exact AllHX.nil
          exact AllHX.nil
        refine AllHX.cons (i := 26) (o := ⟨some 9, _, _, _, _, _⟩) rfl rfl (by kernel_rfl) (fun K hK => ?s74) ?ms74
        case s74 =>
          (try go_simp)
          refine (fun (W75 : World) (hRn : RW X _ [(W32.heap.size, (.cells #[.int .i64 0, .int .i64 0] 56)), (q, (.cells #[.int .i64 ry.st, .int .i64 ry.tk, .int .i64 ry.pr, .int .i64 ry.dlo, .int .i64 ry.dhi, .int .i64 ry.ur, .int .i64 ry.co] 77)), (p, (.cells #[.int .i64 rx.st, .int .i64 rx.tk, .int .i64 rx.pr, .int .i64 rx.dlo, .int .i64 rx.dhi, .int .i64 rx.ur, .int .i64 rx.co] 77)), (Bx, (.cells #[.int .i64 i, .int .i64 k] 86)), (w.heap.size, (lookBox m (.slice (some ⟨b, off, none⟩) rs.length c1) (.slice A2 ls.length c2) (.slice A3 p3 c3) (.map (some M)))), (w.heap.size + 1, (.cells #[(Value.func (.func f) F1 C1)] 121))] [] W75) (hzW75 : Hid (W75.heap.size = W32.heap.size + 1)) => hK.out _ W75 (fM ⟨.inr (hRn.frm.cells (mS (mS mZ))), fM ⟨.inr (hRn.frm.cells (mS (mS (mS (mS (mS mZ)))))), fM ⟨.inr (hRn.frm.cells (mS (mS (mS mZ)))), fM ⟨.inr (hRn.frm.cells (mS mZ)), fM ⟨.inr (hRn.frm.cells (mS (mS (mS (mS (mS mZ)))))), fM ⟨.inr (hRn.frm.cells (mS (mS (mS mZ)))), fM ⟨.inr (hRn.frm.cells (mS (mS mZ))), fM ⟨.inr (hRn.frm.cells (mS mZ)), fM ⟨.inr (hRn.frm.cells (mS (mS (mS (mS mZ))))), (by simp)⟩⟩⟩⟩⟩⟩⟩⟩⟩) ?_) _ (HR.out.add (.cells #[.int .i64 0, .int .i64 0] 56) rfl) (Lib.hid (by simp))
          clear HR
          have HR := Lib.hid hRn
          clear hRn
          refine hx_ready (rs := [5]) (by kernel_rfl) (by simp) ?_
          refine AllHX.cons (i := 5) (o := ⟨some 32, _, _, _, _, _⟩) rfl rfl (by kernel_rfl) (fun K hK => ?s76) ?ms76
          case s76 =>
            refine wp_fnval rfl (by rfl) (by rfl) HCF.out (HDI.out _ HR.out.frm.b) ?_
            intro W77 hbd1
            have hRn := HR.out.below hbd1
            have hzW77 : Hid (W75.heap.size ≤ W77.heap.size) := Lib.hid hbd1.size
            clear HR hbd1
            have HR := Lib.hid hRn
            clear hRn
            refine hK.out _ _ (fM ⟨.inr (HR.out.frm.cells (mS (mS mZ))), fM ⟨.inl (by kernel_rfl), fM ⟨.inl (by kernel_rfl), fM ⟨.inr (HR.out.frm.cells (mS mZ)), fM ⟨.inr (HR.out.frm.cells (mS (mS (mS (mS (mS mZ)))))), fM ⟨.inr (HR.out.frm.cells (mS (mS (mS mZ)))), fM ⟨.inr (HR.out.frm.cells (mS (mS mZ))), fM ⟨.inr (HR.out.frm.cells (mS mZ)), fM ⟨.inr (HR.out.frm.cells (mS (mS (mS (mS mZ))))), (by simp)⟩⟩⟩⟩⟩⟩⟩⟩⟩) ?_
            try simp only [Act.put, List.setIfInBounds_toArray, List.set_cons_zero, List.set_cons_succ]
            refine hx_pure (i := 6) (oi := ⟨some 33, _, _, _, _, _⟩) (v := ?v78) rfl (by kernel_rfl) (by kernel_rfl) (by kernel_rfl) (by kernel_rfl) (fun _ _ _ h => h) rfl (by kernel_rfl) ?hv78 ?rv78
            case hv78 => (intro w; go_simp) <;> (with_reducible rfl)
            try simp only [Act.put, List.setIfInBounds_toArray, List.set_cons_zero, List.set_cons_succ]
            refine hx_ready (rs := [12]) (by kernel_rfl) (by simp) ?_
            refine AllHX.cons (i := 12) (o := ⟨some 39, _, _, _, _, _⟩) rfl rfl (by kernel_rfl) (fun K hK => ?s79) ?ms79
            case s79 =>
              refine wp_fnval rfl (by rfl) (by rfl) HCF.out (HDK.out _ HR.out.frm.b) ?_
              intro W80 hbd1
              have hRn := HR.out.below hbd1
              have hzW80 : Hid (W77.heap.size ≤ W80.heap.size) := Lib.hid hbd1.size
              clear HR hbd1
              have HR := Lib.hid hRn
              clear hRn
              refine hK.out _ _ (fM ⟨.inr (HR.out.frm.cells (mS (mS mZ))), fM ⟨.inl (by kernel_rfl), fM ⟨.inl (by kernel_rfl), fM ⟨.inr (HR.out.frm.cells (mS mZ)), fM ⟨.inl (by kernel_rfl), fM ⟨.inl (by kernel_rfl), fM ⟨.inr (HR.out.frm.cells (mS (mS mZ))), fM ⟨.inr (HR.out.frm.cells (mS mZ)), fM ⟨.inr (HR.out.frm.cells (mS (mS (mS (mS mZ))))), (by simp)⟩⟩⟩⟩⟩⟩⟩⟩⟩) ?_
              try simp only [Act.put, List.setIfInBounds_toArray, List.set_cons_zero, List.set_cons_succ]
              refine hx_pure (i := 13) (oi := ⟨some 40, _, _, _, _, _⟩) (v := ?v81) rfl (by kernel_rfl) (by kernel_rfl) (by kernel_rfl) (by kernel_rfl) (fun _ _ _ h => h) rfl (by kernel_rfl) ?hv81 ?rv81
              case hv81 => (intro w; go_simp) <;> (with_reducible rfl)
              try simp only [Act.put, List.setIfInBounds_toArray, List.set_cons_zero, List.set_cons_succ]
              refine hx_pure (i := 14) (oi := ⟨some 41, _, _, _, _, _⟩) (v := .int .i64 (max (rx.tk + di) (ry.tk + dk))) rfl (by kernel_rfl) (by kernel_rfl) (by kernel_rfl) (by kernel_rfl) (fun _ _ _ h => h) rfl (by kernel_rfl) ?hv82 ?rv82
              case hv82 => (intro w; have h := hm1 w; simp [execOp, Act.eval, Sem.run_bind, Result.andThen, go_sem, h])
              try simp only [Act.put, List.setIfInBounds_toArray, List.set_cons_zero, List.set_cons_succ]
              refine hx_pure (i := 25) (oi := ⟨some 52, _, _, _, _, _⟩) (v := ?v83) rfl (by kernel_rfl) (by kernel_rfl) (by kernel_rfl) (by kernel_rfl) (fun _ _ _ h => h) rfl (by kernel_rfl) ?hv83 ?rv83
              case hv83 => (intro w; go_simp) <;> (with_reducible rfl)
              try simp only [Act.put, List.setIfInBounds_toArray, List.set_cons_zero, List.set_cons_succ]
              refine hx_ready (rs := [27]) (by kernel_rfl) (by simp) ?_
              refine AllHX.cons (i := 27) (o := ⟨none, _, _, _, _, _⟩) rfl rfl (by kernel_rfl) (fun K hK => ?s84) ?ms84
              case s84 =>
                have u0 := (boxCells (HR.out.frm.h _ mZ)).1
                have f0 := (boxCells (HR.out.frm.h _ mZ)).2
                have l0 := lt_of_blk (HR.out.frm.h _ mZ)
                (try go_simp)
                clear u0 f0 l0
                refine (fun (W85 : World) (hRn : RW X _ [(W32.heap.size, (.cells #[.int .i64 (max (rx.tk + di) (ry.tk + dk)), .int .i64 (max rx.tk ry.tk + m.hold - 1)] 56)), (q, (.cells #[.int .i64 ry.st, .int .i64 ry.tk, .int .i64 ry.pr, .int .i64 ry.dlo, .int .i64 ry.dhi, .int .i64 ry.ur, .int .i64 ry.co] 77)), (p, (.cells #[.int .i64 rx.st, .int .i64 rx.tk, .int .i64 rx.pr, .int .i64 rx.dlo, .int .i64 rx.dhi, .int .i64 rx.ur, .int .i64 rx.co] 77)), (Bx, (.cells #[.int .i64 i, .int .i64 k] 86)), (w.heap.size, (lookBox m (.slice (some ⟨b, off, none⟩) rs.length c1) (.slice A2 ls.length c2) (.slice A3 p3 c3) (.map (some M)))), (w.heap.size + 1, (.cells #[(Value.func (.func f) F1 C1)] 121))] [] W85) (hzW85 : Hid (W85.heap.size = W80.heap.size)) => hK.out _ W85 (fM ⟨.inl (by kernel_rfl), fM ⟨.inl (by kernel_rfl), fM ⟨.inl (by kernel_rfl), fM ⟨.inl (by kernel_rfl), fM ⟨.inl (by kernel_rfl), fM ⟨.inl (by kernel_rfl), fM ⟨.inl (by kernel_rfl), fM ⟨.inl (by kernel_rfl), fM ⟨.inl (by kernel_rfl), (by simp)⟩⟩⟩⟩⟩⟩⟩⟩⟩) ?_) _ ((RW.put (RW.put (RW.less (bs' := [(W32.heap.size, (.cells #[.int .i64 0, .int .i64 0] 56)), (q, (.cells #[.int .i64 ry.st, .int .i64 ry.tk, .int .i64 ry.pr, .int .i64 ry.dlo, .int .i64 ry.dhi, .int .i64 ry.ur, .int .i64 ry.co] 77)), (p, (.cells #[.int .i64 rx.st, .int .i64 rx.tk, .int .i64 rx.pr, .int .i64 rx.dlo, .int .i64 rx.dhi, .int .i64 rx.ur, .int .i64 rx.co] 77)), (Bx, (.cells #[.int .i64 i, .int .i64 k] 86)), (w.heap.size, (lookBox m (.slice (some ⟨b, off, none⟩) rs.length c1) (.slice A2 ls.length c2) (.slice A3 p3 c3) (.map (some M)))), (w.heap.size + 1, (.cells #[(Value.func (.func f) F1 C1)] 121))]) HR.out (by simp only [List.forall_mem_cons, List.forall_mem_nil, and_true]; exact ⟨mZ, (mS mZ), (mS (mS mZ)), (mS (mS (mS mZ))), (mS (mS (mS (mS mZ)))), (mS (mS (mS (mS (mS mZ))))), by simp⟩)) (by have := hzW32.out; have := hzW75.out; have := hzW77.out; have := hzW80.out; omega) (by have := hzW32.out; have := hzW75.out; have := hzW77.out; have := hzW80.out; simp <;> omega) 0 (.int .i64 (max (rx.tk + di) (ry.tk + dk)))) (by have := hzW32.out; have := hzW75.out; have := hzW77.out; have := hzW80.out; omega) (by have := hzW32.out; have := hzW75.out; have := hzW77.out; have := hzW80.out; simp <;> omega) 1 (.int .i64 (max rx.tk ry.tk + m.hold - 1)))) (Lib.hid (by simp))
                clear HR
                have HR := Lib.hid hRn
                clear hRn
                refine hx_done (by kernel_rfl) ?_
                exact ⟨W32.heap.size, _, _, _, _, _, _, _, _, _, _, _, _, _, _, _, _, _, _, _, _, _, _, _, _, _, _, _, _, _, _, _, _, _, _, _, _, _, _, _, _, _, _, _, _, _, rfl, (RW.less (bs' := [(W32.heap.size, (.cells #[.int .i64 (max (rx.tk + di) (ry.tk + dk)), .int .i64 (max rx.tk ry.tk + m.hold - 1)] 56)), (Bx, (.cells #[.int .i64 i, .int .i64 k] 86)), (w.heap.size, (lookBox m (.slice (some ⟨b, off, none⟩) rs.length c1) (.slice A2 ls.length c2) (.slice A3 p3 c3) (.map (some M)))), (w.heap.size + 1, (.cells #[(Value.func (.func f) F1 C1)] 121))]) HR.out (by simp only [List.forall_mem_cons, List.forall_mem_nil, and_true]; exact ⟨mZ, (mS (mS (mS mZ))), (mS (mS (mS (mS mZ)))), (mS (mS (mS (mS (mS mZ))))), by simp⟩)).frm⟩
              exact AllHX.nil
            exact AllHX.nil
          exact AllHX.nil
        exact AllHX.nil
      case aft5 =>
        rintro e a1 X2 hO
        obtain ⟨rfl, sp, t7, t8, u10, u11, u12, u13, u14, u15, u16, u17, u18, u19, u20, u21, u22, u23, u24, u25, u26, u27, u28, u29, u30, u31, u32, u33, u34, u35, u36, u37, u38, u39, u40, u41, u42, u43, u44, u45, u46, u47, u48, u49, u50, u51, u52, rfl, hF2⟩ := onlyN_is hO
        clear hO HR
        have HF2 := Lib.hid hF2
        have y0 := hF2.cells mZ
        have lsp := hF2.lt mZ
        have S2b := Lib.hid ((hF2.b.block _ (lt_of_blk HS.out)).trans HS.out)
        have HO2 := Lib.hid (own_below HO.out hF2.b)
        have HFX := Lib.hid (HF.out.below hF2.b)
        have hsz2 := hF2.b.size
        have hvs := HO.out.lt
        clear hF2 HDI HDK hm1 hm2 e1 e2 e3 e4
        obtain ⟨lo, hlo⟩ : ∃ z, max (rx.tk + di) (ry.tk + dk) = z := ⟨_, rfl⟩
        obtain ⟨hi, hhi⟩ : ∃ z, max rx.tk ry.tk + m.hold - 1 = z := ⟨_, rfl⟩
        rw [hlo, hhi] at HSP
        rw [hlo, hhi] at y0
        clear hlo hhi
        rw [HSP.out] at HVL
        dsimp only at HVL
        by_cases hle : lo ≤ hi
        · rw [if_pos hle] at HVL
          have z0 := (boxCells S2b.out).1
          have lS2 := lt_of_blk S2b.out
          have hN := Lib.hid (World.alloc_heap_new X2 (.cells #[.int .i64 lo, .int .i64 hi] 56))
          have HO3 := Lib.hid (HO2.out.alloc (.cells #[.int .i64 lo, .int .i64 hi] 56))
          have S2c := Lib.hid (blk_alloc S2b.out (.cells #[.int .i64 lo, .int .i64 hi] 56))
          have hvn : ∀ g, v.ownBlock = some g → g ≠ w.heap.size + 1 + 1 := fun g hg e => by have := (hvs g hg).1; omega
          gi_wp2_with (gi_at_builtin; refine wpListIn_of_wp rfl rfl fun Kq hKq => ?_; refine wp_two (y := (lo, hi)) Tryz.underlying100 Tryz.infoSpan _ _ (by rfl) rfl (by rfl) HO3.out (by rfl) hN.out (by omega) (by simp; omega) ?_; intro g cap w5 hown5 hgrow5 hat5 hlt5; refine hKq.out _ _ ?_; have S2d := (hgrow5.block _ (lt_of_blk S2c.out) (fun e => hvn _ e.symm rfl)).trans S2c.out; have q0 := (boxCells S2d).1; have q1 := (boxCells S2d).2; have q2 := lt_of_blk S2d)
          have HG2 : Hid (X2.grownBy w5 v.ownBlock) := Lib.hid ⟨hgrow5.os, hgrow5.tape, hgrow5.output, by have := hgrow5.size; simp at this; omega, fun k hk hn => (hgrow5.block k (by simp; omega) hn).trans (Below.heap_alloc _ _ _ hk)⟩
          have HK5 : Hid (KeepsFrom V0.heap.size X w5) := Lib.hid ((keeps_of_below HF2.out.b).trans (keeps_row HG2.out (own_cells HO2.out)))
          have HK6 : Hid (KeepS (KeptZ (fun k => k = w.heap.size + 1 + 1 + 1 ∨ k = M) (V0.heap.size + 2) 2) X w5) := Lib.hid ((KeepS.below HF2.out.b).trans (KeepS.grown HG2.out (fun g hg hk => by
            have h1 := (hvs g hg).1
            rcases hk with (hk | hk) | hk <;> omega)))
          have HF5 := Lib.hid (HFX.out.grownR HG2.out (fun g hg => by have := (hvs g hg).1; omega) (fun p hp e => by
            have h1 := (hvs _ e.symm).1
            simp only [List.mem_cons, List.not_mem_nil, or_false] at hp
            rcases hp with rfl | rfl | rfl <;> simp only at h1 <;> omega))
          refine ⟨HK5.out.trans ((KeepsOthers.setCell _ _ _).from _), HK6.out.trans ⟨by simp, fun k o hk ho => (Below.heap_setCell _ _ _ _ (fun e => by
            have e : k = w.heap.size + 1 + 1 := e
            rcases hk with (hk | hk) | hk <;> omega)).trans ho⟩, .slice (some ⟨g, 0, none⟩) ((spsOf m rs d (valsP pre)).length + 1) cap, HF5.out.set (by show w.heap.size ≤ w.heap.size + 1 + 1; omega) (fun p hp => by
            simp only [List.mem_cons, List.not_mem_nil, or_false] at hp
            rcases hp with rfl | rfl | rfl <;> (intro e; simp only at e; omega)) _, heap_setCell_same (o := 0) S2d _, ?_⟩
          rw [HVL.out, List.length_append, List.length_singleton]
          refine ownsRow_setCell_other hown5 (fun e => ?_) _
          simp only [Value.ownBlock, Option.some.injEq] at e
          rcases hat5 with h5 | h5
          · have := (hvs g h5).1; omega
          · simp at h5; omega
        · rw [if_neg hle] at HVL
          gi_wp2
          have HO4 : Hid (X2.ownsRow (V0.heap.size + 2 + 2) 56 2 v (spsOf m rs d (valsP (pre ++ [x]))).length (spsC (spsOf m rs d (valsP (pre ++ [x]))))) := Lib.hid (by rw [HVL.out, List.append_nil]; exact HO2.out)
          first
            | exact ⟨keeps_of_below HF2.out.b, KeepS.below HF2.out.b, v, HFX.out, S2b.out, HO4.out⟩
            | exact ⟨keeps_of_below HF2.out.b, KeepS.below HF2.out.b, HFX.out, v, S2b.out, HO4.out⟩
  case done =>
    rintro D ys X hD hS ⟨v, hF, hS2, hO⟩ hK
    have HF := Lib.hid hF
    have HO := Lib.hid hO
    have x0 := (boxCells hS2).1
    have HK := Lib.hid hK
    have hO5 := hO.kept (grownBy_putObj' X D (.deferred none)) (by
      cases hv0 : v.ownBlock with
      | none => exact .inl rfl
      | some g =>
        refine .inr (fun e => ?_)
        obtain ⟨cs, t, fr, hc⟩ := own_cells hO g hv0
        cases e
        rw [hK] at hc
        cases hc)
    have hHS : Hid (spsOf m rs d (valsP ys) = siL m ls rs d) := Lib.hid (by rw [hS, fP_all]; rfl)
    rw [hHS.out] at hO5
    obtain ⟨hSp, hAb⟩ := own_two hO5 rfl
    have hSp0 := hSp
    obtain ⟨A, c, hv, -⟩ := hSp0
    subst hv
    have HSp := Lib.hid hSp
    have HAB := Lib.hid hAb
    clear hF hO k3 k2 hK hSp hAb hO5 HO hHS hS
    gi_wp2
    have hgf := grownBy_putObj' X D (.deferred none)
    refine ⟨by simp, .inl ⟨_, _, rfl, run_takeDeferred HK.out, .slice A (siL m ls rs d).length c, by simp [results, Tryz.results92, go_sem], A, c, rfl, HSp.out, fun b off e => ?_, HF.out.b.grown hgf HF.out.b.size (fun k hk => by cases hk; omega)⟩⟩
    obtain ⟨h1, h2⟩ := HAB.out A c _ rfl b off e
    exact ⟨by omega, h2⟩
end Go.Proofs.YtldimlnllmojiaaGreat
