/- The bounds of the index of a day, by the program: they are looked up, or made and kept. -/
import Derived.Test.YtffgcphmakfikaaDoorLim
import Derived.Maps.OwnSet
import Derived.Maps.OwnIn
set_option linter.unusedVariables false
set_option linter.unusedSimpArgs false
namespace Go.Proofs.YtffgcphmakfikaaDoor
open Go.RowKit Go.Shelf Go.Maps
attribute [local go_sem] Oper.semAt_some

def lowF (s : Stn) (day : Int) (cs : List Chk) : Int := cs.foldl (fun a c => max a (c.lo - s.dr * farI day c.day)) (-2000)
def highF (s : Stn) (day : Int) (cs : List Chk) : Int := cs.foldl (fun a c => min a (c.hi + s.dr * farI day c.day)) 2000
@[reducible] def spV (a b : Int) : Value := .agg #[.int .i64 a, .int .i64 b]
def spD (a b : Int) : DataW Unit := .agg [.lit (.int .i64 a), .lit (.int .i64 b)]
/-- How a span in a map reads. -/
def spanR (v : Value) : Option (DataW Unit × List MemPlace) :=
  match v with
  | .agg ⟨[.int .i64 a, .int .i64 b]⟩ => some (spD a b, [])
  | _ => none
theorem spanR_mk (a b : Int) : spanR (spV a b) = some (spD a b, []) := rfl
theorem spanR_inv {v : Value} {a b : Int} {ps : List MemPlace} (h : spanR v = some (spD a b, ps)) : v = spV a b := by
  unfold spanR at h
  split at h
  · rename_i x y
    simp only [Option.some.injEq, Prod.mk.injEq, spD, DataW.agg.injEq, List.cons.injEq, DataW.lit.injEq, Lit.int.injEq, true_and, and_true] at h
    obtain ⟨⟨rfl, rfl⟩, _⟩ := h
    rfl
  · cases h

/-- The map of bounds: whatever it has is right. -/
def Cache (w : World) (M n : Nat) (s : Stn) (cs : List Chk) : Prop :=
  ∃ D : DataW Unit, w.ownsMap Tryd.prog 3 spanR M n D ∧ ∀ k : Int, Maps.has D (.int .i64 k) = true → ∀ z, D.atKey (.int .i64 k) z = spD (lowF s k cs) (highF s k cs)

theorem zeroSpan (w : World) : (zeroValue 23).run Tryd.prog w = .ok (spV 0 0) w := by kernel_rfl
theorem wf_day {day : Int} (h0 : 0 ≤ day) (h1 : day ≤ 400) : (Lit.int .i64 day).wf = true := WalkArith.wf_i64 (by omega)

set_option maxHeartbeats 400000 in
theorem bounds_has (s : Stn) (v : Value) (cs : List Chk) (M n : Nat) (day : Int) (w : World) (hd0 : 0 ≤ day) (hd1 : day ≤ 400) (D : DataW Unit) (hown : w.ownsMap Tryd.prog 3 spanR M n D) (hh : Maps.has D (.int .i64 day) = true) (hat : ∀ z, D.atKey (.int .i64 day) z = spD (lowF s day cs) (highF s day cs)) :
    Calls Tryd.prog 34 #[vwV s v (.map (some M)), .int .i64 day] w fun e w' => e = .returned (spV (lowF s day cs) (highF s day cs)) ∧ Below w.heap.size w w' := by
  obtain ⟨u, ps, hlk, hu⟩ := ((hown.alloc (vwBox s v (.map (some M)))).alloc (.cells #[.int .i64 0, .int .i64 0] 23)).look_ok (int_keyed Tryd.underlying3) Tryd.underlying69 (zeroSpan _) (spanR_mk 0 0) (keyOf_int_mk Tryd.underlying3 (wf_day hd0 hd1))
  rw [hat] at hu
  obtain rfl := spanR_inv hu
  rw [hh] at hlk
  clear hu hh hat hown
  go_enter Tryd.func34, Tryd.ntmps34
  go_wp2
  refine bodyPost_ret (v := spV (lowF s day cs) (highF s day cs)) (by simp [results, Tryd.results34, go_sem]) rfl ⟨rfl, ?_⟩
  exact (((Below.refl _ _).alloc (Nat.le_refl _) _).alloc (by simp) _).alloc (by simp; omega) _

theorem limits_in (n : Nat) (s : Stn) (v m : Value) (day : Int) (w : World) :
    CallsIn Fence.wide n Tryd.prog 52 #[vwV s v m, .int .i64 day] w fun e w' => e = .returned (.func (.func 71) #[] #[.pointer (some ⟨w.heap.size, 0, none⟩), .pointer (some ⟨w.heap.size + 1, 0, none⟩)]) ∧ w' = (w.alloc (vwBox s v m)).alloc (.cells #[.int .i64 day] 3) := by
  refine callsIn_wide.2 ?_
  go_enter Tryd.func52, Tryd.ntmps52
  go_wp2
  go_ret
  exact ⟨rfl, rfl⟩

theorem heap_new (w : World) (o : Obj) {k : Nat} (h : k = w.heap.size) : (w.alloc o).heap[k]? = some o := by subst h; exact World.alloc_heap_new w o
theorem heap_setCell_same {W : World} {B o : Nat} {cs : Array Value} {t : TypeId} {fr : Nat × Nat} (h : W.heap[B]? = some (.cells cs t fr)) (v : Value) : (W.setCell ⟨B, o, none⟩ v).heap[B]? = some (.cells (cs.setIfInBounds o v) t fr) := by
  obtain ⟨hlt, hk⟩ := Array.getElem?_eq_some_iff.1 h
  show (W.heap.modify B _)[B]? = _
  rw [Array.getElem?_eq_getElem (by rw [Array.size_modify]; exact hlt), Array.getElem_modify_self, hk]
  simp
theorem KX.setCell (n X o : Nat) (W : World) (v : Value) : KX n X W (W.setCell ⟨X, o, none⟩ v) := ⟨rfl, rfl, rfl, by simp [World.setCell], fun k _ hx => Below.heap_setCell _ _ _ _ hx⟩
theorem KX.alloc {n X : Nat} {A W : World} (h : KX n X A W) (hn : n ≤ W.heap.size) (o : Obj) : KX n X A (W.alloc o) := h.trans (KX.of_below ((Below.refl _ _).alloc hn _))
theorem KX.grown {X : Nat} {A W : World} (h : KX A.heap.size X A W) : A.grownBy W (some X) := ⟨h.os, h.tape, h.output, h.size, fun k hk hx => h.block k hk (fun e => hx (by rw [e]))⟩
def lowP (l : List (Int × Int)) : Int := l.foldl (fun a x => max a x.1) (-2000)
def highP (l : List (Int × Int)) : Int := l.foldl (fun a x => min a x.2) 2000
set_option maxHeartbeats 1600000 in
set_option maxRecDepth 100000 in
theorem bounds_new (s : Stn) (cs : List Chk) (v : Value) (M n : Nat) (day : Int) (w : World) (hs : Sane s cs) (hc : Chks w v cs) (hd0 : 0 ≤ day) (hd1 : day ≤ 400) (hn : n ≤ 1000000) (D : DataW Unit) (hown : w.ownsMap Tryd.prog 3 spanR M n D) (hh : Maps.has D (.int .i64 day) = false) :
    Calls Tryd.prog 34 #[vwV s v (.map (some M)), .int .i64 day] w fun e w' => e = .returned (spV (lowF s day cs) (highF s day cs)) ∧ w.grownBy w' (some M) ∧ w'.ownsMap Tryd.prog 3 spanR M (n + 1) (D.put (.int .i64 day) (spD (lowF s day cs) (highF s day cs))) := by
  obtain ⟨u, ps, hlk, hu⟩ := ((hown.alloc (vwBox s v (.map (some M)))).alloc (.cells #[.int .i64 0, .int .i64 0] 23)).look_ok (int_keyed Tryd.underlying3) Tryd.underlying69 (zeroSpan _) (spanR_mk 0 0) (keyOf_int_mk Tryd.underlying3 (wf_day hd0 hd1))
  rw [atKey_of_not_has hh] at hu
  obtain rfl := spanR_inv hu
  rw [hh] at hlk
  clear hu
  refine (callsIn_wide (n := 10)).1 ?_
  refine callsIn_of_wp_marks Tryd.func34 rfl trivial ?_ rfl
  simp only [Tryd.ntmps34, List.size_toArray, List.length_cons, List.length_nil, Nat.reduceAdd, Nat.reduceSub, Array.replicate_succ, Array.replicate_zero, List.push_toArray, List.append_toArray, List.nil_append, List.cons_append]
  gi_wp2_with (refine ⟨trivial, ?_⟩; gi_at_call 52; refine (limits_in _ s v _ _ _).mono ?_; rintro e w' ⟨rfl, rfl⟩)
  have hsz : ((((((w.alloc (vwBox s v (.map (some M)))).alloc (.cells #[.int .i64 0, .int .i64 0] 23)).alloc (.cells #[.int .i64 0, .int .i64 0] 23)).alloc (.cells #[.int .i64 (-2000), .int .i64 2000] 23)).alloc (vwBox s v (.map (some M)))).alloc (.cells #[.int .i64 day] 3)).heap.size = w.heap.size + 6 := by simp
  have hbel : Below w.heap.size w ((((((w.alloc (vwBox s v (.map (some M)))).alloc (.cells #[.int .i64 0, .int .i64 0] 23)).alloc (.cells #[.int .i64 0, .int .i64 0] 23)).alloc (.cells #[.int .i64 (-2000), .int .i64 2000] 23)).alloc (vwBox s v (.map (some M)))).alloc (.cells #[.int .i64 day] 3)) := ((((((Below.refl _ _).alloc (Nat.le_refl _) _).alloc (by simp) _).alloc (by simp; omega) _).alloc (by simp; omega) _).alloc (by simp; omega) _).alloc (by simp; omega) _
  have k0 : ((((((w.alloc (vwBox s v (.map (some M)))).alloc (.cells #[.int .i64 0, .int .i64 0] 23)).alloc (.cells #[.int .i64 0, .int .i64 0] 23)).alloc (.cells #[.int .i64 (-2000), .int .i64 2000] 23)).alloc (vwBox s v (.map (some M)))).alloc (.cells #[.int .i64 day] 3)).heap[w.heap.size]? = some (vwBox s v (.map (some M))) := ((Below.heap_alloc _ _ _ (by simp <;> omega)).trans ((Below.heap_alloc _ _ _ (by simp <;> omega)).trans ((Below.heap_alloc _ _ _ (by simp <;> omega)).trans ((Below.heap_alloc _ _ _ (by simp <;> omega)).trans ((Below.heap_alloc _ _ _ (by simp <;> omega)).trans (heap_new _ _ (by simp <;> omega)))))))
  have k1 : ((((((w.alloc (vwBox s v (.map (some M)))).alloc (.cells #[.int .i64 0, .int .i64 0] 23)).alloc (.cells #[.int .i64 0, .int .i64 0] 23)).alloc (.cells #[.int .i64 (-2000), .int .i64 2000] 23)).alloc (vwBox s v (.map (some M)))).alloc (.cells #[.int .i64 day] 3)).heap[w.heap.size + 1]? = some (.cells #[.int .i64 0, .int .i64 0] 23) := ((Below.heap_alloc _ _ _ (by simp <;> omega)).trans ((Below.heap_alloc _ _ _ (by simp <;> omega)).trans ((Below.heap_alloc _ _ _ (by simp <;> omega)).trans ((Below.heap_alloc _ _ _ (by simp <;> omega)).trans (heap_new _ _ (by simp <;> omega))))))
  have k3 : ((((((w.alloc (vwBox s v (.map (some M)))).alloc (.cells #[.int .i64 0, .int .i64 0] 23)).alloc (.cells #[.int .i64 0, .int .i64 0] 23)).alloc (.cells #[.int .i64 (-2000), .int .i64 2000] 23)).alloc (vwBox s v (.map (some M)))).alloc (.cells #[.int .i64 day] 3)).heap[w.heap.size + 1 + 1 + 1]? = some (.cells #[.int .i64 (-2000), .int .i64 2000] 23) := ((Below.heap_alloc _ _ _ (by simp <;> omega)).trans ((Below.heap_alloc _ _ _ (by simp <;> omega)).trans (heap_new _ _ (by simp <;> omega))))
  have k4 : ((((((w.alloc (vwBox s v (.map (some M)))).alloc (.cells #[.int .i64 0, .int .i64 0] 23)).alloc (.cells #[.int .i64 0, .int .i64 0] 23)).alloc (.cells #[.int .i64 (-2000), .int .i64 2000] 23)).alloc (vwBox s v (.map (some M)))).alloc (.cells #[.int .i64 day] 3)).heap[w.heap.size + 1 + 1 + 1 + 1]? = some (vwBox s v (.map (some M))) := ((Below.heap_alloc _ _ _ (by simp <;> omega)).trans (heap_new _ _ (by simp <;> omega)))
  have k5 : ((((((w.alloc (vwBox s v (.map (some M)))).alloc (.cells #[.int .i64 0, .int .i64 0] 23)).alloc (.cells #[.int .i64 0, .int .i64 0] 23)).alloc (.cells #[.int .i64 (-2000), .int .i64 2000] 23)).alloc (vwBox s v (.map (some M)))).alloc (.cells #[.int .i64 day] 3)).heap[w.heap.size + 1 + 1 + 1 + 1 + 1]? = some (.cells #[.int .i64 day] 3) := (heap_new _ _ (by simp <;> omega))
  clear hlk
  generalize (((((w.alloc (vwBox s v (.map (some M)))).alloc (.cells #[.int .i64 0, .int .i64 0] 23)).alloc (.cells #[.int .i64 0, .int .i64 0] 23)).alloc (.cells #[.int .i64 (-2000), .int .i64 2000] 23)).alloc (vwBox s v (.map (some M)))).alloc (.cells #[.int .i64 day] 3) = W0 at *
  refine wpIn_rangeFunc_ownH rfl (by omega) (gf := 71) (lb := #[.pointer (some ⟨w.heap.size + 1 + 1 + 1 + 1, 0, none⟩), .pointer (some ⟨w.heap.size + 1 + 1 + 1 + 1 + 1, 0, none⟩)]) rfl trivial (enters_of Tryd.func71 (by kernel_rfl) rfl)
    (encs := fun x : Int × Int => #[spV x.1 x.2]) (Kp := KX (w.heap.size + 6) (w.heap.size + 3)) (S := fun ys => ys = cs.map (limF s day)) (Sp := fun pre => pre <+: cs.map (limF s day)) (N := cs.length) (w0 := W0)
    (fun l J Jx W hW hJ _ hY hJ0 => limits1_any 9 (by omega) s cs hs day hd0 hd1 v (.map (some M)) w hc l (w.heap.size + 1 + 1 + 1 + 1) (w.heap.size + 1 + 1 + 1 + 1 + 1) (w.heap.size + 6) (w.heap.size + 3) (by omega) (by omega) (by omega) (by omega) (by omega) (by omega) J Jx W (hbel.trans (hW.mono (by omega))) (by have := hW.size; omega) hJ hY ((hW.block _ (by omega)).trans k4) ((hW.block _ (by omega)).trans k5) hJ0)
    (fun h k => h.trans k) ?kb (Below.refl _ _) (fun _ => rfl)
    (fun pre W => W.heap[w.heap.size + 1 + 1 + 1]? = some (.cells #[.int .i64 (lowP pre), .int .i64 (highP pre)] 23) ∧ KX (w.heap.size + 6) (w.heap.size + 3) W0 W)
    (fun _ _ _ => False) ?hI (fun _ _ _ _ _ hs _ _ => hs) ⟨k3, KX.refl _ _ _⟩
    (fun x a' W => ∃ Bx, w.heap.size + 6 ≤ Bx ∧ W.heap[Bx]? = some (.cells #[.int .i64 x.1, .int .i64 x.2] 23) ∧ a' = { tmps := #[vwV s v (.map (some M)), .int .i64 day, .pointer (some ⟨w.heap.size, 0, none⟩), undef, .pointer (some ⟨w.heap.size + 1, 0, none⟩), .pointer (some ⟨w.heap.size + 1 + 1, 0, none⟩), .bool false, .pointer (some ⟨w.heap.size + 1 + 1 + 1, 0, none⟩), .pointer (some ⟨Bx, 0, none⟩), .tuple #[spV 0 0, .bool false], .pointer (some ⟨w.heap.size, 9, none⟩), .map (some M), .int .i64 day, .tuple #[spV 0 0, .bool false], spV 0 0, .bool false, .bool false, undef, .agg #[.int .i64 (-2000), .int .i64 2000], vwV s v (.map (some M)), .int .i64 day, .func (.func 71) #[] #[.pointer (some ⟨w.heap.size + 1 + 1 + 1 + 1, 0, none⟩), .pointer (some ⟨w.heap.size + 1 + 1 + 1 + 1 + 1, 0, none⟩)], spV x.1 x.2, undef, undef, undef, undef, undef, undef, undef, undef, undef, undef, undef, undef, undef, undef, undef, undef, undef, undef, undef], defers := [] })
    ?hAx ?assign ?body ?done ?stop
  case kb => exact fun W l o o' h1 h2 h3 h4 => KX.of_below (belowK_b (w := W0) (by omega) W l o o' h1 h2 h3 h4)
  case hI =>
    rintro pre A B row ⟨hT, hKX⟩ hg hr
    have hA := hKX.size
    have hne : ∀ k, k < w.heap.size + 6 → some k ≠ row := fun k hk e => by have := (hr k e.symm).1; omega
    exact ⟨(hg.block _ (by omega) (hne _ (by omega))).trans hT, hKX.trans ⟨hg.os, hg.tape, hg.output, hg.size, fun k hk _ => hg.block k (by omega) (hne k hk)⟩⟩
  case hAx =>
    rintro x a' _ A B row ⟨Bx, h1, h2, h3⟩ hg hr
    have hlt : Bx < A.heap.size := (Array.getElem?_eq_some_iff.1 h2).1
    refine ⟨Bx, h1, (hg.block _ hlt fun e => ?_).trans h2, h3⟩
    obtain ⟨o, ho, hoc⟩ := (hr Bx e.symm).2
    rw [h2] at ho
    cases ho
    cases hoc
  case assign =>
    rintro l pre x W K ⟨hT, hKX⟩ hK
    have hA := hKX.size
    gi_wp2
    refine hK _ _ ((KeepsOthers.alloc _ _).from _) (KX.of_below ((Below.refl _ _).alloc (by omega) _)) ⟨(Below.heap_alloc _ _ _ (by omega)).trans hT, hKX.trans (KX.of_below ((Below.refl _ _).alloc (by omega) _))⟩ ⟨W.heap.size, by omega, World.alloc_heap_new _ _, rfl⟩
  case body =>
    rintro l pre x a' W hl ⟨r, hr⟩ ⟨hT, hKX⟩ ⟨Bx, hBx, hX, rfl⟩ hlt
    have hA := hKX.size
    have hBl : Bx < W.heap.size := (Array.getElem?_eq_some_iff.1 hX).1
    have hTl : w.heap.size + 1 + 1 + 1 < W.heap.size := by omega
    have hTl2 : w.heap.size + 1 + 1 < W.heap.size := by omega
    have hTn : w.heap.size + 1 + 1 + 1 ≠ Bx := by omega
    have hTn' : Bx ≠ w.heap.size + 1 + 1 + 1 := by omega
    obtain ⟨t1, t2⟩ := boxCells hT
    obtain ⟨x1, x2⟩ := boxCells hX
    have HKX := Lib.hid hKX
    clear k0 k1 k3 k4 k5 hKX
    gi_wp2_with (first | (refine ⟨trivial, ?_⟩; gi_at_call 53; refine (CallsIn.inRound l (callsIn_wide.2 (greatest_two _ x.1 _ _ _ (by go_simp)))).mono ?_; rintro e w' ⟨rfl, rfl⟩) | (refine ⟨trivial, ?_⟩; gi_at_call 54; refine (CallsIn.inRound l (callsIn_wide.2 (least_two _ x.2 _ _ _ (by go_simp)))).mono ?_; rintro e w' ⟨rfl, rfl⟩))
    refine ⟨((((KeepsOthers.setCell _ _ _).trans (KeepsOthers.setCell _ _ _)).trans (KeepsOthers.alloc _ _)).trans (KeepsOthers.alloc _ _)).from _, ?_, ?_, ?_⟩
    · exact (((KX.setCell _ _ _ _ _).trans (KX.setCell _ _ _ _ _)).alloc (by simp; omega) _).alloc (by simp; omega) _
    · refine (Below.heap_alloc _ _ _ (by simp; omega)).trans ((Below.heap_alloc _ _ _ (by simp; omega)).trans ?_)
      have := heap_setCell_same (o := 1) (heap_setCell_same (o := 0) hT (.int .i64 (max (lowP pre) x.1))) (.int .i64 (min (highP pre) x.2))
      simpa [lowP, highP] using this
    · exact HKX.out.trans ((((KX.setCell _ _ _ _ _).trans (KX.setCell _ _ _ _ _)).alloc (by simp; omega) _).alloc (by simp; omega) _)
  case done =>
    rintro D2 ys W hD rfl ⟨hT, hKX⟩ hK
    have hA := hKX.size
    have hM := hown.lt
    have hgW : W0.grownBy W (some (w.heap.size + 3)) := KX.grown (by rw [hsz]; exact hKX)
    have hownW := (hown.kept (grownBy_of_below hbel) (by simp)).kept hgW (by simp; omega)
    have hlo : lowP (cs.map (limF s day)) = lowF s day cs := by simp [lowP, lowF, List.foldl_map, limF]
    have hhi : highP (cs.map (limF s day)) = highF s day cs := by simp [highP, highF, List.foldl_map, limF]
    rw [hlo, hhi] at hT
    obtain ⟨W2, hrun, hown2, hg2⟩ := hownW.update (int_keyed Tryd.underlying3) Tryd.underlying69 (show n < maxLen by unfold maxLen; omega) (keyOf_int_mk Tryd.underlying3 (wf_day hd0 hd1)) (spanR_mk (lowF s day cs) (highF s day cs))
    have q0 : W.heap[w.heap.size]? = some (vwBox s v (.map (some M))) := (hKX.block _ (by omega) (by omega)).trans k0
    have q1 : W.heap[w.heap.size + 1]? = some (.cells #[.int .i64 0, .int .i64 0] 23) := (hKX.block _ (by omega) (by omega)).trans k1
    have hDl : D2 < W.heap.size := (Array.getElem?_eq_some_iff.1 hK).1
    have r1 := (hg2.block (w.heap.size + 1) (by omega) (by simp; omega)).trans q1
    have r3 := (hg2.block (w.heap.size + 1 + 1 + 1) (by omega) (by simp; omega)).trans hT
    have hK2 := (hg2.block D2 hDl (by simp; omega)).trans hK
    have s2 := hg2.size
    have hl1 : w.heap.size + 1 < W2.heap.size := by omega
    obtain ⟨q0c, _⟩ := boxCells q0
    obtain ⟨r1c, r1f⟩ := boxCells r1
    obtain ⟨r3c, _⟩ := boxCells r3
    obtain ⟨t3c, _⟩ := boxCells hT
    have HK2 := Lib.hid hK2
    have HR1 := Lib.hid r1
    have HKX := Lib.hid hKX
    have HG2 := Lib.hid hg2
    have HGW := Lib.hid hgW
    have HOWN2 := Lib.hid hown2
    have HBEL := Lib.hid hbel
    clear hT hKX hK k0 k1 k3 k4 k5 hgW hownW hown2 hg2 q0 q1 r1 r3 hK2 hlo hhi hbel hc hs
    gi_wp2
    have u1 := heap_setCell_same (o := 1) (heap_setCell_same (o := 0) HR1.out (.int .i64 (lowF s day cs))) (.int .i64 (highF s day cs))
    have uD := (Below.heap_setCell (W2.setCell ⟨w.heap.size + 1, 0, none⟩ (.int .i64 (lowF s day cs))) ⟨w.heap.size + 1, 1, none⟩ (.int .i64 (highF s day cs)) D2 (by simp; omega)).trans ((Below.heap_setCell W2 ⟨w.heap.size + 1, 0, none⟩ (.int .i64 (lowF s day cs)) D2 (by simp; omega)).trans HK2.out)
    refine ⟨by simp, .inl ⟨_, _, rfl, run_takeDeferred uD, ?_⟩⟩
    have hown3 := (((HOWN2.out.setCell (a := ⟨w.heap.size + 1, 0, none⟩) (by simp; omega) (.int .i64 (lowF s day cs))).setCell (a := ⟨w.heap.size + 1, 1, none⟩) (by simp; omega) (.int .i64 (highF s day cs))).kept (grownBy_putObj' _ D2 (.deferred none)) (by simp; omega))
    have hgf := grownBy_putObj' ((W2.setCell ⟨w.heap.size + 1, 0, none⟩ (.int .i64 (lowF s day cs))).setCell ⟨w.heap.size + 1, 1, none⟩ (.int .i64 (highF s day cs))) D2 (.deferred none)
    have u1' := (hgf.block (w.heap.size + 1) (by simp [World.setCell]; omega) (by simp; omega)).trans u1
    obtain ⟨c1, _⟩ := boxCells u1'
    refine ⟨spV (lowF s day cs) (highF s day cs), by simp [results, Tryd.results34, go_sem, c1], rfl, ?_, hown3⟩
    have g1 := HBEL.out; have g2 := HGW.out; have g3 := HG2.out
    refine ⟨hgf.os.trans (g3.os.trans (g2.os.trans g1.os)), hgf.tape.trans (g3.tape.trans (g2.tape.trans g1.tape)), hgf.output.trans (g3.output.trans (g2.output.trans g1.output)), ?_, fun k hk hx => ?_⟩
    · refine Nat.le_trans ?_ hgf.size
      simp [World.setCell]
      omega
    · refine (hgf.block k (by simp [World.setCell]; omega) (by simp; omega)).trans ?_
      refine (Below.heap_setCell _ _ _ _ (by simp; omega)).trans ((Below.heap_setCell _ _ _ _ (by simp; omega)).trans ?_)
      exact (g3.block k (by omega) hx).trans ((g2.block k (by omega) (by simp; omega)).trans (g1.block k hk))
  case stop =>
    rintro D c pre W _ _ h _
    exact h.elim

/-- The bounds of a day, by the program, whether they are kept or not. -/
theorem bounds_any {s : Stn} {cs : List Chk} {v : Value} {M n : Nat} {day : Int} {w : World} (hs : Sane s cs) (hc : Chks w v cs) (hd0 : 0 ≤ day) (hd1 : day ≤ 400) (hn : n ≤ 1000000) (hk : Cache w M n s cs) :
    Calls Tryd.prog 34 #[vwV s v (.map (some M)), .int .i64 day] w fun e w' => e = .returned (spV (lowF s day cs) (highF s day cs)) ∧ w.grownBy w' (some M) ∧ Cache w' M (n + 1) s cs := by
  obtain ⟨D, hown, hat⟩ := hk
  cases hh : Maps.has D (.int .i64 day) with
  | true =>
    refine (bounds_has s v cs M n day w hd0 hd1 D hown hh (hat day hh)).mono fun e w' ⟨he, hb⟩ => ⟨he, ?_, D, ?_, hat⟩
    · exact ⟨hb.os, hb.tape, hb.output, hb.size, fun k hk _ => hb.block k hk⟩
    · exact ((hown.kept (grownBy_of_below hb) (by simp))).mono (by omega)
  | false =>
    refine (bounds_new s cs v M n day w hs hc hd0 hd1 hn D hown hh).mono fun e w' ⟨he, hg, ho⟩ => ⟨he, hg, _, ho, fun k hk z => ?_⟩
    by_cases hkd : k = day
    · subst hkd
      exact atKey_put_same hown.isMap ((int_keyed (P := Tryd.prog) Tryd.underlying3).key (keyOf_int_mk Tryd.underlying3 (wf_day hd0 hd1))) _ _
    · have hne : Lit.int .i64 k ≠ Lit.int .i64 day := fun e => hkd (by injection e)
      rw [has_put_other hne] at hk
      rw [atKey_put_other hne]
      exact hat k hk z
end Go.Proofs.YtffgcphmakfikaaDoor
