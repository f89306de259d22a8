/- Part of a claim on cone. -/
import Derived.Test.YtldimlnllmojiaaGreatVy
import Derived.Test.YtldimlnllmojiaaGreatXa
import Derived.Test.YtldimlnllmojiaaGreatVe
set_option linter.unusedVariables false
set_option linter.unusedSimpArgs false
namespace Go.Proofs.YtldimlnllmojiaaGreat
open Go.RowKit
open Go.Shelf
open Go.Maps
def farT (m : Wn) (x : Prt) (t : Int) : Int := if betw (t.tmod 1440) m.dawn (m.dusk - 1) then x.dy else x.nt
theorem farT_is {m : Wn} {x : Prt} {t : Int} (h : 0 ≤ t) : farT m x t = farB m x t := by unfold farT farB; rw [Int.tmod_eq_emod_of_nonneg h]
set_option maxHeartbeats 2000000 in
set_option maxRecDepth 100000 in
theorem reach_gen {m : Wn} {R L MV : Value} {A3 : Option Addr} {ps : List Prt} {c3 j : Nat} {x : Prt} {n v : Int} {w : World} (h3 : Prts w (.slice A3 ps.length c3) ps) (hx : ps[j]? = some x) (hd : 0 ≤ m.dusk ∧ m.dusk ≤ 1440) (hv : farT m x n = v) :
    Calls Tryz.prog 74 #[lookV m R L (.slice A3 ps.length c3) MV, .int .i64 j, .int .i64 n] w fun e w' => e = .returned (.int .i64 v) ∧ Below w.heap.size w w' := by
  have e1 : IntKind.i64.wrap (m.dusk - 1) = m.dusk - 1 := IntWalk.i64_in _ (by omega)
  have e2 : IntKind.i64.wrap (n.tmod 1440) = n.tmod 1440 := IntWalk.i64_in _ (by have h1 := Int.tmod_lt_of_pos n (b := 1440) (by omega); have h2 := Int.lt_tmod_of_pos n (b := 1440) (by omega); omega)
  obtain ⟨b, off, hA, hc1, hc2, q0, q1, q2, q3⟩ := prt_cells h3 hx
  unfold maxLen at hc2
  have hjl : j < ps.length := (List.getElem?_eq_some_iff.1 hx).1
  subst hA
  have HP : Hid (Prts w (.slice (some ⟨b, off, none⟩) ps.length c3) ps ∧ ps[j]? = some x) := Lib.hid ⟨h3, hx⟩
  have HR := Lib.hid ((Frm.nil w).add (lookBox m R L (.slice (some ⟨b, off, none⟩) ps.length c3) MV) rfl)
  have x0 := HR.out.cells mZ
  obtain ⟨y0, y1, y2, y3⟩ := prt_at HP.out HR.out.b
  clear h3 hx q0 q1 q2 q3
  cases hb : betw (n.tmod 1440) m.dawn (m.dusk - 1)
  · have HV : Hid (x.nt = v) := Lib.hid (by rw [← hv]; unfold farT; rw [hb]; rfl)
    clear hv
    go_enter Tryz.func74, Tryz.ntmps74
    go_wp2_with (go_at_call 72; refine (between_any _ _ _ _).mono ?_; rintro e wq ⟨rfl, rfl⟩)
    go_ret
    exact ⟨ret_int (by first | rfl | exact HV.out), Frm.b (w := w) (by (repeat (with_reducible first | exact HR.out | apply Frm.drew | apply Frm.alloc | apply Frm.drewN)))⟩
  · have HV : Hid (x.dy = v) := Lib.hid (by rw [← hv]; unfold farT; rw [hb]; rfl)
    clear hv
    go_enter Tryz.func74, Tryz.ntmps74
    go_wp2_with (go_at_call 72; refine (between_any _ _ _ _).mono ?_; rintro e wq ⟨rfl, rfl⟩)
    go_ret
    exact ⟨ret_int (by first | rfl | exact HV.out), Frm.b (w := w) (by (repeat (with_reducible first | exact HR.out | apply Frm.drew | apply Frm.alloc | apply Frm.drewN)))⟩
set_option maxHeartbeats 2000000 in
set_option maxRecDepth 100000 in
theorem surely1_any {m : Wn} {R L MV : Value} {A3 : Option Addr} {ps : List Prt} {c3 j : Nat} {x : Prt} {n llo lhi alo ahi : Int} {D1 D2 D3 : Nat} {w : World} (h3 : Prts w (.slice A3 ps.length c3) ps) (hx : ps[j]? = some x) (hd : 0 ≤ m.dusk ∧ m.dusk ≤ 1440) (hD : w.heap[D1]? = some (.cells #[.int .i64 llo, .int .i64 lhi, .int .i64 alo, .int .i64 ahi] 63) ∧ w.heap[D2]? = some (lookBox m R L (.slice A3 ps.length c3) MV) ∧ w.heap[D3]? = some (.cells #[.int .i64 j] 3)) :
    Calls Tryz.prog 116 #[.int .i64 n, .pointer (some ⟨D1, 0, none⟩), .pointer (some ⟨D2, 0, none⟩), .pointer (some ⟨D3, 0, none⟩)] w fun e w' => e = .returned (.bool (decide (farT m x n < ahi))) ∧ Below w.heap.size w w' := by
  have H3 := Lib.hid h3
  have HX := Lib.hid hx
  obtain ⟨fv, hfv⟩ : ∃ fv, farT m x n = fv := ⟨_, rfl⟩
  have HFT := Lib.hid hfv
  rw [hfv]
  have HR : Hid (Frm w [(D1, (.cells #[.int .i64 llo, .int .i64 lhi, .int .i64 alo, .int .i64 ahi] 63)), (D2, (lookBox m R L (.slice A3 ps.length c3) MV)), (D3, (.cells #[.int .i64 j] 3))] w) := Lib.hid ⟨Below.refl _ _, by
    intro p hp
    simp only [List.mem_cons, List.not_mem_nil, or_false] at hp
    rcases hp with rfl | rfl | rfl
    · exact hD.1
    · exact hD.2.1
    · exact hD.2.2⟩
  clear h3 hx hfv hD
  go_enter Tryz.func116, Tryz.ntmps116
  go_upto_region 1 with fail
  refine wp_region_held_drew (S := fun w' => (∀ o, w'.cell? ⟨D1, o, none⟩ = #[Value.int .i64 llo, .int .i64 lhi, .int .i64 alo, .int .i64 ahi][o]?) ∧ (∀ o, w'.cell? ⟨D2, o, none⟩ = #[Value.int .i64 m.n, R, L, (.slice A3 ps.length c3), .int .i64 m.fall, .int .i64 m.win, .int .i64 m.hold, .int .i64 m.dawn, .int .i64 m.dusk, MV][o]?) ∧ (∀ o, w'.cell? ⟨D3, o, none⟩ = #[Value.int .i64 j][o]?)) (by kernel_rfl) ?_ (fun hHeld => ?_)
  · (try dsimp only); exact (fun hF : Frm w [(D1, (.cells #[.int .i64 llo, .int .i64 lhi, .int .i64 alo, .int .i64 ahi] 63)), (D2, (lookBox m R L (.slice A3 ps.length c3) MV)), (D3, (.cells #[.int .i64 j] 3))] _ => ⟨hF.cells mZ, hF.cells (mS mZ), hF.cells (mS (mS mZ))⟩) (by (repeat (with_reducible first | exact HR.out | apply Frm.drew | apply Frm.alloc | apply Frm.drewN)))
  refine wpAnyH_take (i := 0) (oi := ⟨some 6, _, _, _, _, _⟩) (v := ?vq1_0) rfl (by kernel_rfl) (by kernel_rfl) (by kernel_rfl) (fun _ _ _ h => h) (Or.inl ⟨by kernel_rfl, ?hyq1_0⟩) (by assumption) ?restq1_0
  case hyq1_0 => (intro w hSw; (try dsimp only at hSw); go_simp) <;> (with_reducible rfl)
  try simp only [Act.put, List.setIfInBounds_toArray, List.set_cons_zero, List.set_cons_succ]
  refine wpAnyH_take (i := 1) (oi := ⟨some 7, _, _, _, _, _⟩) (v := ?vq1_1) rfl (by kernel_rfl) (by kernel_rfl) (by kernel_rfl) (fun _ _ _ h => h) (Or.inl ⟨by kernel_rfl, ?hyq1_1⟩) (by assumption) ?restq1_1
  case hyq1_1 => (intro w hSw; (try dsimp only at hSw); go_simp) <;> (with_reducible rfl)
  try simp only [Act.put, List.setIfInBounds_toArray, List.set_cons_zero, List.set_cons_succ]
  refine wpAnyH_take (i := 2) (oi := ⟨some 8, _, _, _, _, _⟩) (v := ?vq1_2) rfl (by kernel_rfl) (by kernel_rfl) (by kernel_rfl) (fun _ _ _ h => h) (Or.inl ⟨by kernel_rfl, ?hyq1_2⟩) (by assumption) ?restq1_2
  case hyq1_2 => (intro w hSw; (try dsimp only at hSw); go_simp) <;> (with_reducible rfl)
  try simp only [Act.put, List.setIfInBounds_toArray, List.set_cons_zero, List.set_cons_succ]
  refine wpAnyH_take (i := 3) (oi := ⟨some 9, _, _, _, _, _⟩) (v := ?vq1_3) rfl (by kernel_rfl) (by kernel_rfl) (by kernel_rfl) (fun _ _ _ h => h) (Or.inl ⟨by kernel_rfl, ?hyq1_3⟩) (by assumption) ?restq1_3
  case hyq1_3 => (intro w hSw; (try dsimp only at hSw); go_simp) <;> (with_reducible rfl)
  try simp only [Act.put, List.setIfInBounds_toArray, List.set_cons_zero, List.set_cons_succ]
  refine wpAnyH_take (i := 4) (oi := ⟨some 10, _, _, _, _, _⟩) (v := ?vq1_4) rfl (by kernel_rfl) (by kernel_rfl) (by kernel_rfl) (fun _ _ _ h => h) (Or.inl ⟨by kernel_rfl, ?hyq1_4⟩) (by assumption) ?restq1_4
  case hyq1_4 => (intro w hSw; (try dsimp only at hSw); go_simp) <;> (with_reducible rfl)
  try simp only [Act.put, List.setIfInBounds_toArray, List.set_cons_zero, List.set_cons_succ]
  refine wpAnyH_take (i := 5) (oi := ⟨some 11, _, _, _, _, _⟩) (v := ?vq1_5) rfl (by kernel_rfl) (by kernel_rfl) (by kernel_rfl) (fun _ _ _ h => h) (Or.inl ⟨by kernel_rfl, ?hyq1_5⟩) (by assumption) ?restq1_5
  case hyq1_5 => (intro w hSw; (try dsimp only at hSw); go_simp) <;> (with_reducible rfl)
  try simp only [Act.put, List.setIfInBounds_toArray, List.set_cons_zero, List.set_cons_succ]
  refine wpAnyH_ready (rs := [6]) (by kernel_rfl) (by simp) ?_
  refine AllReadyH.cons (o := ⟨some 12, _, _, _, _, _⟩) rfl (fun K hK => ?_) AllReadyH.nil
  go_simp
  go_at_call 74
  refine (reach_gen (Rws.below H3.out (Frm.b (w := w) (by (repeat (with_reducible first | exact HR.out | apply Frm.drew | apply Frm.alloc | apply Frm.drewN)))) (Nat.le_refl _)) HX.out hd HFT.out).mono ?_
  rintro e wa ⟨rfl, hbq⟩
  have HRq := Lib.hid (Frm.below (w := w) (by (repeat (with_reducible first | exact HR.out | apply Frm.drew | apply Frm.alloc | apply Frm.drewN))) hbq)
  clear HR
  have HR := HRq
  clear HRq hbq
  try go_wp2_with fail
  clear hHeld
  refine hK.out _ _ ?_ (fun hHeld => ?_)
  · (try dsimp only); exact (fun hF : Frm w [(D1, (.cells #[.int .i64 llo, .int .i64 lhi, .int .i64 alo, .int .i64 ahi] 63)), (D2, (lookBox m R L (.slice A3 ps.length c3) MV)), (D3, (.cells #[.int .i64 j] 3))] _ => ⟨hF.cells mZ, hF.cells (mS mZ), hF.cells (mS (mS mZ))⟩) (by (repeat (with_reducible first | exact HR.out | apply Frm.drew | apply Frm.alloc | apply Frm.drewN)))
  clear hK K
  try simp only [Act.put, List.setIfInBounds_toArray, List.set_cons_zero, List.set_cons_succ]
  refine wpAnyH_take (i := 7) (oi := ⟨some 13, _, _, _, _, _⟩) (v := ?vq1_7) rfl (by kernel_rfl) (by kernel_rfl) (by kernel_rfl) (fun _ _ _ h => h) (Or.inl ⟨by kernel_rfl, ?hyq1_7⟩) (by assumption) ?restq1_7
  case hyq1_7 => (intro w hSw; (try dsimp only at hSw); go_simp) <;> (with_reducible rfl)
  try simp only [Act.put, List.setIfInBounds_toArray, List.set_cons_zero, List.set_cons_succ]
  refine wpAnyH_take (i := 8) (oi := ⟨some 5, _, _, _, _, _⟩) (v := ?vq1_8) rfl (by kernel_rfl) (by kernel_rfl) (by kernel_rfl) (fun _ _ _ h => h) (Or.inl ⟨by kernel_rfl, ?hyq1_8⟩) (by assumption) ?restq1_8
  case hyq1_8 => (intro w hSw; (try dsimp only at hSw); go_simp) <;> (with_reducible rfl)
  try simp only [Act.put, List.setIfInBounds_toArray, List.set_cons_zero, List.set_cons_succ]
  refine wpAnyH_done (by kernel_rfl) ?_ _
  go_wp2_with fail
  go_ret
  exact ⟨rfl, (Frm.b (w := w) (by (repeat (with_reducible first | exact HR.out | apply Frm.drew | apply Frm.alloc | apply Frm.drewN))))⟩
theorem frm3 {w W : World} {k1 k2 k3 : Nat} {o1 o2 o3 : Obj} (h : Frm w [(k1, o1), (k2, o2), (k3, o3)] W) : W.heap[k1]? = some o1 ∧ W.heap[k2]? = some o2 ∧ W.heap[k3]? = some o3 := ⟨h.h _ mZ, h.h _ (mS mZ), h.h _ (mS (mS mZ))⟩
theorem through_is {lo hi : Int} {A : Option Addr} {c : Nat} {ss : List (Int × Int)} {w : World} {v : Bool} (h1 : -1000000 ≤ lo) (h2 : lo ≤ 1000000) (h3 : -1000000 ≤ hi) (h4 : hi ≤ 1000000) (hlen : ss.length ≤ 1000) (hS : Sps w (.slice A ss.length c) ss) (hs : ∀ b off, A = some ⟨b, off, none⟩ → b < w.heap.size) (hv : allB ss lo hi = v) :
    Calls Tryz.prog 117 #[.slice A ss.length c, .agg #[.int .i64 lo, .int .i64 hi]] w fun e w' => e = .returned (.bool v) ∧ Below w.heap.size w w' := by
  rw [← hv]; exact throughout_any lo hi A c ss w h1 h2 h3 h4 hlen hS hs
set_option maxHeartbeats 2000000 in
set_option maxRecDepth 100000 in
theorem looks_any {m : Wn} {R L MV : Value} {A3 : Option Addr} {ps : List Prt} {c3 j : Nat} {x : Prt} {llo lhi alo ahi : Int} {w : World} (h3 : Prts w (.slice A3 ps.length c3) ps) (hx : ps[j]? = some x) (hxp : 0 ≤ x.olo ∧ x.olo ≤ 100000 ∧ 0 ≤ x.ohi ∧ x.ohi ≤ 100000) (hlb : 0 ≤ llo ∧ llo ≤ 100000 ∧ 0 ≤ lhi ∧ lhi ≤ 100000) :
    Calls Tryz.prog 118 #[lookV m R L (.slice A3 ps.length c3) MV, .int .i64 j, .agg #[.int .i64 llo, .int .i64 lhi, .int .i64 alo, .int .i64 ahi]] w fun e w' => e = .returned (.agg #[.int .i64 (llo - x.ohi), .int .i64 (lhi - x.olo)]) ∧ Below w.heap.size w w' := by
  have e1 : IntKind.i64.wrap (llo - x.ohi) = llo - x.ohi := IntWalk.i64_in _ (by omega)
  have e2 : IntKind.i64.wrap (lhi - x.olo) = lhi - x.olo := IntWalk.i64_in _ (by omega)
  obtain ⟨b, off, hA, hc1, hc2, q0, q1, q2, q3⟩ := prt_cells h3 hx
  unfold maxLen at hc2
  have hjl : j < ps.length := (List.getElem?_eq_some_iff.1 hx).1
  subst hA
  have HP : Hid (Prts w (.slice (some ⟨b, off, none⟩) ps.length c3) ps ∧ ps[j]? = some x) := Lib.hid ⟨h3, hx⟩
  have HR := Lib.hid ((((Frm.nil w).add (lookBox m R L (.slice (some ⟨b, off, none⟩) ps.length c3) MV) rfl).add (k := w.heap.size + 1) (.cells #[.int .i64 llo, .int .i64 lhi, .int .i64 alo, .int .i64 ahi] 63) (by simp)).add (k := w.heap.size + 1 + 1) (.cells #[.int .i64 0, .int .i64 0] 56) (by simp))
  obtain ⟨y0, y1, y2, y3⟩ := prt_at HP.out HR.out.b
  clear h3 hx q0 q1 q2 q3
  go_enter Tryz.func118, Tryz.ntmps118
  go_wp2_with fail
  exact bodyPost_ret (v := .agg #[.int .i64 (llo - x.ohi), .int .i64 (lhi - x.olo)]) (by simp [results, Tryz.results118, go_sem]) rfl ⟨rfl, ((((Below.refl _ w).alloc (Nat.le_refl _) _).alloc (by simp) _).alloc (by simp; omega) _).alloc (by simp; omega) _⟩
set_option maxHeartbeats 2000000 in
set_option maxRecDepth 100000 in
theorem surely_any {m : Wn} {R L MV : Value} {A3 : Option Addr} {ps : List Prt} {c3 j : Nat} {x : Prt} {llo lhi alo ahi : Int} {A : Option Addr} {c : Nat} {ss : List (Int × Int)} {fr tb : Bool} {w : World} (h3 : Prts w (.slice A3 ps.length c3) ps) (hx : ps[j]? = some x) (hd : 0 ≤ m.dusk ∧ m.dusk ≤ 1440) (hxp : 0 ≤ x.olo ∧ x.olo ≤ 100000 ∧ 0 ≤ x.ohi ∧ x.ohi ≤ 100000) (hlb : 0 ≤ llo ∧ llo ≤ 100000 ∧ 0 ≤ lhi ∧ lhi ≤ 100000) (hS : Sps w (.slice A ss.length c) ss) (hsl : ss.length ≤ 1000) (hs : ∀ b off, A = some ⟨b, off, none⟩ → b < w.heap.size) (hfr : ((minsL llo lhi).any fun t => decide (farT m x t < ahi)) = fr) (hth : allB ss (llo - x.ohi) (lhi - x.olo) = tb) :
    Calls Tryz.prog 101 #[lookV m R L (.slice A3 ps.length c3) MV, .slice A ss.length c, .int .i64 j, .agg #[.int .i64 llo, .int .i64 lhi, .int .i64 alo, .int .i64 ahi]] w fun e w' => e = .returned (.bool (!fr && tb)) ∧ Below w.heap.size w w' := by
  have H3 := Lib.hid h3
  have HX := Lib.hid hx
  have HS := Lib.hid hS
  have HSA := Lib.hid hs
  have HFR := Lib.hid hfr
  have HTH := Lib.hid hth
  clear h3 hx hS hs hfr hth
  have HR := Lib.hid (((((Frm.nil w).add (lookBox m R L (.slice A3 ps.length c3) MV) rfl).add (k := w.heap.size + 1) (.cells #[.int .i64 j] 3) (by simp)).add (k := w.heap.size + 1 + 1) (.cells #[.int .i64 llo, .int .i64 lhi, .int .i64 alo, .int .i64 ahi] 63) (by simp)).less (bs' := [(w.heap.size + 1 + 1, (.cells #[.int .i64 llo, .int .i64 lhi, .int .i64 alo, .int .i64 ahi] 63)), (w.heap.size, (lookBox m R L (.slice A3 ps.length c3) MV)), (w.heap.size + 1, (.cells #[.int .i64 j] 3))]) (by simp))
  have hz0 : (((w.alloc (lookBox m R L (.slice A3 ps.length c3) MV)).alloc (.cells #[.int .i64 j] 3)).alloc (.cells #[.int .i64 llo, .int .i64 lhi, .int .i64 alo, .int .i64 ahi] 63)).heap.size = w.heap.size + 1 + 1 + 1 := by simp
  cases fr
  · go_enter Tryz.func101, Tryz.ntmps101
    go_upto_region 1 with fail
    generalize ((w.alloc (lookBox m R L (.slice A3 ps.length c3) MV)).alloc (.cells #[.int .i64 j] 3)).alloc (.cells #[.int .i64 llo, .int .i64 lhi, .int .i64 alo, .int .i64 ahi] 63) = V at *
    have hz1 : V.heap.size ≤ w.heap.size + 1 + 1 + 1 := by omega
    have hz2 : w.heap.size + 1 + 1 + 1 ≤ V.heap.size := by omega
    clear hz0
    have x0 := HR.out.cells mZ
    have x1 := HR.out.cells (mS mZ)
    have x2 := HR.out.cells (mS (mS mZ))
    go_wp2_with (first | (go_at_call 115; refine (minutes_any _ _ _).mono ?_; rintro e wz ⟨rfl, rfl⟩) | (go_at_call 114; refine (ifirst_in (fun t => decide (farT m x t < ahi)) llo lhi (by omega) (by omega) (by omega) (by omega) _ (w.heap.size + 1 + 1) (w.heap.size) (w.heap.size + 1) _ (by simp) (heap_new _ _ rfl) (fun t W hb => surely1_any (Rws.below H3.out (Frm.below (w := w) (by (repeat (with_reducible first | exact HR.out | apply Frm.drew | apply Frm.alloc | apply Frm.drewN))) hb).b (Nat.le_refl _)) HX.out hd (frm3 (Frm.below (w := w) (by (repeat (with_reducible first | exact HR.out | apply Frm.drew | apply Frm.alloc | apply Frm.drewN))) hb)))).mono ?_; rintro e wf ⟨y, rfl, hbq⟩; rw [HFR.out]; have HRq := Lib.hid (Frm.below (w := w) (by (repeat (with_reducible first | exact HR.out | apply Frm.drew | apply Frm.alloc | apply Frm.drewN))) hbq); clear HR x0 x1 x2; have HR := HRq; clear HRq hbq; have x0 := HR.out.cells mZ; have x1 := HR.out.cells (mS mZ); have x2 := HR.out.cells (mS (mS mZ))) | (go_at_call 118; refine (looks_any (Rws.below H3.out (Frm.b (w := w) (by (repeat (with_reducible first | exact HR.out | apply Frm.drew | apply Frm.alloc | apply Frm.drewN)))) (Nat.le_refl _)) HX.out hxp hlb).mono ?_; rintro e wf ⟨rfl, hbq⟩; have HRq := Lib.hid (Frm.below (w := w) (by (repeat (with_reducible first | exact HR.out | apply Frm.drew | apply Frm.alloc | apply Frm.drewN))) hbq); clear HR x0 x1 x2; have HR := HRq; clear HRq hbq; have x0 := HR.out.cells mZ; have x1 := HR.out.cells (mS mZ); have x2 := HR.out.cells (mS (mS mZ))) | (go_at_call 117; refine (through_is (by omega) (by omega) (by omega) (by omega) hsl (HS.out.below (Frm.b (w := w) (by (repeat (with_reducible first | exact HR.out | apply Frm.drew | apply Frm.alloc | apply Frm.drewN)))) (Nat.le_refl _)) (fun b off h => Nat.lt_of_lt_of_le (HSA.out b off h) (Below.size (Frm.b (w := w) (by (repeat (with_reducible first | exact HR.out | apply Frm.drew | apply Frm.alloc | apply Frm.drewN)))))) HTH.out).mono ?_; rintro e wf ⟨rfl, hbq⟩; have HRq := Lib.hid (Frm.below (w := w) (by (repeat (with_reducible first | exact HR.out | apply Frm.drew | apply Frm.alloc | apply Frm.drewN))) hbq); clear HR x0 x1 x2; have HR := HRq; clear HRq hbq; have x0 := HR.out.cells mZ; have x1 := HR.out.cells (mS mZ); have x2 := HR.out.cells (mS (mS mZ))))
    go_ret
    exact ⟨rfl, (Frm.b (w := w) (by (repeat (with_reducible first | exact HR.out | apply Frm.drew | apply Frm.alloc | apply Frm.drewN))))⟩
  · go_enter Tryz.func101, Tryz.ntmps101
    go_upto_region 1 with fail
    generalize ((w.alloc (lookBox m R L (.slice A3 ps.length c3) MV)).alloc (.cells #[.int .i64 j] 3)).alloc (.cells #[.int .i64 llo, .int .i64 lhi, .int .i64 alo, .int .i64 ahi] 63) = V at *
    have hz1 : V.heap.size ≤ w.heap.size + 1 + 1 + 1 := by omega
    have hz2 : w.heap.size + 1 + 1 + 1 ≤ V.heap.size := by omega
    clear hz0
    have x0 := HR.out.cells mZ
    have x1 := HR.out.cells (mS mZ)
    have x2 := HR.out.cells (mS (mS mZ))
    go_wp2_with (first | (go_at_call 115; refine (minutes_any _ _ _).mono ?_; rintro e wz ⟨rfl, rfl⟩) | (go_at_call 114; refine (ifirst_in (fun t => decide (farT m x t < ahi)) llo lhi (by omega) (by omega) (by omega) (by omega) _ (w.heap.size + 1 + 1) (w.heap.size) (w.heap.size + 1) _ (by simp) (heap_new _ _ rfl) (fun t W hb => surely1_any (Rws.below H3.out (Frm.below (w := w) (by (repeat (with_reducible first | exact HR.out | apply Frm.drew | apply Frm.alloc | apply Frm.drewN))) hb).b (Nat.le_refl _)) HX.out hd (frm3 (Frm.below (w := w) (by (repeat (with_reducible first | exact HR.out | apply Frm.drew | apply Frm.alloc | apply Frm.drewN))) hb)))).mono ?_; rintro e wf ⟨y, rfl, hbq⟩; rw [HFR.out]; have HRq := Lib.hid (Frm.below (w := w) (by (repeat (with_reducible first | exact HR.out | apply Frm.drew | apply Frm.alloc | apply Frm.drewN))) hbq); clear HR x0 x1 x2; have HR := HRq; clear HRq hbq; have x0 := HR.out.cells mZ; have x1 := HR.out.cells (mS mZ); have x2 := HR.out.cells (mS (mS mZ))) | (go_at_call 118; refine (looks_any (Rws.below H3.out (Frm.b (w := w) (by (repeat (with_reducible first | exact HR.out | apply Frm.drew | apply Frm.alloc | apply Frm.drewN)))) (Nat.le_refl _)) HX.out hxp hlb).mono ?_; rintro e wf ⟨rfl, hbq⟩; have HRq := Lib.hid (Frm.below (w := w) (by (repeat (with_reducible first | exact HR.out | apply Frm.drew | apply Frm.alloc | apply Frm.drewN))) hbq); clear HR x0 x1 x2; have HR := HRq; clear HRq hbq; have x0 := HR.out.cells mZ; have x1 := HR.out.cells (mS mZ); have x2 := HR.out.cells (mS (mS mZ))) | (go_at_call 117; refine (through_is (by omega) (by omega) (by omega) (by omega) hsl (HS.out.below (Frm.b (w := w) (by (repeat (with_reducible first | exact HR.out | apply Frm.drew | apply Frm.alloc | apply Frm.drewN)))) (Nat.le_refl _)) (fun b off h => Nat.lt_of_lt_of_le (HSA.out b off h) (Below.size (Frm.b (w := w) (by (repeat (with_reducible first | exact HR.out | apply Frm.drew | apply Frm.alloc | apply Frm.drewN)))))) HTH.out).mono ?_; rintro e wf ⟨rfl, hbq⟩; have HRq := Lib.hid (Frm.below (w := w) (by (repeat (with_reducible first | exact HR.out | apply Frm.drew | apply Frm.alloc | apply Frm.drewN))) hbq); clear HR x0 x1 x2; have HR := HRq; clear HRq hbq; have x0 := HR.out.cells mZ; have x1 := HR.out.cells (mS mZ); have x2 := HR.out.cells (mS (mS mZ))))
    go_ret
    exact ⟨rfl, (Frm.b (w := w) (by (repeat (with_reducible first | exact HR.out | apply Frm.drew | apply Frm.alloc | apply Frm.drewN))))⟩
end Go.Proofs.YtldimlnllmojiaaGreat
