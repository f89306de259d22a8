/- Part of a claim on cone. -/
import Derived.Test.YtldimlnllmojiaaGreatWw
import Derived.Test.YtldimlnllmojiaaGreatVy
import Derived.Test.YtldimlnllmojiaaGreatWm
import Derived.Test.YtldimlnllmojiaaGreatVd
import Derived.Test.YtldimlnllmojiaaGreatGA1
set_option linter.unusedVariables false
set_option linter.unusedSimpArgs false
namespace Go.Proofs.YtldimlnllmojiaaGreat
open Go.RowKit
open Go.Shelf
open Go.Maps
theorem ends_sic (m : Wn) (rs : List Rep) (ls : List Lnk) (g : Bool) : siL m ls rs (ev (delsL (endD rs g) rs.length)) = siL m ls rs (endD rs g) := soon_congr fun i hi => ev_dels hi
theorem ends_dbc {m : Wn} {rs : List Rep} {ls : List Lnk} {ps : List Prt} (h : Sane m rs ls ps) (g : Bool) : ∀ i, i < rs.length → 0 ≤ ev (delsL (endD rs g) rs.length) i ∧ ev (delsL (endD rs g) rs.length) i ≤ 100000 := fun i hi => by
  have h2 := ends_bounds h i hi
  rw [ev_dels hi]
  cases g
  · exact h2.1
  · exact h2.2
theorem all_take {α : Type} {l : List α} {n : Nat} {x : α} {f : α → Bool} (h : l[n]? = some x) : (l.take (n + 1)).all f = ((l.take n).all f && f x) := by
  rw [List.take_add_one, h, List.all_append]
  simp
def wordI (a s : Bool) : Int := if a then 3 else if s then 2 else 1
theorem rWord_any (a s : Bool) (w : World) :
    Calls Tryz.prog 69 #[.bool a, .bool s] w fun e w' => e = .returned (.int .i64 (wordI a s)) ∧ w = w' := by
  cases a <;> cases s
  all_goals
    go_enter Tryz.func69, Tryz.ntmps69
    go_wp2
    go_ret
    exact ⟨rfl, rfl⟩
def upI (m : Wn) (rs : List Rep) (ls : List Lnk) (x : Prt) (t : Int) : Int := wordI ((minsL x.olo x.ohi).all (fun n => seenB (siL m ls rs (hiD rs)) (t - n))) ((minsL x.olo x.ohi).any (fun n => seenB (siL m ls rs (loD rs)) (t - n)))
set_option maxHeartbeats 4000000 in
set_option maxRecDepth 100000 in
theorem rUp_any {m : Wn} {A1 A2 A3 : Option Addr} {rs : List Rep} {ls : List Lnk} {ps : List Prt} {c1 c2 c3 : Nat} {j : Nat} {x : Prt} {t : Int} {w : World} (h1 : Reps w (.slice A1 rs.length c1) rs) (h2 : Lnks w (.slice A2 ls.length c2) ls) (h3 : Prts w (.slice A3 ps.length c3) ps) (hx : ps[j]? = some x) (hs : Sane m rs ls ps) (ht : 0 ≤ t ∧ t ≤ 20000) :
    Calls Tryz.prog 35 #[wtV m (.slice A1 rs.length c1) (.slice A2 ls.length c2) (.slice A3 ps.length c3), .int .i64 j, .int .i64 t] w fun e w' => e = .returned (.int .i64 (upI m rs ls x t)) ∧ Below w.heap.size w w' := by
  have HSN := Lib.hid hs
  have hrl : rs.length ≤ 12 := by have := hs.rl; omega
  have HG := Lib.hid (sane_tks hs)
  have hho := sane_hold hs
  have hxp := hs.prt x (List.mem_of_getElem? hx)
  have hjl : j < ps.length := (List.getElem?_eq_some_iff.1 hx).1
  obtain ⟨b, off, hA, hc1, hc2, q0, q1, q2, q3⟩ := prt_cells h3 hx
  unfold maxLen at hc2
  subst hA
  have HP : Hid (Prts w (.slice (some ⟨b, off, none⟩) ps.length c3) ps ∧ ps[j]? = some x) := Lib.hid ⟨h3, hx⟩
  have H1 := Lib.hid h1
  have H2 := Lib.hid h2
  have HR := Lib.hid (((Frm.nil w).add (.cells #[.int .i64 m.n, (.slice A1 rs.length c1), (.slice A2 ls.length c2), (.slice (some ⟨b, off, none⟩) ps.length c3), .int .i64 m.fall, .int .i64 m.win, .int .i64 m.hold, .int .i64 m.dawn, .int .i64 m.dusk] 26) rfl).add (k := w.heap.size + 1) (.cells #[.int .i64 x.olo, .int .i64 x.ohi] 56) (by simp))
  obtain ⟨y0, y1, -, -⟩ := prt_at HP.out (HR.out.less (bs' := []) (by simp)).b
  have HA0 := Lib.hid ((Frm.nil w).add (.cells #[.int .i64 m.n, (.slice A1 rs.length c1), (.slice A2 ls.length c2), (.slice (some ⟨b, off, none⟩) ps.length c3), .int .i64 m.fall, .int .i64 m.win, .int .i64 m.hold, .int .i64 m.dawn, .int .i64 m.dusk] 26) rfl)
  obtain ⟨z0, z1, -, -⟩ := prt_at HP.out HA0.out.b
  clear h1 h2 h3 hx q0 q1 q2 q3 hs
  go_enter Tryz.func35, Tryz.ntmps35
  go_upto_region 3 with fail
  clear y0 y1 z0 z1 HA0
  have HRq := Lib.hid (RW.start HR.out)
  clear HR
  have HR := HRq
  clear HRq
  refine Code.wp_mono (Q := onlyN fun a1 X1 => ∃ E0 ec0 E1 ec1 v4 v5 u12 u13 u14 u15 u16 u17 u18 u19 u20 u21 u22 u23 u24 u25 u26 u27 u28 u29 u30 u31 u32 u33 u34 u35 u36 u37 u38 u39 u40 u41 u42 u43 u44 u45 u46 u47 u48 u49 u50 u51, a1 = { tmps := #[wtV m (.slice A1 rs.length c1) (.slice A2 ls.length c2) (.slice (some ⟨b, off, none⟩) ps.length c3), .int .i64 j, .int .i64 t, .pointer (some ⟨w.heap.size, 0, none⟩), v4, v5, .int .i64 0, .bool true, .bool false, .pointer (some ⟨w.heap.size + 1, 0, none⟩), (.slice E0 (delsL (endD rs false) rs.length).length ec0), (.slice E1 (delsL (endD rs true) rs.length).length ec1), u12, u13, u14, u15, u16, u17, u18, u19, u20, u21, u22, u23, u24, u25, u26, u27, u28, u29, u30, u31, u32, u33, u34, u35, u36, u37, u38, u39, u40, u41, u42, u43, u44, u45, u46, u47, u48, u49, u50, u51], defers := [] } ∧ Ints X1 (.slice E0 (delsL (endD rs false) rs.length).length ec0) (delsL (endD rs false) rs.length) ∧ Ints X1 (.slice E1 (delsL (endD rs true) rs.length).length ec1) (delsL (endD rs true) rs.length) ∧ Frm w [(w.heap.size + 1, (.cells #[.int .i64 x.olo, .int .i64 x.ohi] 56)), (w.heap.size, (.cells #[.int .i64 m.n, (.slice A1 rs.length c1), (.slice A2 ls.length c2), (.slice (some ⟨b, off, none⟩) ps.length c3), .int .i64 m.fall, .int .i64 m.win, .int .i64 m.hold, .int .i64 m.dawn, .int .i64 m.dusk] 26))] X1) ?aft ?reg
  case reg =>
    refine hw_start [(0, fun w' : World => ∀ o, w'.cell? ⟨w.heap.size, o, none⟩ = #[Value.int .i64 m.n, (.slice A1 rs.length c1), (.slice A2 ls.length c2), (.slice (some ⟨b, off, none⟩) ps.length c3), .int .i64 m.fall, .int .i64 m.win, .int .i64 m.hold, .int .i64 m.dawn, .int .i64 m.dusk][o]?), (2, fun w' : World => ∀ o, w'.cell? ⟨w.heap.size, o, none⟩ = #[Value.int .i64 m.n, (.slice A1 rs.length c1), (.slice A2 ls.length c2), (.slice (some ⟨b, off, none⟩) ps.length c3), .int .i64 m.fall, .int .i64 m.win, .int .i64 m.hold, .int .i64 m.dawn, .int .i64 m.dusk][o]?)] (by kernel_rfl) (fM ⟨HR.out.drew.frm.cells (mS mZ), fM ⟨HR.out.drew.frm.cells (mS mZ), (by simp)⟩⟩) ?_
    refine (fun (W1 : World) (hRn : RW w _ [(w.heap.size + 1, (.cells #[.int .i64 x.olo, .int .i64 x.ohi] 56)), (w.heap.size, (.cells #[.int .i64 m.n, (.slice A1 rs.length c1), (.slice A2 ls.length c2), (.slice (some ⟨b, off, none⟩) ps.length c3), .int .i64 m.fall, .int .i64 m.win, .int .i64 m.hold, .int .i64 m.dawn, .int .i64 m.dusk] 26))] [] W1) (hzW1 : Hid (W1.heap.size = ((w.alloc (.cells #[.int .i64 m.n, (.slice A1 rs.length c1), (.slice A2 ls.length c2), (.slice (some ⟨b, off, none⟩) ps.length c3), .int .i64 m.fall, .int .i64 m.win, .int .i64 m.hold, .int .i64 m.dawn, .int .i64 m.dusk] 26)).alloc (.cells #[.int .i64 x.olo, .int .i64 x.ohi] 56)).heap.size)) => (?_ : HW _ _ _ _ _ _ _ W1)) _ HR.out.drew (Lib.hid rfl)
    clear HR
    have HR := Lib.hid hRn
    clear hRn
    refine hw_load (i := 0) (oi := ⟨some 19, _, _, _, _, _⟩) (v := ?v2) _ mZ rfl (by kernel_rfl) (by kernel_rfl) (by kernel_rfl) (by kernel_rfl) (fun _ _ _ h => h) rfl (by kernel_rfl) ?hv2 ?rv2
    case hv2 => (intro w hSw; (try dsimp only at hSw); go_simp) <;> (with_reducible rfl)
    try simp only [Act.put, List.setIfInBounds_toArray, List.set_cons_zero, List.set_cons_succ]
    refine hw_load (i := 2) (oi := ⟨some 21, _, _, _, _, _⟩) (v := ?v3) _ (mS mZ) rfl (by kernel_rfl) (by kernel_rfl) (by kernel_rfl) (by kernel_rfl) (fun _ _ _ h => h) rfl (by kernel_rfl) ?hv3 ?rv3
    case hv3 => (intro w hSw; (try dsimp only at hSw); go_simp) <;> (with_reducible rfl)
    try simp only [Act.put, List.setIfInBounds_toArray, List.set_cons_zero, List.set_cons_succ]
    refine hw_ready (rs := [1]) (by kernel_rfl) (by simp) ?_
    refine AllHW.cons (i := 1) (o := ⟨some 20, _, _, _, _, _⟩) rfl rfl (by kernel_rfl) (fun K hK => ?s4) ?ms4
    case s4 =>
      (try go_simp)
      go_at_call 28
      refine (rEnds_any m A1 A2 (some ⟨b, off, none⟩) rs ls c1 c2 ps.length c3 false _ (Rws.below H1.out HR.out.frm.b (Nat.le_refl _)) (by omega)).mono ?_
      rintro e W5 ⟨E0, ec0, rfl, hz, hbd1⟩
      have HZ0 := Lib.hid hz
      clear hz
      have hRn := HR.out.below hbd1
      clear HR hbd1
      have HR := Lib.hid hRn
      clear hRn
      (try go_wp2_with fail)
      refine hK.out _ _ (fM ⟨.inl (by kernel_rfl), fM ⟨.inr (HR.out.frm.cells (mS mZ)), (by simp)⟩⟩) ?_
      refine hw_ready (rs := [3]) (by kernel_rfl) (by simp) ?_
      refine AllHW.cons (i := 3) (o := ⟨some 22, _, _, _, _, _⟩) rfl rfl (by kernel_rfl) (fun K hK => ?s6) ?ms6
      case s6 =>
        (try go_simp)
        go_at_call 28
        refine (rEnds_any m A1 A2 (some ⟨b, off, none⟩) rs ls c1 c2 ps.length c3 true _ (Rws.below H1.out HR.out.frm.b (Nat.le_refl _)) (by omega)).mono ?_
        rintro e W7 ⟨E1, ec1, rfl, hz, hbd1⟩
        have HZq := Lib.hid (Ints.below HZ0.out hbd1)
        clear HZ0
        have HZ0 := HZq
        clear HZq
        have HZ1 := Lib.hid hz
        clear hz
        have hRn := HR.out.below hbd1
        clear HR hbd1
        have HR := Lib.hid hRn
        clear hRn
        (try go_wp2_with fail)
        refine hK.out _ _ (fM ⟨.inl (by kernel_rfl), fM ⟨.inl (by kernel_rfl), (by simp)⟩⟩) ?_
        refine hw_pure (i := 4) (oi := ⟨some 10, _, _, _, _, _⟩) (v := ?v8) rfl (by kernel_rfl) (by kernel_rfl) (by kernel_rfl) (by kernel_rfl) (fun _ _ _ h => h) rfl (by kernel_rfl) ?hv8 ?rv8
        case hv8 => (intro w; go_simp) <;> (with_reducible rfl)
        try simp only [Act.put, List.setIfInBounds_toArray, List.set_cons_zero, List.set_cons_succ]
        refine hw_pure (i := 5) (oi := ⟨some 11, _, _, _, _, _⟩) (v := ?v9) rfl (by kernel_rfl) (by kernel_rfl) (by kernel_rfl) (by kernel_rfl) (fun _ _ _ h => h) rfl (by kernel_rfl) ?hv9 ?rv9
        case hv9 => (intro w; go_simp) <;> (with_reducible rfl)
        try simp only [Act.put, List.setIfInBounds_toArray, List.set_cons_zero, List.set_cons_succ]
        refine hw_done (by kernel_rfl) ?_
        exact ⟨E0, ec0, E1, ec1, _, _, _, _, _, _, _, _, _, _, _, _, _, _, _, _, _, _, _, _, _, _, _, _, _, _, _, _, _, _, _, _, _, _, _, _, _, _, _, _, _, _, rfl, HZ0.out, HZ1.out, HR.out.frm⟩
      exact AllHW.nil
    exact AllHW.nil
  case aft =>
    rintro e a1 X1 hO
    obtain ⟨rfl, E0, ec0, E1, ec1, v4, v5, u12, u13, u14, u15, u16, u17, u18, u19, u20, u21, u22, u23, u24, u25, u26, u27, u28, u29, u30, u31, u32, u33, u34, u35, u36, u37, u38, u39, u40, u41, u42, u43, u44, u45, u46, u47, u48, u49, u50, u51, rfl, hz0, hz1, hF⟩ := onlyN_is hO
    clear HR hO
    have HB := Lib.hid hF.b
    have HZ0 := Lib.hid hz0
    have HZ1 := Lib.hid hz1
    have hq1 := Lib.hid (Rws.below H1.out hF.b (Nat.le_refl _))
    have hq2 := Lib.hid (Rws.below H2.out hF.b (Nat.le_refl _))
    have HR : Hid (Frm X1 [(w.heap.size + 1, (.cells #[.int .i64 x.olo, .int .i64 x.ohi] 56)), (w.heap.size, (.cells #[.int .i64 m.n, (.slice A1 rs.length c1), (.slice A2 ls.length c2), (.slice (some ⟨b, off, none⟩) ps.length c3), .int .i64 m.fall, .int .i64 m.win, .int .i64 m.hold, .int .i64 m.dawn, .int .i64 m.dusk] 26))] X1) := Lib.hid ⟨Below.refl _ _, hF.h⟩
    clear hF hz0 hz1 H1 H2 HP
    have H1 := hq1
    have H2 := hq2
    clear hq1 hq2
    have HL0 := Lib.hid (delsL_len (endD rs false) rs.length)
    have HL1 := Lib.hid (delsL_len (endD rs true) rs.length)
    have HD0 := Lib.hid (ends_dbc HSN.out false)
    have HD1 := Lib.hid (ends_dbc HSN.out true)
    have HE0 : Hid (siL m ls rs (ev (delsL (endD rs false) rs.length)) = siL m ls rs (loD rs)) := Lib.hid (ends_sic m rs ls false)
    have HE1 : Hid (siL m ls rs (ev (delsL (endD rs true) rs.length)) = siL m ls rs (hiD rs)) := Lib.hid (ends_sic m rs ls true)
    generalize delsL (endD rs false) rs.length = Z0 at *
    generalize delsL (endD rs true) rs.length = Z1 at *
    have HSE0 : Hid (∀ (V : World) (n : Int), Below X1.heap.size X1 V → Calls Tryz.prog 32 #[wtV m (.slice A1 rs.length c1) (.slice A2 ls.length c2) (.slice (some ⟨b, off, none⟩) ps.length c3), .slice E0 Z0.length ec0, .int .i64 n] V fun e w' => e = .returned (.bool (seenB (siL m ls rs (loD rs)) n)) ∧ Below V.heap.size V w') := Lib.hid fun V n hV => rSees_is (Rws.below H1.out hV (Nat.le_refl _)) (Rws.below H2.out hV (Nat.le_refl _)) (HZ0.out.below hV) HL0.out hrl HG.out hho HD0.out (by rw [HE0.out])
    have HSE1 : Hid (∀ (V : World) (n : Int), Below X1.heap.size X1 V → Calls Tryz.prog 32 #[wtV m (.slice A1 rs.length c1) (.slice A2 ls.length c2) (.slice (some ⟨b, off, none⟩) ps.length c3), .slice E1 Z1.length ec1, .int .i64 n] V fun e w' => e = .returned (.bool (seenB (siL m ls rs (hiD rs)) n)) ∧ Below V.heap.size V w') := Lib.hid fun V n hV => rSees_is (Rws.below H1.out hV (Nat.le_refl _)) (Rws.below H2.out hV (Nat.le_refl _)) (HZ1.out.below hV) HL1.out hrl HG.out hho HD1.out (by rw [HE1.out])
    clear HZ0 HZ1 HL0 HL1 HD0 HD1 HE0 HE1 H1 H2
    have x0 := HR.out.cells mZ
    have x1 := HR.out.cells (mS mZ)
    go_wp2_with fail
    go_loopw [7, 8, 12] (fun a s n wr => ∃ p : Nat, (p : Int) ≤ x.ohi - x.olo + 1 ∧ n = .int .i64 (x.olo + p) ∧ a = .bool (((minsL x.olo x.ohi).take p).all (fun n => seenB (siL m ls rs (hiD rs)) (t - n))) ∧ s = .bool (((minsL x.olo x.ohi).take p).any (fun n => seenB (siL m ls rs (loD rs)) (t - n))) ∧ Frm X1 [(w.heap.size + 1, (.cells #[.int .i64 x.olo, .int .i64 x.ohi] 56)), (w.heap.size, (.cells #[.int .i64 m.n, (.slice A1 rs.length c1), (.slice A2 ls.length c2), (.slice (some ⟨b, off, none⟩) ps.length c3), .int .i64 m.fall, .int .i64 m.win, .int .i64 m.hold, .int .i64 m.dawn, .int .i64 m.dusk] 26))] wr) (fun _ _ n _ => (x.ohi + 1 - intOf n).toNat)
    case atStart => exact ⟨0, by omega, by simp, by simp, by simp, (by (repeat (with_reducible first | exact HR.out | apply Frm.drew | apply Frm.alloc | apply Frm.drewN)))⟩
    case round =>
      obtain ⟨p, hp, rfl, rfl, rfl, hF⟩ := hrel
      clear HR x0 x1
      have HR := Lib.hid hF
      clear hF
      have x0 := HR.out.cells mZ
      have x1 := HR.out.cells (mS mZ)
      by_cases hpl : x.olo + (p : Int) ≤ x.ohi
      · have hg := minsL_get (lo := x.olo) (hi := x.ohi) (p := p) (by omega)
        have HA1 := Lib.hid (all_take (f := (fun n => seenB (siL m ls rs (hiD rs)) (t - n))) hg)
        have HA2 := Lib.hid (any_take (f := (fun n => seenB (siL m ls rs (loD rs)) (t - n))) hg)
        clear hg
        have e1 : IntKind.i64.wrap (t - (x.olo + p)) = t - (x.olo + p) := IntWalk.i64_in _ (by omega)
        have e2 : IntKind.i64.wrap (x.olo + p + 1) = x.olo + p + 1 := IntWalk.i64_in _ (by omega)
        generalize ((minsL x.olo x.ohi).take p).all (fun n => seenB (siL m ls rs (hiD rs)) (t - n)) = al at *
        generalize ((minsL x.olo x.ohi).take p).any (fun n => seenB (siL m ls rs (loD rs)) (t - n)) = so at *
        cases h1v : seenB (siL m ls rs (hiD rs)) (t - (x.olo + p)) <;> cases h2v : seenB (siL m ls rs (loD rs)) (t - (x.olo + p)) <;> cases al <;> cases so
        all_goals
          have HV1 := Lib.hid h1v
          have HV2 := Lib.hid h2v
          have HB1 := HA1.out
          have HB2 := HA2.out
          rw [h1v] at HB1
          rw [h2v] at HB2
          have HC1 := Lib.hid HB1
          have HC2 := Lib.hid HB2
          clear HB1 HB2 h1v h2v
          go_wp2_with (first | (go_at_call 32; with_reducible refine (HSE1.out _ _ (Frm.b (w := X1) (by (repeat (with_reducible first | exact HR.out | apply Frm.drew | apply Frm.alloc | apply Frm.drewN))))).mono ?_; rw [HV1.out]; rintro e wa ⟨rfl, hbq⟩; have HRq := Lib.hid (Frm.below (w := X1) (by (repeat (with_reducible first | exact HR.out | apply Frm.drew | apply Frm.alloc | apply Frm.drewN))) hbq); clear HR x0 x1; have HR := HRq; clear HRq hbq; have x0 := HR.out.cells mZ; have x1 := HR.out.cells (mS mZ)) | (go_at_call 32; with_reducible refine (HSE0.out _ _ (Frm.b (w := X1) (by (repeat (with_reducible first | exact HR.out | apply Frm.drew | apply Frm.alloc | apply Frm.drewN))))).mono ?_; rw [HV2.out]; rintro e wa ⟨rfl, hbq⟩; have HRq := Lib.hid (Frm.below (w := X1) (by (repeat (with_reducible first | exact HR.out | apply Frm.drew | apply Frm.alloc | apply Frm.drewN))) hbq); clear HR x0 x1; have HR := HRq; clear HRq hbq; have x0 := HR.out.cells mZ; have x1 := HR.out.cells (mS mZ)))
          go_roundw
          case rel => exact ⟨p + 1, by omega, by first | (congr 1; omega) | (simp; omega), by rw [HC1.out]; rfl, by rw [HC2.out]; rfl, (by (repeat (with_reducible first | exact HR.out | apply Frm.drew | apply Frm.alloc | apply Frm.drewN)))⟩
          case measure => simp [intOf]; omega
      · have HT1 : Hid (((minsL x.olo x.ohi).take p).all (fun n => seenB (siL m ls rs (hiD rs)) (t - n)) = (minsL x.olo x.ohi).all (fun n => seenB (siL m ls rs (hiD rs)) (t - n))) := Lib.hid (by rw [List.take_of_length_le (by rw [minsL_length]; omega)])
        have HT2 : Hid (((minsL x.olo x.ohi).take p).any (fun n => seenB (siL m ls rs (loD rs)) (t - n)) = (minsL x.olo x.ohi).any (fun n => seenB (siL m ls rs (loD rs)) (t - n))) := Lib.hid (by rw [List.take_of_length_le (by rw [minsL_length]; omega)])
        rw [HT1.out, HT2.out]
        have HU : Hid (upI m rs ls x t = wordI ((minsL x.olo x.ohi).all (fun n => seenB (siL m ls rs (hiD rs)) (t - n))) ((minsL x.olo x.ohi).any (fun n => seenB (siL m ls rs (loD rs)) (t - n)))) := Lib.hid rfl
        generalize (minsL x.olo x.ohi).all (fun n => seenB (siL m ls rs (hiD rs)) (t - n)) = al at *
        generalize (minsL x.olo x.ohi).any (fun n => seenB (siL m ls rs (loD rs)) (t - n)) = so at *
        clear HT1 HT2
        go_wp2_with (go_at_call 69; refine (rWord_any _ _ _).mono ?_; rintro e wa ⟨rfl, rfl⟩)
        go_ret
        exact ⟨ret_int HU.out.symm, HB.out.trans ((Frm.b (w := X1) (by (repeat (with_reducible first | exact HR.out | apply Frm.drew | apply Frm.alloc | apply Frm.drewN)))).mono HB.out.size)⟩
end Go.Proofs.YtldimlnllmojiaaGreat
