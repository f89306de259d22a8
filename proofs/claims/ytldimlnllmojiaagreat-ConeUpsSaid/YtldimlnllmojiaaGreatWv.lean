/- Part of a claim on cone. -/
import Derived.Test.YtldimlnllmojiaaGreatWu
set_option linter.unusedVariables false
set_option linter.unusedSimpArgs false
namespace Go.Proofs.YtldimlnllmojiaaGreat
open Go.RowKit
open Go.Shelf
open Go.Maps
attribute [local go_sem] Oper.semAt_some
theorem ints_at {w W : World} {b off c : Nat} {zs : List Int} {j : Nat} {x : Int} (h : Ints w (.slice (some ⟨b, off, none⟩) zs.length c) zs) (hb : Below w.heap.size w W) (hx : zs[j]? = some x) : W.cell? ⟨b, off + j, none⟩ = some (.int .i64 x) := by
  obtain ⟨b', off', hA, h1, h2, h3⟩ := ints_cells (h.below hb) hx
  cases hA
  exact h3
theorem sp_at {w W : World} {b off c : Nat} {zs : List (Int × Int)} {j : Nat} {x y : Int} (h : Sps w (.slice (some ⟨b, off, none⟩) zs.length c) zs) (hb : Below w.heap.size w W) (hx : zs[j]? = some (x, y)) : W.cell? ⟨b, off + j * 2, none⟩ = some (.int .i64 x) ∧ W.cell? ⟨b, off + j * 2 + 1, none⟩ = some (.int .i64 y) := by
  obtain ⟨b', off', hA, h0, h1, h2, h3⟩ := sp_cells (h.below hb (Nat.le_refl _)) hx
  cases hA
  exact ⟨h3.1, h3.2⟩
def hitS (m : Wn) (rs : List Rep) (d : Nat → Int) (t : Int) (p : Nat × Nat) : Bool := decide ((spOf m rs d p).1 ≤ t) && decide (t ≤ (spOf m rs d p).2)
theorem any_hit {α : Type} {l : List α} {n : Nat} {x : α} {f : α → Bool} (h : l[n]? = some x) (hf : f x = true) : l.any f = true := List.any_eq_true.2 ⟨x, List.mem_of_getElem? h, hf⟩
theorem any_take {α : Type} {l : List α} {n : Nat} {x : α} {f : α → Bool} (h : l[n]? = some x) : (l.take (n + 1)).any f = ((l.take n).any f || f x) := by
  rw [List.take_add_one, h, List.any_append]
  simp
set_option maxHeartbeats 8000000 in
set_option maxRecDepth 100000 in
theorem rSees_any (m : Wn) (A1 A2 A3 : Option Addr) (rs : List Rep) (ls : List Lnk) (c1 c2 p3 c3 : Nat) (E : Option Addr) (ec : Nat) (zs : List Int) (t : Int) (w : World) (h1 : Reps w (.slice A1 rs.length c1) rs) (h2 : Lnks w (.slice A2 ls.length c2) ls) (hz : Ints w (.slice E zs.length ec) zs) (hzl : zs.length = rs.length) (hlen : rs.length ≤ 12) (hg : ∀ x ∈ rs, 0 ≤ x.tk ∧ x.tk ≤ 100000 ∧ 0 ≤ x.pr ∧ x.pr ≤ 99999) (hho : 0 ≤ m.hold ∧ m.hold ≤ 100000) (hd : ∀ i, i < rs.length → 0 ≤ ev zs i ∧ ev zs i ≤ 100000) :
    Calls Tryz.prog 32 #[wtV m (.slice A1 rs.length c1) (.slice A2 ls.length c2) (.slice A3 p3 c3), (.slice E zs.length ec), .int .i64 t] w fun e w' => e = .returned (.bool ((alL m ls rs).any (hitS m rs (ev zs) t))) ∧ Below w.heap.size w w' := by
  have H1 := Lib.hid h1
  have H2 := Lib.hid h2
  have HZ := Lib.hid hz
  have HG := Lib.hid hg
  have HDB := Lib.hid hd
  have hzl1 : zs.length ≤ rs.length := by omega
  have hzl2 : rs.length ≤ zs.length := by omega
  clear h1 h2 hz hg hd hzl
  have HR := Lib.hid ((Frm.nil w).add (.cells #[.int .i64 m.n, (.slice A1 rs.length c1), (.slice A2 ls.length c2), (.slice A3 p3 c3), .int .i64 m.fall, .int .i64 m.win, .int .i64 m.hold, .int .i64 m.dawn, .int .i64 m.dusk] 26) rfl)
  have x0 := HR.out.cells mZ
  go_enter Tryz.func32, Tryz.ntmps32
  go_wp2_with (go_at_call 23; refine (rAlarms_any m A1 A2 A3 rs ls c1 c2 p3 c3 _ (Rws.below H1.out (Frm.b HR.out) (Nat.le_refl _)) (Rws.below H2.out (Frm.b HR.out) (Nat.le_refl _)) hlen HG.out).mono ?_; rintro e w1 ⟨AA, ac, rfl, hS, hA, hbq⟩; have HS := Lib.hid hS; have HRq := Lib.hid (Frm.below (w := w) HR.out hbq); clear HR x0 hS hbq hA; have HR := HRq; clear HRq; have x0 := HR.out.cells mZ)
  have HB := Lib.hid HR.out.b
  have HF0 : Hid (Frm w1 [(w.heap.size, (.cells #[.int .i64 m.n, (.slice A1 rs.length c1), (.slice A2 ls.length c2), (.slice A3 p3 c3), .int .i64 m.fall, .int .i64 m.win, .int .i64 m.hold, .int .i64 m.dawn, .int .i64 m.dusk] 26))] w1) := Lib.hid ⟨Below.refl _ _, HR.out.h⟩
  have hq1 := Lib.hid (Rws.below H1.out HB.out (Nat.le_refl _))
  have hq2 := Lib.hid (Rws.below H2.out HB.out (Nat.le_refl _))
  have hq3 := Lib.hid (HZ.out.below HB.out)
  clear H1 H2 HZ HR
  have H1 := hq1
  have H2 := hq2
  have HZ := hq3
  have HR := HF0
  clear hq1 hq2 hq3 HF0
  go_loopw [8] (fun j wr => ∃ n : Nat, n ≤ (alI m ls rs).length ∧ j = .int .i64 n ∧ ((alL m ls rs).take n).any (hitS m rs (ev zs) t) = false ∧ Frm w1 [(w.heap.size, (.cells #[.int .i64 m.n, (.slice A1 rs.length c1), (.slice A2 ls.length c2), (.slice A3 p3 c3), .int .i64 m.fall, .int .i64 m.win, .int .i64 m.hold, .int .i64 m.dawn, .int .i64 m.dusk] 26))] wr) (fun j _ => (alI m ls rs).length - (intOf j).toNat)
  case atStart => exact ⟨0, Nat.zero_le _, rfl, by simp, (by (repeat (with_reducible first | exact HR.out | apply Frm.drew | apply Frm.alloc | apply Frm.drewN)))⟩
  case round =>
    obtain ⟨n, hn, rfl, hall, hF⟩ := hrel
    clear HR x0
    have HA := Lib.hid hall
    have hAl1 : (alI m ls rs).length ≤ (alL m ls rs).length := by simp [alI, toI]
    have hAl2 : (alL m ls rs).length ≤ (alI m ls rs).length := by simp [alI, toI]
    by_cases hnl : n < (alI m ls rs).length
    · obtain ⟨x, hx⟩ : ∃ x, (alL m ls rs)[n]? = some x := ⟨_, List.getElem?_eq_getElem (by omega)⟩
      obtain ⟨hx1, hx2, hx3⟩ := mem_alL.1 (List.mem_of_getElem? hx)
      obtain ⟨i, k⟩ := x
      dsimp only at hx1 hx2 hx3
      have hxa : (alI m ls rs)[n]? = some ((i : Int), (k : Int)) := by unfold alI toI; rw [List.getElem?_map, hx]; rfl
      obtain ⟨ab, ao, hAA, hab, hal1, hal2, -⟩ := sp_cells HS.out hxa
      subst hAA
      have hrx := some_repAt (rs := rs) (i := i) (by omega)
      have hry := some_repAt (rs := rs) (i := k) (by omega)
      have hdi := ev_some (zs := zs) (i := i) (by omega)
      have hdk := ev_some (zs := zs) (i := k) (by omega)
      obtain ⟨eb, eo, hEE, hel1, hel2, -⟩ := ints_cells HZ.out hdi
      subst hEE
      have hi2 : i < rs.length := by omega
      have hi3 : i < zs.length := by omega
      have hk3 : k < zs.length := by omega
      have g1 := HG.out _ (repAt_mem (rs := rs) (i := i) (by omega))
      have g2 := HG.out _ (repAt_mem (rs := rs) (i := k) (by omega))
      have g3 := HDB.out i (by omega)
      have g4 := HDB.out k (by omega)
      have HSP : Hid (hitS m rs (ev zs) t (i, k) = (decide (max ((repAt rs i).tk + ev zs i) ((repAt rs k).tk + ev zs k) ≤ t) && decide (t < max (repAt rs i).tk (repAt rs k).tk + m.hold))) := Lib.hid (by unfold hitS spOf comeF tillF; simp only; congr 1; rw [decide_eq_decide]; omega)
      have HXL := Lib.hid hx
      have HXA := Lib.hid hxa
      have HXI := Lib.hid hrx
      have HXK := Lib.hid hry
      have HDI := Lib.hid hdi
      have HDK := Lib.hid hdk
      clear hx hxa hrx hry hdi hdk hall
      generalize repAt rs i = rx at *
      generalize repAt rs k = ry at *
      generalize he1 : ev zs i = di at *
      generalize he2 : ev zs k = dk at *
      clear he1 he2
      obtain ⟨b, off, hRR, hc1, hc2, -⟩ := rep_cells H1.out HXI.out
      subst hRR
      unfold maxLen at hal2 hel2 hc2
      have e1 : IntKind.i64.wrap (rx.tk + di) = rx.tk + di := IntWalk.i64_in _ (by omega)
      have e2 : IntKind.i64.wrap (ry.tk + dk) = ry.tk + dk := IntWalk.i64_in _ (by omega)
      have e3 : IntKind.i64.wrap (max rx.tk ry.tk + m.hold) = max rx.tk ry.tk + m.hold := IntWalk.i64_in _ (by omega)
      have hm1 := fun w => run_max Tryz.prog #[3, 3] 3 (rx.tk + di) (ry.tk + dk) w
      have hm2 := fun w => run_max Tryz.prog #[3, 3] 3 rx.tk ry.tk w
      have hS0 := hF.lt mZ
      have hsb : w1.heap.size ≤ wr.heap.size := hF.b.size
      have HR := Lib.hid (RW.start hF)
      have x0 := hF.cells mZ
      clear hF
      go_upto_region 5 with fail
      clear x0
      refine Code.wp_mono (Q := onlyN fun a1 X1 => ∃ p q v6 v11 v14 v15 v16 v17 v18 v19 v20 v21 v22 v23 v24 v25 v26 v27 v28 v29 v30 v31 v32 v33 v34 v35 v36 v37 v38 v39 v40 v41 v42 v43 v44 v45 v46 v47 v48 v49 v50 v51 v52 v53 v54 v55 v56 v57 v58 v59 v60 v61 v62 v63 v64 v65 v66 v67 v68 v69 v70 v71 v72 v73 v74 v75, a1 = { tmps := #[wtV m (.slice (some ⟨b, off, none⟩) rs.length c1) (.slice A2 ls.length c2) (.slice A3 p3 c3), (.slice (some ⟨eb, eo, none⟩) zs.length ec), .int .i64 t, .pointer (some ⟨w.heap.size, 0, none⟩), undef, undef, v6, (.slice (some ⟨ab, ao, none⟩) (alI m ls rs).length ac), .int .i64 n, .pointer (some ⟨p, 0, none⟩), .pointer (some ⟨q, 0, none⟩), v11, .agg #[Value.int .i64 m.n, (.slice (some ⟨b, off, none⟩) rs.length c1), (.slice A2 ls.length c2), (.slice A3 p3 c3), .int .i64 m.fall, .int .i64 m.win, .int .i64 m.hold, .int .i64 m.dawn, .int .i64 m.dusk], (.slice (some ⟨ab, ao, none⟩) (alI m ls rs).length ac), v14, v15, v16, v17, v18, v19, v20, v21, v22, v23, v24, v25, v26, v27, v28, v29, v30, v31, v32, v33, v34, v35, v36, v37, v38, v39, v40, v41, v42, v43, v44, v45, v46, v47, v48, v49, v50, v51, v52, v53, v54, v55, v56, v57, v58, v59, v60, v61, v62, v63, v64, v65, v66, v67, v68, v69, v70, v71, v72, v73, v74, v75], defers := [] } ∧ w.heap.size < p ∧ w.heap.size < q ∧ Frm w1 [(q, (.cells #[.int .i64 ry.st, .int .i64 ry.tk, .int .i64 ry.pr, .int .i64 ry.dlo, .int .i64 ry.dhi, .int .i64 ry.ur, .int .i64 ry.co] 77)), (p, (.cells #[.int .i64 rx.st, .int .i64 rx.tk, .int .i64 rx.pr, .int .i64 rx.dlo, .int .i64 rx.dhi, .int .i64 rx.ur, .int .i64 rx.co] 77)), (w.heap.size, (.cells #[.int .i64 m.n, (.slice (some ⟨b, off, none⟩) rs.length c1), (.slice A2 ls.length c2), (.slice A3 p3 c3), .int .i64 m.fall, .int .i64 m.win, .int .i64 m.hold, .int .i64 m.dawn, .int .i64 m.dusk] 26))] X1) ?aft5 ?reg5
      case reg5 =>
        refine hw_start [(1, fun w' : World => ∀ o, w'.cell? ⟨w.heap.size, o, none⟩ = #[Value.int .i64 m.n, (.slice (some ⟨b, off, none⟩) rs.length c1), (.slice A2 ls.length c2), (.slice A3 p3 c3), .int .i64 m.fall, .int .i64 m.win, .int .i64 m.hold, .int .i64 m.dawn, .int .i64 m.dusk][o]?), (6, fun w' : World => w'.cell? ⟨ab, ao + n * 2, none⟩ = some (.int .i64 ((i : Nat) : Int)) ∧ w'.cell? ⟨ab, ao + n * 2 + 1, none⟩ = some (.int .i64 ((k : Nat) : Int))), (8, fun w' : World => w'.cell? ⟨b, off + i * 7, none⟩ = some (.int .i64 rx.st) ∧ w'.cell? ⟨b, off + i * 7 + 1, none⟩ = some (.int .i64 rx.tk) ∧ w'.cell? ⟨b, off + i * 7 + 2, none⟩ = some (.int .i64 rx.pr) ∧ w'.cell? ⟨b, off + i * 7 + 3, none⟩ = some (.int .i64 rx.dlo) ∧ w'.cell? ⟨b, off + i * 7 + 4, none⟩ = some (.int .i64 rx.dhi) ∧ w'.cell? ⟨b, off + i * 7 + 5, none⟩ = some (.int .i64 rx.ur) ∧ w'.cell? ⟨b, off + i * 7 + 6, none⟩ = some (.int .i64 rx.co)), (10, fun w' : World => ∀ o, w'.cell? ⟨w.heap.size, o, none⟩ = #[Value.int .i64 m.n, (.slice (some ⟨b, off, none⟩) rs.length c1), (.slice A2 ls.length c2), (.slice A3 p3 c3), .int .i64 m.fall, .int .i64 m.win, .int .i64 m.hold, .int .i64 m.dawn, .int .i64 m.dusk][o]?), (15, fun w' : World => w'.cell? ⟨ab, ao + n * 2, none⟩ = some (.int .i64 ((i : Nat) : Int)) ∧ w'.cell? ⟨ab, ao + n * 2 + 1, none⟩ = some (.int .i64 ((k : Nat) : Int))), (17, fun w' : World => w'.cell? ⟨b, off + k * 7, none⟩ = some (.int .i64 ry.st) ∧ w'.cell? ⟨b, off + k * 7 + 1, none⟩ = some (.int .i64 ry.tk) ∧ w'.cell? ⟨b, off + k * 7 + 2, none⟩ = some (.int .i64 ry.pr) ∧ w'.cell? ⟨b, off + k * 7 + 3, none⟩ = some (.int .i64 ry.dlo) ∧ w'.cell? ⟨b, off + k * 7 + 4, none⟩ = some (.int .i64 ry.dhi) ∧ w'.cell? ⟨b, off + k * 7 + 5, none⟩ = some (.int .i64 ry.ur) ∧ w'.cell? ⟨b, off + k * 7 + 6, none⟩ = some (.int .i64 ry.co))] (by kernel_rfl) (fM ⟨HR.out.drew.frm.cells mZ, fM ⟨sp_at HS.out HR.out.drew.frm.b HXA.out, fM ⟨rep_at H1.out HR.out.drew.frm.b HXI.out, fM ⟨HR.out.drew.frm.cells mZ, fM ⟨sp_at HS.out HR.out.drew.frm.b HXA.out, fM ⟨rep_at H1.out HR.out.drew.frm.b HXK.out, (by simp)⟩⟩⟩⟩⟩⟩) ?_
        refine (fun (W1 : World) (hRn : RW w1 _ [(w.heap.size, (.cells #[.int .i64 m.n, (.slice (some ⟨b, off, none⟩) rs.length c1), (.slice A2 ls.length c2), (.slice A3 p3 c3), .int .i64 m.fall, .int .i64 m.win, .int .i64 m.hold, .int .i64 m.dawn, .int .i64 m.dusk] 26))] [] W1) (hzW1 : Hid (W1.heap.size = wr.heap.size)) => (?_ : HW _ _ _ _ _ _ _ W1)) _ HR.out.drew (Lib.hid rfl)
        clear HR
        have HR := Lib.hid hRn
        clear hRn
        refine hw_pure (i := 0) (oi := ⟨some 20, _, _, _, _, _⟩) (v := ?v2) rfl (by kernel_rfl) (by kernel_rfl) (by kernel_rfl) (by kernel_rfl) (fun _ _ _ h => h) rfl (by kernel_rfl) ?hv2 ?rv2
        case hv2 => (intro w; go_simp) <;> (with_reducible rfl)
        try simp only [Act.put, List.setIfInBounds_toArray, List.set_cons_zero, List.set_cons_succ]
        refine hw_load (i := 1) (oi := ⟨some 21, _, _, _, _, _⟩) (v := ?v3) _ mZ rfl (by kernel_rfl) (by kernel_rfl) (by kernel_rfl) (by kernel_rfl) (fun _ _ _ h => h) rfl (by kernel_rfl) ?hv3 ?rv3
        case hv3 => (intro w hSw; (try dsimp only at hSw); go_simp) <;> (with_reducible rfl)
        try simp only [Act.put, List.setIfInBounds_toArray, List.set_cons_zero, List.set_cons_succ]
        refine hw_pure (i := 2) (oi := ⟨some 22, _, _, _, _, _⟩) (v := ?v4) rfl (by kernel_rfl) (by kernel_rfl) (by kernel_rfl) (by kernel_rfl) (fun _ _ _ h => h) rfl (by kernel_rfl) ?hv4 ?rv4
        case hv4 => (intro w; go_simp) <;> (with_reducible rfl)
        try simp only [Act.put, List.setIfInBounds_toArray, List.set_cons_zero, List.set_cons_succ]
        refine hw_pure (i := 3) (oi := ⟨some 23, _, _, _, _, _⟩) (v := ?v5) rfl (by kernel_rfl) (by kernel_rfl) (by kernel_rfl) (by kernel_rfl) (fun _ _ _ h => h) rfl (by kernel_rfl) ?hv5 ?rv5
        case hv5 => (intro w; go_simp) <;> (with_reducible rfl)
        try simp only [Act.put, List.setIfInBounds_toArray, List.set_cons_zero, List.set_cons_succ]
        refine hw_pure (i := 4) (oi := ⟨some 24, _, _, _, _, _⟩) (v := ?v6) rfl (by kernel_rfl) (by kernel_rfl) (by kernel_rfl) (by kernel_rfl) (fun _ _ _ h => h) rfl (by kernel_rfl) ?hv6 ?rv6
        case hv6 => (intro w; go_simp) <;> (with_reducible rfl)
        try simp only [Act.put, List.setIfInBounds_toArray, List.set_cons_zero, List.set_cons_succ]
        refine hw_pure (i := 5) (oi := ⟨some 25, _, _, _, _, _⟩) (v := ?v7) rfl (by kernel_rfl) (by kernel_rfl) (by kernel_rfl) (by kernel_rfl) (fun _ _ _ h => h) rfl (by kernel_rfl) ?hv7 ?rv7
        case hv7 => (intro w; go_simp) <;> (with_reducible rfl)
        try simp only [Act.put, List.setIfInBounds_toArray, List.set_cons_zero, List.set_cons_succ]
        refine hw_load (i := 6) (oi := ⟨some 26, _, _, _, _, _⟩) (v := ?v8) _ (mS mZ) rfl (by kernel_rfl) (by kernel_rfl) (by kernel_rfl) (by kernel_rfl) (fun _ _ _ h => h) rfl (by kernel_rfl) ?hv8 ?rv8
        case hv8 => (intro w hSw; (try dsimp only at hSw); go_simp) <;> (with_reducible rfl)
        try simp only [Act.put, List.setIfInBounds_toArray, List.set_cons_zero, List.set_cons_succ]
        refine hw_pure (i := 7) (oi := ⟨some 27, _, _, _, _, _⟩) (v := ?v9) rfl (by kernel_rfl) (by kernel_rfl) (by kernel_rfl) (by kernel_rfl) (fun _ _ _ h => h) rfl (by kernel_rfl) ?hv9 ?rv9
        case hv9 => (intro w; go_simp) <;> (with_reducible rfl)
        try simp only [Act.put, List.setIfInBounds_toArray, List.set_cons_zero, List.set_cons_succ]
        refine hw_load (i := 8) (oi := ⟨some 28, _, _, _, _, _⟩) (v := ?v10) _ (mS (mS mZ)) rfl (by kernel_rfl) (by kernel_rfl) (by kernel_rfl) (by kernel_rfl) (fun _ _ _ h => h) rfl (by kernel_rfl) ?hv10 ?rv10
        case hv10 => (intro w hSw; (try dsimp only at hSw); go_simp) <;> (with_reducible rfl)
        try simp only [Act.put, List.setIfInBounds_toArray, List.set_cons_zero, List.set_cons_succ]
        refine hw_pure (i := 9) (oi := ⟨some 29, _, _, _, _, _⟩) (v := ?v11) rfl (by kernel_rfl) (by kernel_rfl) (by kernel_rfl) (by kernel_rfl) (fun _ _ _ h => h) rfl (by kernel_rfl) ?hv11 ?rv11
        case hv11 => (intro w; go_simp) <;> (with_reducible rfl)
        try simp only [Act.put, List.setIfInBounds_toArray, List.set_cons_zero, List.set_cons_succ]
        refine hw_load (i := 10) (oi := ⟨some 30, _, _, _, _, _⟩) (v := ?v12) _ (mS (mS (mS mZ))) rfl (by kernel_rfl) (by kernel_rfl) (by kernel_rfl) (by kernel_rfl) (fun _ _ _ h => h) rfl (by kernel_rfl) ?hv12 ?rv12
        case hv12 => (intro w hSw; (try dsimp only at hSw); go_simp) <;> (with_reducible rfl)
        try simp only [Act.put, List.setIfInBounds_toArray, List.set_cons_zero, List.set_cons_succ]
        refine hw_pure (i := 11) (oi := ⟨some 31, _, _, _, _, _⟩) (v := ?v13) rfl (by kernel_rfl) (by kernel_rfl) (by kernel_rfl) (by kernel_rfl) (fun _ _ _ h => h) rfl (by kernel_rfl) ?hv13 ?rv13
        case hv13 => (intro w; go_simp) <;> (with_reducible rfl)
        try simp only [Act.put, List.setIfInBounds_toArray, List.set_cons_zero, List.set_cons_succ]
        refine hw_pure (i := 12) (oi := ⟨some 32, _, _, _, _, _⟩) (v := ?v14) rfl (by kernel_rfl) (by kernel_rfl) (by kernel_rfl) (by kernel_rfl) (fun _ _ _ h => h) rfl (by kernel_rfl) ?hv14 ?rv14
        case hv14 => (intro w; go_simp) <;> (with_reducible rfl)
        try simp only [Act.put, List.setIfInBounds_toArray, List.set_cons_zero, List.set_cons_succ]
        refine hw_pure (i := 13) (oi := ⟨some 33, _, _, _, _, _⟩) (v := ?v15) rfl (by kernel_rfl) (by kernel_rfl) (by kernel_rfl) (by kernel_rfl) (fun _ _ _ h => h) rfl (by kernel_rfl) ?hv15 ?rv15
        case hv15 => (intro w; go_simp) <;> (with_reducible rfl)
        try simp only [Act.put, List.setIfInBounds_toArray, List.set_cons_zero, List.set_cons_succ]
        refine hw_pure (i := 14) (oi := ⟨some 34, _, _, _, _, _⟩) (v := ?v16) rfl (by kernel_rfl) (by kernel_rfl) (by kernel_rfl) (by kernel_rfl) (fun _ _ _ h => h) rfl (by kernel_rfl) ?hv16 ?rv16
        case hv16 => (intro w; go_simp) <;> (with_reducible rfl)
        try simp only [Act.put, List.setIfInBounds_toArray, List.set_cons_zero, List.set_cons_succ]
        refine hw_load (i := 15) (oi := ⟨some 35, _, _, _, _, _⟩) (v := ?v17) _ (mS (mS (mS (mS mZ)))) rfl (by kernel_rfl) (by kernel_rfl) (by kernel_rfl) (by kernel_rfl) (fun _ _ _ h => h) rfl (by kernel_rfl) ?hv17 ?rv17
        case hv17 => (intro w hSw; (try dsimp only at hSw); go_simp) <;> (with_reducible rfl)
        try simp only [Act.put, List.setIfInBounds_toArray, List.set_cons_zero, List.set_cons_succ]
        refine hw_pure (i := 16) (oi := ⟨some 36, _, _, _, _, _⟩) (v := ?v18) rfl (by kernel_rfl) (by kernel_rfl) (by kernel_rfl) (by kernel_rfl) (fun _ _ _ h => h) rfl (by kernel_rfl) ?hv18 ?rv18
        case hv18 => (intro w; go_simp) <;> (with_reducible rfl)
        try simp only [Act.put, List.setIfInBounds_toArray, List.set_cons_zero, List.set_cons_succ]
        refine hw_load (i := 17) (oi := ⟨some 37, _, _, _, _, _⟩) (v := ?v19) _ (mS (mS (mS (mS (mS mZ))))) rfl (by kernel_rfl) (by kernel_rfl) (by kernel_rfl) (by kernel_rfl) (fun _ _ _ h => h) rfl (by kernel_rfl) ?hv19 ?rv19
        case hv19 => (intro w hSw; (try dsimp only at hSw); go_simp) <;> (with_reducible rfl)
        try simp only [Act.put, List.setIfInBounds_toArray, List.set_cons_zero, List.set_cons_succ]
        refine hw_ready (rs := [18, 19]) (by kernel_rfl) (by simp) ?_
        refine AllHW.cons (i := 18) (o := ⟨some 9, _, _, _, _, _⟩) rfl rfl (by kernel_rfl) (fun K hK => ?s20) ?ms20
        case s20 =>
          (try go_simp)
          refine (fun (W21 : World) (hRn : RW w1 _ [(W1.heap.size, (.cells #[.int .i64 0, .int .i64 0, .int .i64 0, .int .i64 0, .int .i64 0, .int .i64 0, .int .i64 0] 77)), (w.heap.size, (.cells #[.int .i64 m.n, (.slice (some ⟨b, off, none⟩) rs.length c1), (.slice A2 ls.length c2), (.slice A3 p3 c3), .int .i64 m.fall, .int .i64 m.win, .int .i64 m.hold, .int .i64 m.dawn, .int .i64 m.dusk] 26))] [] W21) (hzW21 : Hid (W21.heap.size = W1.heap.size + 1)) => hK.out _ W21 (fM ⟨.inr (hRn.frm.cells (mS mZ)), fM ⟨.inr (sp_at HS.out hRn.frm.b HXA.out), fM ⟨.inr (rep_at H1.out hRn.frm.b HXI.out), fM ⟨.inr (hRn.frm.cells (mS mZ)), fM ⟨.inr (sp_at HS.out hRn.frm.b HXA.out), fM ⟨.inr (rep_at H1.out hRn.frm.b HXK.out), (by simp)⟩⟩⟩⟩⟩⟩) ?_) _ (HR.out.add (.cells #[.int .i64 0, .int .i64 0, .int .i64 0, .int .i64 0, .int .i64 0, .int .i64 0, .int .i64 0] 77) rfl) (Lib.hid (by simp))
          clear HR
          have HR := Lib.hid hRn
          clear hRn
          refine hw_ready (rs := [19]) (by kernel_rfl) (by simp) ?_
          refine AllHW.cons (i := 19) (o := ⟨some 10, _, _, _, _, _⟩) rfl rfl (by kernel_rfl) (fun K hK => ?s22) ?ms22
          case s22 =>
            (try go_simp)
            refine (fun (W23 : World) (hRn : RW w1 _ [(W21.heap.size, (.cells #[.int .i64 0, .int .i64 0, .int .i64 0, .int .i64 0, .int .i64 0, .int .i64 0, .int .i64 0] 77)), (W1.heap.size, (.cells #[.int .i64 0, .int .i64 0, .int .i64 0, .int .i64 0, .int .i64 0, .int .i64 0, .int .i64 0] 77)), (w.heap.size, (.cells #[.int .i64 m.n, (.slice (some ⟨b, off, none⟩) rs.length c1), (.slice A2 ls.length c2), (.slice A3 p3 c3), .int .i64 m.fall, .int .i64 m.win, .int .i64 m.hold, .int .i64 m.dawn, .int .i64 m.dusk] 26))] [] W23) (hzW23 : Hid (W23.heap.size = W21.heap.size + 1)) => hK.out _ W23 (fM ⟨.inr (hRn.frm.cells (mS (mS mZ))), fM ⟨.inr (sp_at HS.out hRn.frm.b HXA.out), fM ⟨.inr (rep_at H1.out hRn.frm.b HXI.out), fM ⟨.inr (hRn.frm.cells (mS (mS mZ))), fM ⟨.inr (sp_at HS.out hRn.frm.b HXA.out), fM ⟨.inr (rep_at H1.out hRn.frm.b HXK.out), (by simp)⟩⟩⟩⟩⟩⟩) ?_) _ (HR.out.add (.cells #[.int .i64 0, .int .i64 0, .int .i64 0, .int .i64 0, .int .i64 0, .int .i64 0, .int .i64 0] 77) rfl) (Lib.hid (by simp))
            clear HR
            have HR := Lib.hid hRn
            clear hRn
            refine hw_ready (rs := [20]) (by kernel_rfl) (by simp) ?_
            refine AllHW.cons (i := 20) (o := ⟨none, _, _, _, _, _⟩) rfl rfl (by kernel_rfl) (fun K hK => ?s24) ?ms24
            case s24 =>
              have u0 := (boxCells (HR.out.frm.h _ (mS mZ))).1
              have f0 := (boxCells (HR.out.frm.h _ (mS mZ))).2
              have l0 := lt_of_blk (HR.out.frm.h _ (mS mZ))
              (try go_simp)
              clear u0 f0 l0
              refine (fun (W25 : World) (hRn : RW w1 _ [(W1.heap.size, (.cells #[.int .i64 rx.st, .int .i64 rx.tk, .int .i64 rx.pr, .int .i64 rx.dlo, .int .i64 rx.dhi, .int .i64 rx.ur, .int .i64 rx.co] 77)), (W21.heap.size, (.cells #[.int .i64 0, .int .i64 0, .int .i64 0, .int .i64 0, .int .i64 0, .int .i64 0, .int .i64 0] 77)), (w.heap.size, (.cells #[.int .i64 m.n, (.slice (some ⟨b, off, none⟩) rs.length c1), (.slice A2 ls.length c2), (.slice A3 p3 c3), .int .i64 m.fall, .int .i64 m.win, .int .i64 m.hold, .int .i64 m.dawn, .int .i64 m.dusk] 26))] [] W25) (hzW25 : Hid (W25.heap.size = W23.heap.size)) => hK.out _ W25 (fM ⟨.inl (by kernel_rfl), fM ⟨.inl (by kernel_rfl), fM ⟨.inl (by kernel_rfl), fM ⟨.inr (hRn.frm.cells (mS (mS mZ))), fM ⟨.inr (sp_at HS.out hRn.frm.b HXA.out), fM ⟨.inr (rep_at H1.out hRn.frm.b HXK.out), (by simp)⟩⟩⟩⟩⟩⟩) ?_) _ ((RW.put (RW.put (RW.put (RW.put (RW.put (RW.put (RW.put (RW.less (bs' := [(W1.heap.size, (.cells #[.int .i64 0, .int .i64 0, .int .i64 0, .int .i64 0, .int .i64 0, .int .i64 0, .int .i64 0] 77)), (W21.heap.size, (.cells #[.int .i64 0, .int .i64 0, .int .i64 0, .int .i64 0, .int .i64 0, .int .i64 0, .int .i64 0] 77)), (w.heap.size, (.cells #[.int .i64 m.n, (.slice (some ⟨b, off, none⟩) rs.length c1), (.slice A2 ls.length c2), (.slice A3 p3 c3), .int .i64 m.fall, .int .i64 m.win, .int .i64 m.hold, .int .i64 m.dawn, .int .i64 m.dusk] 26))]) HR.out (by simp only [List.forall_mem_cons, List.forall_mem_nil, and_true]; exact ⟨(mS mZ), mZ, (mS (mS mZ)), by simp⟩)) (by have := hzW1.out; have := hzW21.out; have := hzW23.out; omega) (by have := hzW1.out; have := hzW21.out; have := hzW23.out; simp <;> omega) 0 (.int .i64 rx.st)) (by have := hzW1.out; have := hzW21.out; have := hzW23.out; omega) (by have := hzW1.out; have := hzW21.out; have := hzW23.out; simp <;> omega) 1 (.int .i64 rx.tk)) (by have := hzW1.out; have := hzW21.out; have := hzW23.out; omega) (by have := hzW1.out; have := hzW21.out; have := hzW23.out; simp <;> omega) 2 (.int .i64 rx.pr)) (by have := hzW1.out; have := hzW21.out; have := hzW23.out; omega) (by have := hzW1.out; have := hzW21.out; have := hzW23.out; simp <;> omega) 3 (.int .i64 rx.dlo)) (by have := hzW1.out; have := hzW21.out; have := hzW23.out; omega) (by have := hzW1.out; have := hzW21.out; have := hzW23.out; simp <;> omega) 4 (.int .i64 rx.dhi)) (by have := hzW1.out; have := hzW21.out; have := hzW23.out; omega) (by have := hzW1.out; have := hzW21.out; have := hzW23.out; simp <;> omega) 5 (.int .i64 rx.ur)) (by have := hzW1.out; have := hzW21.out; have := hzW23.out; omega) (by have := hzW1.out; have := hzW21.out; have := hzW23.out; simp <;> omega) 6 (.int .i64 rx.co))) (Lib.hid (by simp))
              clear HR
              have HR := Lib.hid hRn
              clear hRn
              refine hw_ready (rs := [21]) (by kernel_rfl) (by simp) ?_
              refine AllHW.cons (i := 21) (o := ⟨none, _, _, _, _, _⟩) rfl rfl (by kernel_rfl) (fun K hK => ?s26) ?ms26
              case s26 =>
                have u0 := (boxCells (HR.out.frm.h _ (mS mZ))).1
                have f0 := (boxCells (HR.out.frm.h _ (mS mZ))).2
                have l0 := lt_of_blk (HR.out.frm.h _ (mS mZ))
                (try go_simp)
                clear u0 f0 l0
                refine (fun (W27 : World) (hRn : RW w1 _ [(W21.heap.size, (.cells #[.int .i64 ry.st, .int .i64 ry.tk, .int .i64 ry.pr, .int .i64 ry.dlo, .int .i64 ry.dhi, .int .i64 ry.ur, .int .i64 ry.co] 77)), (W1.heap.size, (.cells #[.int .i64 rx.st, .int .i64 rx.tk, .int .i64 rx.pr, .int .i64 rx.dlo, .int .i64 rx.dhi, .int .i64 rx.ur, .int .i64 rx.co] 77)), (w.heap.size, (.cells #[.int .i64 m.n, (.slice (some ⟨b, off, none⟩) rs.length c1), (.slice A2 ls.length c2), (.slice A3 p3 c3), .int .i64 m.fall, .int .i64 m.win, .int .i64 m.hold, .int .i64 m.dawn, .int .i64 m.dusk] 26))] [] W27) (hzW27 : Hid (W27.heap.size = W25.heap.size)) => hK.out _ W27 (fM ⟨.inl (by kernel_rfl), fM ⟨.inl (by kernel_rfl), fM ⟨.inl (by kernel_rfl), fM ⟨.inl (by kernel_rfl), fM ⟨.inl (by kernel_rfl), fM ⟨.inl (by kernel_rfl), (by simp)⟩⟩⟩⟩⟩⟩) ?_) _ ((RW.put (RW.put (RW.put (RW.put (RW.put (RW.put (RW.put (RW.less (bs' := [(W21.heap.size, (.cells #[.int .i64 0, .int .i64 0, .int .i64 0, .int .i64 0, .int .i64 0, .int .i64 0, .int .i64 0] 77)), (W1.heap.size, (.cells #[.int .i64 rx.st, .int .i64 rx.tk, .int .i64 rx.pr, .int .i64 rx.dlo, .int .i64 rx.dhi, .int .i64 rx.ur, .int .i64 rx.co] 77)), (w.heap.size, (.cells #[.int .i64 m.n, (.slice (some ⟨b, off, none⟩) rs.length c1), (.slice A2 ls.length c2), (.slice A3 p3 c3), .int .i64 m.fall, .int .i64 m.win, .int .i64 m.hold, .int .i64 m.dawn, .int .i64 m.dusk] 26))]) HR.out (by simp only [List.forall_mem_cons, List.forall_mem_nil, and_true]; exact ⟨(mS mZ), mZ, (mS (mS mZ)), by simp⟩)) (by have := hzW1.out; have := hzW21.out; have := hzW23.out; have := hzW25.out; omega) (by have := hzW1.out; have := hzW21.out; have := hzW23.out; have := hzW25.out; simp <;> omega) 0 (.int .i64 ry.st)) (by have := hzW1.out; have := hzW21.out; have := hzW23.out; have := hzW25.out; omega) (by have := hzW1.out; have := hzW21.out; have := hzW23.out; have := hzW25.out; simp <;> omega) 1 (.int .i64 ry.tk)) (by have := hzW1.out; have := hzW21.out; have := hzW23.out; have := hzW25.out; omega) (by have := hzW1.out; have := hzW21.out; have := hzW23.out; have := hzW25.out; simp <;> omega) 2 (.int .i64 ry.pr)) (by have := hzW1.out; have := hzW21.out; have := hzW23.out; have := hzW25.out; omega) (by have := hzW1.out; have := hzW21.out; have := hzW23.out; have := hzW25.out; simp <;> omega) 3 (.int .i64 ry.dlo)) (by have := hzW1.out; have := hzW21.out; have := hzW23.out; have := hzW25.out; omega) (by have := hzW1.out; have := hzW21.out; have := hzW23.out; have := hzW25.out; simp <;> omega) 4 (.int .i64 ry.dhi)) (by have := hzW1.out; have := hzW21.out; have := hzW23.out; have := hzW25.out; omega) (by have := hzW1.out; have := hzW21.out; have := hzW23.out; have := hzW25.out; simp <;> omega) 5 (.int .i64 ry.ur)) (by have := hzW1.out; have := hzW21.out; have := hzW23.out; have := hzW25.out; omega) (by have := hzW1.out; have := hzW21.out; have := hzW23.out; have := hzW25.out; simp <;> omega) 6 (.int .i64 ry.co))) (Lib.hid (by simp))
                clear HR
                have HR := Lib.hid hRn
                clear hRn
                refine hw_done (by kernel_rfl) ?_
                have zhzW1 := hzW1.out
                have zhzW21 := hzW21.out
                have zhzW23 := hzW23.out
                have zhzW25 := hzW25.out
                have zhzW27 := hzW27.out
                exact ⟨W1.heap.size, W21.heap.size, _, _, _, _, _, _, _, _, _, _, _, _, _, _, _, _, _, _, _, _, _, _, _, _, _, _, _, _, _, _, _, _, _, _, _, _, _, _, _, _, _, _, _, _, _, _, _, _, _, _, _, _, _, _, _, _, _, _, _, _, _, _, _, _, rfl, by omega, by omega, (RW.less (bs' := [(W21.heap.size, (.cells #[.int .i64 ry.st, .int .i64 ry.tk, .int .i64 ry.pr, .int .i64 ry.dlo, .int .i64 ry.dhi, .int .i64 ry.ur, .int .i64 ry.co] 77)), (W1.heap.size, (.cells #[.int .i64 rx.st, .int .i64 rx.tk, .int .i64 rx.pr, .int .i64 rx.dlo, .int .i64 rx.dhi, .int .i64 rx.ur, .int .i64 rx.co] 77)), (w.heap.size, (.cells #[.int .i64 m.n, (.slice (some ⟨b, off, none⟩) rs.length c1), (.slice A2 ls.length c2), (.slice A3 p3 c3), .int .i64 m.fall, .int .i64 m.win, .int .i64 m.hold, .int .i64 m.dawn, .int .i64 m.dusk] 26))]) HR.out (by simp only [List.forall_mem_cons, List.forall_mem_nil, and_true]; exact ⟨mZ, (mS mZ), (mS (mS mZ)), by simp⟩)).frm⟩
              exact AllHW.nil
            exact AllHW.nil
          exact AllHW.nil
        refine AllHW.cons (i := 19) (o := ⟨some 10, _, _, _, _, _⟩) rfl rfl (by kernel_rfl) (fun K hK => ?s28) ?ms28
        case s28 =>
          (try go_simp)
          refine (fun (W29 : World) (hRn : RW w1 _ [(W1.heap.size, (.cells #[.int .i64 0, .int .i64 0, .int .i64 0, .int .i64 0, .int .i64 0, .int .i64 0, .int .i64 0] 77)), (w.heap.size, (.cells #[.int .i64 m.n, (.slice (some ⟨b, off, none⟩) rs.length c1), (.slice A2 ls.length c2), (.slice A3 p3 c3), .int .i64 m.fall, .int .i64 m.win, .int .i64 m.hold, .int .i64 m.dawn, .int .i64 m.dusk] 26))] [] W29) (hzW29 : Hid (W29.heap.size = W1.heap.size + 1)) => hK.out _ W29 (fM ⟨.inr (hRn.frm.cells (mS mZ)), fM ⟨.inr (sp_at HS.out hRn.frm.b HXA.out), fM ⟨.inr (rep_at H1.out hRn.frm.b HXI.out), fM ⟨.inr (hRn.frm.cells (mS mZ)), fM ⟨.inr (sp_at HS.out hRn.frm.b HXA.out), fM ⟨.inr (rep_at H1.out hRn.frm.b HXK.out), (by simp)⟩⟩⟩⟩⟩⟩) ?_) _ (HR.out.add (.cells #[.int .i64 0, .int .i64 0, .int .i64 0, .int .i64 0, .int .i64 0, .int .i64 0, .int .i64 0] 77) rfl) (Lib.hid (by simp))
          clear HR
          have HR := Lib.hid hRn
          clear hRn
          refine hw_ready (rs := [18]) (by kernel_rfl) (by simp) ?_
          refine AllHW.cons (i := 18) (o := ⟨some 9, _, _, _, _, _⟩) rfl rfl (by kernel_rfl) (fun K hK => ?s30) ?ms30
          case s30 =>
            (try go_simp)
            refine (fun (W31 : World) (hRn : RW w1 _ [(W29.heap.size, (.cells #[.int .i64 0, .int .i64 0, .int .i64 0, .int .i64 0, .int .i64 0, .int .i64 0, .int .i64 0] 77)), (W1.heap.size, (.cells #[.int .i64 0, .int .i64 0, .int .i64 0, .int .i64 0, .int .i64 0, .int .i64 0, .int .i64 0] 77)), (w.heap.size, (.cells #[.int .i64 m.n, (.slice (some ⟨b, off, none⟩) rs.length c1), (.slice A2 ls.length c2), (.slice A3 p3 c3), .int .i64 m.fall, .int .i64 m.win, .int .i64 m.hold, .int .i64 m.dawn, .int .i64 m.dusk] 26))] [] W31) (hzW31 : Hid (W31.heap.size = W29.heap.size + 1)) => hK.out _ W31 (fM ⟨.inr (hRn.frm.cells (mS (mS mZ))), fM ⟨.inr (sp_at HS.out hRn.frm.b HXA.out), fM ⟨.inr (rep_at H1.out hRn.frm.b HXI.out), fM ⟨.inr (hRn.frm.cells (mS (mS mZ))), fM ⟨.inr (sp_at HS.out hRn.frm.b HXA.out), fM ⟨.inr (rep_at H1.out hRn.frm.b HXK.out), (by simp)⟩⟩⟩⟩⟩⟩) ?_) _ (HR.out.add (.cells #[.int .i64 0, .int .i64 0, .int .i64 0, .int .i64 0, .int .i64 0, .int .i64 0, .int .i64 0] 77) rfl) (Lib.hid (by simp))
            clear HR
            have HR := Lib.hid hRn
            clear hRn
            refine hw_ready (rs := [20]) (by kernel_rfl) (by simp) ?_
            refine AllHW.cons (i := 20) (o := ⟨none, _, _, _, _, _⟩) rfl rfl (by kernel_rfl) (fun K hK => ?s32) ?ms32
            case s32 =>
              have u0 := (boxCells (HR.out.frm.h _ mZ)).1
              have f0 := (boxCells (HR.out.frm.h _ mZ)).2
              have l0 := lt_of_blk (HR.out.frm.h _ mZ)
              (try go_simp)
              clear u0 f0 l0
              refine (fun (W33 : World) (hRn : RW w1 _ [(W29.heap.size, (.cells #[.int .i64 rx.st, .int .i64 rx.tk, .int .i64 rx.pr, .int .i64 rx.dlo, .int .i64 rx.dhi, .int .i64 rx.ur, .int .i64 rx.co] 77)), (W1.heap.size, (.cells #[.int .i64 0, .int .i64 0, .int .i64 0, .int .i64 0, .int .i64 0, .int .i64 0, .int .i64 0] 77)), (w.heap.size, (.cells #[.int .i64 m.n, (.slice (some ⟨b, off, none⟩) rs.length c1), (.slice A2 ls.length c2), (.slice A3 p3 c3), .int .i64 m.fall, .int .i64 m.win, .int .i64 m.hold, .int .i64 m.dawn, .int .i64 m.dusk] 26))] [] W33) (hzW33 : Hid (W33.heap.size = W31.heap.size)) => hK.out _ W33 (fM ⟨.inl (by kernel_rfl), fM ⟨.inl (by kernel_rfl), fM ⟨.inl (by kernel_rfl), fM ⟨.inr (hRn.frm.cells (mS (mS mZ))), fM ⟨.inr (sp_at HS.out hRn.frm.b HXA.out), fM ⟨.inr (rep_at H1.out hRn.frm.b HXK.out), (by simp)⟩⟩⟩⟩⟩⟩) ?_) _ ((RW.put (RW.put (RW.put (RW.put (RW.put (RW.put (RW.put (RW.less (bs' := [(W29.heap.size, (.cells #[.int .i64 0, .int .i64 0, .int .i64 0, .int .i64 0, .int .i64 0, .int .i64 0, .int .i64 0] 77)), (W1.heap.size, (.cells #[.int .i64 0, .int .i64 0, .int .i64 0, .int .i64 0, .int .i64 0, .int .i64 0, .int .i64 0] 77)), (w.heap.size, (.cells #[.int .i64 m.n, (.slice (some ⟨b, off, none⟩) rs.length c1), (.slice A2 ls.length c2), (.slice A3 p3 c3), .int .i64 m.fall, .int .i64 m.win, .int .i64 m.hold, .int .i64 m.dawn, .int .i64 m.dusk] 26))]) HR.out (by simp only [List.forall_mem_cons, List.forall_mem_nil, and_true]; exact ⟨mZ, (mS mZ), (mS (mS mZ)), by simp⟩)) (by have := hzW1.out; have := hzW29.out; have := hzW31.out; omega) (by have := hzW1.out; have := hzW29.out; have := hzW31.out; simp <;> omega) 0 (.int .i64 rx.st)) (by have := hzW1.out; have := hzW29.out; have := hzW31.out; omega) (by have := hzW1.out; have := hzW29.out; have := hzW31.out; simp <;> omega) 1 (.int .i64 rx.tk)) (by have := hzW1.out; have := hzW29.out; have := hzW31.out; omega) (by have := hzW1.out; have := hzW29.out; have := hzW31.out; simp <;> omega) 2 (.int .i64 rx.pr)) (by have := hzW1.out; have := hzW29.out; have := hzW31.out; omega) (by have := hzW1.out; have := hzW29.out; have := hzW31.out; simp <;> omega) 3 (.int .i64 rx.dlo)) (by have := hzW1.out; have := hzW29.out; have := hzW31.out; omega) (by have := hzW1.out; have := hzW29.out; have := hzW31.out; simp <;> omega) 4 (.int .i64 rx.dhi)) (by have := hzW1.out; have := hzW29.out; have := hzW31.out; omega) (by have := hzW1.out; have := hzW29.out; have := hzW31.out; simp <;> omega) 5 (.int .i64 rx.ur)) (by have := hzW1.out; have := hzW29.out; have := hzW31.out; omega) (by have := hzW1.out; have := hzW29.out; have := hzW31.out; simp <;> omega) 6 (.int .i64 rx.co))) (Lib.hid (by simp))
              clear HR
              have HR := Lib.hid hRn
              clear hRn
              refine hw_ready (rs := [21]) (by kernel_rfl) (by simp) ?_
              refine AllHW.cons (i := 21) (o := ⟨none, _, _, _, _, _⟩) rfl rfl (by kernel_rfl) (fun K hK => ?s34) ?ms34
              case s34 =>
                have u0 := (boxCells (HR.out.frm.h _ (mS mZ))).1
                have f0 := (boxCells (HR.out.frm.h _ (mS mZ))).2
                have l0 := lt_of_blk (HR.out.frm.h _ (mS mZ))
                (try go_simp)
                clear u0 f0 l0
                refine (fun (W35 : World) (hRn : RW w1 _ [(W1.heap.size, (.cells #[.int .i64 ry.st, .int .i64 ry.tk, .int .i64 ry.pr, .int .i64 ry.dlo, .int .i64 ry.dhi, .int .i64 ry.ur, .int .i64 ry.co] 77)), (W29.heap.size, (.cells #[.int .i64 rx.st, .int .i64 rx.tk, .int .i64 rx.pr, .int .i64 rx.dlo, .int .i64 rx.dhi, .int .i64 rx.ur, .int .i64 rx.co] 77)), (w.heap.size, (.cells #[.int .i64 m.n, (.slice (some ⟨b, off, none⟩) rs.length c1), (.slice A2 ls.length c2), (.slice A3 p3 c3), .int .i64 m.fall, .int .i64 m.win, .int .i64 m.hold, .int .i64 m.dawn, .int .i64 m.dusk] 26))] [] W35) (hzW35 : Hid (W35.heap.size = W33.heap.size)) => hK.out _ W35 (fM ⟨.inl (by kernel_rfl), fM ⟨.inl (by kernel_rfl), fM ⟨.inl (by kernel_rfl), fM ⟨.inl (by kernel_rfl), fM ⟨.inl (by kernel_rfl), fM ⟨.inl (by kernel_rfl), (by simp)⟩⟩⟩⟩⟩⟩) ?_) _ ((RW.put (RW.put (RW.put (RW.put (RW.put (RW.put (RW.put (RW.less (bs' := [(W1.heap.size, (.cells #[.int .i64 0, .int .i64 0, .int .i64 0, .int .i64 0, .int .i64 0, .int .i64 0, .int .i64 0] 77)), (W29.heap.size, (.cells #[.int .i64 rx.st, .int .i64 rx.tk, .int .i64 rx.pr, .int .i64 rx.dlo, .int .i64 rx.dhi, .int .i64 rx.ur, .int .i64 rx.co] 77)), (w.heap.size, (.cells #[.int .i64 m.n, (.slice (some ⟨b, off, none⟩) rs.length c1), (.slice A2 ls.length c2), (.slice A3 p3 c3), .int .i64 m.fall, .int .i64 m.win, .int .i64 m.hold, .int .i64 m.dawn, .int .i64 m.dusk] 26))]) HR.out (by simp only [List.forall_mem_cons, List.forall_mem_nil, and_true]; exact ⟨(mS mZ), mZ, (mS (mS mZ)), by simp⟩)) (by have := hzW1.out; have := hzW29.out; have := hzW31.out; have := hzW33.out; omega) (by have := hzW1.out; have := hzW29.out; have := hzW31.out; have := hzW33.out; simp <;> omega) 0 (.int .i64 ry.st)) (by have := hzW1.out; have := hzW29.out; have := hzW31.out; have := hzW33.out; omega) (by have := hzW1.out; have := hzW29.out; have := hzW31.out; have := hzW33.out; simp <;> omega) 1 (.int .i64 ry.tk)) (by have := hzW1.out; have := hzW29.out; have := hzW31.out; have := hzW33.out; omega) (by have := hzW1.out; have := hzW29.out; have := hzW31.out; have := hzW33.out; simp <;> omega) 2 (.int .i64 ry.pr)) (by have := hzW1.out; have := hzW29.out; have := hzW31.out; have := hzW33.out; omega) (by have := hzW1.out; have := hzW29.out; have := hzW31.out; have := hzW33.out; simp <;> omega) 3 (.int .i64 ry.dlo)) (by have := hzW1.out; have := hzW29.out; have := hzW31.out; have := hzW33.out; omega) (by have := hzW1.out; have := hzW29.out; have := hzW31.out; have := hzW33.out; simp <;> omega) 4 (.int .i64 ry.dhi)) (by have := hzW1.out; have := hzW29.out; have := hzW31.out; have := hzW33.out; omega) (by have := hzW1.out; have := hzW29.out; have := hzW31.out; have := hzW33.out; simp <;> omega) 5 (.int .i64 ry.ur)) (by have := hzW1.out; have := hzW29.out; have := hzW31.out; have := hzW33.out; omega) (by have := hzW1.out; have := hzW29.out; have := hzW31.out; have := hzW33.out; simp <;> omega) 6 (.int .i64 ry.co))) (Lib.hid (by simp))
                clear HR
                have HR := Lib.hid hRn
                clear hRn
                refine hw_done (by kernel_rfl) ?_
                have zhzW1 := hzW1.out
                have zhzW29 := hzW29.out
                have zhzW31 := hzW31.out
                have zhzW33 := hzW33.out
                have zhzW35 := hzW35.out
                exact ⟨W29.heap.size, W1.heap.size, _, _, _, _, _, _, _, _, _, _, _, _, _, _, _, _, _, _, _, _, _, _, _, _, _, _, _, _, _, _, _, _, _, _, _, _, _, _, _, _, _, _, _, _, _, _, _, _, _, _, _, _, _, _, _, _, _, _, _, _, _, _, _, _, rfl, by omega, by omega, (RW.less (bs' := [(W1.heap.size, (.cells #[.int .i64 ry.st, .int .i64 ry.tk, .int .i64 ry.pr, .int .i64 ry.dlo, .int .i64 ry.dhi, .int .i64 ry.ur, .int .i64 ry.co] 77)), (W29.heap.size, (.cells #[.int .i64 rx.st, .int .i64 rx.tk, .int .i64 rx.pr, .int .i64 rx.dlo, .int .i64 rx.dhi, .int .i64 rx.ur, .int .i64 rx.co] 77)), (w.heap.size, (.cells #[.int .i64 m.n, (.slice (some ⟨b, off, none⟩) rs.length c1), (.slice A2 ls.length c2), (.slice A3 p3 c3), .int .i64 m.fall, .int .i64 m.win, .int .i64 m.hold, .int .i64 m.dawn, .int .i64 m.dusk] 26))]) HR.out (by simp only [List.forall_mem_cons, List.forall_mem_nil, and_true]; exact ⟨mZ, (mS mZ), (mS (mS mZ)), by simp⟩)).frm⟩
              exact AllHW.nil
            exact AllHW.nil
          exact AllHW.nil
        exact AllHW.nil
      case aft5 =>
        rintro e a1 X1 hO
        obtain ⟨rfl, p, q, v6, v11, v14, v15, v16, v17, v18, v19, v20, v21, v22, v23, v24, v25, v26, v27, v28, v29, v30, v31, v32, v33, v34, v35, v36, v37, v38, v39, v40, v41, v42, v43, v44, v45, v46, v47, v48, v49, v50, v51, v52, v53, v54, v55, v56, v57, v58, v59, v60, v61, v62, v63, v64, v65, v66, v67, v68, v69, v70, v71, v72, v73, v74, v75, rfl, hpw, hqw, hF⟩ := onlyN_is hO
        clear HR hO
        have HR := Lib.hid (RW.start hF)
        clear hF
        go_upto_region 6 with fail
        refine hw_start [(1, fun w' : World => ∀ o, w'.cell? ⟨p, o, none⟩ = #[Value.int .i64 rx.st, .int .i64 rx.tk, .int .i64 rx.pr, .int .i64 rx.dlo, .int .i64 rx.dhi, .int .i64 rx.ur, .int .i64 rx.co][o]?), (7, fun w' : World => w'.cell? ⟨ab, ao + n * 2, none⟩ = some (.int .i64 ((i : Nat) : Int)) ∧ w'.cell? ⟨ab, ao + n * 2 + 1, none⟩ = some (.int .i64 ((k : Nat) : Int))), (9, fun w' : World => w'.cell? ⟨eb, eo + i, none⟩ = some (.int .i64 di)), (12, fun w' : World => ∀ o, w'.cell? ⟨q, o, none⟩ = #[Value.int .i64 ry.st, .int .i64 ry.tk, .int .i64 ry.pr, .int .i64 ry.dlo, .int .i64 ry.dhi, .int .i64 ry.ur, .int .i64 ry.co][o]?), (18, fun w' : World => w'.cell? ⟨ab, ao + n * 2, none⟩ = some (.int .i64 ((i : Nat) : Int)) ∧ w'.cell? ⟨ab, ao + n * 2 + 1, none⟩ = some (.int .i64 ((k : Nat) : Int))), (20, fun w' : World => w'.cell? ⟨eb, eo + k, none⟩ = some (.int .i64 dk))] (by kernel_rfl) (fM ⟨HR.out.drew.frm.cells (mS mZ), fM ⟨sp_at HS.out HR.out.drew.frm.b HXA.out, fM ⟨ints_at HZ.out HR.out.drew.frm.b HDI.out, fM ⟨HR.out.drew.frm.cells mZ, fM ⟨sp_at HS.out HR.out.drew.frm.b HXA.out, fM ⟨ints_at HZ.out HR.out.drew.frm.b HDK.out, (by simp)⟩⟩⟩⟩⟩⟩) ?_
        refine (fun (W36 : World) (hRn : RW w1 _ [(q, (.cells #[.int .i64 ry.st, .int .i64 ry.tk, .int .i64 ry.pr, .int .i64 ry.dlo, .int .i64 ry.dhi, .int .i64 ry.ur, .int .i64 ry.co] 77)), (p, (.cells #[.int .i64 rx.st, .int .i64 rx.tk, .int .i64 rx.pr, .int .i64 rx.dlo, .int .i64 rx.dhi, .int .i64 rx.ur, .int .i64 rx.co] 77)), (w.heap.size, (.cells #[.int .i64 m.n, (.slice (some ⟨b, off, none⟩) rs.length c1), (.slice A2 ls.length c2), (.slice A3 p3 c3), .int .i64 m.fall, .int .i64 m.win, .int .i64 m.hold, .int .i64 m.dawn, .int .i64 m.dusk] 26))] [] W36) (hzW36 : Hid (W36.heap.size = X1.heap.size)) => (?_ : HW _ _ _ _ _ _ _ W36)) _ HR.out.drew (Lib.hid rfl)
        clear HR
        have HR := Lib.hid hRn
        clear hRn
        refine hw_pure (i := 0) (oi := ⟨some 38, _, _, _, _, _⟩) (v := ?v37) rfl (by kernel_rfl) (by kernel_rfl) (by kernel_rfl) (by kernel_rfl) (fun _ _ _ h => h) rfl (by kernel_rfl) ?hv37 ?rv37
        case hv37 => (intro w; go_simp) <;> (with_reducible rfl)
        try simp only [Act.put, List.setIfInBounds_toArray, List.set_cons_zero, List.set_cons_succ]
        refine hw_load (i := 1) (oi := ⟨some 39, _, _, _, _, _⟩) (v := ?v38) _ mZ rfl (by kernel_rfl) (by kernel_rfl) (by kernel_rfl) (by kernel_rfl) (fun _ _ _ h => h) rfl (by kernel_rfl) ?hv38 ?rv38
        case hv38 => (intro w hSw; (try dsimp only at hSw); go_simp) <;> (with_reducible rfl)
        try simp only [Act.put, List.setIfInBounds_toArray, List.set_cons_zero, List.set_cons_succ]
        refine hw_pure (i := 2) (oi := ⟨some 40, _, _, _, _, _⟩) (v := ?v39) rfl (by kernel_rfl) (by kernel_rfl) (by kernel_rfl) (by kernel_rfl) (fun _ _ _ h => h) rfl (by kernel_rfl) ?hv39 ?rv39
        case hv39 => (intro w; go_simp) <;> (with_reducible rfl)
        try simp only [Act.put, List.setIfInBounds_toArray, List.set_cons_zero, List.set_cons_succ]
        refine hw_pure (i := 3) (oi := ⟨some 41, _, _, _, _, _⟩) (v := ?v40) rfl (by kernel_rfl) (by kernel_rfl) (by kernel_rfl) (by kernel_rfl) (fun _ _ _ h => h) rfl (by kernel_rfl) ?hv40 ?rv40
        case hv40 => (intro w; go_simp) <;> (with_reducible rfl)
        try simp only [Act.put, List.setIfInBounds_toArray, List.set_cons_zero, List.set_cons_succ]
        refine hw_pure (i := 4) (oi := ⟨some 42, _, _, _, _, _⟩) (v := ?v41) rfl (by kernel_rfl) (by kernel_rfl) (by kernel_rfl) (by kernel_rfl) (fun _ _ _ h => h) rfl (by kernel_rfl) ?hv41 ?rv41
        case hv41 => (intro w; go_simp) <;> (with_reducible rfl)
        try simp only [Act.put, List.setIfInBounds_toArray, List.set_cons_zero, List.set_cons_succ]
        refine hw_pure (i := 5) (oi := ⟨some 43, _, _, _, _, _⟩) (v := ?v42) rfl (by kernel_rfl) (by kernel_rfl) (by kernel_rfl) (by kernel_rfl) (fun _ _ _ h => h) rfl (by kernel_rfl) ?hv42 ?rv42
        case hv42 => (intro w; go_simp) <;> (with_reducible rfl)
        try simp only [Act.put, List.setIfInBounds_toArray, List.set_cons_zero, List.set_cons_succ]
        refine hw_pure (i := 6) (oi := ⟨some 44, _, _, _, _, _⟩) (v := ?v43) rfl (by kernel_rfl) (by kernel_rfl) (by kernel_rfl) (by kernel_rfl) (fun _ _ _ h => h) rfl (by kernel_rfl) ?hv43 ?rv43
        case hv43 => (intro w; go_simp) <;> (with_reducible rfl)
        try simp only [Act.put, List.setIfInBounds_toArray, List.set_cons_zero, List.set_cons_succ]
        refine hw_load (i := 7) (oi := ⟨some 45, _, _, _, _, _⟩) (v := ?v44) _ (mS mZ) rfl (by kernel_rfl) (by kernel_rfl) (by kernel_rfl) (by kernel_rfl) (fun _ _ _ h => h) rfl (by kernel_rfl) ?hv44 ?rv44
        case hv44 => (intro w hSw; (try dsimp only at hSw); go_simp) <;> (with_reducible rfl)
        try simp only [Act.put, List.setIfInBounds_toArray, List.set_cons_zero, List.set_cons_succ]
        refine hw_pure (i := 8) (oi := ⟨some 46, _, _, _, _, _⟩) (v := ?v45) rfl (by kernel_rfl) (by kernel_rfl) (by kernel_rfl) (by kernel_rfl) (fun _ _ _ h => h) rfl (by kernel_rfl) ?hv45 ?rv45
        case hv45 => (intro w; go_simp) <;> (with_reducible rfl)
        try simp only [Act.put, List.setIfInBounds_toArray, List.set_cons_zero, List.set_cons_succ]
        refine hw_load (i := 9) (oi := ⟨some 47, _, _, _, _, _⟩) (v := ?v46) _ (mS (mS mZ)) rfl (by kernel_rfl) (by kernel_rfl) (by kernel_rfl) (by kernel_rfl) (fun _ _ _ h => h) rfl (by kernel_rfl) ?hv46 ?rv46
        case hv46 => (intro w hSw; (try dsimp only at hSw); go_simp) <;> (with_reducible rfl)
        try simp only [Act.put, List.setIfInBounds_toArray, List.set_cons_zero, List.set_cons_succ]
        refine hw_pure (i := 10) (oi := ⟨some 48, _, _, _, _, _⟩) (v := ?v47) rfl (by kernel_rfl) (by kernel_rfl) (by kernel_rfl) (by kernel_rfl) (fun _ _ _ h => h) rfl (by kernel_rfl) ?hv47 ?rv47
        case hv47 => (intro w; go_simp) <;> (with_reducible rfl)
        try simp only [Act.put, List.setIfInBounds_toArray, List.set_cons_zero, List.set_cons_succ]
        refine hw_pure (i := 11) (oi := ⟨some 49, _, _, _, _, _⟩) (v := ?v48) rfl (by kernel_rfl) (by kernel_rfl) (by kernel_rfl) (by kernel_rfl) (fun _ _ _ h => h) rfl (by kernel_rfl) ?hv48 ?rv48
        case hv48 => (intro w; go_simp) <;> (with_reducible rfl)
        try simp only [Act.put, List.setIfInBounds_toArray, List.set_cons_zero, List.set_cons_succ]
        refine hw_load (i := 12) (oi := ⟨some 50, _, _, _, _, _⟩) (v := ?v49) _ (mS (mS (mS mZ))) rfl (by kernel_rfl) (by kernel_rfl) (by kernel_rfl) (by kernel_rfl) (fun _ _ _ h => h) rfl (by kernel_rfl) ?hv49 ?rv49
        case hv49 => (intro w hSw; (try dsimp only at hSw); go_simp) <;> (with_reducible rfl)
        try simp only [Act.put, List.setIfInBounds_toArray, List.set_cons_zero, List.set_cons_succ]
        refine hw_pure (i := 13) (oi := ⟨some 51, _, _, _, _, _⟩) (v := ?v50) rfl (by kernel_rfl) (by kernel_rfl) (by kernel_rfl) (by kernel_rfl) (fun _ _ _ h => h) rfl (by kernel_rfl) ?hv50 ?rv50
        case hv50 => (intro w; go_simp) <;> (with_reducible rfl)
        try simp only [Act.put, List.setIfInBounds_toArray, List.set_cons_zero, List.set_cons_succ]
        refine hw_pure (i := 14) (oi := ⟨some 52, _, _, _, _, _⟩) (v := ?v51) rfl (by kernel_rfl) (by kernel_rfl) (by kernel_rfl) (by kernel_rfl) (fun _ _ _ h => h) rfl (by kernel_rfl) ?hv51 ?rv51
        case hv51 => (intro w; go_simp) <;> (with_reducible rfl)
        try simp only [Act.put, List.setIfInBounds_toArray, List.set_cons_zero, List.set_cons_succ]
        refine hw_pure (i := 15) (oi := ⟨some 53, _, _, _, _, _⟩) (v := ?v52) rfl (by kernel_rfl) (by kernel_rfl) (by kernel_rfl) (by kernel_rfl) (fun _ _ _ h => h) rfl (by kernel_rfl) ?hv52 ?rv52
        case hv52 => (intro w; go_simp) <;> (with_reducible rfl)
        try simp only [Act.put, List.setIfInBounds_toArray, List.set_cons_zero, List.set_cons_succ]
        refine hw_pure (i := 16) (oi := ⟨some 54, _, _, _, _, _⟩) (v := ?v53) rfl (by kernel_rfl) (by kernel_rfl) (by kernel_rfl) (by kernel_rfl) (fun _ _ _ h => h) rfl (by kernel_rfl) ?hv53 ?rv53
        case hv53 => (intro w; go_simp) <;> (with_reducible rfl)
        try simp only [Act.put, List.setIfInBounds_toArray, List.set_cons_zero, List.set_cons_succ]
        refine hw_pure (i := 17) (oi := ⟨some 55, _, _, _, _, _⟩) (v := ?v54) rfl (by kernel_rfl) (by kernel_rfl) (by kernel_rfl) (by kernel_rfl) (fun _ _ _ h => h) rfl (by kernel_rfl) ?hv54 ?rv54
        case hv54 => (intro w; go_simp) <;> (with_reducible rfl)
        try simp only [Act.put, List.setIfInBounds_toArray, List.set_cons_zero, List.set_cons_succ]
        refine hw_load (i := 18) (oi := ⟨some 56, _, _, _, _, _⟩) (v := ?v55) _ (mS (mS (mS (mS mZ)))) rfl (by kernel_rfl) (by kernel_rfl) (by kernel_rfl) (by kernel_rfl) (fun _ _ _ h => h) rfl (by kernel_rfl) ?hv55 ?rv55
        case hv55 => (intro w hSw; (try dsimp only at hSw); go_simp) <;> (with_reducible rfl)
        try simp only [Act.put, List.setIfInBounds_toArray, List.set_cons_zero, List.set_cons_succ]
        refine hw_pure (i := 19) (oi := ⟨some 57, _, _, _, _, _⟩) (v := ?v56) rfl (by kernel_rfl) (by kernel_rfl) (by kernel_rfl) (by kernel_rfl) (fun _ _ _ h => h) rfl (by kernel_rfl) ?hv56 ?rv56
        case hv56 => (intro w; go_simp) <;> (with_reducible rfl)
        try simp only [Act.put, List.setIfInBounds_toArray, List.set_cons_zero, List.set_cons_succ]
        refine hw_load (i := 20) (oi := ⟨some 58, _, _, _, _, _⟩) (v := ?v57) _ (mS (mS (mS (mS (mS mZ))))) rfl (by kernel_rfl) (by kernel_rfl) (by kernel_rfl) (by kernel_rfl) (fun _ _ _ h => h) rfl (by kernel_rfl) ?hv57 ?rv57
        case hv57 => (intro w hSw; (try dsimp only at hSw); go_simp) <;> (with_reducible rfl)
        try simp only [Act.put, List.setIfInBounds_toArray, List.set_cons_zero, List.set_cons_succ]
        refine hw_pure (i := 21) (oi := ⟨some 59, _, _, _, _, _⟩) (v := ?v58) rfl (by kernel_rfl) (by kernel_rfl) (by kernel_rfl) (by kernel_rfl) (fun _ _ _ h => h) rfl (by kernel_rfl) ?hv58 ?rv58
        case hv58 => (intro w; go_simp) <;> (with_reducible rfl)
        try simp only [Act.put, List.setIfInBounds_toArray, List.set_cons_zero, List.set_cons_succ]
        refine hw_pure (i := 22) (oi := ⟨some 60, _, _, _, _, _⟩) (v := .int .i64 (max (rx.tk + di) (ry.tk + dk))) rfl (by kernel_rfl) (by kernel_rfl) (by kernel_rfl) (by kernel_rfl) (fun _ _ _ h => h) rfl (by kernel_rfl) ?hv59 ?rv59
        case hv59 => (intro w; have h := hm1 w; simp [execOp, Act.eval, Sem.run_bind, Result.andThen, go_sem, h])
        try simp only [Act.put, List.setIfInBounds_toArray, List.set_cons_zero, List.set_cons_succ]
        refine hw_pure (i := 23) (oi := ⟨some 11, _, _, _, _, _⟩) (v := ?v60) rfl (by kernel_rfl) (by kernel_rfl) (by kernel_rfl) (by kernel_rfl) (fun _ _ _ h => h) rfl (by kernel_rfl) ?hv60 ?rv60
        case hv60 => (intro w; go_simp) <;> (with_reducible rfl)
        try simp only [Act.put, List.setIfInBounds_toArray, List.set_cons_zero, List.set_cons_succ]
        refine hw_done (by kernel_rfl) ?_
        have y0 := HR.out.frm.cells mZ
        have y1 := HR.out.frm.cells (mS mZ)
        have y2 := HR.out.frm.cells (mS (mS mZ))
        by_cases q1 : max (rx.tk + di) (ry.tk + dk) ≤ t
        · by_cases q2 : t < max rx.tk ry.tk + m.hold
          · have HV : Hid ((alL m ls rs).any (hitS m rs (ev zs) t) = true) := Lib.hid (any_hit HXL.out (by rw [HSP.out]; simp [q1, q2]))
            go_wp2_with fail
            all_goals
              go_ret
              exact ⟨ret_bool HV.out.symm, HB.out.trans ((Frm.b (w := w1) (by (repeat (with_reducible first | exact HR.out.frm | apply Frm.drew | apply Frm.alloc | apply Frm.drewN)))).mono HB.out.size)⟩
          · have HN : Hid (hitS m rs (ev zs) t (i, k) = false) := Lib.hid (by rw [HSP.out]; simp [q2])
            have HX2 : Hid (((alL m ls rs).take (n + 1)).any (hitS m rs (ev zs) t) = false) := Lib.hid (by rw [any_take HXL.out, HA.out, HN.out]; rfl)
            go_wp2_with fail
            all_goals
              go_roundw
              case rel => exact ⟨n + 1, by omega, by go_num, by have h9 := HX2.out; simpa using h9, (Frm.less (w := w1) (by (repeat (with_reducible first | exact HR.out.frm | apply Frm.drew | apply Frm.alloc | apply Frm.drewN))) (fun p hp => mS (List.mem_cons_of_mem _ hp)))⟩
              case measure => simp [intOf]; omega
        · have HN : Hid (hitS m rs (ev zs) t (i, k) = false) := Lib.hid (by rw [HSP.out]; simp [q1])
          have HX2 : Hid (((alL m ls rs).take (n + 1)).any (hitS m rs (ev zs) t) = false) := Lib.hid (by rw [any_take HXL.out, HA.out, HN.out]; rfl)
          go_wp2_with fail
          all_goals
            go_roundw
            case rel => exact ⟨n + 1, by omega, by go_num, by have h9 := HX2.out; simpa using h9, (Frm.less (w := w1) (by (repeat (with_reducible first | exact HR.out.frm | apply Frm.drew | apply Frm.alloc | apply Frm.drewN))) (fun p hp => mS (List.mem_cons_of_mem _ hp)))⟩
            case measure => simp [intOf]; omega
    · have HV : Hid ((alL m ls rs).any (hitS m rs (ev zs) t) = false) := Lib.hid (by rwa [List.take_of_length_le (by omega)] at hall)
      have HR := Lib.hid hF
      clear hF hall
      go_wp2_with fail
      go_ret
      exact ⟨ret_bool HV.out.symm, HB.out.trans ((Frm.b (w := w1) (by (repeat (with_reducible first | exact HR.out | apply Frm.drew | apply Frm.alloc | apply Frm.drewN)))).mono HB.out.size)⟩
end Go.Proofs.YtldimlnllmojiaaGreat
