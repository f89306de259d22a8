/- Part of a claim on cone. -/
import Derived.Test.YtldimlnllmojiaaGreatVs
import Derived.Test.YtldimlnllmojiaaGreatGA1
set_option linter.unusedVariables false
set_option linter.unusedSimpArgs false
namespace Go.Proofs.YtldimlnllmojiaaGreat
open Go.RowKit
open Go.Shelf
open Go.Maps
theorem rfar_any (a b : Int) (w : World) (ha : -1000000000 ≤ a) (ha' : a ≤ 1000000000) (hb : -1000000000 ≤ b) (hb' : b ≤ 1000000000) :
    Calls Tryz.prog 91 #[.int .i64 a, .int .i64 b] w fun e w' => e = .returned (.int .i64 (farI a b)) ∧ w = w' := by
  have e1 : IntKind.i64.wrap (a - b) = a - b := IntWalk.i64_in _ (by omega)
  have e2 : IntKind.i64.wrap (b - a) = b - a := IntWalk.i64_in _ (by omega)
  go_enter Tryz.func91, Tryz.ntmps91
  go_wp2
  all_goals
    go_ret
    exact ⟨ret_int (by unfold farI; omega), rfl⟩
def hitB (x y : Rep) (l : Lnk) : Bool := ((decide (l.a = x.st) && decide (l.b = y.st)) || (decide (l.a = y.st) && decide (l.b = x.st))) && decide (l.df ≤ farI x.pr y.pr)
theorem al_full (m : Wn) (ls : List Lnk) (rs : List Rep) {i k : Nat} {rx ry : Rep} (hx : rs[i]? = some rx) (hy : rs[k]? = some ry) : alF m ls rs i k = (decide (farI rx.tk ry.tk ≤ m.win) && (if rx.st = ry.st then (decide (rx.tk < ry.tk) && decide (m.fall ≤ rx.pr - ry.pr)) || (decide (ry.tk < rx.tk) && decide (m.fall ≤ ry.pr - rx.pr)) else ls.any (hitB rx ry))) := by
  unfold alF
  rw [repAt_some hx, repAt_some hy, alarm_eq]
  rfl
set_option maxHeartbeats 8000000 in
set_option maxRecDepth 100000 in
theorem rAlarm_any (m : Wn) (A1 A2 A3 : Option Addr) (rs : List Rep) (ls : List Lnk) (c1 c2 p3 c3 : Nat) (i k : Nat) (w : World) (h1 : Reps w (.slice A1 rs.length c1) rs) (h2 : Lnks w (.slice A2 ls.length c2) ls) (hi : i < rs.length) (hk : k < rs.length) (hg : ∀ x ∈ rs, 0 ≤ x.tk ∧ x.tk ≤ 100000 ∧ 0 ≤ x.pr ∧ x.pr ≤ 99999) :
    Calls Tryz.prog 63 #[wtV m (.slice A1 rs.length c1) (.slice A2 ls.length c2) (.slice A3 p3 c3), .int .i64 i, .int .i64 k] w fun e w' => e = .returned (.bool (alF m ls rs i k)) ∧ Below w.heap.size w w' := by
  have H1 := Lib.hid h1
  have H2 := Lib.hid h2
  obtain ⟨rx, hrx⟩ : ∃ y, rs[i]? = some y := ⟨_, List.getElem?_eq_getElem hi⟩
  obtain ⟨ry, hry⟩ : ∃ y, rs[k]? = some y := ⟨_, List.getElem?_eq_getElem hk⟩
  have HXI := Lib.hid hrx
  have HXK := Lib.hid hry
  have HAL := Lib.hid (al_full m ls rs hrx hry)
  have g1 := hg rx (List.mem_of_getElem? hrx)
  have g2 := hg ry (List.mem_of_getElem? hry)
  obtain ⟨b, off, hA, hc1, hc2, -⟩ := rep_cells h1 hrx
  subst hA
  unfold maxLen at hc2
  have HFA : Hid (∀ V, Calls Tryz.prog 91 #[.int .i64 rx.tk, .int .i64 ry.tk] V fun e w' => e = .returned (.int .i64 (farI rx.tk ry.tk)) ∧ V = w') := Lib.hid (fun V => rfar_any _ _ V (by omega) (by omega) (by omega) (by omega))
  have HFB : Hid (∀ V, Calls Tryz.prog 91 #[.int .i64 rx.pr, .int .i64 ry.pr] V fun e w' => e = .returned (.int .i64 (farI rx.pr ry.pr)) ∧ V = w') := Lib.hid (fun V => rfar_any _ _ V (by omega) (by omega) (by omega) (by omega))
  have ww1 : IntKind.i64.wrap (rx.pr - ry.pr) = rx.pr - ry.pr := IntWalk.i64_in _ (by omega)
  have ww2 : IntKind.i64.wrap (ry.pr - rx.pr) = ry.pr - rx.pr := IntWalk.i64_in _ (by omega)
  have HR := Lib.hid (RW.start ((Frm.nil w).add (.cells #[.int .i64 m.n, (.slice (some ⟨b, off, none⟩) rs.length c1), (.slice A2 ls.length c2), (.slice A3 p3 c3), .int .i64 m.fall, .int .i64 m.win, .int .i64 m.hold, .int .i64 m.dawn, .int .i64 m.dusk] 26) rfl))
  clear h1 h2 hg hrx hry
  go_enter Tryz.func63, Tryz.ntmps63
  have x0 := HR.out.frm.cells mZ
  go_upto_region 1 with fail
  clear x0
  refine Code.wp_mono (Q := onlyN fun a1 X1 => ∃ p q v11 v12 v13 v14 v15 v16 v17 v18 v19 v20, a1 = { tmps := #[wtV m (.slice (some ⟨b, off, none⟩) rs.length c1) (.slice A2 ls.length c2) (.slice A3 p3 c3), .int .i64 i, .int .i64 k, .pointer (some ⟨w.heap.size, 0, none⟩), undef, undef, .bool false, .pointer (some ⟨p, 0, none⟩), .pointer (some ⟨q, 0, none⟩), undef, undef, v11, v12, v13, v14, v15, v16, v17, v18, v19, v20, undef, undef, undef, undef, undef, undef, undef, undef, undef, undef, undef, undef, undef, undef, undef, undef, undef, undef, undef, undef, undef, undef, undef, undef, undef, undef, undef, undef, undef, undef, undef, undef, undef, undef, undef, undef, undef, undef, undef, undef, undef, undef, undef, undef, undef, undef, undef, undef, undef, undef, undef, undef, undef, undef, undef, undef, undef, undef, undef, undef, undef, undef, undef, undef, undef, undef, undef, undef, undef, undef, undef, undef, undef, undef, undef, undef, undef, undef, undef, undef, undef, undef, undef, undef, undef, undef, undef, undef, undef, undef, undef, undef, undef], defers := [] } ∧ w.heap.size < p ∧ w.heap.size < q ∧ Frm w [(q, (.cells #[.int .i64 ry.st, .int .i64 ry.tk, .int .i64 ry.pr, .int .i64 ry.dlo, .int .i64 ry.dhi, .int .i64 ry.ur, .int .i64 ry.co] 77)), (p, (.cells #[.int .i64 rx.st, .int .i64 rx.tk, .int .i64 rx.pr, .int .i64 rx.dlo, .int .i64 rx.dhi, .int .i64 rx.ur, .int .i64 rx.co] 77)), (w.heap.size, (.cells #[.int .i64 m.n, (.slice (some ⟨b, off, none⟩) rs.length c1), (.slice A2 ls.length c2), (.slice A3 p3 c3), .int .i64 m.fall, .int .i64 m.win, .int .i64 m.hold, .int .i64 m.dawn, .int .i64 m.dusk] 26))] X1) ?aft1 ?reg1
  case reg1 =>
    refine hw_start [(1, fun w' : World => ∀ o, w'.cell? ⟨w.heap.size, o, none⟩ = #[Value.int .i64 m.n, (.slice (some ⟨b, off, none⟩) rs.length c1), (.slice A2 ls.length c2), (.slice A3 p3 c3), .int .i64 m.fall, .int .i64 m.win, .int .i64 m.hold, .int .i64 m.dawn, .int .i64 m.dusk][o]?), (4, fun w' : World => w'.cell? ⟨b, off + i * 7, none⟩ = some (.int .i64 rx.st) ∧ w'.cell? ⟨b, off + i * 7 + 1, none⟩ = some (.int .i64 rx.tk) ∧ w'.cell? ⟨b, off + i * 7 + 2, none⟩ = some (.int .i64 rx.pr) ∧ w'.cell? ⟨b, off + i * 7 + 3, none⟩ = some (.int .i64 rx.dlo) ∧ w'.cell? ⟨b, off + i * 7 + 4, none⟩ = some (.int .i64 rx.dhi) ∧ w'.cell? ⟨b, off + i * 7 + 5, none⟩ = some (.int .i64 rx.ur) ∧ w'.cell? ⟨b, off + i * 7 + 6, none⟩ = some (.int .i64 rx.co)), (6, fun w' : World => ∀ o, w'.cell? ⟨w.heap.size, o, none⟩ = #[Value.int .i64 m.n, (.slice (some ⟨b, off, none⟩) rs.length c1), (.slice A2 ls.length c2), (.slice A3 p3 c3), .int .i64 m.fall, .int .i64 m.win, .int .i64 m.hold, .int .i64 m.dawn, .int .i64 m.dusk][o]?), (9, fun w' : World => w'.cell? ⟨b, off + k * 7, none⟩ = some (.int .i64 ry.st) ∧ w'.cell? ⟨b, off + k * 7 + 1, none⟩ = some (.int .i64 ry.tk) ∧ w'.cell? ⟨b, off + k * 7 + 2, none⟩ = some (.int .i64 ry.pr) ∧ w'.cell? ⟨b, off + k * 7 + 3, none⟩ = some (.int .i64 ry.dlo) ∧ w'.cell? ⟨b, off + k * 7 + 4, none⟩ = some (.int .i64 ry.dhi) ∧ w'.cell? ⟨b, off + k * 7 + 5, none⟩ = some (.int .i64 ry.ur) ∧ w'.cell? ⟨b, off + k * 7 + 6, none⟩ = some (.int .i64 ry.co))] (by kernel_rfl) (fM ⟨HR.out.drew.frm.cells mZ, fM ⟨rep_at H1.out HR.out.drew.frm.b HXI.out, fM ⟨HR.out.drew.frm.cells mZ, fM ⟨rep_at H1.out HR.out.drew.frm.b HXK.out, (by simp)⟩⟩⟩⟩) ?_
    refine (fun (W1 : World) (hRn : RW w _ [(w.heap.size, (.cells #[.int .i64 m.n, (.slice (some ⟨b, off, none⟩) rs.length c1), (.slice A2 ls.length c2), (.slice A3 p3 c3), .int .i64 m.fall, .int .i64 m.win, .int .i64 m.hold, .int .i64 m.dawn, .int .i64 m.dusk] 26))] [] W1) (hzW1 : Hid (W1.heap.size = (w.alloc (.cells #[.int .i64 m.n, (.slice (some ⟨b, off, none⟩) rs.length c1), (.slice A2 ls.length c2), (.slice A3 p3 c3), .int .i64 m.fall, .int .i64 m.win, .int .i64 m.hold, .int .i64 m.dawn, .int .i64 m.dusk] 26)).heap.size)) => (?_ : HW _ _ _ _ _ _ _ W1)) _ HR.out.drew (Lib.hid rfl)
    clear HR
    have HR := Lib.hid hRn
    clear hRn
    replace hzW1 : Hid (W1.heap.size = w.heap.size + 1) := Lib.hid (by have := hzW1.out; simpa using this)
    refine hw_pure (i := 0) (oi := ⟨some 11, _, _, _, _, _⟩) (v := ?v2) rfl (by kernel_rfl) (by kernel_rfl) (by kernel_rfl) (by kernel_rfl) (fun _ _ _ h => h) rfl (by kernel_rfl) ?hv2 ?rv2
    case hv2 => (intro w; go_simp) <;> (with_reducible rfl)
    try simp only [Act.put, List.setIfInBounds_toArray, List.set_cons_zero, List.set_cons_succ]
    refine hw_load (i := 1) (oi := ⟨some 12, _, _, _, _, _⟩) (v := ?v3) _ mZ rfl (by kernel_rfl) (by kernel_rfl) (by kernel_rfl) (by kernel_rfl) (fun _ _ _ h => h) rfl (by kernel_rfl) ?hv3 ?rv3
    case hv3 => (intro w hSw; (try dsimp only at hSw); go_simp) <;> (with_reducible rfl)
    try simp only [Act.put, List.setIfInBounds_toArray, List.set_cons_zero, List.set_cons_succ]
    refine hw_pure (i := 2) (oi := ⟨some 13, _, _, _, _, _⟩) (v := ?v4) rfl (by kernel_rfl) (by kernel_rfl) (by kernel_rfl) (by kernel_rfl) (fun _ _ _ h => h) rfl (by kernel_rfl) ?hv4 ?rv4
    case hv4 => (intro w; go_simp) <;> (with_reducible rfl)
    try simp only [Act.put, List.setIfInBounds_toArray, List.set_cons_zero, List.set_cons_succ]
    refine hw_pure (i := 3) (oi := ⟨some 14, _, _, _, _, _⟩) (v := ?v5) rfl (by kernel_rfl) (by kernel_rfl) (by kernel_rfl) (by kernel_rfl) (fun _ _ _ h => h) rfl (by kernel_rfl) ?hv5 ?rv5
    case hv5 => (intro w; go_simp) <;> (with_reducible rfl)
    try simp only [Act.put, List.setIfInBounds_toArray, List.set_cons_zero, List.set_cons_succ]
    refine hw_load (i := 4) (oi := ⟨some 15, _, _, _, _, _⟩) (v := ?v6) _ (mS mZ) rfl (by kernel_rfl) (by kernel_rfl) (by kernel_rfl) (by kernel_rfl) (fun _ _ _ h => h) rfl (by kernel_rfl) ?hv6 ?rv6
    case hv6 => (intro w hSw; (try dsimp only at hSw); go_simp) <;> (with_reducible rfl)
    try simp only [Act.put, List.setIfInBounds_toArray, List.set_cons_zero, List.set_cons_succ]
    refine hw_pure (i := 5) (oi := ⟨some 16, _, _, _, _, _⟩) (v := ?v7) rfl (by kernel_rfl) (by kernel_rfl) (by kernel_rfl) (by kernel_rfl) (fun _ _ _ h => h) rfl (by kernel_rfl) ?hv7 ?rv7
    case hv7 => (intro w; go_simp) <;> (with_reducible rfl)
    try simp only [Act.put, List.setIfInBounds_toArray, List.set_cons_zero, List.set_cons_succ]
    refine hw_load (i := 6) (oi := ⟨some 17, _, _, _, _, _⟩) (v := ?v8) _ (mS (mS mZ)) rfl (by kernel_rfl) (by kernel_rfl) (by kernel_rfl) (by kernel_rfl) (fun _ _ _ h => h) rfl (by kernel_rfl) ?hv8 ?rv8
    case hv8 => (intro w hSw; (try dsimp only at hSw); go_simp) <;> (with_reducible rfl)
    try simp only [Act.put, List.setIfInBounds_toArray, List.set_cons_zero, List.set_cons_succ]
    refine hw_pure (i := 7) (oi := ⟨some 18, _, _, _, _, _⟩) (v := ?v9) rfl (by kernel_rfl) (by kernel_rfl) (by kernel_rfl) (by kernel_rfl) (fun _ _ _ h => h) rfl (by kernel_rfl) ?hv9 ?rv9
    case hv9 => (intro w; go_simp) <;> (with_reducible rfl)
    try simp only [Act.put, List.setIfInBounds_toArray, List.set_cons_zero, List.set_cons_succ]
    refine hw_pure (i := 8) (oi := ⟨some 19, _, _, _, _, _⟩) (v := ?v10) rfl (by kernel_rfl) (by kernel_rfl) (by kernel_rfl) (by kernel_rfl) (fun _ _ _ h => h) rfl (by kernel_rfl) ?hv10 ?rv10
    case hv10 => (intro w; go_simp) <;> (with_reducible rfl)
    try simp only [Act.put, List.setIfInBounds_toArray, List.set_cons_zero, List.set_cons_succ]
    refine hw_load (i := 9) (oi := ⟨some 20, _, _, _, _, _⟩) (v := ?v11) _ (mS (mS (mS mZ))) rfl (by kernel_rfl) (by kernel_rfl) (by kernel_rfl) (by kernel_rfl) (fun _ _ _ h => h) rfl (by kernel_rfl) ?hv11 ?rv11
    case hv11 => (intro w hSw; (try dsimp only at hSw); go_simp) <;> (with_reducible rfl)
    try simp only [Act.put, List.setIfInBounds_toArray, List.set_cons_zero, List.set_cons_succ]
    refine hw_ready (rs := [10, 11]) (by kernel_rfl) (by simp) ?_
    refine AllHW.cons (i := 10) (o := ⟨some 7, _, _, _, _, _⟩) rfl rfl (by kernel_rfl) (fun K hK => ?s12) ?ms12
    case s12 =>
      (try go_simp)
      refine (fun (W13 : World) (hRn : RW w _ [(W1.heap.size, (.cells #[.int .i64 0, .int .i64 0, .int .i64 0, .int .i64 0, .int .i64 0, .int .i64 0, .int .i64 0] 77)), (w.heap.size, (.cells #[.int .i64 m.n, (.slice (some ⟨b, off, none⟩) rs.length c1), (.slice A2 ls.length c2), (.slice A3 p3 c3), .int .i64 m.fall, .int .i64 m.win, .int .i64 m.hold, .int .i64 m.dawn, .int .i64 m.dusk] 26))] [] W13) (hzW13 : Hid (W13.heap.size = W1.heap.size + 1)) => hK.out _ W13 (fM ⟨.inr (hRn.frm.cells (mS mZ)), fM ⟨.inr (rep_at H1.out hRn.frm.b HXI.out), fM ⟨.inr (hRn.frm.cells (mS mZ)), fM ⟨.inr (rep_at H1.out hRn.frm.b HXK.out), (by simp)⟩⟩⟩⟩) ?_) _ (HR.out.add (.cells #[.int .i64 0, .int .i64 0, .int .i64 0, .int .i64 0, .int .i64 0, .int .i64 0, .int .i64 0] 77) rfl) (Lib.hid (by simp))
      clear HR
      have HR := Lib.hid hRn
      clear hRn
      refine hw_ready (rs := [11]) (by kernel_rfl) (by simp) ?_
      refine AllHW.cons (i := 11) (o := ⟨some 8, _, _, _, _, _⟩) rfl rfl (by kernel_rfl) (fun K hK => ?s14) ?ms14
      case s14 =>
        (try go_simp)
        refine (fun (W15 : World) (hRn : RW w _ [(W13.heap.size, (.cells #[.int .i64 0, .int .i64 0, .int .i64 0, .int .i64 0, .int .i64 0, .int .i64 0, .int .i64 0] 77)), (W1.heap.size, (.cells #[.int .i64 0, .int .i64 0, .int .i64 0, .int .i64 0, .int .i64 0, .int .i64 0, .int .i64 0] 77)), (w.heap.size, (.cells #[.int .i64 m.n, (.slice (some ⟨b, off, none⟩) rs.length c1), (.slice A2 ls.length c2), (.slice A3 p3 c3), .int .i64 m.fall, .int .i64 m.win, .int .i64 m.hold, .int .i64 m.dawn, .int .i64 m.dusk] 26))] [] W15) (hzW15 : Hid (W15.heap.size = W13.heap.size + 1)) => hK.out _ W15 (fM ⟨.inr (hRn.frm.cells (mS (mS mZ))), fM ⟨.inr (rep_at H1.out hRn.frm.b HXI.out), fM ⟨.inr (hRn.frm.cells (mS (mS mZ))), fM ⟨.inr (rep_at H1.out hRn.frm.b HXK.out), (by simp)⟩⟩⟩⟩) ?_) _ (HR.out.add (.cells #[.int .i64 0, .int .i64 0, .int .i64 0, .int .i64 0, .int .i64 0, .int .i64 0, .int .i64 0] 77) rfl) (Lib.hid (by simp))
        clear HR
        have HR := Lib.hid hRn
        clear hRn
        refine hw_ready (rs := [12]) (by kernel_rfl) (by simp) ?_
        refine AllHW.cons (i := 12) (o := ⟨none, _, _, _, _, _⟩) rfl rfl (by kernel_rfl) (fun K hK => ?s16) ?ms16
        case s16 =>
          have u0 := (boxCells (HR.out.frm.h _ (mS mZ))).1
          have f0 := (boxCells (HR.out.frm.h _ (mS mZ))).2
          have l0 := lt_of_blk (HR.out.frm.h _ (mS mZ))
          (try go_simp)
          clear u0 f0 l0
          refine (fun (W17 : World) (hRn : RW w _ [(W1.heap.size, (.cells #[.int .i64 rx.st, .int .i64 rx.tk, .int .i64 rx.pr, .int .i64 rx.dlo, .int .i64 rx.dhi, .int .i64 rx.ur, .int .i64 rx.co] 77)), (W13.heap.size, (.cells #[.int .i64 0, .int .i64 0, .int .i64 0, .int .i64 0, .int .i64 0, .int .i64 0, .int .i64 0] 77)), (w.heap.size, (.cells #[.int .i64 m.n, (.slice (some ⟨b, off, none⟩) rs.length c1), (.slice A2 ls.length c2), (.slice A3 p3 c3), .int .i64 m.fall, .int .i64 m.win, .int .i64 m.hold, .int .i64 m.dawn, .int .i64 m.dusk] 26))] [] W17) (hzW17 : Hid (W17.heap.size = W15.heap.size)) => hK.out _ W17 (fM ⟨.inl (by kernel_rfl), fM ⟨.inl (by kernel_rfl), fM ⟨.inr (hRn.frm.cells (mS (mS mZ))), fM ⟨.inr (rep_at H1.out hRn.frm.b HXK.out), (by simp)⟩⟩⟩⟩) ?_) _ ((RW.put (RW.put (RW.put (RW.put (RW.put (RW.put (RW.put (RW.less (bs' := [(W1.heap.size, (.cells #[.int .i64 0, .int .i64 0, .int .i64 0, .int .i64 0, .int .i64 0, .int .i64 0, .int .i64 0] 77)), (W13.heap.size, (.cells #[.int .i64 0, .int .i64 0, .int .i64 0, .int .i64 0, .int .i64 0, .int .i64 0, .int .i64 0] 77)), (w.heap.size, (.cells #[.int .i64 m.n, (.slice (some ⟨b, off, none⟩) rs.length c1), (.slice A2 ls.length c2), (.slice A3 p3 c3), .int .i64 m.fall, .int .i64 m.win, .int .i64 m.hold, .int .i64 m.dawn, .int .i64 m.dusk] 26))]) HR.out (by simp only [List.forall_mem_cons, List.forall_mem_nil, and_true]; exact ⟨(mS mZ), mZ, (mS (mS mZ)), by simp⟩)) (by have := hzW1.out; have := hzW13.out; have := hzW15.out; omega) (by have := hzW1.out; have := hzW13.out; have := hzW15.out; simp <;> omega) 0 (.int .i64 rx.st)) (by have := hzW1.out; have := hzW13.out; have := hzW15.out; omega) (by have := hzW1.out; have := hzW13.out; have := hzW15.out; simp <;> omega) 1 (.int .i64 rx.tk)) (by have := hzW1.out; have := hzW13.out; have := hzW15.out; omega) (by have := hzW1.out; have := hzW13.out; have := hzW15.out; simp <;> omega) 2 (.int .i64 rx.pr)) (by have := hzW1.out; have := hzW13.out; have := hzW15.out; omega) (by have := hzW1.out; have := hzW13.out; have := hzW15.out; simp <;> omega) 3 (.int .i64 rx.dlo)) (by have := hzW1.out; have := hzW13.out; have := hzW15.out; omega) (by have := hzW1.out; have := hzW13.out; have := hzW15.out; simp <;> omega) 4 (.int .i64 rx.dhi)) (by have := hzW1.out; have := hzW13.out; have := hzW15.out; omega) (by have := hzW1.out; have := hzW13.out; have := hzW15.out; simp <;> omega) 5 (.int .i64 rx.ur)) (by have := hzW1.out; have := hzW13.out; have := hzW15.out; omega) (by have := hzW1.out; have := hzW13.out; have := hzW15.out; simp <;> omega) 6 (.int .i64 rx.co))) (Lib.hid (by simp))
          clear HR
          have HR := Lib.hid hRn
          clear hRn
          refine hw_ready (rs := [13]) (by kernel_rfl) (by simp) ?_
          refine AllHW.cons (i := 13) (o := ⟨none, _, _, _, _, _⟩) rfl rfl (by kernel_rfl) (fun K hK => ?s18) ?ms18
          case s18 =>
            have u0 := (boxCells (HR.out.frm.h _ (mS mZ))).1
            have f0 := (boxCells (HR.out.frm.h _ (mS mZ))).2
            have l0 := lt_of_blk (HR.out.frm.h _ (mS mZ))
            (try go_simp)
            clear u0 f0 l0
            refine (fun (W19 : World) (hRn : RW w _ [(W13.heap.size, (.cells #[.int .i64 ry.st, .int .i64 ry.tk, .int .i64 ry.pr, .int .i64 ry.dlo, .int .i64 ry.dhi, .int .i64 ry.ur, .int .i64 ry.co] 77)), (W1.heap.size, (.cells #[.int .i64 rx.st, .int .i64 rx.tk, .int .i64 rx.pr, .int .i64 rx.dlo, .int .i64 rx.dhi, .int .i64 rx.ur, .int .i64 rx.co] 77)), (w.heap.size, (.cells #[.int .i64 m.n, (.slice (some ⟨b, off, none⟩) rs.length c1), (.slice A2 ls.length c2), (.slice A3 p3 c3), .int .i64 m.fall, .int .i64 m.win, .int .i64 m.hold, .int .i64 m.dawn, .int .i64 m.dusk] 26))] [] W19) (hzW19 : Hid (W19.heap.size = W17.heap.size)) => hK.out _ W19 (fM ⟨.inl (by kernel_rfl), fM ⟨.inl (by kernel_rfl), fM ⟨.inl (by kernel_rfl), fM ⟨.inl (by kernel_rfl), (by simp)⟩⟩⟩⟩) ?_) _ ((RW.put (RW.put (RW.put (RW.put (RW.put (RW.put (RW.put (RW.less (bs' := [(W13.heap.size, (.cells #[.int .i64 0, .int .i64 0, .int .i64 0, .int .i64 0, .int .i64 0, .int .i64 0, .int .i64 0] 77)), (W1.heap.size, (.cells #[.int .i64 rx.st, .int .i64 rx.tk, .int .i64 rx.pr, .int .i64 rx.dlo, .int .i64 rx.dhi, .int .i64 rx.ur, .int .i64 rx.co] 77)), (w.heap.size, (.cells #[.int .i64 m.n, (.slice (some ⟨b, off, none⟩) rs.length c1), (.slice A2 ls.length c2), (.slice A3 p3 c3), .int .i64 m.fall, .int .i64 m.win, .int .i64 m.hold, .int .i64 m.dawn, .int .i64 m.dusk] 26))]) HR.out (by simp only [List.forall_mem_cons, List.forall_mem_nil, and_true]; exact ⟨(mS mZ), mZ, (mS (mS mZ)), by simp⟩)) (by have := hzW1.out; have := hzW13.out; have := hzW15.out; have := hzW17.out; omega) (by have := hzW1.out; have := hzW13.out; have := hzW15.out; have := hzW17.out; simp <;> omega) 0 (.int .i64 ry.st)) (by have := hzW1.out; have := hzW13.out; have := hzW15.out; have := hzW17.out; omega) (by have := hzW1.out; have := hzW13.out; have := hzW15.out; have := hzW17.out; simp <;> omega) 1 (.int .i64 ry.tk)) (by have := hzW1.out; have := hzW13.out; have := hzW15.out; have := hzW17.out; omega) (by have := hzW1.out; have := hzW13.out; have := hzW15.out; have := hzW17.out; simp <;> omega) 2 (.int .i64 ry.pr)) (by have := hzW1.out; have := hzW13.out; have := hzW15.out; have := hzW17.out; omega) (by have := hzW1.out; have := hzW13.out; have := hzW15.out; have := hzW17.out; simp <;> omega) 3 (.int .i64 ry.dlo)) (by have := hzW1.out; have := hzW13.out; have := hzW15.out; have := hzW17.out; omega) (by have := hzW1.out; have := hzW13.out; have := hzW15.out; have := hzW17.out; simp <;> omega) 4 (.int .i64 ry.dhi)) (by have := hzW1.out; have := hzW13.out; have := hzW15.out; have := hzW17.out; omega) (by have := hzW1.out; have := hzW13.out; have := hzW15.out; have := hzW17.out; simp <;> omega) 5 (.int .i64 ry.ur)) (by have := hzW1.out; have := hzW13.out; have := hzW15.out; have := hzW17.out; omega) (by have := hzW1.out; have := hzW13.out; have := hzW15.out; have := hzW17.out; simp <;> omega) 6 (.int .i64 ry.co))) (Lib.hid (by simp))
            clear HR
            have HR := Lib.hid hRn
            clear hRn
            refine hw_done (by kernel_rfl) ?_
            have zhzW1 := hzW1.out
            have zhzW13 := hzW13.out
            have zhzW15 := hzW15.out
            have zhzW17 := hzW17.out
            have zhzW19 := hzW19.out
            exact ⟨W1.heap.size, W13.heap.size, _, _, _, _, _, _, _, _, _, _, rfl, by omega, by omega, (RW.less (bs' := [(W13.heap.size, (.cells #[.int .i64 ry.st, .int .i64 ry.tk, .int .i64 ry.pr, .int .i64 ry.dlo, .int .i64 ry.dhi, .int .i64 ry.ur, .int .i64 ry.co] 77)), (W1.heap.size, (.cells #[.int .i64 rx.st, .int .i64 rx.tk, .int .i64 rx.pr, .int .i64 rx.dlo, .int .i64 rx.dhi, .int .i64 rx.ur, .int .i64 rx.co] 77)), (w.heap.size, (.cells #[.int .i64 m.n, (.slice (some ⟨b, off, none⟩) rs.length c1), (.slice A2 ls.length c2), (.slice A3 p3 c3), .int .i64 m.fall, .int .i64 m.win, .int .i64 m.hold, .int .i64 m.dawn, .int .i64 m.dusk] 26))]) HR.out (by simp only [List.forall_mem_cons, List.forall_mem_nil, and_true]; exact ⟨mZ, (mS mZ), (mS (mS mZ)), by simp⟩)).frm⟩
          exact AllHW.nil
        exact AllHW.nil
      exact AllHW.nil
    refine AllHW.cons (i := 11) (o := ⟨some 8, _, _, _, _, _⟩) rfl rfl (by kernel_rfl) (fun K hK => ?s20) ?ms20
    case s20 =>
      (try go_simp)
      refine (fun (W21 : World) (hRn : RW w _ [(W1.heap.size, (.cells #[.int .i64 0, .int .i64 0, .int .i64 0, .int .i64 0, .int .i64 0, .int .i64 0, .int .i64 0] 77)), (w.heap.size, (.cells #[.int .i64 m.n, (.slice (some ⟨b, off, none⟩) rs.length c1), (.slice A2 ls.length c2), (.slice A3 p3 c3), .int .i64 m.fall, .int .i64 m.win, .int .i64 m.hold, .int .i64 m.dawn, .int .i64 m.dusk] 26))] [] W21) (hzW21 : Hid (W21.heap.size = W1.heap.size + 1)) => hK.out _ W21 (fM ⟨.inr (hRn.frm.cells (mS mZ)), fM ⟨.inr (rep_at H1.out hRn.frm.b HXI.out), fM ⟨.inr (hRn.frm.cells (mS mZ)), fM ⟨.inr (rep_at H1.out hRn.frm.b HXK.out), (by simp)⟩⟩⟩⟩) ?_) _ (HR.out.add (.cells #[.int .i64 0, .int .i64 0, .int .i64 0, .int .i64 0, .int .i64 0, .int .i64 0, .int .i64 0] 77) rfl) (Lib.hid (by simp))
      clear HR
      have HR := Lib.hid hRn
      clear hRn
      refine hw_ready (rs := [10]) (by kernel_rfl) (by simp) ?_
      refine AllHW.cons (i := 10) (o := ⟨some 7, _, _, _, _, _⟩) rfl rfl (by kernel_rfl) (fun K hK => ?s22) ?ms22
      case s22 =>
        (try go_simp)
        refine (fun (W23 : World) (hRn : RW w _ [(W21.heap.size, (.cells #[.int .i64 0, .int .i64 0, .int .i64 0, .int .i64 0, .int .i64 0, .int .i64 0, .int .i64 0] 77)), (W1.heap.size, (.cells #[.int .i64 0, .int .i64 0, .int .i64 0, .int .i64 0, .int .i64 0, .int .i64 0, .int .i64 0] 77)), (w.heap.size, (.cells #[.int .i64 m.n, (.slice (some ⟨b, off, none⟩) rs.length c1), (.slice A2 ls.length c2), (.slice A3 p3 c3), .int .i64 m.fall, .int .i64 m.win, .int .i64 m.hold, .int .i64 m.dawn, .int .i64 m.dusk] 26))] [] W23) (hzW23 : Hid (W23.heap.size = W21.heap.size + 1)) => hK.out _ W23 (fM ⟨.inr (hRn.frm.cells (mS (mS mZ))), fM ⟨.inr (rep_at H1.out hRn.frm.b HXI.out), fM ⟨.inr (hRn.frm.cells (mS (mS mZ))), fM ⟨.inr (rep_at H1.out hRn.frm.b HXK.out), (by simp)⟩⟩⟩⟩) ?_) _ (HR.out.add (.cells #[.int .i64 0, .int .i64 0, .int .i64 0, .int .i64 0, .int .i64 0, .int .i64 0, .int .i64 0] 77) rfl) (Lib.hid (by simp))
        clear HR
        have HR := Lib.hid hRn
        clear hRn
        refine hw_ready (rs := [12]) (by kernel_rfl) (by simp) ?_
        refine AllHW.cons (i := 12) (o := ⟨none, _, _, _, _, _⟩) rfl rfl (by kernel_rfl) (fun K hK => ?s24) ?ms24
        case s24 =>
          have u0 := (boxCells (HR.out.frm.h _ mZ)).1
          have f0 := (boxCells (HR.out.frm.h _ mZ)).2
          have l0 := lt_of_blk (HR.out.frm.h _ mZ)
          (try go_simp)
          clear u0 f0 l0
          refine (fun (W25 : World) (hRn : RW w _ [(W21.heap.size, (.cells #[.int .i64 rx.st, .int .i64 rx.tk, .int .i64 rx.pr, .int .i64 rx.dlo, .int .i64 rx.dhi, .int .i64 rx.ur, .int .i64 rx.co] 77)), (W1.heap.size, (.cells #[.int .i64 0, .int .i64 0, .int .i64 0, .int .i64 0, .int .i64 0, .int .i64 0, .int .i64 0] 77)), (w.heap.size, (.cells #[.int .i64 m.n, (.slice (some ⟨b, off, none⟩) rs.length c1), (.slice A2 ls.length c2), (.slice A3 p3 c3), .int .i64 m.fall, .int .i64 m.win, .int .i64 m.hold, .int .i64 m.dawn, .int .i64 m.dusk] 26))] [] W25) (hzW25 : Hid (W25.heap.size = W23.heap.size)) => hK.out _ W25 (fM ⟨.inl (by kernel_rfl), fM ⟨.inl (by kernel_rfl), fM ⟨.inr (hRn.frm.cells (mS (mS mZ))), fM ⟨.inr (rep_at H1.out hRn.frm.b HXK.out), (by simp)⟩⟩⟩⟩) ?_) _ ((RW.put (RW.put (RW.put (RW.put (RW.put (RW.put (RW.put (RW.less (bs' := [(W21.heap.size, (.cells #[.int .i64 0, .int .i64 0, .int .i64 0, .int .i64 0, .int .i64 0, .int .i64 0, .int .i64 0] 77)), (W1.heap.size, (.cells #[.int .i64 0, .int .i64 0, .int .i64 0, .int .i64 0, .int .i64 0, .int .i64 0, .int .i64 0] 77)), (w.heap.size, (.cells #[.int .i64 m.n, (.slice (some ⟨b, off, none⟩) rs.length c1), (.slice A2 ls.length c2), (.slice A3 p3 c3), .int .i64 m.fall, .int .i64 m.win, .int .i64 m.hold, .int .i64 m.dawn, .int .i64 m.dusk] 26))]) HR.out (by simp only [List.forall_mem_cons, List.forall_mem_nil, and_true]; exact ⟨mZ, (mS mZ), (mS (mS mZ)), by simp⟩)) (by have := hzW1.out; have := hzW21.out; have := hzW23.out; omega) (by have := hzW1.out; have := hzW21.out; have := hzW23.out; simp <;> omega) 0 (.int .i64 rx.st)) (by have := hzW1.out; have := hzW21.out; have := hzW23.out; omega) (by have := hzW1.out; have := hzW21.out; have := hzW23.out; simp <;> omega) 1 (.int .i64 rx.tk)) (by have := hzW1.out; have := hzW21.out; have := hzW23.out; omega) (by have := hzW1.out; have := hzW21.out; have := hzW23.out; simp <;> omega) 2 (.int .i64 rx.pr)) (by have := hzW1.out; have := hzW21.out; have := hzW23.out; omega) (by have := hzW1.out; have := hzW21.out; have := hzW23.out; simp <;> omega) 3 (.int .i64 rx.dlo)) (by have := hzW1.out; have := hzW21.out; have := hzW23.out; omega) (by have := hzW1.out; have := hzW21.out; have := hzW23.out; simp <;> omega) 4 (.int .i64 rx.dhi)) (by have := hzW1.out; have := hzW21.out; have := hzW23.out; omega) (by have := hzW1.out; have := hzW21.out; have := hzW23.out; simp <;> omega) 5 (.int .i64 rx.ur)) (by have := hzW1.out; have := hzW21.out; have := hzW23.out; omega) (by have := hzW1.out; have := hzW21.out; have := hzW23.out; simp <;> omega) 6 (.int .i64 rx.co))) (Lib.hid (by simp))
          clear HR
          have HR := Lib.hid hRn
          clear hRn
          refine hw_ready (rs := [13]) (by kernel_rfl) (by simp) ?_
          refine AllHW.cons (i := 13) (o := ⟨none, _, _, _, _, _⟩) rfl rfl (by kernel_rfl) (fun K hK => ?s26) ?ms26
          case s26 =>
            have u0 := (boxCells (HR.out.frm.h _ (mS mZ))).1
            have f0 := (boxCells (HR.out.frm.h _ (mS mZ))).2
            have l0 := lt_of_blk (HR.out.frm.h _ (mS mZ))
            (try go_simp)
            clear u0 f0 l0
            refine (fun (W27 : World) (hRn : RW w _ [(W1.heap.size, (.cells #[.int .i64 ry.st, .int .i64 ry.tk, .int .i64 ry.pr, .int .i64 ry.dlo, .int .i64 ry.dhi, .int .i64 ry.ur, .int .i64 ry.co] 77)), (W21.heap.size, (.cells #[.int .i64 rx.st, .int .i64 rx.tk, .int .i64 rx.pr, .int .i64 rx.dlo, .int .i64 rx.dhi, .int .i64 rx.ur, .int .i64 rx.co] 77)), (w.heap.size, (.cells #[.int .i64 m.n, (.slice (some ⟨b, off, none⟩) rs.length c1), (.slice A2 ls.length c2), (.slice A3 p3 c3), .int .i64 m.fall, .int .i64 m.win, .int .i64 m.hold, .int .i64 m.dawn, .int .i64 m.dusk] 26))] [] W27) (hzW27 : Hid (W27.heap.size = W25.heap.size)) => hK.out _ W27 (fM ⟨.inl (by kernel_rfl), fM ⟨.inl (by kernel_rfl), fM ⟨.inl (by kernel_rfl), fM ⟨.inl (by kernel_rfl), (by simp)⟩⟩⟩⟩) ?_) _ ((RW.put (RW.put (RW.put (RW.put (RW.put (RW.put (RW.put (RW.less (bs' := [(W1.heap.size, (.cells #[.int .i64 0, .int .i64 0, .int .i64 0, .int .i64 0, .int .i64 0, .int .i64 0, .int .i64 0] 77)), (W21.heap.size, (.cells #[.int .i64 rx.st, .int .i64 rx.tk, .int .i64 rx.pr, .int .i64 rx.dlo, .int .i64 rx.dhi, .int .i64 rx.ur, .int .i64 rx.co] 77)), (w.heap.size, (.cells #[.int .i64 m.n, (.slice (some ⟨b, off, none⟩) rs.length c1), (.slice A2 ls.length c2), (.slice A3 p3 c3), .int .i64 m.fall, .int .i64 m.win, .int .i64 m.hold, .int .i64 m.dawn, .int .i64 m.dusk] 26))]) HR.out (by simp only [List.forall_mem_cons, List.forall_mem_nil, and_true]; exact ⟨(mS mZ), mZ, (mS (mS mZ)), by simp⟩)) (by have := hzW1.out; have := hzW21.out; have := hzW23.out; have := hzW25.out; omega) (by have := hzW1.out; have := hzW21.out; have := hzW23.out; have := hzW25.out; simp <;> omega) 0 (.int .i64 ry.st)) (by have := hzW1.out; have := hzW21.out; have := hzW23.out; have := hzW25.out; omega) (by have := hzW1.out; have := hzW21.out; have := hzW23.out; have := hzW25.out; simp <;> omega) 1 (.int .i64 ry.tk)) (by have := hzW1.out; have := hzW21.out; have := hzW23.out; have := hzW25.out; omega) (by have := hzW1.out; have := hzW21.out; have := hzW23.out; have := hzW25.out; simp <;> omega) 2 (.int .i64 ry.pr)) (by have := hzW1.out; have := hzW21.out; have := hzW23.out; have := hzW25.out; omega) (by have := hzW1.out; have := hzW21.out; have := hzW23.out; have := hzW25.out; simp <;> omega) 3 (.int .i64 ry.dlo)) (by have := hzW1.out; have := hzW21.out; have := hzW23.out; have := hzW25.out; omega) (by have := hzW1.out; have := hzW21.out; have := hzW23.out; have := hzW25.out; simp <;> omega) 4 (.int .i64 ry.dhi)) (by have := hzW1.out; have := hzW21.out; have := hzW23.out; have := hzW25.out; omega) (by have := hzW1.out; have := hzW21.out; have := hzW23.out; have := hzW25.out; simp <;> omega) 5 (.int .i64 ry.ur)) (by have := hzW1.out; have := hzW21.out; have := hzW23.out; have := hzW25.out; omega) (by have := hzW1.out; have := hzW21.out; have := hzW23.out; have := hzW25.out; simp <;> omega) 6 (.int .i64 ry.co))) (Lib.hid (by simp))
            clear HR
            have HR := Lib.hid hRn
            clear hRn
            refine hw_done (by kernel_rfl) ?_
            have zhzW1 := hzW1.out
            have zhzW21 := hzW21.out
            have zhzW23 := hzW23.out
            have zhzW25 := hzW25.out
            have zhzW27 := hzW27.out
            exact ⟨W21.heap.size, W1.heap.size, _, _, _, _, _, _, _, _, _, _, rfl, by omega, by omega, (RW.less (bs' := [(W1.heap.size, (.cells #[.int .i64 ry.st, .int .i64 ry.tk, .int .i64 ry.pr, .int .i64 ry.dlo, .int .i64 ry.dhi, .int .i64 ry.ur, .int .i64 ry.co] 77)), (W21.heap.size, (.cells #[.int .i64 rx.st, .int .i64 rx.tk, .int .i64 rx.pr, .int .i64 rx.dlo, .int .i64 rx.dhi, .int .i64 rx.ur, .int .i64 rx.co] 77)), (w.heap.size, (.cells #[.int .i64 m.n, (.slice (some ⟨b, off, none⟩) rs.length c1), (.slice A2 ls.length c2), (.slice A3 p3 c3), .int .i64 m.fall, .int .i64 m.win, .int .i64 m.hold, .int .i64 m.dawn, .int .i64 m.dusk] 26))]) HR.out (by simp only [List.forall_mem_cons, List.forall_mem_nil, and_true]; exact ⟨mZ, (mS mZ), (mS (mS mZ)), by simp⟩)).frm⟩
          exact AllHW.nil
        exact AllHW.nil
      exact AllHW.nil
    exact AllHW.nil
  case aft1 =>
    rintro e a1 X1 hO
    obtain ⟨rfl, p, q, v11, v12, v13, v14, v15, v16, v17, v18, v19, v20, rfl, hpw, hqw, hF⟩ := onlyN_is hO
    clear HR hO
    have HR := Lib.hid hF
    clear hF
    have x0 := HR.out.cells mZ
    have x1 := HR.out.cells (mS mZ)
    have x2 := HR.out.cells (mS (mS mZ))
    go_upto_region 2 with fail
    by_cases q0 : farI rx.tk ry.tk ≤ m.win
    rotate_left
    · have HV : Hid (alF m ls rs i k = false) := Lib.hid (by rw [HAL.out]; simp [q0])
      go_region_held3 (fun w' => (∀ o, w'.cell? ⟨p, o, none⟩ = #[Value.int .i64 rx.st, .int .i64 rx.tk, .int .i64 rx.pr, .int .i64 rx.dlo, .int .i64 rx.dhi, .int .i64 rx.ur, .int .i64 rx.co][o]?) ∧ (∀ o, w'.cell? ⟨q, o, none⟩ = #[Value.int .i64 ry.st, .int .i64 ry.tk, .int .i64 ry.pr, .int .i64 ry.dlo, .int .i64 ry.dhi, .int .i64 ry.ur, .int .i64 ry.co][o]?) ∧ (∀ o, w'.cell? ⟨w.heap.size, o, none⟩ = #[Value.int .i64 m.n, (.slice (some ⟨b, off, none⟩) rs.length c1), (.slice A2 ls.length c2), (.slice A3 p3 c3), .int .i64 m.fall, .int .i64 m.win, .int .i64 m.hold, .int .i64 m.dawn, .int .i64 m.dusk][o]?)) ((exact (fun hF : Frm w [(q, (.cells #[.int .i64 ry.st, .int .i64 ry.tk, .int .i64 ry.pr, .int .i64 ry.dlo, .int .i64 ry.dhi, .int .i64 ry.ur, .int .i64 ry.co] 77)), (p, (.cells #[.int .i64 rx.st, .int .i64 rx.tk, .int .i64 rx.pr, .int .i64 rx.dlo, .int .i64 rx.dhi, .int .i64 rx.ur, .int .i64 rx.co] 77)), (w.heap.size, (.cells #[.int .i64 m.n, (.slice (some ⟨b, off, none⟩) rs.length c1), (.slice A2 ls.length c2), (.slice A3 p3 c3), .int .i64 m.fall, .int .i64 m.win, .int .i64 m.hold, .int .i64 m.dawn, .int .i64 m.dusk] 26))] _ => ⟨hF.cells (mS mZ), hF.cells mZ, hF.cells (mS (mS mZ))⟩) (by (repeat (with_reducible first | exact HR.out | apply Frm.drew | apply Frm.alloc | apply Frm.drewN))))) ((go_at_call 91; refine (HFA.out _).mono ?_; rintro e wq ⟨rfl, rfl⟩))
      all_goals
        go_wp2_with fail
        go_ret
        exact ⟨ret_bool (by first | exact HV.out.symm | (rw [HV.out]; simp [*])), Frm.b (w := w) (by (repeat (with_reducible first | exact HR.out | apply Frm.drew | apply Frm.alloc | apply Frm.drewN)))⟩
    have HW9 := Lib.hid (show decide (farI rx.tk ry.tk ≤ m.win) = true by simp [q0])
    by_cases q1 : rx.st = ry.st
    · have b1 : (rx.st == ry.st) = true := by simp [q1]
      have HAL2 := HAL.out
      rw [if_pos q1, HW9.out, Bool.true_and] at HAL2
      have HAL3 := Lib.hid HAL2
      have HQ1 := Lib.hid q1
      clear q1 HAL2
      by_cases d1 : rx.tk < ry.tk
      · have d3 : ¬ ry.tk < rx.tk := by omega
        by_cases d2 : m.fall ≤ rx.pr - ry.pr
        · have HV : Hid (alF m ls rs i k = true) := Lib.hid (by rw [HAL3.out]; simp [d1, d2])
          go_region_held3 (fun w' => (∀ o, w'.cell? ⟨p, o, none⟩ = #[Value.int .i64 rx.st, .int .i64 rx.tk, .int .i64 rx.pr, .int .i64 rx.dlo, .int .i64 rx.dhi, .int .i64 rx.ur, .int .i64 rx.co][o]?) ∧ (∀ o, w'.cell? ⟨q, o, none⟩ = #[Value.int .i64 ry.st, .int .i64 ry.tk, .int .i64 ry.pr, .int .i64 ry.dlo, .int .i64 ry.dhi, .int .i64 ry.ur, .int .i64 ry.co][o]?) ∧ (∀ o, w'.cell? ⟨w.heap.size, o, none⟩ = #[Value.int .i64 m.n, (.slice (some ⟨b, off, none⟩) rs.length c1), (.slice A2 ls.length c2), (.slice A3 p3 c3), .int .i64 m.fall, .int .i64 m.win, .int .i64 m.hold, .int .i64 m.dawn, .int .i64 m.dusk][o]?)) ((exact (fun hF : Frm w [(q, (.cells #[.int .i64 ry.st, .int .i64 ry.tk, .int .i64 ry.pr, .int .i64 ry.dlo, .int .i64 ry.dhi, .int .i64 ry.ur, .int .i64 ry.co] 77)), (p, (.cells #[.int .i64 rx.st, .int .i64 rx.tk, .int .i64 rx.pr, .int .i64 rx.dlo, .int .i64 rx.dhi, .int .i64 rx.ur, .int .i64 rx.co] 77)), (w.heap.size, (.cells #[.int .i64 m.n, (.slice (some ⟨b, off, none⟩) rs.length c1), (.slice A2 ls.length c2), (.slice A3 p3 c3), .int .i64 m.fall, .int .i64 m.win, .int .i64 m.hold, .int .i64 m.dawn, .int .i64 m.dusk] 26))] _ => ⟨hF.cells (mS mZ), hF.cells mZ, hF.cells (mS (mS mZ))⟩) (by (repeat (with_reducible first | exact HR.out | apply Frm.drew | apply Frm.alloc | apply Frm.drewN))))) ((go_at_call 91; refine (HFA.out _).mono ?_; rintro e wq ⟨rfl, rfl⟩))
          all_goals
            go_wp2_with fail
            go_ret
            exact ⟨ret_bool (by first | exact HV.out.symm | (rw [HV.out]; simp [*])), Frm.b (w := w) (by (repeat (with_reducible first | exact HR.out | apply Frm.drew | apply Frm.alloc | apply Frm.drewN)))⟩
        · have HV : Hid (alF m ls rs i k = false) := Lib.hid (by rw [HAL3.out]; simp [d2, d3])
          go_region_held3 (fun w' => (∀ o, w'.cell? ⟨p, o, none⟩ = #[Value.int .i64 rx.st, .int .i64 rx.tk, .int .i64 rx.pr, .int .i64 rx.dlo, .int .i64 rx.dhi, .int .i64 rx.ur, .int .i64 rx.co][o]?) ∧ (∀ o, w'.cell? ⟨q, o, none⟩ = #[Value.int .i64 ry.st, .int .i64 ry.tk, .int .i64 ry.pr, .int .i64 ry.dlo, .int .i64 ry.dhi, .int .i64 ry.ur, .int .i64 ry.co][o]?) ∧ (∀ o, w'.cell? ⟨w.heap.size, o, none⟩ = #[Value.int .i64 m.n, (.slice (some ⟨b, off, none⟩) rs.length c1), (.slice A2 ls.length c2), (.slice A3 p3 c3), .int .i64 m.fall, .int .i64 m.win, .int .i64 m.hold, .int .i64 m.dawn, .int .i64 m.dusk][o]?)) ((exact (fun hF : Frm w [(q, (.cells #[.int .i64 ry.st, .int .i64 ry.tk, .int .i64 ry.pr, .int .i64 ry.dlo, .int .i64 ry.dhi, .int .i64 ry.ur, .int .i64 ry.co] 77)), (p, (.cells #[.int .i64 rx.st, .int .i64 rx.tk, .int .i64 rx.pr, .int .i64 rx.dlo, .int .i64 rx.dhi, .int .i64 rx.ur, .int .i64 rx.co] 77)), (w.heap.size, (.cells #[.int .i64 m.n, (.slice (some ⟨b, off, none⟩) rs.length c1), (.slice A2 ls.length c2), (.slice A3 p3 c3), .int .i64 m.fall, .int .i64 m.win, .int .i64 m.hold, .int .i64 m.dawn, .int .i64 m.dusk] 26))] _ => ⟨hF.cells (mS mZ), hF.cells mZ, hF.cells (mS (mS mZ))⟩) (by (repeat (with_reducible first | exact HR.out | apply Frm.drew | apply Frm.alloc | apply Frm.drewN))))) ((go_at_call 91; refine (HFA.out _).mono ?_; rintro e wq ⟨rfl, rfl⟩))
          all_goals
            go_wp2_with fail
            go_ret
            exact ⟨ret_bool (by first | exact HV.out.symm | (rw [HV.out]; simp [*])), Frm.b (w := w) (by (repeat (with_reducible first | exact HR.out | apply Frm.drew | apply Frm.alloc | apply Frm.drewN)))⟩
      · by_cases d3 : ry.tk < rx.tk
        · by_cases d4 : m.fall ≤ ry.pr - rx.pr
          · have HV : Hid (alF m ls rs i k = true) := Lib.hid (by rw [HAL3.out]; simp [d3, d4])
            go_region_held3 (fun w' => (∀ o, w'.cell? ⟨p, o, none⟩ = #[Value.int .i64 rx.st, .int .i64 rx.tk, .int .i64 rx.pr, .int .i64 rx.dlo, .int .i64 rx.dhi, .int .i64 rx.ur, .int .i64 rx.co][o]?) ∧ (∀ o, w'.cell? ⟨q, o, none⟩ = #[Value.int .i64 ry.st, .int .i64 ry.tk, .int .i64 ry.pr, .int .i64 ry.dlo, .int .i64 ry.dhi, .int .i64 ry.ur, .int .i64 ry.co][o]?) ∧ (∀ o, w'.cell? ⟨w.heap.size, o, none⟩ = #[Value.int .i64 m.n, (.slice (some ⟨b, off, none⟩) rs.length c1), (.slice A2 ls.length c2), (.slice A3 p3 c3), .int .i64 m.fall, .int .i64 m.win, .int .i64 m.hold, .int .i64 m.dawn, .int .i64 m.dusk][o]?)) ((exact (fun hF : Frm w [(q, (.cells #[.int .i64 ry.st, .int .i64 ry.tk, .int .i64 ry.pr, .int .i64 ry.dlo, .int .i64 ry.dhi, .int .i64 ry.ur, .int .i64 ry.co] 77)), (p, (.cells #[.int .i64 rx.st, .int .i64 rx.tk, .int .i64 rx.pr, .int .i64 rx.dlo, .int .i64 rx.dhi, .int .i64 rx.ur, .int .i64 rx.co] 77)), (w.heap.size, (.cells #[.int .i64 m.n, (.slice (some ⟨b, off, none⟩) rs.length c1), (.slice A2 ls.length c2), (.slice A3 p3 c3), .int .i64 m.fall, .int .i64 m.win, .int .i64 m.hold, .int .i64 m.dawn, .int .i64 m.dusk] 26))] _ => ⟨hF.cells (mS mZ), hF.cells mZ, hF.cells (mS (mS mZ))⟩) (by (repeat (with_reducible first | exact HR.out | apply Frm.drew | apply Frm.alloc | apply Frm.drewN))))) ((go_at_call 91; refine (HFA.out _).mono ?_; rintro e wq ⟨rfl, rfl⟩))
            all_goals
              go_wp2_with fail
              go_ret
              exact ⟨ret_bool (by first | exact HV.out.symm | (rw [HV.out]; simp [*])), Frm.b (w := w) (by (repeat (with_reducible first | exact HR.out | apply Frm.drew | apply Frm.alloc | apply Frm.drewN)))⟩
          · have HV : Hid (alF m ls rs i k = false) := Lib.hid (by rw [HAL3.out]; simp [d1, d4])
            go_region_held3 (fun w' => (∀ o, w'.cell? ⟨p, o, none⟩ = #[Value.int .i64 rx.st, .int .i64 rx.tk, .int .i64 rx.pr, .int .i64 rx.dlo, .int .i64 rx.dhi, .int .i64 rx.ur, .int .i64 rx.co][o]?) ∧ (∀ o, w'.cell? ⟨q, o, none⟩ = #[Value.int .i64 ry.st, .int .i64 ry.tk, .int .i64 ry.pr, .int .i64 ry.dlo, .int .i64 ry.dhi, .int .i64 ry.ur, .int .i64 ry.co][o]?) ∧ (∀ o, w'.cell? ⟨w.heap.size, o, none⟩ = #[Value.int .i64 m.n, (.slice (some ⟨b, off, none⟩) rs.length c1), (.slice A2 ls.length c2), (.slice A3 p3 c3), .int .i64 m.fall, .int .i64 m.win, .int .i64 m.hold, .int .i64 m.dawn, .int .i64 m.dusk][o]?)) ((exact (fun hF : Frm w [(q, (.cells #[.int .i64 ry.st, .int .i64 ry.tk, .int .i64 ry.pr, .int .i64 ry.dlo, .int .i64 ry.dhi, .int .i64 ry.ur, .int .i64 ry.co] 77)), (p, (.cells #[.int .i64 rx.st, .int .i64 rx.tk, .int .i64 rx.pr, .int .i64 rx.dlo, .int .i64 rx.dhi, .int .i64 rx.ur, .int .i64 rx.co] 77)), (w.heap.size, (.cells #[.int .i64 m.n, (.slice (some ⟨b, off, none⟩) rs.length c1), (.slice A2 ls.length c2), (.slice A3 p3 c3), .int .i64 m.fall, .int .i64 m.win, .int .i64 m.hold, .int .i64 m.dawn, .int .i64 m.dusk] 26))] _ => ⟨hF.cells (mS mZ), hF.cells mZ, hF.cells (mS (mS mZ))⟩) (by (repeat (with_reducible first | exact HR.out | apply Frm.drew | apply Frm.alloc | apply Frm.drewN))))) ((go_at_call 91; refine (HFA.out _).mono ?_; rintro e wq ⟨rfl, rfl⟩))
            all_goals
              go_wp2_with fail
              go_ret
              exact ⟨ret_bool (by first | exact HV.out.symm | (rw [HV.out]; simp [*])), Frm.b (w := w) (by (repeat (with_reducible first | exact HR.out | apply Frm.drew | apply Frm.alloc | apply Frm.drewN)))⟩
        · have HV : Hid (alF m ls rs i k = false) := Lib.hid (by rw [HAL3.out]; simp [d1, d3])
          go_region_held3 (fun w' => (∀ o, w'.cell? ⟨p, o, none⟩ = #[Value.int .i64 rx.st, .int .i64 rx.tk, .int .i64 rx.pr, .int .i64 rx.dlo, .int .i64 rx.dhi, .int .i64 rx.ur, .int .i64 rx.co][o]?) ∧ (∀ o, w'.cell? ⟨q, o, none⟩ = #[Value.int .i64 ry.st, .int .i64 ry.tk, .int .i64 ry.pr, .int .i64 ry.dlo, .int .i64 ry.dhi, .int .i64 ry.ur, .int .i64 ry.co][o]?) ∧ (∀ o, w'.cell? ⟨w.heap.size, o, none⟩ = #[Value.int .i64 m.n, (.slice (some ⟨b, off, none⟩) rs.length c1), (.slice A2 ls.length c2), (.slice A3 p3 c3), .int .i64 m.fall, .int .i64 m.win, .int .i64 m.hold, .int .i64 m.dawn, .int .i64 m.dusk][o]?)) ((exact (fun hF : Frm w [(q, (.cells #[.int .i64 ry.st, .int .i64 ry.tk, .int .i64 ry.pr, .int .i64 ry.dlo, .int .i64 ry.dhi, .int .i64 ry.ur, .int .i64 ry.co] 77)), (p, (.cells #[.int .i64 rx.st, .int .i64 rx.tk, .int .i64 rx.pr, .int .i64 rx.dlo, .int .i64 rx.dhi, .int .i64 rx.ur, .int .i64 rx.co] 77)), (w.heap.size, (.cells #[.int .i64 m.n, (.slice (some ⟨b, off, none⟩) rs.length c1), (.slice A2 ls.length c2), (.slice A3 p3 c3), .int .i64 m.fall, .int .i64 m.win, .int .i64 m.hold, .int .i64 m.dawn, .int .i64 m.dusk] 26))] _ => ⟨hF.cells (mS mZ), hF.cells mZ, hF.cells (mS (mS mZ))⟩) (by (repeat (with_reducible first | exact HR.out | apply Frm.drew | apply Frm.alloc | apply Frm.drewN))))) ((go_at_call 91; refine (HFA.out _).mono ?_; rintro e wq ⟨rfl, rfl⟩))
          all_goals
            go_wp2_with fail
            go_ret
            exact ⟨ret_bool (by first | exact HV.out.symm | (rw [HV.out]; simp [*])), Frm.b (w := w) (by (repeat (with_reducible first | exact HR.out | apply Frm.drew | apply Frm.alloc | apply Frm.drewN)))⟩
    · have b1 : (rx.st == ry.st) = false := by simp [q1]
      have HG := Lib.hid q1
      clear q1
      go_region_held3 (fun w' => (∀ o, w'.cell? ⟨p, o, none⟩ = #[Value.int .i64 rx.st, .int .i64 rx.tk, .int .i64 rx.pr, .int .i64 rx.dlo, .int .i64 rx.dhi, .int .i64 rx.ur, .int .i64 rx.co][o]?) ∧ (∀ o, w'.cell? ⟨q, o, none⟩ = #[Value.int .i64 ry.st, .int .i64 ry.tk, .int .i64 ry.pr, .int .i64 ry.dlo, .int .i64 ry.dhi, .int .i64 ry.ur, .int .i64 ry.co][o]?) ∧ (∀ o, w'.cell? ⟨w.heap.size, o, none⟩ = #[Value.int .i64 m.n, (.slice (some ⟨b, off, none⟩) rs.length c1), (.slice A2 ls.length c2), (.slice A3 p3 c3), .int .i64 m.fall, .int .i64 m.win, .int .i64 m.hold, .int .i64 m.dawn, .int .i64 m.dusk][o]?)) ((exact (fun hF : Frm w [(q, (.cells #[.int .i64 ry.st, .int .i64 ry.tk, .int .i64 ry.pr, .int .i64 ry.dlo, .int .i64 ry.dhi, .int .i64 ry.ur, .int .i64 ry.co] 77)), (p, (.cells #[.int .i64 rx.st, .int .i64 rx.tk, .int .i64 rx.pr, .int .i64 rx.dlo, .int .i64 rx.dhi, .int .i64 rx.ur, .int .i64 rx.co] 77)), (w.heap.size, (.cells #[.int .i64 m.n, (.slice (some ⟨b, off, none⟩) rs.length c1), (.slice A2 ls.length c2), (.slice A3 p3 c3), .int .i64 m.fall, .int .i64 m.win, .int .i64 m.hold, .int .i64 m.dawn, .int .i64 m.dusk] 26))] _ => ⟨hF.cells (mS mZ), hF.cells mZ, hF.cells (mS (mS mZ))⟩) (by (repeat (with_reducible first | exact HR.out | apply Frm.drew | apply Frm.alloc | apply Frm.drewN))))) ((go_at_call 91; refine (HFA.out _).mono ?_; rintro e wq ⟨rfl, rfl⟩))
      go_wp2_with fail
      go_loopw [9, 10] (fun j _ wr => ∃ n : Nat, n ≤ ls.length ∧ j = .int .i64 n ∧ (ls.take n).any (hitB rx ry) = false ∧ Frm w [(q, (.cells #[.int .i64 ry.st, .int .i64 ry.tk, .int .i64 ry.pr, .int .i64 ry.dlo, .int .i64 ry.dhi, .int .i64 ry.ur, .int .i64 ry.co] 77)), (p, (.cells #[.int .i64 rx.st, .int .i64 rx.tk, .int .i64 rx.pr, .int .i64 rx.dlo, .int .i64 rx.dhi, .int .i64 rx.ur, .int .i64 rx.co] 77)), (w.heap.size, (.cells #[.int .i64 m.n, (.slice (some ⟨b, off, none⟩) rs.length c1), (.slice A2 ls.length c2), (.slice A3 p3 c3), .int .i64 m.fall, .int .i64 m.win, .int .i64 m.hold, .int .i64 m.dawn, .int .i64 m.dusk] 26))] wr) (fun j _ _ => ls.length - (intOf j).toNat)
      case atStart => exact ⟨0, Nat.zero_le _, rfl, by simp, (by (repeat (with_reducible first | exact HR.out | apply Frm.drew | apply Frm.alloc | apply Frm.drewN)))⟩
      case round =>
        obtain ⟨n, hn, rfl, hall, hF⟩ := hrel
        clear HR x0 x1 x2
        have HR := Lib.hid hF
        have HA := Lib.hid hall
        clear hF hall
        have x2 := HR.out.cells (mS (mS mZ))
        by_cases hnl : n < ls.length
        · obtain ⟨x, hx⟩ : ∃ x, ls[n]? = some x := ⟨_, List.getElem?_eq_getElem hnl⟩
          obtain ⟨lb, lo, hA, hcap, hmx, c00, c10, c20⟩ := lnk_cells (Rws.below H2.out HR.out.b (Nat.le_refl _)) hx
          unfold maxLen at hmx
          subst hA
          have HX := Lib.hid hx
          clear hx
          go_upto_region 10 with fail
          have HRq := Lib.hid (HR.out.add (lnkBox x) rfl)
          clear HR x2 c00 c10 c20
          have HR := HRq
          clear HRq
          by_cases e1 : x.a = rx.st
          · have be1 : (x.a == rx.st) = true := by simp [e1]
            by_cases e2 : x.b = ry.st
            · have be2 : (x.b == ry.st) = true := by simp [e2]
              by_cases e5 : x.df ≤ farI rx.pr ry.pr
              · have c5 : decide (x.df ≤ farI rx.pr ry.pr) = true := by simp [e5]
                have HV : Hid (alF m ls rs i k = true) := Lib.hid (by rw [HAL.out, if_neg HG.out, HW9.out]; simp only [Bool.true_and]; exact List.any_eq_true.2 ⟨x, List.mem_of_getElem? HX.out, by simp [hitB, HG.out, Ne.symm HG.out, e1, e2, e5]⟩)
                have He1 := Lib.hid e1
                clear e1
                have He2 := Lib.hid e2
                clear e2
                have He5 := Lib.hid e5
                clear e5
                refine wp_region_held_drew (S := fun w' => (∀ o, w'.cell? ⟨wr.heap.size, o, none⟩ = #[Value.int .i64 x.a, .int .i64 x.b, .int .i64 x.df][o]?) ∧ (∀ o, w'.cell? ⟨p, o, none⟩ = #[Value.int .i64 rx.st, .int .i64 rx.tk, .int .i64 rx.pr, .int .i64 rx.dlo, .int .i64 rx.dhi, .int .i64 rx.ur, .int .i64 rx.co][o]?) ∧ (∀ o, w'.cell? ⟨q, o, none⟩ = #[Value.int .i64 ry.st, .int .i64 ry.tk, .int .i64 ry.pr, .int .i64 ry.dlo, .int .i64 ry.dhi, .int .i64 ry.ur, .int .i64 ry.co][o]?)) (by kernel_rfl) ?_ (fun hHeld => ?_)
                · (try dsimp only); exact (fun hF : Frm w [(wr.heap.size, (lnkBox x)), (q, (.cells #[.int .i64 ry.st, .int .i64 ry.tk, .int .i64 ry.pr, .int .i64 ry.dlo, .int .i64 ry.dhi, .int .i64 ry.ur, .int .i64 ry.co] 77)), (p, (.cells #[.int .i64 rx.st, .int .i64 rx.tk, .int .i64 rx.pr, .int .i64 rx.dlo, .int .i64 rx.dhi, .int .i64 rx.ur, .int .i64 rx.co] 77)), (w.heap.size, (.cells #[.int .i64 m.n, (.slice (some ⟨b, off, none⟩) rs.length c1), (.slice (some ⟨lb, lo, none⟩) ls.length c2), (.slice A3 p3 c3), .int .i64 m.fall, .int .i64 m.win, .int .i64 m.hold, .int .i64 m.dawn, .int .i64 m.dusk] 26))] _ => ⟨hF.cells mZ, hF.cells (mS (mS mZ)), hF.cells (mS mZ)⟩) (by (repeat (with_reducible first | exact HR.out | apply Frm.drew | apply Frm.alloc | apply Frm.drewN)))
                refine wpAnyH_take (i := 0) (oi := ⟨some 78, _, _, _, _, _⟩) (v := ?vq1_0) rfl (by kernel_rfl) (by kernel_rfl) (by kernel_rfl) (fun _ _ _ h => h) (Or.inl ⟨by kernel_rfl, ?hyq1_0⟩) (by assumption) ?restq1_0
                case hyq1_0 => (intro w hSw; (try dsimp only at hSw); go_simp) <;> (with_reducible rfl)
                try simp only [Act.put, List.setIfInBounds_toArray, List.set_cons_zero, List.set_cons_succ]
                refine wpAnyH_take (i := 1) (oi := ⟨some 79, _, _, _, _, _⟩) (v := ?vq1_1) rfl (by kernel_rfl) (by kernel_rfl) (by kernel_rfl) (fun _ _ _ h => h) (Or.inl ⟨by kernel_rfl, ?hyq1_1⟩) (by assumption) ?restq1_1
                case hyq1_1 => (intro w hSw; (try dsimp only at hSw); go_simp) <;> (with_reducible rfl)
                try simp only [Act.put, List.setIfInBounds_toArray, List.set_cons_zero, List.set_cons_succ]
                refine wpAnyH_take (i := 2) (oi := ⟨some 80, _, _, _, _, _⟩) (v := ?vq1_2) rfl (by kernel_rfl) (by kernel_rfl) (by kernel_rfl) (fun _ _ _ h => h) (Or.inl ⟨by kernel_rfl, ?hyq1_2⟩) (by assumption) ?restq1_2
                case hyq1_2 => (intro w hSw; (try dsimp only at hSw); go_simp) <;> (with_reducible rfl)
                try simp only [Act.put, List.setIfInBounds_toArray, List.set_cons_zero, List.set_cons_succ]
                refine wpAnyH_take (i := 3) (oi := ⟨some 81, _, _, _, _, _⟩) (v := ?vq1_3) rfl (by kernel_rfl) (by kernel_rfl) (by kernel_rfl) (fun _ _ _ h => h) (Or.inl ⟨by kernel_rfl, ?hyq1_3⟩) (by assumption) ?restq1_3
                case hyq1_3 => (intro w hSw; (try dsimp only at hSw); go_simp) <;> (with_reducible rfl)
                try simp only [Act.put, List.setIfInBounds_toArray, List.set_cons_zero, List.set_cons_succ]
                refine wpAnyH_take (i := 4) (oi := ⟨some 82, _, _, _, _, _⟩) (v := ?vq1_4) rfl (by kernel_rfl) (by kernel_rfl) (by kernel_rfl) (fun _ _ _ h => h) (Or.inl ⟨by kernel_rfl, ?hyq1_4⟩) (by assumption) ?restq1_4
                case hyq1_4 => (intro w hSw; (try dsimp only at hSw); go_simp) <;> (with_reducible rfl)
                try simp only [Act.put, List.setIfInBounds_toArray, List.set_cons_zero, List.set_cons_succ]
                refine wpAnyH_take (i := 5) (oi := ⟨some 83, _, _, _, _, _⟩) (v := ?vq1_5) rfl (by kernel_rfl) (by kernel_rfl) (by kernel_rfl) (fun _ _ _ h => h) (Or.inl ⟨by kernel_rfl, ?hyq1_5⟩) (by assumption) ?restq1_5
                case hyq1_5 => (intro w hSw; (try dsimp only at hSw); go_simp) <;> (with_reducible rfl)
                try simp only [Act.put, List.setIfInBounds_toArray, List.set_cons_zero, List.set_cons_succ]
                refine wpAnyH_take (i := 6) (oi := ⟨some 84, _, _, _, _, _⟩) (v := ?vq1_6) rfl (by kernel_rfl) (by kernel_rfl) (by kernel_rfl) (fun _ _ _ h => h) (Or.inl ⟨by kernel_rfl, ?hyq1_6⟩) (by assumption) ?restq1_6
                case hyq1_6 => (intro w hSw; (try dsimp only at hSw); go_simp) <;> (with_reducible rfl)
                try simp only [Act.put, List.setIfInBounds_toArray, List.set_cons_zero, List.set_cons_succ]
                refine wpAnyH_take (i := 7) (oi := ⟨some 85, _, _, _, _, _⟩) (v := ?vq1_7) rfl (by kernel_rfl) (by kernel_rfl) (by kernel_rfl) (fun _ _ _ h => h) (Or.inl ⟨by kernel_rfl, ?hyq1_7⟩) (by assumption) ?restq1_7
                case hyq1_7 => (intro w hSw; (try dsimp only at hSw); go_simp) <;> (with_reducible rfl)
                try simp only [Act.put, List.setIfInBounds_toArray, List.set_cons_zero, List.set_cons_succ]
                refine wpAnyH_take (i := 8) (oi := ⟨some 86, _, _, _, _, _⟩) (v := ?vq1_8) rfl (by kernel_rfl) (by kernel_rfl) (by kernel_rfl) (fun _ _ _ h => h) (Or.inl ⟨by kernel_rfl, ?hyq1_8⟩) (by assumption) ?restq1_8
                case hyq1_8 => (intro w hSw; (try dsimp only at hSw); go_simp) <;> (with_reducible rfl)
                try simp only [Act.put, List.setIfInBounds_toArray, List.set_cons_zero, List.set_cons_succ]
                refine wpAnyH_take (i := 9) (oi := ⟨some 87, _, _, _, _, _⟩) (v := ?vq1_9) rfl (by kernel_rfl) (by kernel_rfl) (by kernel_rfl) (fun _ _ _ h => h) (Or.inl ⟨by kernel_rfl, ?hyq1_9⟩) (by assumption) ?restq1_9
                case hyq1_9 => (intro w hSw; (try dsimp only at hSw); go_simp) <;> (with_reducible rfl)
                try simp only [Act.put, List.setIfInBounds_toArray, List.set_cons_zero, List.set_cons_succ]
                refine wpAnyH_take (i := 10) (oi := ⟨some 88, _, _, _, _, _⟩) (v := ?vq1_10) rfl (by kernel_rfl) (by kernel_rfl) (by kernel_rfl) (fun _ _ _ h => h) (Or.inl ⟨by kernel_rfl, ?hyq1_10⟩) (by assumption) ?restq1_10
                case hyq1_10 => (intro w hSw; (try dsimp only at hSw); go_simp) <;> (with_reducible rfl)
                try simp only [Act.put, List.setIfInBounds_toArray, List.set_cons_zero, List.set_cons_succ]
                refine wpAnyH_take (i := 11) (oi := ⟨some 89, _, _, _, _, _⟩) (v := ?vq1_11) rfl (by kernel_rfl) (by kernel_rfl) (by kernel_rfl) (fun _ _ _ h => h) (Or.inl ⟨by kernel_rfl, ?hyq1_11⟩) (by assumption) ?restq1_11
                case hyq1_11 => (intro w hSw; (try dsimp only at hSw); go_simp) <;> (with_reducible rfl)
                try simp only [Act.put, List.setIfInBounds_toArray, List.set_cons_zero, List.set_cons_succ]
                refine wpAnyH_take (i := 12) (oi := ⟨some 90, _, _, _, _, _⟩) (v := ?vq1_12) rfl (by kernel_rfl) (by kernel_rfl) (by kernel_rfl) (fun _ _ _ h => h) (Or.inl ⟨by kernel_rfl, ?hyq1_12⟩) (by assumption) ?restq1_12
                case hyq1_12 => (intro w hSw; (try dsimp only at hSw); go_simp) <;> (with_reducible rfl)
                try simp only [Act.put, List.setIfInBounds_toArray, List.set_cons_zero, List.set_cons_succ]
                refine wpAnyH_take (i := 13) (oi := ⟨some 91, _, _, _, _, _⟩) (v := undef) rfl (by kernel_rfl) (by kernel_rfl) (by kernel_rfl) (fun _ _ _ h => h) (Or.inr ⟨by kernel_rfl, rfl⟩) (by assumption) ?_
                try simp only [Act.put, List.setIfInBounds_toArray, List.set_cons_zero, List.set_cons_succ]
                refine wpAnyH_take (i := 14) (oi := ⟨some 92, _, _, _, _, _⟩) (v := undef) rfl (by kernel_rfl) (by kernel_rfl) (by kernel_rfl) (fun _ _ _ h => h) (Or.inr ⟨by kernel_rfl, rfl⟩) (by assumption) ?_
                try simp only [Act.put, List.setIfInBounds_toArray, List.set_cons_zero, List.set_cons_succ]
                refine wpAnyH_take (i := 15) (oi := ⟨some 93, _, _, _, _, _⟩) (v := undef) rfl (by kernel_rfl) (by kernel_rfl) (by kernel_rfl) (fun _ _ _ h => h) (Or.inr ⟨by kernel_rfl, rfl⟩) (by assumption) ?_
                try simp only [Act.put, List.setIfInBounds_toArray, List.set_cons_zero, List.set_cons_succ]
                refine wpAnyH_take (i := 16) (oi := ⟨some 94, _, _, _, _, _⟩) (v := undef) rfl (by kernel_rfl) (by kernel_rfl) (by kernel_rfl) (fun _ _ _ h => h) (Or.inr ⟨by kernel_rfl, rfl⟩) (by assumption) ?_
                try simp only [Act.put, List.setIfInBounds_toArray, List.set_cons_zero, List.set_cons_succ]
                refine wpAnyH_take (i := 17) (oi := ⟨some 95, _, _, _, _, _⟩) (v := undef) rfl (by kernel_rfl) (by kernel_rfl) (by kernel_rfl) (fun _ _ _ h => h) (Or.inr ⟨by kernel_rfl, rfl⟩) (by assumption) ?_
                try simp only [Act.put, List.setIfInBounds_toArray, List.set_cons_zero, List.set_cons_succ]
                refine wpAnyH_take (i := 18) (oi := ⟨some 96, _, _, _, _, _⟩) (v := undef) rfl (by kernel_rfl) (by kernel_rfl) (by kernel_rfl) (fun _ _ _ h => h) (Or.inr ⟨by kernel_rfl, rfl⟩) (by assumption) ?_
                try simp only [Act.put, List.setIfInBounds_toArray, List.set_cons_zero, List.set_cons_succ]
                refine wpAnyH_take (i := 19) (oi := ⟨some 97, _, _, _, _, _⟩) (v := undef) rfl (by kernel_rfl) (by kernel_rfl) (by kernel_rfl) (fun _ _ _ h => h) (Or.inr ⟨by kernel_rfl, rfl⟩) (by assumption) ?_
                try simp only [Act.put, List.setIfInBounds_toArray, List.set_cons_zero, List.set_cons_succ]
                refine wpAnyH_take (i := 20) (oi := ⟨some 98, _, _, _, _, _⟩) (v := undef) rfl (by kernel_rfl) (by kernel_rfl) (by kernel_rfl) (fun _ _ _ h => h) (Or.inr ⟨by kernel_rfl, rfl⟩) (by assumption) ?_
                try simp only [Act.put, List.setIfInBounds_toArray, List.set_cons_zero, List.set_cons_succ]
                refine wpAnyH_take (i := 21) (oi := ⟨some 99, _, _, _, _, _⟩) (v := undef) rfl (by kernel_rfl) (by kernel_rfl) (by kernel_rfl) (fun _ _ _ h => h) (Or.inr ⟨by kernel_rfl, rfl⟩) (by assumption) ?_
                try simp only [Act.put, List.setIfInBounds_toArray, List.set_cons_zero, List.set_cons_succ]
                refine wpAnyH_take (i := 22) (oi := ⟨some 100, _, _, _, _, _⟩) (v := undef) rfl (by kernel_rfl) (by kernel_rfl) (by kernel_rfl) (fun _ _ _ h => h) (Or.inr ⟨by kernel_rfl, rfl⟩) (by assumption) ?_
                try simp only [Act.put, List.setIfInBounds_toArray, List.set_cons_zero, List.set_cons_succ]
                refine wpAnyH_take (i := 23) (oi := ⟨some 101, _, _, _, _, _⟩) (v := undef) rfl (by kernel_rfl) (by kernel_rfl) (by kernel_rfl) (fun _ _ _ h => h) (Or.inr ⟨by kernel_rfl, rfl⟩) (by assumption) ?_
                try simp only [Act.put, List.setIfInBounds_toArray, List.set_cons_zero, List.set_cons_succ]
                refine wpAnyH_take (i := 24) (oi := ⟨some 102, _, _, _, _, _⟩) (v := undef) rfl (by kernel_rfl) (by kernel_rfl) (by kernel_rfl) (fun _ _ _ h => h) (Or.inr ⟨by kernel_rfl, rfl⟩) (by assumption) ?_
                try simp only [Act.put, List.setIfInBounds_toArray, List.set_cons_zero, List.set_cons_succ]
                refine wpAnyH_take (i := 25) (oi := ⟨some 103, _, _, _, _, _⟩) (v := ?vq1_25) rfl (by kernel_rfl) (by kernel_rfl) (by kernel_rfl) (fun _ _ _ h => h) (Or.inl ⟨by kernel_rfl, ?hyq1_25⟩) (by assumption) ?restq1_25
                case hyq1_25 => (intro w hSw; (try dsimp only at hSw); go_simp) <;> (with_reducible rfl)
                try simp only [Act.put, List.setIfInBounds_toArray, List.set_cons_zero, List.set_cons_succ]
                refine wpAnyH_take (i := 26) (oi := ⟨some 104, _, _, _, _, _⟩) (v := ?vq1_26) rfl (by kernel_rfl) (by kernel_rfl) (by kernel_rfl) (fun _ _ _ h => h) (Or.inl ⟨by kernel_rfl, ?hyq1_26⟩) (by assumption) ?restq1_26
                case hyq1_26 => (intro w hSw; (try dsimp only at hSw); go_simp) <;> (with_reducible rfl)
                try simp only [Act.put, List.setIfInBounds_toArray, List.set_cons_zero, List.set_cons_succ]
                refine wpAnyH_take (i := 27) (oi := ⟨some 105, _, _, _, _, _⟩) (v := ?vq1_27) rfl (by kernel_rfl) (by kernel_rfl) (by kernel_rfl) (fun _ _ _ h => h) (Or.inl ⟨by kernel_rfl, ?hyq1_27⟩) (by assumption) ?restq1_27
                case hyq1_27 => (intro w hSw; (try dsimp only at hSw); go_simp) <;> (with_reducible rfl)
                try simp only [Act.put, List.setIfInBounds_toArray, List.set_cons_zero, List.set_cons_succ]
                refine wpAnyH_take (i := 28) (oi := ⟨some 106, _, _, _, _, _⟩) (v := ?vq1_28) rfl (by kernel_rfl) (by kernel_rfl) (by kernel_rfl) (fun _ _ _ h => h) (Or.inl ⟨by kernel_rfl, ?hyq1_28⟩) (by assumption) ?restq1_28
                case hyq1_28 => (intro w hSw; (try dsimp only at hSw); go_simp) <;> (with_reducible rfl)
                try simp only [Act.put, List.setIfInBounds_toArray, List.set_cons_zero, List.set_cons_succ]
                refine wpAnyH_take (i := 29) (oi := ⟨some 107, _, _, _, _, _⟩) (v := ?vq1_29) rfl (by kernel_rfl) (by kernel_rfl) (by kernel_rfl) (fun _ _ _ h => h) (Or.inl ⟨by kernel_rfl, ?hyq1_29⟩) (by assumption) ?restq1_29
                case hyq1_29 => (intro w hSw; (try dsimp only at hSw); go_simp) <;> (with_reducible rfl)
                try simp only [Act.put, List.setIfInBounds_toArray, List.set_cons_zero, List.set_cons_succ]
                refine wpAnyH_take (i := 30) (oi := ⟨some 108, _, _, _, _, _⟩) (v := ?vq1_30) rfl (by kernel_rfl) (by kernel_rfl) (by kernel_rfl) (fun _ _ _ h => h) (Or.inl ⟨by kernel_rfl, ?hyq1_30⟩) (by assumption) ?restq1_30
                case hyq1_30 => (intro w hSw; (try dsimp only at hSw); go_simp) <;> (with_reducible rfl)
                try simp only [Act.put, List.setIfInBounds_toArray, List.set_cons_zero, List.set_cons_succ]
                refine wpAnyH_take (i := 32) (oi := ⟨some 110, _, _, _, _, _⟩) (v := ?vq1_32) rfl (by kernel_rfl) (by kernel_rfl) (by kernel_rfl) (fun _ _ _ h => h) (Or.inl ⟨by kernel_rfl, ?hyq1_32⟩) (by assumption) ?restq1_32
                case hyq1_32 => (intro w hSw; (try dsimp only at hSw); go_simp) <;> (with_reducible rfl)
                try simp only [Act.put, List.setIfInBounds_toArray, List.set_cons_zero, List.set_cons_succ]
                refine wpAnyH_take (i := 33) (oi := ⟨some 111, _, _, _, _, _⟩) (v := ?vq1_33) rfl (by kernel_rfl) (by kernel_rfl) (by kernel_rfl) (fun _ _ _ h => h) (Or.inl ⟨by kernel_rfl, ?hyq1_33⟩) (by assumption) ?restq1_33
                case hyq1_33 => (intro w hSw; (try dsimp only at hSw); go_simp) <;> (with_reducible rfl)
                try simp only [Act.put, List.setIfInBounds_toArray, List.set_cons_zero, List.set_cons_succ]
                refine wpAnyH_ready (rs := [31]) (by kernel_rfl) (by simp) ?_
                refine AllReadyH.cons (o := ⟨some 109, _, _, _, _, _⟩) rfl (fun K hK => ?_) AllReadyH.nil
                go_simp
                go_at_call 91
                refine (HFB.out _).mono ?_
                rintro e wq ⟨rfl, rfl⟩
                try go_wp2_with fail
                clear hHeld
                refine hK.out _ _ ?_ (fun hHeld => ?_)
                · (try dsimp only); exact (fun hF : Frm w [(wr.heap.size, (lnkBox x)), (q, (.cells #[.int .i64 ry.st, .int .i64 ry.tk, .int .i64 ry.pr, .int .i64 ry.dlo, .int .i64 ry.dhi, .int .i64 ry.ur, .int .i64 ry.co] 77)), (p, (.cells #[.int .i64 rx.st, .int .i64 rx.tk, .int .i64 rx.pr, .int .i64 rx.dlo, .int .i64 rx.dhi, .int .i64 rx.ur, .int .i64 rx.co] 77)), (w.heap.size, (.cells #[.int .i64 m.n, (.slice (some ⟨b, off, none⟩) rs.length c1), (.slice (some ⟨lb, lo, none⟩) ls.length c2), (.slice A3 p3 c3), .int .i64 m.fall, .int .i64 m.win, .int .i64 m.hold, .int .i64 m.dawn, .int .i64 m.dusk] 26))] _ => ⟨hF.cells mZ, hF.cells (mS (mS mZ)), hF.cells (mS mZ)⟩) (by (repeat (with_reducible first | exact HR.out | apply Frm.drew | apply Frm.alloc | apply Frm.drewN)))
                clear hK K
                try simp only [Act.put, List.setIfInBounds_toArray, List.set_cons_zero, List.set_cons_succ]
                refine wpAnyH_take (i := 34) (oi := ⟨some 112, _, _, _, _, _⟩) (v := ?vq1_34) rfl (by kernel_rfl) (by kernel_rfl) (by kernel_rfl) (fun _ _ _ h => h) (Or.inl ⟨by kernel_rfl, ?hyq1_34⟩) (by assumption) ?restq1_34
                case hyq1_34 => (intro w hSw; (try dsimp only at hSw); go_simp) <;> (with_reducible rfl)
                try simp only [Act.put, List.setIfInBounds_toArray, List.set_cons_zero, List.set_cons_succ]
                refine wpAnyH_take (i := 35) (oi := ⟨some 113, _, _, _, _, _⟩) (v := ?vq1_35) rfl (by kernel_rfl) (by kernel_rfl) (by kernel_rfl) (fun _ _ _ h => h) (Or.inl ⟨by kernel_rfl, ?hyq1_35⟩) (by assumption) ?restq1_35
                case hyq1_35 => (intro w hSw; (try dsimp only at hSw); go_simp) <;> (with_reducible rfl)
                try simp only [Act.put, List.setIfInBounds_toArray, List.set_cons_zero, List.set_cons_succ]
                refine wpAnyH_done (by kernel_rfl) ?_ _
                go_wp2_with fail
                go_ret
                exact ⟨ret_bool HV.out.symm, Frm.b (w := w) (by (repeat (with_reducible first | exact HR.out | apply Frm.drew | apply Frm.alloc | apply Frm.drewN)))⟩
              · have c5 : decide (x.df ≤ farI rx.pr ry.pr) = false := by simp [e5]
                have HN : Hid (hitB rx ry x = false) := Lib.hid (by simp [hitB, HG.out, Ne.symm HG.out, e1, e2, e5])
                have He1 := Lib.hid e1
                clear e1
                have He2 := Lib.hid e2
                clear e2
                have He5 := Lib.hid e5
                clear e5
                refine wp_region_held_drew (S := fun w' => (∀ o, w'.cell? ⟨wr.heap.size, o, none⟩ = #[Value.int .i64 x.a, .int .i64 x.b, .int .i64 x.df][o]?) ∧ (∀ o, w'.cell? ⟨p, o, none⟩ = #[Value.int .i64 rx.st, .int .i64 rx.tk, .int .i64 rx.pr, .int .i64 rx.dlo, .int .i64 rx.dhi, .int .i64 rx.ur, .int .i64 rx.co][o]?) ∧ (∀ o, w'.cell? ⟨q, o, none⟩ = #[Value.int .i64 ry.st, .int .i64 ry.tk, .int .i64 ry.pr, .int .i64 ry.dlo, .int .i64 ry.dhi, .int .i64 ry.ur, .int .i64 ry.co][o]?)) (by kernel_rfl) ?_ (fun hHeld => ?_)
                · (try dsimp only); exact (fun hF : Frm w [(wr.heap.size, (lnkBox x)), (q, (.cells #[.int .i64 ry.st, .int .i64 ry.tk, .int .i64 ry.pr, .int .i64 ry.dlo, .int .i64 ry.dhi, .int .i64 ry.ur, .int .i64 ry.co] 77)), (p, (.cells #[.int .i64 rx.st, .int .i64 rx.tk, .int .i64 rx.pr, .int .i64 rx.dlo, .int .i64 rx.dhi, .int .i64 rx.ur, .int .i64 rx.co] 77)), (w.heap.size, (.cells #[.int .i64 m.n, (.slice (some ⟨b, off, none⟩) rs.length c1), (.slice (some ⟨lb, lo, none⟩) ls.length c2), (.slice A3 p3 c3), .int .i64 m.fall, .int .i64 m.win, .int .i64 m.hold, .int .i64 m.dawn, .int .i64 m.dusk] 26))] _ => ⟨hF.cells mZ, hF.cells (mS (mS mZ)), hF.cells (mS mZ)⟩) (by (repeat (with_reducible first | exact HR.out | apply Frm.drew | apply Frm.alloc | apply Frm.drewN)))
                refine wpAnyH_take (i := 0) (oi := ⟨some 78, _, _, _, _, _⟩) (v := ?vq2_0) rfl (by kernel_rfl) (by kernel_rfl) (by kernel_rfl) (fun _ _ _ h => h) (Or.inl ⟨by kernel_rfl, ?hyq2_0⟩) (by assumption) ?restq2_0
                case hyq2_0 => (intro w hSw; (try dsimp only at hSw); go_simp) <;> (with_reducible rfl)
                try simp only [Act.put, List.setIfInBounds_toArray, List.set_cons_zero, List.set_cons_succ]
                refine wpAnyH_take (i := 1) (oi := ⟨some 79, _, _, _, _, _⟩) (v := ?vq2_1) rfl (by kernel_rfl) (by kernel_rfl) (by kernel_rfl) (fun _ _ _ h => h) (Or.inl ⟨by kernel_rfl, ?hyq2_1⟩) (by assumption) ?restq2_1
                case hyq2_1 => (intro w hSw; (try dsimp only at hSw); go_simp) <;> (with_reducible rfl)
                try simp only [Act.put, List.setIfInBounds_toArray, List.set_cons_zero, List.set_cons_succ]
                refine wpAnyH_take (i := 2) (oi := ⟨some 80, _, _, _, _, _⟩) (v := ?vq2_2) rfl (by kernel_rfl) (by kernel_rfl) (by kernel_rfl) (fun _ _ _ h => h) (Or.inl ⟨by kernel_rfl, ?hyq2_2⟩) (by assumption) ?restq2_2
                case hyq2_2 => (intro w hSw; (try dsimp only at hSw); go_simp) <;> (with_reducible rfl)
                try simp only [Act.put, List.setIfInBounds_toArray, List.set_cons_zero, List.set_cons_succ]
                refine wpAnyH_take (i := 3) (oi := ⟨some 81, _, _, _, _, _⟩) (v := ?vq2_3) rfl (by kernel_rfl) (by kernel_rfl) (by kernel_rfl) (fun _ _ _ h => h) (Or.inl ⟨by kernel_rfl, ?hyq2_3⟩) (by assumption) ?restq2_3
                case hyq2_3 => (intro w hSw; (try dsimp only at hSw); go_simp) <;> (with_reducible rfl)
                try simp only [Act.put, List.setIfInBounds_toArray, List.set_cons_zero, List.set_cons_succ]
                refine wpAnyH_take (i := 4) (oi := ⟨some 82, _, _, _, _, _⟩) (v := ?vq2_4) rfl (by kernel_rfl) (by kernel_rfl) (by kernel_rfl) (fun _ _ _ h => h) (Or.inl ⟨by kernel_rfl, ?hyq2_4⟩) (by assumption) ?restq2_4
                case hyq2_4 => (intro w hSw; (try dsimp only at hSw); go_simp) <;> (with_reducible rfl)
                try simp only [Act.put, List.setIfInBounds_toArray, List.set_cons_zero, List.set_cons_succ]
                refine wpAnyH_take (i := 5) (oi := ⟨some 83, _, _, _, _, _⟩) (v := ?vq2_5) rfl (by kernel_rfl) (by kernel_rfl) (by kernel_rfl) (fun _ _ _ h => h) (Or.inl ⟨by kernel_rfl, ?hyq2_5⟩) (by assumption) ?restq2_5
                case hyq2_5 => (intro w hSw; (try dsimp only at hSw); go_simp) <;> (with_reducible rfl)
                try simp only [Act.put, List.setIfInBounds_toArray, List.set_cons_zero, List.set_cons_succ]
                refine wpAnyH_take (i := 6) (oi := ⟨some 84, _, _, _, _, _⟩) (v := ?vq2_6) rfl (by kernel_rfl) (by kernel_rfl) (by kernel_rfl) (fun _ _ _ h => h) (Or.inl ⟨by kernel_rfl, ?hyq2_6⟩) (by assumption) ?restq2_6
                case hyq2_6 => (intro w hSw; (try dsimp only at hSw); go_simp) <;> (with_reducible rfl)
                try simp only [Act.put, List.setIfInBounds_toArray, List.set_cons_zero, List.set_cons_succ]
                refine wpAnyH_take (i := 7) (oi := ⟨some 85, _, _, _, _, _⟩) (v := ?vq2_7) rfl (by kernel_rfl) (by kernel_rfl) (by kernel_rfl) (fun _ _ _ h => h) (Or.inl ⟨by kernel_rfl, ?hyq2_7⟩) (by assumption) ?restq2_7
                case hyq2_7 => (intro w hSw; (try dsimp only at hSw); go_simp) <;> (with_reducible rfl)
                try simp only [Act.put, List.setIfInBounds_toArray, List.set_cons_zero, List.set_cons_succ]
                refine wpAnyH_take (i := 8) (oi := ⟨some 86, _, _, _, _, _⟩) (v := ?vq2_8) rfl (by kernel_rfl) (by kernel_rfl) (by kernel_rfl) (fun _ _ _ h => h) (Or.inl ⟨by kernel_rfl, ?hyq2_8⟩) (by assumption) ?restq2_8
                case hyq2_8 => (intro w hSw; (try dsimp only at hSw); go_simp) <;> (with_reducible rfl)
                try simp only [Act.put, List.setIfInBounds_toArray, List.set_cons_zero, List.set_cons_succ]
                refine wpAnyH_take (i := 9) (oi := ⟨some 87, _, _, _, _, _⟩) (v := ?vq2_9) rfl (by kernel_rfl) (by kernel_rfl) (by kernel_rfl) (fun _ _ _ h => h) (Or.inl ⟨by kernel_rfl, ?hyq2_9⟩) (by assumption) ?restq2_9
                case hyq2_9 => (intro w hSw; (try dsimp only at hSw); go_simp) <;> (with_reducible rfl)
                try simp only [Act.put, List.setIfInBounds_toArray, List.set_cons_zero, List.set_cons_succ]
                refine wpAnyH_take (i := 10) (oi := ⟨some 88, _, _, _, _, _⟩) (v := ?vq2_10) rfl (by kernel_rfl) (by kernel_rfl) (by kernel_rfl) (fun _ _ _ h => h) (Or.inl ⟨by kernel_rfl, ?hyq2_10⟩) (by assumption) ?restq2_10
                case hyq2_10 => (intro w hSw; (try dsimp only at hSw); go_simp) <;> (with_reducible rfl)
                try simp only [Act.put, List.setIfInBounds_toArray, List.set_cons_zero, List.set_cons_succ]
                refine wpAnyH_take (i := 11) (oi := ⟨some 89, _, _, _, _, _⟩) (v := ?vq2_11) rfl (by kernel_rfl) (by kernel_rfl) (by kernel_rfl) (fun _ _ _ h => h) (Or.inl ⟨by kernel_rfl, ?hyq2_11⟩) (by assumption) ?restq2_11
                case hyq2_11 => (intro w hSw; (try dsimp only at hSw); go_simp) <;> (with_reducible rfl)
                try simp only [Act.put, List.setIfInBounds_toArray, List.set_cons_zero, List.set_cons_succ]
                refine wpAnyH_take (i := 12) (oi := ⟨some 90, _, _, _, _, _⟩) (v := ?vq2_12) rfl (by kernel_rfl) (by kernel_rfl) (by kernel_rfl) (fun _ _ _ h => h) (Or.inl ⟨by kernel_rfl, ?hyq2_12⟩) (by assumption) ?restq2_12
                case hyq2_12 => (intro w hSw; (try dsimp only at hSw); go_simp) <;> (with_reducible rfl)
                try simp only [Act.put, List.setIfInBounds_toArray, List.set_cons_zero, List.set_cons_succ]
                refine wpAnyH_take (i := 13) (oi := ⟨some 91, _, _, _, _, _⟩) (v := undef) rfl (by kernel_rfl) (by kernel_rfl) (by kernel_rfl) (fun _ _ _ h => h) (Or.inr ⟨by kernel_rfl, rfl⟩) (by assumption) ?_
                try simp only [Act.put, List.setIfInBounds_toArray, List.set_cons_zero, List.set_cons_succ]
                refine wpAnyH_take (i := 14) (oi := ⟨some 92, _, _, _, _, _⟩) (v := undef) rfl (by kernel_rfl) (by kernel_rfl) (by kernel_rfl) (fun _ _ _ h => h) (Or.inr ⟨by kernel_rfl, rfl⟩) (by assumption) ?_
                try simp only [Act.put, List.setIfInBounds_toArray, List.set_cons_zero, List.set_cons_succ]
                refine wpAnyH_take (i := 15) (oi := ⟨some 93, _, _, _, _, _⟩) (v := undef) rfl (by kernel_rfl) (by kernel_rfl) (by kernel_rfl) (fun _ _ _ h => h) (Or.inr ⟨by kernel_rfl, rfl⟩) (by assumption) ?_
                try simp only [Act.put, List.setIfInBounds_toArray, List.set_cons_zero, List.set_cons_succ]
                refine wpAnyH_take (i := 16) (oi := ⟨some 94, _, _, _, _, _⟩) (v := undef) rfl (by kernel_rfl) (by kernel_rfl) (by kernel_rfl) (fun _ _ _ h => h) (Or.inr ⟨by kernel_rfl, rfl⟩) (by assumption) ?_
                try simp only [Act.put, List.setIfInBounds_toArray, List.set_cons_zero, List.set_cons_succ]
                refine wpAnyH_take (i := 17) (oi := ⟨some 95, _, _, _, _, _⟩) (v := undef) rfl (by kernel_rfl) (by kernel_rfl) (by kernel_rfl) (fun _ _ _ h => h) (Or.inr ⟨by kernel_rfl, rfl⟩) (by assumption) ?_
                try simp only [Act.put, List.setIfInBounds_toArray, List.set_cons_zero, List.set_cons_succ]
                refine wpAnyH_take (i := 18) (oi := ⟨some 96, _, _, _, _, _⟩) (v := undef) rfl (by kernel_rfl) (by kernel_rfl) (by kernel_rfl) (fun _ _ _ h => h) (Or.inr ⟨by kernel_rfl, rfl⟩) (by assumption) ?_
                try simp only [Act.put, List.setIfInBounds_toArray, List.set_cons_zero, List.set_cons_succ]
                refine wpAnyH_take (i := 19) (oi := ⟨some 97, _, _, _, _, _⟩) (v := undef) rfl (by kernel_rfl) (by kernel_rfl) (by kernel_rfl) (fun _ _ _ h => h) (Or.inr ⟨by kernel_rfl, rfl⟩) (by assumption) ?_
                try simp only [Act.put, List.setIfInBounds_toArray, List.set_cons_zero, List.set_cons_succ]
                refine wpAnyH_take (i := 20) (oi := ⟨some 98, _, _, _, _, _⟩) (v := undef) rfl (by kernel_rfl) (by kernel_rfl) (by kernel_rfl) (fun _ _ _ h => h) (Or.inr ⟨by kernel_rfl, rfl⟩) (by assumption) ?_
                try simp only [Act.put, List.setIfInBounds_toArray, List.set_cons_zero, List.set_cons_succ]
                refine wpAnyH_take (i := 21) (oi := ⟨some 99, _, _, _, _, _⟩) (v := undef) rfl (by kernel_rfl) (by kernel_rfl) (by kernel_rfl) (fun _ _ _ h => h) (Or.inr ⟨by kernel_rfl, rfl⟩) (by assumption) ?_
                try simp only [Act.put, List.setIfInBounds_toArray, List.set_cons_zero, List.set_cons_succ]
                refine wpAnyH_take (i := 22) (oi := ⟨some 100, _, _, _, _, _⟩) (v := undef) rfl (by kernel_rfl) (by kernel_rfl) (by kernel_rfl) (fun _ _ _ h => h) (Or.inr ⟨by kernel_rfl, rfl⟩) (by assumption) ?_
                try simp only [Act.put, List.setIfInBounds_toArray, List.set_cons_zero, List.set_cons_succ]
                refine wpAnyH_take (i := 23) (oi := ⟨some 101, _, _, _, _, _⟩) (v := undef) rfl (by kernel_rfl) (by kernel_rfl) (by kernel_rfl) (fun _ _ _ h => h) (Or.inr ⟨by kernel_rfl, rfl⟩) (by assumption) ?_
                try simp only [Act.put, List.setIfInBounds_toArray, List.set_cons_zero, List.set_cons_succ]
                refine wpAnyH_take (i := 24) (oi := ⟨some 102, _, _, _, _, _⟩) (v := undef) rfl (by kernel_rfl) (by kernel_rfl) (by kernel_rfl) (fun _ _ _ h => h) (Or.inr ⟨by kernel_rfl, rfl⟩) (by assumption) ?_
                try simp only [Act.put, List.setIfInBounds_toArray, List.set_cons_zero, List.set_cons_succ]
                refine wpAnyH_take (i := 25) (oi := ⟨some 103, _, _, _, _, _⟩) (v := ?vq2_25) rfl (by kernel_rfl) (by kernel_rfl) (by kernel_rfl) (fun _ _ _ h => h) (Or.inl ⟨by kernel_rfl, ?hyq2_25⟩) (by assumption) ?restq2_25
                case hyq2_25 => (intro w hSw; (try dsimp only at hSw); go_simp) <;> (with_reducible rfl)
                try simp only [Act.put, List.setIfInBounds_toArray, List.set_cons_zero, List.set_cons_succ]
                refine wpAnyH_take (i := 26) (oi := ⟨some 104, _, _, _, _, _⟩) (v := ?vq2_26) rfl (by kernel_rfl) (by kernel_rfl) (by kernel_rfl) (fun _ _ _ h => h) (Or.inl ⟨by kernel_rfl, ?hyq2_26⟩) (by assumption) ?restq2_26
                case hyq2_26 => (intro w hSw; (try dsimp only at hSw); go_simp) <;> (with_reducible rfl)
                try simp only [Act.put, List.setIfInBounds_toArray, List.set_cons_zero, List.set_cons_succ]
                refine wpAnyH_take (i := 27) (oi := ⟨some 105, _, _, _, _, _⟩) (v := ?vq2_27) rfl (by kernel_rfl) (by kernel_rfl) (by kernel_rfl) (fun _ _ _ h => h) (Or.inl ⟨by kernel_rfl, ?hyq2_27⟩) (by assumption) ?restq2_27
                case hyq2_27 => (intro w hSw; (try dsimp only at hSw); go_simp) <;> (with_reducible rfl)
                try simp only [Act.put, List.setIfInBounds_toArray, List.set_cons_zero, List.set_cons_succ]
                refine wpAnyH_take (i := 28) (oi := ⟨some 106, _, _, _, _, _⟩) (v := ?vq2_28) rfl (by kernel_rfl) (by kernel_rfl) (by kernel_rfl) (fun _ _ _ h => h) (Or.inl ⟨by kernel_rfl, ?hyq2_28⟩) (by assumption) ?restq2_28
                case hyq2_28 => (intro w hSw; (try dsimp only at hSw); go_simp) <;> (with_reducible rfl)
                try simp only [Act.put, List.setIfInBounds_toArray, List.set_cons_zero, List.set_cons_succ]
                refine wpAnyH_take (i := 29) (oi := ⟨some 107, _, _, _, _, _⟩) (v := ?vq2_29) rfl (by kernel_rfl) (by kernel_rfl) (by kernel_rfl) (fun _ _ _ h => h) (Or.inl ⟨by kernel_rfl, ?hyq2_29⟩) (by assumption) ?restq2_29
                case hyq2_29 => (intro w hSw; (try dsimp only at hSw); go_simp) <;> (with_reducible rfl)
                try simp only [Act.put, List.setIfInBounds_toArray, List.set_cons_zero, List.set_cons_succ]
                refine wpAnyH_take (i := 30) (oi := ⟨some 108, _, _, _, _, _⟩) (v := ?vq2_30) rfl (by kernel_rfl) (by kernel_rfl) (by kernel_rfl) (fun _ _ _ h => h) (Or.inl ⟨by kernel_rfl, ?hyq2_30⟩) (by assumption) ?restq2_30
                case hyq2_30 => (intro w hSw; (try dsimp only at hSw); go_simp) <;> (with_reducible rfl)
                try simp only [Act.put, List.setIfInBounds_toArray, List.set_cons_zero, List.set_cons_succ]
                refine wpAnyH_take (i := 32) (oi := ⟨some 110, _, _, _, _, _⟩) (v := ?vq2_32) rfl (by kernel_rfl) (by kernel_rfl) (by kernel_rfl) (fun _ _ _ h => h) (Or.inl ⟨by kernel_rfl, ?hyq2_32⟩) (by assumption) ?restq2_32
                case hyq2_32 => (intro w hSw; (try dsimp only at hSw); go_simp) <;> (with_reducible rfl)
                try simp only [Act.put, List.setIfInBounds_toArray, List.set_cons_zero, List.set_cons_succ]
                refine wpAnyH_take (i := 33) (oi := ⟨some 111, _, _, _, _, _⟩) (v := ?vq2_33) rfl (by kernel_rfl) (by kernel_rfl) (by kernel_rfl) (fun _ _ _ h => h) (Or.inl ⟨by kernel_rfl, ?hyq2_33⟩) (by assumption) ?restq2_33
                case hyq2_33 => (intro w hSw; (try dsimp only at hSw); go_simp) <;> (with_reducible rfl)
                try simp only [Act.put, List.setIfInBounds_toArray, List.set_cons_zero, List.set_cons_succ]
                refine wpAnyH_ready (rs := [31]) (by kernel_rfl) (by simp) ?_
                refine AllReadyH.cons (o := ⟨some 109, _, _, _, _, _⟩) rfl (fun K hK => ?_) AllReadyH.nil
                go_simp
                go_at_call 91
                refine (HFB.out _).mono ?_
                rintro e wq ⟨rfl, rfl⟩
                try go_wp2_with fail
                clear hHeld
                refine hK.out _ _ ?_ (fun hHeld => ?_)
                · (try dsimp only); exact (fun hF : Frm w [(wr.heap.size, (lnkBox x)), (q, (.cells #[.int .i64 ry.st, .int .i64 ry.tk, .int .i64 ry.pr, .int .i64 ry.dlo, .int .i64 ry.dhi, .int .i64 ry.ur, .int .i64 ry.co] 77)), (p, (.cells #[.int .i64 rx.st, .int .i64 rx.tk, .int .i64 rx.pr, .int .i64 rx.dlo, .int .i64 rx.dhi, .int .i64 rx.ur, .int .i64 rx.co] 77)), (w.heap.size, (.cells #[.int .i64 m.n, (.slice (some ⟨b, off, none⟩) rs.length c1), (.slice (some ⟨lb, lo, none⟩) ls.length c2), (.slice A3 p3 c3), .int .i64 m.fall, .int .i64 m.win, .int .i64 m.hold, .int .i64 m.dawn, .int .i64 m.dusk] 26))] _ => ⟨hF.cells mZ, hF.cells (mS (mS mZ)), hF.cells (mS mZ)⟩) (by (repeat (with_reducible first | exact HR.out | apply Frm.drew | apply Frm.alloc | apply Frm.drewN)))
                clear hK K
                try simp only [Act.put, List.setIfInBounds_toArray, List.set_cons_zero, List.set_cons_succ]
                refine wpAnyH_take (i := 34) (oi := ⟨some 112, _, _, _, _, _⟩) (v := ?vq2_34) rfl (by kernel_rfl) (by kernel_rfl) (by kernel_rfl) (fun _ _ _ h => h) (Or.inl ⟨by kernel_rfl, ?hyq2_34⟩) (by assumption) ?restq2_34
                case hyq2_34 => (intro w hSw; (try dsimp only at hSw); go_simp) <;> (with_reducible rfl)
                try simp only [Act.put, List.setIfInBounds_toArray, List.set_cons_zero, List.set_cons_succ]
                refine wpAnyH_take (i := 35) (oi := ⟨some 113, _, _, _, _, _⟩) (v := ?vq2_35) rfl (by kernel_rfl) (by kernel_rfl) (by kernel_rfl) (fun _ _ _ h => h) (Or.inl ⟨by kernel_rfl, ?hyq2_35⟩) (by assumption) ?restq2_35
                case hyq2_35 => (intro w hSw; (try dsimp only at hSw); go_simp) <;> (with_reducible rfl)
                try simp only [Act.put, List.setIfInBounds_toArray, List.set_cons_zero, List.set_cons_succ]
                refine wpAnyH_done (by kernel_rfl) ?_ _
                go_wp2_with fail
                go_roundw
                case rel => exact ⟨n + 1, by omega, by go_num, by rw [List.take_add_one, HX.out]; simp only [List.any_append, HA.out, Option.toList, List.any_cons, List.any_nil, Bool.or_false, Bool.false_or]; exact HN.out, Frm.less (by (repeat (with_reducible first | exact HR.out | apply Frm.drew | apply Frm.alloc | apply Frm.drewN))) (fun p hp => List.mem_cons_of_mem _ hp)⟩
                case measure => simp [intOf]; omega
            · have be2 : (x.b == ry.st) = false := by simp [e2]
              have e3 : ¬ x.a = ry.st := fun h => HG.out (e1.symm.trans h)
              have be3 : (x.a == ry.st) = false := by simp [e3]
              have HN : Hid (hitB rx ry x = false) := Lib.hid (by simp [hitB, HG.out, Ne.symm HG.out, e1, e2, e3])
              have He1 := Lib.hid e1
              clear e1
              have He2 := Lib.hid e2
              clear e2
              have He3 := Lib.hid e3
              clear e3
              refine wp_region_held_drew (S := fun w' => (∀ o, w'.cell? ⟨wr.heap.size, o, none⟩ = #[Value.int .i64 x.a, .int .i64 x.b, .int .i64 x.df][o]?) ∧ (∀ o, w'.cell? ⟨p, o, none⟩ = #[Value.int .i64 rx.st, .int .i64 rx.tk, .int .i64 rx.pr, .int .i64 rx.dlo, .int .i64 rx.dhi, .int .i64 rx.ur, .int .i64 rx.co][o]?) ∧ (∀ o, w'.cell? ⟨q, o, none⟩ = #[Value.int .i64 ry.st, .int .i64 ry.tk, .int .i64 ry.pr, .int .i64 ry.dlo, .int .i64 ry.dhi, .int .i64 ry.ur, .int .i64 ry.co][o]?)) (by kernel_rfl) ?_ (fun hHeld => ?_)
              · (try dsimp only); exact (fun hF : Frm w [(wr.heap.size, (lnkBox x)), (q, (.cells #[.int .i64 ry.st, .int .i64 ry.tk, .int .i64 ry.pr, .int .i64 ry.dlo, .int .i64 ry.dhi, .int .i64 ry.ur, .int .i64 ry.co] 77)), (p, (.cells #[.int .i64 rx.st, .int .i64 rx.tk, .int .i64 rx.pr, .int .i64 rx.dlo, .int .i64 rx.dhi, .int .i64 rx.ur, .int .i64 rx.co] 77)), (w.heap.size, (.cells #[.int .i64 m.n, (.slice (some ⟨b, off, none⟩) rs.length c1), (.slice (some ⟨lb, lo, none⟩) ls.length c2), (.slice A3 p3 c3), .int .i64 m.fall, .int .i64 m.win, .int .i64 m.hold, .int .i64 m.dawn, .int .i64 m.dusk] 26))] _ => ⟨hF.cells mZ, hF.cells (mS (mS mZ)), hF.cells (mS mZ)⟩) (by (repeat (with_reducible first | exact HR.out | apply Frm.drew | apply Frm.alloc | apply Frm.drewN)))
              refine wpAnyH_take (i := 0) (oi := ⟨some 78, _, _, _, _, _⟩) (v := ?vq3_0) rfl (by kernel_rfl) (by kernel_rfl) (by kernel_rfl) (fun _ _ _ h => h) (Or.inl ⟨by kernel_rfl, ?hyq3_0⟩) (by assumption) ?restq3_0
              case hyq3_0 => (intro w hSw; (try dsimp only at hSw); go_simp) <;> (with_reducible rfl)
              try simp only [Act.put, List.setIfInBounds_toArray, List.set_cons_zero, List.set_cons_succ]
              refine wpAnyH_take (i := 1) (oi := ⟨some 79, _, _, _, _, _⟩) (v := ?vq3_1) rfl (by kernel_rfl) (by kernel_rfl) (by kernel_rfl) (fun _ _ _ h => h) (Or.inl ⟨by kernel_rfl, ?hyq3_1⟩) (by assumption) ?restq3_1
              case hyq3_1 => (intro w hSw; (try dsimp only at hSw); go_simp) <;> (with_reducible rfl)
              try simp only [Act.put, List.setIfInBounds_toArray, List.set_cons_zero, List.set_cons_succ]
              refine wpAnyH_take (i := 2) (oi := ⟨some 80, _, _, _, _, _⟩) (v := ?vq3_2) rfl (by kernel_rfl) (by kernel_rfl) (by kernel_rfl) (fun _ _ _ h => h) (Or.inl ⟨by kernel_rfl, ?hyq3_2⟩) (by assumption) ?restq3_2
              case hyq3_2 => (intro w hSw; (try dsimp only at hSw); go_simp) <;> (with_reducible rfl)
              try simp only [Act.put, List.setIfInBounds_toArray, List.set_cons_zero, List.set_cons_succ]
              refine wpAnyH_take (i := 3) (oi := ⟨some 81, _, _, _, _, _⟩) (v := ?vq3_3) rfl (by kernel_rfl) (by kernel_rfl) (by kernel_rfl) (fun _ _ _ h => h) (Or.inl ⟨by kernel_rfl, ?hyq3_3⟩) (by assumption) ?restq3_3
              case hyq3_3 => (intro w hSw; (try dsimp only at hSw); go_simp) <;> (with_reducible rfl)
              try simp only [Act.put, List.setIfInBounds_toArray, List.set_cons_zero, List.set_cons_succ]
              refine wpAnyH_take (i := 4) (oi := ⟨some 82, _, _, _, _, _⟩) (v := ?vq3_4) rfl (by kernel_rfl) (by kernel_rfl) (by kernel_rfl) (fun _ _ _ h => h) (Or.inl ⟨by kernel_rfl, ?hyq3_4⟩) (by assumption) ?restq3_4
              case hyq3_4 => (intro w hSw; (try dsimp only at hSw); go_simp) <;> (with_reducible rfl)
              try simp only [Act.put, List.setIfInBounds_toArray, List.set_cons_zero, List.set_cons_succ]
              refine wpAnyH_take (i := 5) (oi := ⟨some 83, _, _, _, _, _⟩) (v := ?vq3_5) rfl (by kernel_rfl) (by kernel_rfl) (by kernel_rfl) (fun _ _ _ h => h) (Or.inl ⟨by kernel_rfl, ?hyq3_5⟩) (by assumption) ?restq3_5
              case hyq3_5 => (intro w hSw; (try dsimp only at hSw); go_simp) <;> (with_reducible rfl)
              try simp only [Act.put, List.setIfInBounds_toArray, List.set_cons_zero, List.set_cons_succ]
              refine wpAnyH_take (i := 6) (oi := ⟨some 84, _, _, _, _, _⟩) (v := ?vq3_6) rfl (by kernel_rfl) (by kernel_rfl) (by kernel_rfl) (fun _ _ _ h => h) (Or.inl ⟨by kernel_rfl, ?hyq3_6⟩) (by assumption) ?restq3_6
              case hyq3_6 => (intro w hSw; (try dsimp only at hSw); go_simp) <;> (with_reducible rfl)
              try simp only [Act.put, List.setIfInBounds_toArray, List.set_cons_zero, List.set_cons_succ]
              refine wpAnyH_take (i := 7) (oi := ⟨some 85, _, _, _, _, _⟩) (v := ?vq3_7) rfl (by kernel_rfl) (by kernel_rfl) (by kernel_rfl) (fun _ _ _ h => h) (Or.inl ⟨by kernel_rfl, ?hyq3_7⟩) (by assumption) ?restq3_7
              case hyq3_7 => (intro w hSw; (try dsimp only at hSw); go_simp) <;> (with_reducible rfl)
              try simp only [Act.put, List.setIfInBounds_toArray, List.set_cons_zero, List.set_cons_succ]
              refine wpAnyH_take (i := 8) (oi := ⟨some 86, _, _, _, _, _⟩) (v := ?vq3_8) rfl (by kernel_rfl) (by kernel_rfl) (by kernel_rfl) (fun _ _ _ h => h) (Or.inl ⟨by kernel_rfl, ?hyq3_8⟩) (by assumption) ?restq3_8
              case hyq3_8 => (intro w hSw; (try dsimp only at hSw); go_simp) <;> (with_reducible rfl)
              try simp only [Act.put, List.setIfInBounds_toArray, List.set_cons_zero, List.set_cons_succ]
              refine wpAnyH_take (i := 9) (oi := ⟨some 87, _, _, _, _, _⟩) (v := ?vq3_9) rfl (by kernel_rfl) (by kernel_rfl) (by kernel_rfl) (fun _ _ _ h => h) (Or.inl ⟨by kernel_rfl, ?hyq3_9⟩) (by assumption) ?restq3_9
              case hyq3_9 => (intro w hSw; (try dsimp only at hSw); go_simp) <;> (with_reducible rfl)
              try simp only [Act.put, List.setIfInBounds_toArray, List.set_cons_zero, List.set_cons_succ]
              refine wpAnyH_take (i := 10) (oi := ⟨some 88, _, _, _, _, _⟩) (v := ?vq3_10) rfl (by kernel_rfl) (by kernel_rfl) (by kernel_rfl) (fun _ _ _ h => h) (Or.inl ⟨by kernel_rfl, ?hyq3_10⟩) (by assumption) ?restq3_10
              case hyq3_10 => (intro w hSw; (try dsimp only at hSw); go_simp) <;> (with_reducible rfl)
              try simp only [Act.put, List.setIfInBounds_toArray, List.set_cons_zero, List.set_cons_succ]
              refine wpAnyH_take (i := 11) (oi := ⟨some 89, _, _, _, _, _⟩) (v := ?vq3_11) rfl (by kernel_rfl) (by kernel_rfl) (by kernel_rfl) (fun _ _ _ h => h) (Or.inl ⟨by kernel_rfl, ?hyq3_11⟩) (by assumption) ?restq3_11
              case hyq3_11 => (intro w hSw; (try dsimp only at hSw); go_simp) <;> (with_reducible rfl)
              try simp only [Act.put, List.setIfInBounds_toArray, List.set_cons_zero, List.set_cons_succ]
              refine wpAnyH_take (i := 12) (oi := ⟨some 90, _, _, _, _, _⟩) (v := ?vq3_12) rfl (by kernel_rfl) (by kernel_rfl) (by kernel_rfl) (fun _ _ _ h => h) (Or.inl ⟨by kernel_rfl, ?hyq3_12⟩) (by assumption) ?restq3_12
              case hyq3_12 => (intro w hSw; (try dsimp only at hSw); go_simp) <;> (with_reducible rfl)
              try simp only [Act.put, List.setIfInBounds_toArray, List.set_cons_zero, List.set_cons_succ]
              refine wpAnyH_take (i := 13) (oi := ⟨some 91, _, _, _, _, _⟩) (v := ?vq3_13) rfl (by kernel_rfl) (by kernel_rfl) (by kernel_rfl) (fun _ _ _ h => h) (Or.inl ⟨by kernel_rfl, ?hyq3_13⟩) (by assumption) ?restq3_13
              case hyq3_13 => (intro w hSw; (try dsimp only at hSw); go_simp) <;> (with_reducible rfl)
              try simp only [Act.put, List.setIfInBounds_toArray, List.set_cons_zero, List.set_cons_succ]
              refine wpAnyH_take (i := 14) (oi := ⟨some 92, _, _, _, _, _⟩) (v := ?vq3_14) rfl (by kernel_rfl) (by kernel_rfl) (by kernel_rfl) (fun _ _ _ h => h) (Or.inl ⟨by kernel_rfl, ?hyq3_14⟩) (by assumption) ?restq3_14
              case hyq3_14 => (intro w hSw; (try dsimp only at hSw); go_simp) <;> (with_reducible rfl)
              try simp only [Act.put, List.setIfInBounds_toArray, List.set_cons_zero, List.set_cons_succ]
              refine wpAnyH_take (i := 15) (oi := ⟨some 93, _, _, _, _, _⟩) (v := ?vq3_15) rfl (by kernel_rfl) (by kernel_rfl) (by kernel_rfl) (fun _ _ _ h => h) (Or.inl ⟨by kernel_rfl, ?hyq3_15⟩) (by assumption) ?restq3_15
              case hyq3_15 => (intro w hSw; (try dsimp only at hSw); go_simp) <;> (with_reducible rfl)
              try simp only [Act.put, List.setIfInBounds_toArray, List.set_cons_zero, List.set_cons_succ]
              refine wpAnyH_take (i := 16) (oi := ⟨some 94, _, _, _, _, _⟩) (v := ?vq3_16) rfl (by kernel_rfl) (by kernel_rfl) (by kernel_rfl) (fun _ _ _ h => h) (Or.inl ⟨by kernel_rfl, ?hyq3_16⟩) (by assumption) ?restq3_16
              case hyq3_16 => (intro w hSw; (try dsimp only at hSw); go_simp) <;> (with_reducible rfl)
              try simp only [Act.put, List.setIfInBounds_toArray, List.set_cons_zero, List.set_cons_succ]
              refine wpAnyH_take (i := 17) (oi := ⟨some 95, _, _, _, _, _⟩) (v := ?vq3_17) rfl (by kernel_rfl) (by kernel_rfl) (by kernel_rfl) (fun _ _ _ h => h) (Or.inl ⟨by kernel_rfl, ?hyq3_17⟩) (by assumption) ?restq3_17
              case hyq3_17 => (intro w hSw; (try dsimp only at hSw); go_simp) <;> (with_reducible rfl)
              try simp only [Act.put, List.setIfInBounds_toArray, List.set_cons_zero, List.set_cons_succ]
              refine wpAnyH_take (i := 18) (oi := ⟨some 96, _, _, _, _, _⟩) (v := ?vq3_18) rfl (by kernel_rfl) (by kernel_rfl) (by kernel_rfl) (fun _ _ _ h => h) (Or.inl ⟨by kernel_rfl, ?hyq3_18⟩) (by assumption) ?restq3_18
              case hyq3_18 => (intro w hSw; (try dsimp only at hSw); go_simp) <;> (with_reducible rfl)
              try simp only [Act.put, List.setIfInBounds_toArray, List.set_cons_zero, List.set_cons_succ]
              refine wpAnyH_take (i := 19) (oi := ⟨some 97, _, _, _, _, _⟩) (v := undef) rfl (by kernel_rfl) (by kernel_rfl) (by kernel_rfl) (fun _ _ _ h => h) (Or.inr ⟨by kernel_rfl, rfl⟩) (by assumption) ?_
              try simp only [Act.put, List.setIfInBounds_toArray, List.set_cons_zero, List.set_cons_succ]
              refine wpAnyH_take (i := 20) (oi := ⟨some 98, _, _, _, _, _⟩) (v := undef) rfl (by kernel_rfl) (by kernel_rfl) (by kernel_rfl) (fun _ _ _ h => h) (Or.inr ⟨by kernel_rfl, rfl⟩) (by assumption) ?_
              try simp only [Act.put, List.setIfInBounds_toArray, List.set_cons_zero, List.set_cons_succ]
              refine wpAnyH_take (i := 21) (oi := ⟨some 99, _, _, _, _, _⟩) (v := undef) rfl (by kernel_rfl) (by kernel_rfl) (by kernel_rfl) (fun _ _ _ h => h) (Or.inr ⟨by kernel_rfl, rfl⟩) (by assumption) ?_
              try simp only [Act.put, List.setIfInBounds_toArray, List.set_cons_zero, List.set_cons_succ]
              refine wpAnyH_take (i := 22) (oi := ⟨some 100, _, _, _, _, _⟩) (v := undef) rfl (by kernel_rfl) (by kernel_rfl) (by kernel_rfl) (fun _ _ _ h => h) (Or.inr ⟨by kernel_rfl, rfl⟩) (by assumption) ?_
              try simp only [Act.put, List.setIfInBounds_toArray, List.set_cons_zero, List.set_cons_succ]
              refine wpAnyH_take (i := 23) (oi := ⟨some 101, _, _, _, _, _⟩) (v := undef) rfl (by kernel_rfl) (by kernel_rfl) (by kernel_rfl) (fun _ _ _ h => h) (Or.inr ⟨by kernel_rfl, rfl⟩) (by assumption) ?_
              try simp only [Act.put, List.setIfInBounds_toArray, List.set_cons_zero, List.set_cons_succ]
              refine wpAnyH_take (i := 24) (oi := ⟨some 102, _, _, _, _, _⟩) (v := ?vq3_24) rfl (by kernel_rfl) (by kernel_rfl) (by kernel_rfl) (fun _ _ _ h => h) (Or.inl ⟨by kernel_rfl, ?hyq3_24⟩) (by assumption) ?restq3_24
              case hyq3_24 => (intro w hSw; (try dsimp only at hSw); go_simp) <;> (with_reducible rfl)
              try simp only [Act.put, List.setIfInBounds_toArray, List.set_cons_zero, List.set_cons_succ]
              refine wpAnyH_take (i := 25) (oi := ⟨some 103, _, _, _, _, _⟩) (v := ?vq3_25) rfl (by kernel_rfl) (by kernel_rfl) (by kernel_rfl) (fun _ _ _ h => h) (Or.inl ⟨by kernel_rfl, ?hyq3_25⟩) (by assumption) ?restq3_25
              case hyq3_25 => (intro w hSw; (try dsimp only at hSw); go_simp) <;> (with_reducible rfl)
              try simp only [Act.put, List.setIfInBounds_toArray, List.set_cons_zero, List.set_cons_succ]
              refine wpAnyH_take (i := 26) (oi := ⟨some 104, _, _, _, _, _⟩) (v := ?vq3_26) rfl (by kernel_rfl) (by kernel_rfl) (by kernel_rfl) (fun _ _ _ h => h) (Or.inl ⟨by kernel_rfl, ?hyq3_26⟩) (by assumption) ?restq3_26
              case hyq3_26 => (intro w hSw; (try dsimp only at hSw); go_simp) <;> (with_reducible rfl)
              try simp only [Act.put, List.setIfInBounds_toArray, List.set_cons_zero, List.set_cons_succ]
              refine wpAnyH_take (i := 27) (oi := ⟨some 105, _, _, _, _, _⟩) (v := undef) rfl (by kernel_rfl) (by kernel_rfl) (by kernel_rfl) (fun _ _ _ h => h) (Or.inr ⟨by kernel_rfl, rfl⟩) (by assumption) ?_
              try simp only [Act.put, List.setIfInBounds_toArray, List.set_cons_zero, List.set_cons_succ]
              refine wpAnyH_take (i := 28) (oi := ⟨some 106, _, _, _, _, _⟩) (v := undef) rfl (by kernel_rfl) (by kernel_rfl) (by kernel_rfl) (fun _ _ _ h => h) (Or.inr ⟨by kernel_rfl, rfl⟩) (by assumption) ?_
              try simp only [Act.put, List.setIfInBounds_toArray, List.set_cons_zero, List.set_cons_succ]
              refine wpAnyH_take (i := 29) (oi := ⟨some 107, _, _, _, _, _⟩) (v := undef) rfl (by kernel_rfl) (by kernel_rfl) (by kernel_rfl) (fun _ _ _ h => h) (Or.inr ⟨by kernel_rfl, rfl⟩) (by assumption) ?_
              try simp only [Act.put, List.setIfInBounds_toArray, List.set_cons_zero, List.set_cons_succ]
              refine wpAnyH_take (i := 30) (oi := ⟨some 108, _, _, _, _, _⟩) (v := undef) rfl (by kernel_rfl) (by kernel_rfl) (by kernel_rfl) (fun _ _ _ h => h) (Or.inr ⟨by kernel_rfl, rfl⟩) (by assumption) ?_
              try simp only [Act.put, List.setIfInBounds_toArray, List.set_cons_zero, List.set_cons_succ]
              refine wpAnyH_take (i := 31) (oi := ⟨some 109, _, _, _, _, _⟩) (v := undef) rfl (by kernel_rfl) (by kernel_rfl) (by kernel_rfl) (fun _ _ _ h => h) (Or.inr ⟨by kernel_rfl, rfl⟩) (by assumption) ?_
              try simp only [Act.put, List.setIfInBounds_toArray, List.set_cons_zero, List.set_cons_succ]
              refine wpAnyH_take (i := 32) (oi := ⟨some 110, _, _, _, _, _⟩) (v := undef) rfl (by kernel_rfl) (by kernel_rfl) (by kernel_rfl) (fun _ _ _ h => h) (Or.inr ⟨by kernel_rfl, rfl⟩) (by assumption) ?_
              try simp only [Act.put, List.setIfInBounds_toArray, List.set_cons_zero, List.set_cons_succ]
              refine wpAnyH_take (i := 33) (oi := ⟨some 111, _, _, _, _, _⟩) (v := undef) rfl (by kernel_rfl) (by kernel_rfl) (by kernel_rfl) (fun _ _ _ h => h) (Or.inr ⟨by kernel_rfl, rfl⟩) (by assumption) ?_
              try simp only [Act.put, List.setIfInBounds_toArray, List.set_cons_zero, List.set_cons_succ]
              refine wpAnyH_take (i := 34) (oi := ⟨some 112, _, _, _, _, _⟩) (v := undef) rfl (by kernel_rfl) (by kernel_rfl) (by kernel_rfl) (fun _ _ _ h => h) (Or.inr ⟨by kernel_rfl, rfl⟩) (by assumption) ?_
              try simp only [Act.put, List.setIfInBounds_toArray, List.set_cons_zero, List.set_cons_succ]
              refine wpAnyH_take (i := 35) (oi := ⟨some 113, _, _, _, _, _⟩) (v := ?vq3_35) rfl (by kernel_rfl) (by kernel_rfl) (by kernel_rfl) (fun _ _ _ h => h) (Or.inl ⟨by kernel_rfl, ?hyq3_35⟩) (by assumption) ?restq3_35
              case hyq3_35 => (intro w hSw; (try dsimp only at hSw); go_simp) <;> (with_reducible rfl)
              try simp only [Act.put, List.setIfInBounds_toArray, List.set_cons_zero, List.set_cons_succ]
              refine wpAnyH_done (by kernel_rfl) ?_ _
              go_wp2_with fail
              go_roundw
              case rel => exact ⟨n + 1, by omega, by go_num, by rw [List.take_add_one, HX.out]; simp only [List.any_append, HA.out, Option.toList, List.any_cons, List.any_nil, Bool.or_false, Bool.false_or]; exact HN.out, Frm.less (by (repeat (with_reducible first | exact HR.out | apply Frm.drew | apply Frm.alloc | apply Frm.drewN))) (fun p hp => List.mem_cons_of_mem _ hp)⟩
              case measure => simp [intOf]; omega
          · have be1 : (x.a == rx.st) = false := by simp [e1]
            by_cases e3 : x.a = ry.st
            · have be3 : (x.a == ry.st) = true := by simp [e3]
              by_cases e4 : x.b = rx.st
              · have be4 : (x.b == rx.st) = true := by simp [e4]
                by_cases e5 : x.df ≤ farI rx.pr ry.pr
                · have c5 : decide (x.df ≤ farI rx.pr ry.pr) = true := by simp [e5]
                  have HV : Hid (alF m ls rs i k = true) := Lib.hid (by rw [HAL.out, if_neg HG.out, HW9.out]; simp only [Bool.true_and]; exact List.any_eq_true.2 ⟨x, List.mem_of_getElem? HX.out, by simp [hitB, HG.out, Ne.symm HG.out, e1, e3, e4, e5]⟩)
                  have He1 := Lib.hid e1
                  clear e1
                  have He3 := Lib.hid e3
                  clear e3
                  have He4 := Lib.hid e4
                  clear e4
                  have He5 := Lib.hid e5
                  clear e5
                  refine wp_region_held_drew (S := fun w' => (∀ o, w'.cell? ⟨wr.heap.size, o, none⟩ = #[Value.int .i64 x.a, .int .i64 x.b, .int .i64 x.df][o]?) ∧ (∀ o, w'.cell? ⟨p, o, none⟩ = #[Value.int .i64 rx.st, .int .i64 rx.tk, .int .i64 rx.pr, .int .i64 rx.dlo, .int .i64 rx.dhi, .int .i64 rx.ur, .int .i64 rx.co][o]?) ∧ (∀ o, w'.cell? ⟨q, o, none⟩ = #[Value.int .i64 ry.st, .int .i64 ry.tk, .int .i64 ry.pr, .int .i64 ry.dlo, .int .i64 ry.dhi, .int .i64 ry.ur, .int .i64 ry.co][o]?)) (by kernel_rfl) ?_ (fun hHeld => ?_)
                  · (try dsimp only); exact (fun hF : Frm w [(wr.heap.size, (lnkBox x)), (q, (.cells #[.int .i64 ry.st, .int .i64 ry.tk, .int .i64 ry.pr, .int .i64 ry.dlo, .int .i64 ry.dhi, .int .i64 ry.ur, .int .i64 ry.co] 77)), (p, (.cells #[.int .i64 rx.st, .int .i64 rx.tk, .int .i64 rx.pr, .int .i64 rx.dlo, .int .i64 rx.dhi, .int .i64 rx.ur, .int .i64 rx.co] 77)), (w.heap.size, (.cells #[.int .i64 m.n, (.slice (some ⟨b, off, none⟩) rs.length c1), (.slice (some ⟨lb, lo, none⟩) ls.length c2), (.slice A3 p3 c3), .int .i64 m.fall, .int .i64 m.win, .int .i64 m.hold, .int .i64 m.dawn, .int .i64 m.dusk] 26))] _ => ⟨hF.cells mZ, hF.cells (mS (mS mZ)), hF.cells (mS mZ)⟩) (by (repeat (with_reducible first | exact HR.out | apply Frm.drew | apply Frm.alloc | apply Frm.drewN)))
                  refine wpAnyH_take (i := 0) (oi := ⟨some 78, _, _, _, _, _⟩) (v := ?vq4_0) rfl (by kernel_rfl) (by kernel_rfl) (by kernel_rfl) (fun _ _ _ h => h) (Or.inl ⟨by kernel_rfl, ?hyq4_0⟩) (by assumption) ?restq4_0
                  case hyq4_0 => (intro w hSw; (try dsimp only at hSw); go_simp) <;> (with_reducible rfl)
                  try simp only [Act.put, List.setIfInBounds_toArray, List.set_cons_zero, List.set_cons_succ]
                  refine wpAnyH_take (i := 1) (oi := ⟨some 79, _, _, _, _, _⟩) (v := ?vq4_1) rfl (by kernel_rfl) (by kernel_rfl) (by kernel_rfl) (fun _ _ _ h => h) (Or.inl ⟨by kernel_rfl, ?hyq4_1⟩) (by assumption) ?restq4_1
                  case hyq4_1 => (intro w hSw; (try dsimp only at hSw); go_simp) <;> (with_reducible rfl)
                  try simp only [Act.put, List.setIfInBounds_toArray, List.set_cons_zero, List.set_cons_succ]
                  refine wpAnyH_take (i := 2) (oi := ⟨some 80, _, _, _, _, _⟩) (v := ?vq4_2) rfl (by kernel_rfl) (by kernel_rfl) (by kernel_rfl) (fun _ _ _ h => h) (Or.inl ⟨by kernel_rfl, ?hyq4_2⟩) (by assumption) ?restq4_2
                  case hyq4_2 => (intro w hSw; (try dsimp only at hSw); go_simp) <;> (with_reducible rfl)
                  try simp only [Act.put, List.setIfInBounds_toArray, List.set_cons_zero, List.set_cons_succ]
                  refine wpAnyH_take (i := 3) (oi := ⟨some 81, _, _, _, _, _⟩) (v := ?vq4_3) rfl (by kernel_rfl) (by kernel_rfl) (by kernel_rfl) (fun _ _ _ h => h) (Or.inl ⟨by kernel_rfl, ?hyq4_3⟩) (by assumption) ?restq4_3
                  case hyq4_3 => (intro w hSw; (try dsimp only at hSw); go_simp) <;> (with_reducible rfl)
                  try simp only [Act.put, List.setIfInBounds_toArray, List.set_cons_zero, List.set_cons_succ]
                  refine wpAnyH_take (i := 4) (oi := ⟨some 82, _, _, _, _, _⟩) (v := ?vq4_4) rfl (by kernel_rfl) (by kernel_rfl) (by kernel_rfl) (fun _ _ _ h => h) (Or.inl ⟨by kernel_rfl, ?hyq4_4⟩) (by assumption) ?restq4_4
                  case hyq4_4 => (intro w hSw; (try dsimp only at hSw); go_simp) <;> (with_reducible rfl)
                  try simp only [Act.put, List.setIfInBounds_toArray, List.set_cons_zero, List.set_cons_succ]
                  refine wpAnyH_take (i := 5) (oi := ⟨some 83, _, _, _, _, _⟩) (v := ?vq4_5) rfl (by kernel_rfl) (by kernel_rfl) (by kernel_rfl) (fun _ _ _ h => h) (Or.inl ⟨by kernel_rfl, ?hyq4_5⟩) (by assumption) ?restq4_5
                  case hyq4_5 => (intro w hSw; (try dsimp only at hSw); go_simp) <;> (with_reducible rfl)
                  try simp only [Act.put, List.setIfInBounds_toArray, List.set_cons_zero, List.set_cons_succ]
                  refine wpAnyH_take (i := 6) (oi := ⟨some 84, _, _, _, _, _⟩) (v := undef) rfl (by kernel_rfl) (by kernel_rfl) (by kernel_rfl) (fun _ _ _ h => h) (Or.inr ⟨by kernel_rfl, rfl⟩) (by assumption) ?_
                  try simp only [Act.put, List.setIfInBounds_toArray, List.set_cons_zero, List.set_cons_succ]
                  refine wpAnyH_take (i := 7) (oi := ⟨some 85, _, _, _, _, _⟩) (v := undef) rfl (by kernel_rfl) (by kernel_rfl) (by kernel_rfl) (fun _ _ _ h => h) (Or.inr ⟨by kernel_rfl, rfl⟩) (by assumption) ?_
                  try simp only [Act.put, List.setIfInBounds_toArray, List.set_cons_zero, List.set_cons_succ]
                  refine wpAnyH_take (i := 8) (oi := ⟨some 86, _, _, _, _, _⟩) (v := undef) rfl (by kernel_rfl) (by kernel_rfl) (by kernel_rfl) (fun _ _ _ h => h) (Or.inr ⟨by kernel_rfl, rfl⟩) (by assumption) ?_
                  try simp only [Act.put, List.setIfInBounds_toArray, List.set_cons_zero, List.set_cons_succ]
                  refine wpAnyH_take (i := 9) (oi := ⟨some 87, _, _, _, _, _⟩) (v := undef) rfl (by kernel_rfl) (by kernel_rfl) (by kernel_rfl) (fun _ _ _ h => h) (Or.inr ⟨by kernel_rfl, rfl⟩) (by assumption) ?_
                  try simp only [Act.put, List.setIfInBounds_toArray, List.set_cons_zero, List.set_cons_succ]
                  refine wpAnyH_take (i := 10) (oi := ⟨some 88, _, _, _, _, _⟩) (v := undef) rfl (by kernel_rfl) (by kernel_rfl) (by kernel_rfl) (fun _ _ _ h => h) (Or.inr ⟨by kernel_rfl, rfl⟩) (by assumption) ?_
                  try simp only [Act.put, List.setIfInBounds_toArray, List.set_cons_zero, List.set_cons_succ]
                  refine wpAnyH_take (i := 11) (oi := ⟨some 89, _, _, _, _, _⟩) (v := ?vq4_11) rfl (by kernel_rfl) (by kernel_rfl) (by kernel_rfl) (fun _ _ _ h => h) (Or.inl ⟨by kernel_rfl, ?hyq4_11⟩) (by assumption) ?restq4_11
                  case hyq4_11 => (intro w hSw; (try dsimp only at hSw); go_simp) <;> (with_reducible rfl)
                  try simp only [Act.put, List.setIfInBounds_toArray, List.set_cons_zero, List.set_cons_succ]
                  refine wpAnyH_take (i := 12) (oi := ⟨some 90, _, _, _, _, _⟩) (v := ?vq4_12) rfl (by kernel_rfl) (by kernel_rfl) (by kernel_rfl) (fun _ _ _ h => h) (Or.inl ⟨by kernel_rfl, ?hyq4_12⟩) (by assumption) ?restq4_12
                  case hyq4_12 => (intro w hSw; (try dsimp only at hSw); go_simp) <;> (with_reducible rfl)
                  try simp only [Act.put, List.setIfInBounds_toArray, List.set_cons_zero, List.set_cons_succ]
                  refine wpAnyH_take (i := 13) (oi := ⟨some 91, _, _, _, _, _⟩) (v := ?vq4_13) rfl (by kernel_rfl) (by kernel_rfl) (by kernel_rfl) (fun _ _ _ h => h) (Or.inl ⟨by kernel_rfl, ?hyq4_13⟩) (by assumption) ?restq4_13
                  case hyq4_13 => (intro w hSw; (try dsimp only at hSw); go_simp) <;> (with_reducible rfl)
                  try simp only [Act.put, List.setIfInBounds_toArray, List.set_cons_zero, List.set_cons_succ]
                  refine wpAnyH_take (i := 14) (oi := ⟨some 92, _, _, _, _, _⟩) (v := ?vq4_14) rfl (by kernel_rfl) (by kernel_rfl) (by kernel_rfl) (fun _ _ _ h => h) (Or.inl ⟨by kernel_rfl, ?hyq4_14⟩) (by assumption) ?restq4_14
                  case hyq4_14 => (intro w hSw; (try dsimp only at hSw); go_simp) <;> (with_reducible rfl)
                  try simp only [Act.put, List.setIfInBounds_toArray, List.set_cons_zero, List.set_cons_succ]
                  refine wpAnyH_take (i := 15) (oi := ⟨some 93, _, _, _, _, _⟩) (v := ?vq4_15) rfl (by kernel_rfl) (by kernel_rfl) (by kernel_rfl) (fun _ _ _ h => h) (Or.inl ⟨by kernel_rfl, ?hyq4_15⟩) (by assumption) ?restq4_15
                  case hyq4_15 => (intro w hSw; (try dsimp only at hSw); go_simp) <;> (with_reducible rfl)
                  try simp only [Act.put, List.setIfInBounds_toArray, List.set_cons_zero, List.set_cons_succ]
                  refine wpAnyH_take (i := 16) (oi := ⟨some 94, _, _, _, _, _⟩) (v := ?vq4_16) rfl (by kernel_rfl) (by kernel_rfl) (by kernel_rfl) (fun _ _ _ h => h) (Or.inl ⟨by kernel_rfl, ?hyq4_16⟩) (by assumption) ?restq4_16
                  case hyq4_16 => (intro w hSw; (try dsimp only at hSw); go_simp) <;> (with_reducible rfl)
                  try simp only [Act.put, List.setIfInBounds_toArray, List.set_cons_zero, List.set_cons_succ]
                  refine wpAnyH_take (i := 17) (oi := ⟨some 95, _, _, _, _, _⟩) (v := ?vq4_17) rfl (by kernel_rfl) (by kernel_rfl) (by kernel_rfl) (fun _ _ _ h => h) (Or.inl ⟨by kernel_rfl, ?hyq4_17⟩) (by assumption) ?restq4_17
                  case hyq4_17 => (intro w hSw; (try dsimp only at hSw); go_simp) <;> (with_reducible rfl)
                  try simp only [Act.put, List.setIfInBounds_toArray, List.set_cons_zero, List.set_cons_succ]
                  refine wpAnyH_take (i := 18) (oi := ⟨some 96, _, _, _, _, _⟩) (v := ?vq4_18) rfl (by kernel_rfl) (by kernel_rfl) (by kernel_rfl) (fun _ _ _ h => h) (Or.inl ⟨by kernel_rfl, ?hyq4_18⟩) (by assumption) ?restq4_18
                  case hyq4_18 => (intro w hSw; (try dsimp only at hSw); go_simp) <;> (with_reducible rfl)
                  try simp only [Act.put, List.setIfInBounds_toArray, List.set_cons_zero, List.set_cons_succ]
                  refine wpAnyH_take (i := 19) (oi := ⟨some 97, _, _, _, _, _⟩) (v := ?vq4_19) rfl (by kernel_rfl) (by kernel_rfl) (by kernel_rfl) (fun _ _ _ h => h) (Or.inl ⟨by kernel_rfl, ?hyq4_19⟩) (by assumption) ?restq4_19
                  case hyq4_19 => (intro w hSw; (try dsimp only at hSw); go_simp) <;> (with_reducible rfl)
                  try simp only [Act.put, List.setIfInBounds_toArray, List.set_cons_zero, List.set_cons_succ]
                  refine wpAnyH_take (i := 20) (oi := ⟨some 98, _, _, _, _, _⟩) (v := ?vq4_20) rfl (by kernel_rfl) (by kernel_rfl) (by kernel_rfl) (fun _ _ _ h => h) (Or.inl ⟨by kernel_rfl, ?hyq4_20⟩) (by assumption) ?restq4_20
                  case hyq4_20 => (intro w hSw; (try dsimp only at hSw); go_simp) <;> (with_reducible rfl)
                  try simp only [Act.put, List.setIfInBounds_toArray, List.set_cons_zero, List.set_cons_succ]
                  refine wpAnyH_take (i := 21) (oi := ⟨some 99, _, _, _, _, _⟩) (v := ?vq4_21) rfl (by kernel_rfl) (by kernel_rfl) (by kernel_rfl) (fun _ _ _ h => h) (Or.inl ⟨by kernel_rfl, ?hyq4_21⟩) (by assumption) ?restq4_21
                  case hyq4_21 => (intro w hSw; (try dsimp only at hSw); go_simp) <;> (with_reducible rfl)
                  try simp only [Act.put, List.setIfInBounds_toArray, List.set_cons_zero, List.set_cons_succ]
                  refine wpAnyH_take (i := 22) (oi := ⟨some 100, _, _, _, _, _⟩) (v := ?vq4_22) rfl (by kernel_rfl) (by kernel_rfl) (by kernel_rfl) (fun _ _ _ h => h) (Or.inl ⟨by kernel_rfl, ?hyq4_22⟩) (by assumption) ?restq4_22
                  case hyq4_22 => (intro w hSw; (try dsimp only at hSw); go_simp) <;> (with_reducible rfl)
                  try simp only [Act.put, List.setIfInBounds_toArray, List.set_cons_zero, List.set_cons_succ]
                  refine wpAnyH_take (i := 23) (oi := ⟨some 101, _, _, _, _, _⟩) (v := ?vq4_23) rfl (by kernel_rfl) (by kernel_rfl) (by kernel_rfl) (fun _ _ _ h => h) (Or.inl ⟨by kernel_rfl, ?hyq4_23⟩) (by assumption) ?restq4_23
                  case hyq4_23 => (intro w hSw; (try dsimp only at hSw); go_simp) <;> (with_reducible rfl)
                  try simp only [Act.put, List.setIfInBounds_toArray, List.set_cons_zero, List.set_cons_succ]
                  refine wpAnyH_take (i := 24) (oi := ⟨some 102, _, _, _, _, _⟩) (v := ?vq4_24) rfl (by kernel_rfl) (by kernel_rfl) (by kernel_rfl) (fun _ _ _ h => h) (Or.inl ⟨by kernel_rfl, ?hyq4_24⟩) (by assumption) ?restq4_24
                  case hyq4_24 => (intro w hSw; (try dsimp only at hSw); go_simp) <;> (with_reducible rfl)
                  try simp only [Act.put, List.setIfInBounds_toArray, List.set_cons_zero, List.set_cons_succ]
                  refine wpAnyH_take (i := 25) (oi := ⟨some 103, _, _, _, _, _⟩) (v := ?vq4_25) rfl (by kernel_rfl) (by kernel_rfl) (by kernel_rfl) (fun _ _ _ h => h) (Or.inl ⟨by kernel_rfl, ?hyq4_25⟩) (by assumption) ?restq4_25
                  case hyq4_25 => (intro w hSw; (try dsimp only at hSw); go_simp) <;> (with_reducible rfl)
                  try simp only [Act.put, List.setIfInBounds_toArray, List.set_cons_zero, List.set_cons_succ]
                  refine wpAnyH_take (i := 26) (oi := ⟨some 104, _, _, _, _, _⟩) (v := ?vq4_26) rfl (by kernel_rfl) (by kernel_rfl) (by kernel_rfl) (fun _ _ _ h => h) (Or.inl ⟨by kernel_rfl, ?hyq4_26⟩) (by assumption) ?restq4_26
                  case hyq4_26 => (intro w hSw; (try dsimp only at hSw); go_simp) <;> (with_reducible rfl)
                  try simp only [Act.put, List.setIfInBounds_toArray, List.set_cons_zero, List.set_cons_succ]
                  refine wpAnyH_take (i := 27) (oi := ⟨some 105, _, _, _, _, _⟩) (v := ?vq4_27) rfl (by kernel_rfl) (by kernel_rfl) (by kernel_rfl) (fun _ _ _ h => h) (Or.inl ⟨by kernel_rfl, ?hyq4_27⟩) (by assumption) ?restq4_27
                  case hyq4_27 => (intro w hSw; (try dsimp only at hSw); go_simp) <;> (with_reducible rfl)
                  try simp only [Act.put, List.setIfInBounds_toArray, List.set_cons_zero, List.set_cons_succ]
                  refine wpAnyH_take (i := 28) (oi := ⟨some 106, _, _, _, _, _⟩) (v := ?vq4_28) rfl (by kernel_rfl) (by kernel_rfl) (by kernel_rfl) (fun _ _ _ h => h) (Or.inl ⟨by kernel_rfl, ?hyq4_28⟩) (by assumption) ?restq4_28
                  case hyq4_28 => (intro w hSw; (try dsimp only at hSw); go_simp) <;> (with_reducible rfl)
                  try simp only [Act.put, List.setIfInBounds_toArray, List.set_cons_zero, List.set_cons_succ]
                  refine wpAnyH_take (i := 29) (oi := ⟨some 107, _, _, _, _, _⟩) (v := ?vq4_29) rfl (by kernel_rfl) (by kernel_rfl) (by kernel_rfl) (fun _ _ _ h => h) (Or.inl ⟨by kernel_rfl, ?hyq4_29⟩) (by assumption) ?restq4_29
                  case hyq4_29 => (intro w hSw; (try dsimp only at hSw); go_simp) <;> (with_reducible rfl)
                  try simp only [Act.put, List.setIfInBounds_toArray, List.set_cons_zero, List.set_cons_succ]
                  refine wpAnyH_take (i := 30) (oi := ⟨some 108, _, _, _, _, _⟩) (v := ?vq4_30) rfl (by kernel_rfl) (by kernel_rfl) (by kernel_rfl) (fun _ _ _ h => h) (Or.inl ⟨by kernel_rfl, ?hyq4_30⟩) (by assumption) ?restq4_30
                  case hyq4_30 => (intro w hSw; (try dsimp only at hSw); go_simp) <;> (with_reducible rfl)
                  try simp only [Act.put, List.setIfInBounds_toArray, List.set_cons_zero, List.set_cons_succ]
                  refine wpAnyH_take (i := 32) (oi := ⟨some 110, _, _, _, _, _⟩) (v := ?vq4_32) rfl (by kernel_rfl) (by kernel_rfl) (by kernel_rfl) (fun _ _ _ h => h) (Or.inl ⟨by kernel_rfl, ?hyq4_32⟩) (by assumption) ?restq4_32
                  case hyq4_32 => (intro w hSw; (try dsimp only at hSw); go_simp) <;> (with_reducible rfl)
                  try simp only [Act.put, List.setIfInBounds_toArray, List.set_cons_zero, List.set_cons_succ]
                  refine wpAnyH_take (i := 33) (oi := ⟨some 111, _, _, _, _, _⟩) (v := ?vq4_33) rfl (by kernel_rfl) (by kernel_rfl) (by kernel_rfl) (fun _ _ _ h => h) (Or.inl ⟨by kernel_rfl, ?hyq4_33⟩) (by assumption) ?restq4_33
                  case hyq4_33 => (intro w hSw; (try dsimp only at hSw); go_simp) <;> (with_reducible rfl)
                  try simp only [Act.put, List.setIfInBounds_toArray, List.set_cons_zero, List.set_cons_succ]
                  refine wpAnyH_ready (rs := [31]) (by kernel_rfl) (by simp) ?_
                  refine AllReadyH.cons (o := ⟨some 109, _, _, _, _, _⟩) rfl (fun K hK => ?_) AllReadyH.nil
                  go_simp
                  go_at_call 91
                  refine (HFB.out _).mono ?_
                  rintro e wq ⟨rfl, rfl⟩
                  try go_wp2_with fail
                  clear hHeld
                  refine hK.out _ _ ?_ (fun hHeld => ?_)
                  · (try dsimp only); exact (fun hF : Frm w [(wr.heap.size, (lnkBox x)), (q, (.cells #[.int .i64 ry.st, .int .i64 ry.tk, .int .i64 ry.pr, .int .i64 ry.dlo, .int .i64 ry.dhi, .int .i64 ry.ur, .int .i64 ry.co] 77)), (p, (.cells #[.int .i64 rx.st, .int .i64 rx.tk, .int .i64 rx.pr, .int .i64 rx.dlo, .int .i64 rx.dhi, .int .i64 rx.ur, .int .i64 rx.co] 77)), (w.heap.size, (.cells #[.int .i64 m.n, (.slice (some ⟨b, off, none⟩) rs.length c1), (.slice (some ⟨lb, lo, none⟩) ls.length c2), (.slice A3 p3 c3), .int .i64 m.fall, .int .i64 m.win, .int .i64 m.hold, .int .i64 m.dawn, .int .i64 m.dusk] 26))] _ => ⟨hF.cells mZ, hF.cells (mS (mS mZ)), hF.cells (mS mZ)⟩) (by (repeat (with_reducible first | exact HR.out | apply Frm.drew | apply Frm.alloc | apply Frm.drewN)))
                  clear hK K
                  try simp only [Act.put, List.setIfInBounds_toArray, List.set_cons_zero, List.set_cons_succ]
                  refine wpAnyH_take (i := 34) (oi := ⟨some 112, _, _, _, _, _⟩) (v := ?vq4_34) rfl (by kernel_rfl) (by kernel_rfl) (by kernel_rfl) (fun _ _ _ h => h) (Or.inl ⟨by kernel_rfl, ?hyq4_34⟩) (by assumption) ?restq4_34
                  case hyq4_34 => (intro w hSw; (try dsimp only at hSw); go_simp) <;> (with_reducible rfl)
                  try simp only [Act.put, List.setIfInBounds_toArray, List.set_cons_zero, List.set_cons_succ]
                  refine wpAnyH_take (i := 35) (oi := ⟨some 113, _, _, _, _, _⟩) (v := ?vq4_35) rfl (by kernel_rfl) (by kernel_rfl) (by kernel_rfl) (fun _ _ _ h => h) (Or.inl ⟨by kernel_rfl, ?hyq4_35⟩) (by assumption) ?restq4_35
                  case hyq4_35 => (intro w hSw; (try dsimp only at hSw); go_simp) <;> (with_reducible rfl)
                  try simp only [Act.put, List.setIfInBounds_toArray, List.set_cons_zero, List.set_cons_succ]
                  refine wpAnyH_done (by kernel_rfl) ?_ _
                  go_wp2_with fail
                  go_ret
                  exact ⟨ret_bool HV.out.symm, Frm.b (w := w) (by (repeat (with_reducible first | exact HR.out | apply Frm.drew | apply Frm.alloc | apply Frm.drewN)))⟩
                · have c5 : decide (x.df ≤ farI rx.pr ry.pr) = false := by simp [e5]
                  have HN : Hid (hitB rx ry x = false) := Lib.hid (by simp [hitB, HG.out, Ne.symm HG.out, e1, e3, e4, e5])
                  have He1 := Lib.hid e1
                  clear e1
                  have He3 := Lib.hid e3
                  clear e3
                  have He4 := Lib.hid e4
                  clear e4
                  have He5 := Lib.hid e5
                  clear e5
                  refine wp_region_held_drew (S := fun w' => (∀ o, w'.cell? ⟨wr.heap.size, o, none⟩ = #[Value.int .i64 x.a, .int .i64 x.b, .int .i64 x.df][o]?) ∧ (∀ o, w'.cell? ⟨p, o, none⟩ = #[Value.int .i64 rx.st, .int .i64 rx.tk, .int .i64 rx.pr, .int .i64 rx.dlo, .int .i64 rx.dhi, .int .i64 rx.ur, .int .i64 rx.co][o]?) ∧ (∀ o, w'.cell? ⟨q, o, none⟩ = #[Value.int .i64 ry.st, .int .i64 ry.tk, .int .i64 ry.pr, .int .i64 ry.dlo, .int .i64 ry.dhi, .int .i64 ry.ur, .int .i64 ry.co][o]?)) (by kernel_rfl) ?_ (fun hHeld => ?_)
                  · (try dsimp only); exact (fun hF : Frm w [(wr.heap.size, (lnkBox x)), (q, (.cells #[.int .i64 ry.st, .int .i64 ry.tk, .int .i64 ry.pr, .int .i64 ry.dlo, .int .i64 ry.dhi, .int .i64 ry.ur, .int .i64 ry.co] 77)), (p, (.cells #[.int .i64 rx.st, .int .i64 rx.tk, .int .i64 rx.pr, .int .i64 rx.dlo, .int .i64 rx.dhi, .int .i64 rx.ur, .int .i64 rx.co] 77)), (w.heap.size, (.cells #[.int .i64 m.n, (.slice (some ⟨b, off, none⟩) rs.length c1), (.slice (some ⟨lb, lo, none⟩) ls.length c2), (.slice A3 p3 c3), .int .i64 m.fall, .int .i64 m.win, .int .i64 m.hold, .int .i64 m.dawn, .int .i64 m.dusk] 26))] _ => ⟨hF.cells mZ, hF.cells (mS (mS mZ)), hF.cells (mS mZ)⟩) (by (repeat (with_reducible first | exact HR.out | apply Frm.drew | apply Frm.alloc | apply Frm.drewN)))
                  refine wpAnyH_take (i := 0) (oi := ⟨some 78, _, _, _, _, _⟩) (v := ?vq5_0) rfl (by kernel_rfl) (by kernel_rfl) (by kernel_rfl) (fun _ _ _ h => h) (Or.inl ⟨by kernel_rfl, ?hyq5_0⟩) (by assumption) ?restq5_0
                  case hyq5_0 => (intro w hSw; (try dsimp only at hSw); go_simp) <;> (with_reducible rfl)
                  try simp only [Act.put, List.setIfInBounds_toArray, List.set_cons_zero, List.set_cons_succ]
                  refine wpAnyH_take (i := 1) (oi := ⟨some 79, _, _, _, _, _⟩) (v := ?vq5_1) rfl (by kernel_rfl) (by kernel_rfl) (by kernel_rfl) (fun _ _ _ h => h) (Or.inl ⟨by kernel_rfl, ?hyq5_1⟩) (by assumption) ?restq5_1
                  case hyq5_1 => (intro w hSw; (try dsimp only at hSw); go_simp) <;> (with_reducible rfl)
                  try simp only [Act.put, List.setIfInBounds_toArray, List.set_cons_zero, List.set_cons_succ]
                  refine wpAnyH_take (i := 2) (oi := ⟨some 80, _, _, _, _, _⟩) (v := ?vq5_2) rfl (by kernel_rfl) (by kernel_rfl) (by kernel_rfl) (fun _ _ _ h => h) (Or.inl ⟨by kernel_rfl, ?hyq5_2⟩) (by assumption) ?restq5_2
                  case hyq5_2 => (intro w hSw; (try dsimp only at hSw); go_simp) <;> (with_reducible rfl)
                  try simp only [Act.put, List.setIfInBounds_toArray, List.set_cons_zero, List.set_cons_succ]
                  refine wpAnyH_take (i := 3) (oi := ⟨some 81, _, _, _, _, _⟩) (v := ?vq5_3) rfl (by kernel_rfl) (by kernel_rfl) (by kernel_rfl) (fun _ _ _ h => h) (Or.inl ⟨by kernel_rfl, ?hyq5_3⟩) (by assumption) ?restq5_3
                  case hyq5_3 => (intro w hSw; (try dsimp only at hSw); go_simp) <;> (with_reducible rfl)
                  try simp only [Act.put, List.setIfInBounds_toArray, List.set_cons_zero, List.set_cons_succ]
                  refine wpAnyH_take (i := 4) (oi := ⟨some 82, _, _, _, _, _⟩) (v := ?vq5_4) rfl (by kernel_rfl) (by kernel_rfl) (by kernel_rfl) (fun _ _ _ h => h) (Or.inl ⟨by kernel_rfl, ?hyq5_4⟩) (by assumption) ?restq5_4
                  case hyq5_4 => (intro w hSw; (try dsimp only at hSw); go_simp) <;> (with_reducible rfl)
                  try simp only [Act.put, List.setIfInBounds_toArray, List.set_cons_zero, List.set_cons_succ]
                  refine wpAnyH_take (i := 5) (oi := ⟨some 83, _, _, _, _, _⟩) (v := ?vq5_5) rfl (by kernel_rfl) (by kernel_rfl) (by kernel_rfl) (fun _ _ _ h => h) (Or.inl ⟨by kernel_rfl, ?hyq5_5⟩) (by assumption) ?restq5_5
                  case hyq5_5 => (intro w hSw; (try dsimp only at hSw); go_simp) <;> (with_reducible rfl)
                  try simp only [Act.put, List.setIfInBounds_toArray, List.set_cons_zero, List.set_cons_succ]
                  refine wpAnyH_take (i := 6) (oi := ⟨some 84, _, _, _, _, _⟩) (v := undef) rfl (by kernel_rfl) (by kernel_rfl) (by kernel_rfl) (fun _ _ _ h => h) (Or.inr ⟨by kernel_rfl, rfl⟩) (by assumption) ?_
                  try simp only [Act.put, List.setIfInBounds_toArray, List.set_cons_zero, List.set_cons_succ]
                  refine wpAnyH_take (i := 7) (oi := ⟨some 85, _, _, _, _, _⟩) (v := undef) rfl (by kernel_rfl) (by kernel_rfl) (by kernel_rfl) (fun _ _ _ h => h) (Or.inr ⟨by kernel_rfl, rfl⟩) (by assumption) ?_
                  try simp only [Act.put, List.setIfInBounds_toArray, List.set_cons_zero, List.set_cons_succ]
                  refine wpAnyH_take (i := 8) (oi := ⟨some 86, _, _, _, _, _⟩) (v := undef) rfl (by kernel_rfl) (by kernel_rfl) (by kernel_rfl) (fun _ _ _ h => h) (Or.inr ⟨by kernel_rfl, rfl⟩) (by assumption) ?_
                  try simp only [Act.put, List.setIfInBounds_toArray, List.set_cons_zero, List.set_cons_succ]
                  refine wpAnyH_take (i := 9) (oi := ⟨some 87, _, _, _, _, _⟩) (v := undef) rfl (by kernel_rfl) (by kernel_rfl) (by kernel_rfl) (fun _ _ _ h => h) (Or.inr ⟨by kernel_rfl, rfl⟩) (by assumption) ?_
                  try simp only [Act.put, List.setIfInBounds_toArray, List.set_cons_zero, List.set_cons_succ]
                  refine wpAnyH_take (i := 10) (oi := ⟨some 88, _, _, _, _, _⟩) (v := undef) rfl (by kernel_rfl) (by kernel_rfl) (by kernel_rfl) (fun _ _ _ h => h) (Or.inr ⟨by kernel_rfl, rfl⟩) (by assumption) ?_
                  try simp only [Act.put, List.setIfInBounds_toArray, List.set_cons_zero, List.set_cons_succ]
                  refine wpAnyH_take (i := 11) (oi := ⟨some 89, _, _, _, _, _⟩) (v := ?vq5_11) rfl (by kernel_rfl) (by kernel_rfl) (by kernel_rfl) (fun _ _ _ h => h) (Or.inl ⟨by kernel_rfl, ?hyq5_11⟩) (by assumption) ?restq5_11
                  case hyq5_11 => (intro w hSw; (try dsimp only at hSw); go_simp) <;> (with_reducible rfl)
                  try simp only [Act.put, List.setIfInBounds_toArray, List.set_cons_zero, List.set_cons_succ]
                  refine wpAnyH_take (i := 12) (oi := ⟨some 90, _, _, _, _, _⟩) (v := ?vq5_12) rfl (by kernel_rfl) (by kernel_rfl) (by kernel_rfl) (fun _ _ _ h => h) (Or.inl ⟨by kernel_rfl, ?hyq5_12⟩) (by assumption) ?restq5_12
                  case hyq5_12 => (intro w hSw; (try dsimp only at hSw); go_simp) <;> (with_reducible rfl)
                  try simp only [Act.put, List.setIfInBounds_toArray, List.set_cons_zero, List.set_cons_succ]
                  refine wpAnyH_take (i := 13) (oi := ⟨some 91, _, _, _, _, _⟩) (v := ?vq5_13) rfl (by kernel_rfl) (by kernel_rfl) (by kernel_rfl) (fun _ _ _ h => h) (Or.inl ⟨by kernel_rfl, ?hyq5_13⟩) (by assumption) ?restq5_13
                  case hyq5_13 => (intro w hSw; (try dsimp only at hSw); go_simp) <;> (with_reducible rfl)
                  try simp only [Act.put, List.setIfInBounds_toArray, List.set_cons_zero, List.set_cons_succ]
                  refine wpAnyH_take (i := 14) (oi := ⟨some 92, _, _, _, _, _⟩) (v := ?vq5_14) rfl (by kernel_rfl) (by kernel_rfl) (by kernel_rfl) (fun _ _ _ h => h) (Or.inl ⟨by kernel_rfl, ?hyq5_14⟩) (by assumption) ?restq5_14
                  case hyq5_14 => (intro w hSw; (try dsimp only at hSw); go_simp) <;> (with_reducible rfl)
                  try simp only [Act.put, List.setIfInBounds_toArray, List.set_cons_zero, List.set_cons_succ]
                  refine wpAnyH_take (i := 15) (oi := ⟨some 93, _, _, _, _, _⟩) (v := ?vq5_15) rfl (by kernel_rfl) (by kernel_rfl) (by kernel_rfl) (fun _ _ _ h => h) (Or.inl ⟨by kernel_rfl, ?hyq5_15⟩) (by assumption) ?restq5_15
                  case hyq5_15 => (intro w hSw; (try dsimp only at hSw); go_simp) <;> (with_reducible rfl)
                  try simp only [Act.put, List.setIfInBounds_toArray, List.set_cons_zero, List.set_cons_succ]
                  refine wpAnyH_take (i := 16) (oi := ⟨some 94, _, _, _, _, _⟩) (v := ?vq5_16) rfl (by kernel_rfl) (by kernel_rfl) (by kernel_rfl) (fun _ _ _ h => h) (Or.inl ⟨by kernel_rfl, ?hyq5_16⟩) (by assumption) ?restq5_16
                  case hyq5_16 => (intro w hSw; (try dsimp only at hSw); go_simp) <;> (with_reducible rfl)
                  try simp only [Act.put, List.setIfInBounds_toArray, List.set_cons_zero, List.set_cons_succ]
                  refine wpAnyH_take (i := 17) (oi := ⟨some 95, _, _, _, _, _⟩) (v := ?vq5_17) rfl (by kernel_rfl) (by kernel_rfl) (by kernel_rfl) (fun _ _ _ h => h) (Or.inl ⟨by kernel_rfl, ?hyq5_17⟩) (by assumption) ?restq5_17
                  case hyq5_17 => (intro w hSw; (try dsimp only at hSw); go_simp) <;> (with_reducible rfl)
                  try simp only [Act.put, List.setIfInBounds_toArray, List.set_cons_zero, List.set_cons_succ]
                  refine wpAnyH_take (i := 18) (oi := ⟨some 96, _, _, _, _, _⟩) (v := ?vq5_18) rfl (by kernel_rfl) (by kernel_rfl) (by kernel_rfl) (fun _ _ _ h => h) (Or.inl ⟨by kernel_rfl, ?hyq5_18⟩) (by assumption) ?restq5_18
                  case hyq5_18 => (intro w hSw; (try dsimp only at hSw); go_simp) <;> (with_reducible rfl)
                  try simp only [Act.put, List.setIfInBounds_toArray, List.set_cons_zero, List.set_cons_succ]
                  refine wpAnyH_take (i := 19) (oi := ⟨some 97, _, _, _, _, _⟩) (v := ?vq5_19) rfl (by kernel_rfl) (by kernel_rfl) (by kernel_rfl) (fun _ _ _ h => h) (Or.inl ⟨by kernel_rfl, ?hyq5_19⟩) (by assumption) ?restq5_19
                  case hyq5_19 => (intro w hSw; (try dsimp only at hSw); go_simp) <;> (with_reducible rfl)
                  try simp only [Act.put, List.setIfInBounds_toArray, List.set_cons_zero, List.set_cons_succ]
                  refine wpAnyH_take (i := 20) (oi := ⟨some 98, _, _, _, _, _⟩) (v := ?vq5_20) rfl (by kernel_rfl) (by kernel_rfl) (by kernel_rfl) (fun _ _ _ h => h) (Or.inl ⟨by kernel_rfl, ?hyq5_20⟩) (by assumption) ?restq5_20
                  case hyq5_20 => (intro w hSw; (try dsimp only at hSw); go_simp) <;> (with_reducible rfl)
                  try simp only [Act.put, List.setIfInBounds_toArray, List.set_cons_zero, List.set_cons_succ]
                  refine wpAnyH_take (i := 21) (oi := ⟨some 99, _, _, _, _, _⟩) (v := ?vq5_21) rfl (by kernel_rfl) (by kernel_rfl) (by kernel_rfl) (fun _ _ _ h => h) (Or.inl ⟨by kernel_rfl, ?hyq5_21⟩) (by assumption) ?restq5_21
                  case hyq5_21 => (intro w hSw; (try dsimp only at hSw); go_simp) <;> (with_reducible rfl)
                  try simp only [Act.put, List.setIfInBounds_toArray, List.set_cons_zero, List.set_cons_succ]
                  refine wpAnyH_take (i := 22) (oi := ⟨some 100, _, _, _, _, _⟩) (v := ?vq5_22) rfl (by kernel_rfl) (by kernel_rfl) (by kernel_rfl) (fun _ _ _ h => h) (Or.inl ⟨by kernel_rfl, ?hyq5_22⟩) (by assumption) ?restq5_22
                  case hyq5_22 => (intro w hSw; (try dsimp only at hSw); go_simp) <;> (with_reducible rfl)
                  try simp only [Act.put, List.setIfInBounds_toArray, List.set_cons_zero, List.set_cons_succ]
                  refine wpAnyH_take (i := 23) (oi := ⟨some 101, _, _, _, _, _⟩) (v := ?vq5_23) rfl (by kernel_rfl) (by kernel_rfl) (by kernel_rfl) (fun _ _ _ h => h) (Or.inl ⟨by kernel_rfl, ?hyq5_23⟩) (by assumption) ?restq5_23
                  case hyq5_23 => (intro w hSw; (try dsimp only at hSw); go_simp) <;> (with_reducible rfl)
                  try simp only [Act.put, List.setIfInBounds_toArray, List.set_cons_zero, List.set_cons_succ]
                  refine wpAnyH_take (i := 24) (oi := ⟨some 102, _, _, _, _, _⟩) (v := ?vq5_24) rfl (by kernel_rfl) (by kernel_rfl) (by kernel_rfl) (fun _ _ _ h => h) (Or.inl ⟨by kernel_rfl, ?hyq5_24⟩) (by assumption) ?restq5_24
                  case hyq5_24 => (intro w hSw; (try dsimp only at hSw); go_simp) <;> (with_reducible rfl)
                  try simp only [Act.put, List.setIfInBounds_toArray, List.set_cons_zero, List.set_cons_succ]
                  refine wpAnyH_take (i := 25) (oi := ⟨some 103, _, _, _, _, _⟩) (v := ?vq5_25) rfl (by kernel_rfl) (by kernel_rfl) (by kernel_rfl) (fun _ _ _ h => h) (Or.inl ⟨by kernel_rfl, ?hyq5_25⟩) (by assumption) ?restq5_25
                  case hyq5_25 => (intro w hSw; (try dsimp only at hSw); go_simp) <;> (with_reducible rfl)
                  try simp only [Act.put, List.setIfInBounds_toArray, List.set_cons_zero, List.set_cons_succ]
                  refine wpAnyH_take (i := 26) (oi := ⟨some 104, _, _, _, _, _⟩) (v := ?vq5_26) rfl (by kernel_rfl) (by kernel_rfl) (by kernel_rfl) (fun _ _ _ h => h) (Or.inl ⟨by kernel_rfl, ?hyq5_26⟩) (by assumption) ?restq5_26
                  case hyq5_26 => (intro w hSw; (try dsimp only at hSw); go_simp) <;> (with_reducible rfl)
                  try simp only [Act.put, List.setIfInBounds_toArray, List.set_cons_zero, List.set_cons_succ]
                  refine wpAnyH_take (i := 27) (oi := ⟨some 105, _, _, _, _, _⟩) (v := ?vq5_27) rfl (by kernel_rfl) (by kernel_rfl) (by kernel_rfl) (fun _ _ _ h => h) (Or.inl ⟨by kernel_rfl, ?hyq5_27⟩) (by assumption) ?restq5_27
                  case hyq5_27 => (intro w hSw; (try dsimp only at hSw); go_simp) <;> (with_reducible rfl)
                  try simp only [Act.put, List.setIfInBounds_toArray, List.set_cons_zero, List.set_cons_succ]
                  refine wpAnyH_take (i := 28) (oi := ⟨some 106, _, _, _, _, _⟩) (v := ?vq5_28) rfl (by kernel_rfl) (by kernel_rfl) (by kernel_rfl) (fun _ _ _ h => h) (Or.inl ⟨by kernel_rfl, ?hyq5_28⟩) (by assumption) ?restq5_28
                  case hyq5_28 => (intro w hSw; (try dsimp only at hSw); go_simp) <;> (with_reducible rfl)
                  try simp only [Act.put, List.setIfInBounds_toArray, List.set_cons_zero, List.set_cons_succ]
                  refine wpAnyH_take (i := 29) (oi := ⟨some 107, _, _, _, _, _⟩) (v := ?vq5_29) rfl (by kernel_rfl) (by kernel_rfl) (by kernel_rfl) (fun _ _ _ h => h) (Or.inl ⟨by kernel_rfl, ?hyq5_29⟩) (by assumption) ?restq5_29
                  case hyq5_29 => (intro w hSw; (try dsimp only at hSw); go_simp) <;> (with_reducible rfl)
                  try simp only [Act.put, List.setIfInBounds_toArray, List.set_cons_zero, List.set_cons_succ]
                  refine wpAnyH_take (i := 30) (oi := ⟨some 108, _, _, _, _, _⟩) (v := ?vq5_30) rfl (by kernel_rfl) (by kernel_rfl) (by kernel_rfl) (fun _ _ _ h => h) (Or.inl ⟨by kernel_rfl, ?hyq5_30⟩) (by assumption) ?restq5_30
                  case hyq5_30 => (intro w hSw; (try dsimp only at hSw); go_simp) <;> (with_reducible rfl)
                  try simp only [Act.put, List.setIfInBounds_toArray, List.set_cons_zero, List.set_cons_succ]
                  refine wpAnyH_take (i := 32) (oi := ⟨some 110, _, _, _, _, _⟩) (v := ?vq5_32) rfl (by kernel_rfl) (by kernel_rfl) (by kernel_rfl) (fun _ _ _ h => h) (Or.inl ⟨by kernel_rfl, ?hyq5_32⟩) (by assumption) ?restq5_32
                  case hyq5_32 => (intro w hSw; (try dsimp only at hSw); go_simp) <;> (with_reducible rfl)
                  try simp only [Act.put, List.setIfInBounds_toArray, List.set_cons_zero, List.set_cons_succ]
                  refine wpAnyH_take (i := 33) (oi := ⟨some 111, _, _, _, _, _⟩) (v := ?vq5_33) rfl (by kernel_rfl) (by kernel_rfl) (by kernel_rfl) (fun _ _ _ h => h) (Or.inl ⟨by kernel_rfl, ?hyq5_33⟩) (by assumption) ?restq5_33
                  case hyq5_33 => (intro w hSw; (try dsimp only at hSw); go_simp) <;> (with_reducible rfl)
                  try simp only [Act.put, List.setIfInBounds_toArray, List.set_cons_zero, List.set_cons_succ]
                  refine wpAnyH_ready (rs := [31]) (by kernel_rfl) (by simp) ?_
                  refine AllReadyH.cons (o := ⟨some 109, _, _, _, _, _⟩) rfl (fun K hK => ?_) AllReadyH.nil
                  go_simp
                  go_at_call 91
                  refine (HFB.out _).mono ?_
                  rintro e wq ⟨rfl, rfl⟩
                  try go_wp2_with fail
                  clear hHeld
                  refine hK.out _ _ ?_ (fun hHeld => ?_)
                  · (try dsimp only); exact (fun hF : Frm w [(wr.heap.size, (lnkBox x)), (q, (.cells #[.int .i64 ry.st, .int .i64 ry.tk, .int .i64 ry.pr, .int .i64 ry.dlo, .int .i64 ry.dhi, .int .i64 ry.ur, .int .i64 ry.co] 77)), (p, (.cells #[.int .i64 rx.st, .int .i64 rx.tk, .int .i64 rx.pr, .int .i64 rx.dlo, .int .i64 rx.dhi, .int .i64 rx.ur, .int .i64 rx.co] 77)), (w.heap.size, (.cells #[.int .i64 m.n, (.slice (some ⟨b, off, none⟩) rs.length c1), (.slice (some ⟨lb, lo, none⟩) ls.length c2), (.slice A3 p3 c3), .int .i64 m.fall, .int .i64 m.win, .int .i64 m.hold, .int .i64 m.dawn, .int .i64 m.dusk] 26))] _ => ⟨hF.cells mZ, hF.cells (mS (mS mZ)), hF.cells (mS mZ)⟩) (by (repeat (with_reducible first | exact HR.out | apply Frm.drew | apply Frm.alloc | apply Frm.drewN)))
                  clear hK K
                  try simp only [Act.put, List.setIfInBounds_toArray, List.set_cons_zero, List.set_cons_succ]
                  refine wpAnyH_take (i := 34) (oi := ⟨some 112, _, _, _, _, _⟩) (v := ?vq5_34) rfl (by kernel_rfl) (by kernel_rfl) (by kernel_rfl) (fun _ _ _ h => h) (Or.inl ⟨by kernel_rfl, ?hyq5_34⟩) (by assumption) ?restq5_34
                  case hyq5_34 => (intro w hSw; (try dsimp only at hSw); go_simp) <;> (with_reducible rfl)
                  try simp only [Act.put, List.setIfInBounds_toArray, List.set_cons_zero, List.set_cons_succ]
                  refine wpAnyH_take (i := 35) (oi := ⟨some 113, _, _, _, _, _⟩) (v := ?vq5_35) rfl (by kernel_rfl) (by kernel_rfl) (by kernel_rfl) (fun _ _ _ h => h) (Or.inl ⟨by kernel_rfl, ?hyq5_35⟩) (by assumption) ?restq5_35
                  case hyq5_35 => (intro w hSw; (try dsimp only at hSw); go_simp) <;> (with_reducible rfl)
                  try simp only [Act.put, List.setIfInBounds_toArray, List.set_cons_zero, List.set_cons_succ]
                  refine wpAnyH_done (by kernel_rfl) ?_ _
                  go_wp2_with fail
                  go_roundw
                  case rel => exact ⟨n + 1, by omega, by go_num, by rw [List.take_add_one, HX.out]; simp only [List.any_append, HA.out, Option.toList, List.any_cons, List.any_nil, Bool.or_false, Bool.false_or]; exact HN.out, Frm.less (by (repeat (with_reducible first | exact HR.out | apply Frm.drew | apply Frm.alloc | apply Frm.drewN))) (fun p hp => List.mem_cons_of_mem _ hp)⟩
                  case measure => simp [intOf]; omega
              · have be4 : (x.b == rx.st) = false := by simp [e4]
                have HN : Hid (hitB rx ry x = false) := Lib.hid (by simp [hitB, HG.out, Ne.symm HG.out, e1, e3, e4])
                have He1 := Lib.hid e1
                clear e1
                have He3 := Lib.hid e3
                clear e3
                have He4 := Lib.hid e4
                clear e4
                refine wp_region_held_drew (S := fun w' => (∀ o, w'.cell? ⟨wr.heap.size, o, none⟩ = #[Value.int .i64 x.a, .int .i64 x.b, .int .i64 x.df][o]?) ∧ (∀ o, w'.cell? ⟨p, o, none⟩ = #[Value.int .i64 rx.st, .int .i64 rx.tk, .int .i64 rx.pr, .int .i64 rx.dlo, .int .i64 rx.dhi, .int .i64 rx.ur, .int .i64 rx.co][o]?) ∧ (∀ o, w'.cell? ⟨q, o, none⟩ = #[Value.int .i64 ry.st, .int .i64 ry.tk, .int .i64 ry.pr, .int .i64 ry.dlo, .int .i64 ry.dhi, .int .i64 ry.ur, .int .i64 ry.co][o]?)) (by kernel_rfl) ?_ (fun hHeld => ?_)
                · (try dsimp only); exact (fun hF : Frm w [(wr.heap.size, (lnkBox x)), (q, (.cells #[.int .i64 ry.st, .int .i64 ry.tk, .int .i64 ry.pr, .int .i64 ry.dlo, .int .i64 ry.dhi, .int .i64 ry.ur, .int .i64 ry.co] 77)), (p, (.cells #[.int .i64 rx.st, .int .i64 rx.tk, .int .i64 rx.pr, .int .i64 rx.dlo, .int .i64 rx.dhi, .int .i64 rx.ur, .int .i64 rx.co] 77)), (w.heap.size, (.cells #[.int .i64 m.n, (.slice (some ⟨b, off, none⟩) rs.length c1), (.slice (some ⟨lb, lo, none⟩) ls.length c2), (.slice A3 p3 c3), .int .i64 m.fall, .int .i64 m.win, .int .i64 m.hold, .int .i64 m.dawn, .int .i64 m.dusk] 26))] _ => ⟨hF.cells mZ, hF.cells (mS (mS mZ)), hF.cells (mS mZ)⟩) (by (repeat (with_reducible first | exact HR.out | apply Frm.drew | apply Frm.alloc | apply Frm.drewN)))
                refine wpAnyH_take (i := 0) (oi := ⟨some 78, _, _, _, _, _⟩) (v := ?vq6_0) rfl (by kernel_rfl) (by kernel_rfl) (by kernel_rfl) (fun _ _ _ h => h) (Or.inl ⟨by kernel_rfl, ?hyq6_0⟩) (by assumption) ?restq6_0
                case hyq6_0 => (intro w hSw; (try dsimp only at hSw); go_simp) <;> (with_reducible rfl)
                try simp only [Act.put, List.setIfInBounds_toArray, List.set_cons_zero, List.set_cons_succ]
                refine wpAnyH_take (i := 1) (oi := ⟨some 79, _, _, _, _, _⟩) (v := ?vq6_1) rfl (by kernel_rfl) (by kernel_rfl) (by kernel_rfl) (fun _ _ _ h => h) (Or.inl ⟨by kernel_rfl, ?hyq6_1⟩) (by assumption) ?restq6_1
                case hyq6_1 => (intro w hSw; (try dsimp only at hSw); go_simp) <;> (with_reducible rfl)
                try simp only [Act.put, List.setIfInBounds_toArray, List.set_cons_zero, List.set_cons_succ]
                refine wpAnyH_take (i := 2) (oi := ⟨some 80, _, _, _, _, _⟩) (v := ?vq6_2) rfl (by kernel_rfl) (by kernel_rfl) (by kernel_rfl) (fun _ _ _ h => h) (Or.inl ⟨by kernel_rfl, ?hyq6_2⟩) (by assumption) ?restq6_2
                case hyq6_2 => (intro w hSw; (try dsimp only at hSw); go_simp) <;> (with_reducible rfl)
                try simp only [Act.put, List.setIfInBounds_toArray, List.set_cons_zero, List.set_cons_succ]
                refine wpAnyH_take (i := 3) (oi := ⟨some 81, _, _, _, _, _⟩) (v := ?vq6_3) rfl (by kernel_rfl) (by kernel_rfl) (by kernel_rfl) (fun _ _ _ h => h) (Or.inl ⟨by kernel_rfl, ?hyq6_3⟩) (by assumption) ?restq6_3
                case hyq6_3 => (intro w hSw; (try dsimp only at hSw); go_simp) <;> (with_reducible rfl)
                try simp only [Act.put, List.setIfInBounds_toArray, List.set_cons_zero, List.set_cons_succ]
                refine wpAnyH_take (i := 4) (oi := ⟨some 82, _, _, _, _, _⟩) (v := ?vq6_4) rfl (by kernel_rfl) (by kernel_rfl) (by kernel_rfl) (fun _ _ _ h => h) (Or.inl ⟨by kernel_rfl, ?hyq6_4⟩) (by assumption) ?restq6_4
                case hyq6_4 => (intro w hSw; (try dsimp only at hSw); go_simp) <;> (with_reducible rfl)
                try simp only [Act.put, List.setIfInBounds_toArray, List.set_cons_zero, List.set_cons_succ]
                refine wpAnyH_take (i := 5) (oi := ⟨some 83, _, _, _, _, _⟩) (v := ?vq6_5) rfl (by kernel_rfl) (by kernel_rfl) (by kernel_rfl) (fun _ _ _ h => h) (Or.inl ⟨by kernel_rfl, ?hyq6_5⟩) (by assumption) ?restq6_5
                case hyq6_5 => (intro w hSw; (try dsimp only at hSw); go_simp) <;> (with_reducible rfl)
                try simp only [Act.put, List.setIfInBounds_toArray, List.set_cons_zero, List.set_cons_succ]
                refine wpAnyH_take (i := 6) (oi := ⟨some 84, _, _, _, _, _⟩) (v := undef) rfl (by kernel_rfl) (by kernel_rfl) (by kernel_rfl) (fun _ _ _ h => h) (Or.inr ⟨by kernel_rfl, rfl⟩) (by assumption) ?_
                try simp only [Act.put, List.setIfInBounds_toArray, List.set_cons_zero, List.set_cons_succ]
                refine wpAnyH_take (i := 7) (oi := ⟨some 85, _, _, _, _, _⟩) (v := undef) rfl (by kernel_rfl) (by kernel_rfl) (by kernel_rfl) (fun _ _ _ h => h) (Or.inr ⟨by kernel_rfl, rfl⟩) (by assumption) ?_
                try simp only [Act.put, List.setIfInBounds_toArray, List.set_cons_zero, List.set_cons_succ]
                refine wpAnyH_take (i := 8) (oi := ⟨some 86, _, _, _, _, _⟩) (v := undef) rfl (by kernel_rfl) (by kernel_rfl) (by kernel_rfl) (fun _ _ _ h => h) (Or.inr ⟨by kernel_rfl, rfl⟩) (by assumption) ?_
                try simp only [Act.put, List.setIfInBounds_toArray, List.set_cons_zero, List.set_cons_succ]
                refine wpAnyH_take (i := 9) (oi := ⟨some 87, _, _, _, _, _⟩) (v := undef) rfl (by kernel_rfl) (by kernel_rfl) (by kernel_rfl) (fun _ _ _ h => h) (Or.inr ⟨by kernel_rfl, rfl⟩) (by assumption) ?_
                try simp only [Act.put, List.setIfInBounds_toArray, List.set_cons_zero, List.set_cons_succ]
                refine wpAnyH_take (i := 10) (oi := ⟨some 88, _, _, _, _, _⟩) (v := undef) rfl (by kernel_rfl) (by kernel_rfl) (by kernel_rfl) (fun _ _ _ h => h) (Or.inr ⟨by kernel_rfl, rfl⟩) (by assumption) ?_
                try simp only [Act.put, List.setIfInBounds_toArray, List.set_cons_zero, List.set_cons_succ]
                refine wpAnyH_take (i := 11) (oi := ⟨some 89, _, _, _, _, _⟩) (v := ?vq6_11) rfl (by kernel_rfl) (by kernel_rfl) (by kernel_rfl) (fun _ _ _ h => h) (Or.inl ⟨by kernel_rfl, ?hyq6_11⟩) (by assumption) ?restq6_11
                case hyq6_11 => (intro w hSw; (try dsimp only at hSw); go_simp) <;> (with_reducible rfl)
                try simp only [Act.put, List.setIfInBounds_toArray, List.set_cons_zero, List.set_cons_succ]
                refine wpAnyH_take (i := 12) (oi := ⟨some 90, _, _, _, _, _⟩) (v := ?vq6_12) rfl (by kernel_rfl) (by kernel_rfl) (by kernel_rfl) (fun _ _ _ h => h) (Or.inl ⟨by kernel_rfl, ?hyq6_12⟩) (by assumption) ?restq6_12
                case hyq6_12 => (intro w hSw; (try dsimp only at hSw); go_simp) <;> (with_reducible rfl)
                try simp only [Act.put, List.setIfInBounds_toArray, List.set_cons_zero, List.set_cons_succ]
                refine wpAnyH_take (i := 13) (oi := ⟨some 91, _, _, _, _, _⟩) (v := ?vq6_13) rfl (by kernel_rfl) (by kernel_rfl) (by kernel_rfl) (fun _ _ _ h => h) (Or.inl ⟨by kernel_rfl, ?hyq6_13⟩) (by assumption) ?restq6_13
                case hyq6_13 => (intro w hSw; (try dsimp only at hSw); go_simp) <;> (with_reducible rfl)
                try simp only [Act.put, List.setIfInBounds_toArray, List.set_cons_zero, List.set_cons_succ]
                refine wpAnyH_take (i := 14) (oi := ⟨some 92, _, _, _, _, _⟩) (v := ?vq6_14) rfl (by kernel_rfl) (by kernel_rfl) (by kernel_rfl) (fun _ _ _ h => h) (Or.inl ⟨by kernel_rfl, ?hyq6_14⟩) (by assumption) ?restq6_14
                case hyq6_14 => (intro w hSw; (try dsimp only at hSw); go_simp) <;> (with_reducible rfl)
                try simp only [Act.put, List.setIfInBounds_toArray, List.set_cons_zero, List.set_cons_succ]
                refine wpAnyH_take (i := 15) (oi := ⟨some 93, _, _, _, _, _⟩) (v := ?vq6_15) rfl (by kernel_rfl) (by kernel_rfl) (by kernel_rfl) (fun _ _ _ h => h) (Or.inl ⟨by kernel_rfl, ?hyq6_15⟩) (by assumption) ?restq6_15
                case hyq6_15 => (intro w hSw; (try dsimp only at hSw); go_simp) <;> (with_reducible rfl)
                try simp only [Act.put, List.setIfInBounds_toArray, List.set_cons_zero, List.set_cons_succ]
                refine wpAnyH_take (i := 16) (oi := ⟨some 94, _, _, _, _, _⟩) (v := ?vq6_16) rfl (by kernel_rfl) (by kernel_rfl) (by kernel_rfl) (fun _ _ _ h => h) (Or.inl ⟨by kernel_rfl, ?hyq6_16⟩) (by assumption) ?restq6_16
                case hyq6_16 => (intro w hSw; (try dsimp only at hSw); go_simp) <;> (with_reducible rfl)
                try simp only [Act.put, List.setIfInBounds_toArray, List.set_cons_zero, List.set_cons_succ]
                refine wpAnyH_take (i := 17) (oi := ⟨some 95, _, _, _, _, _⟩) (v := ?vq6_17) rfl (by kernel_rfl) (by kernel_rfl) (by kernel_rfl) (fun _ _ _ h => h) (Or.inl ⟨by kernel_rfl, ?hyq6_17⟩) (by assumption) ?restq6_17
                case hyq6_17 => (intro w hSw; (try dsimp only at hSw); go_simp) <;> (with_reducible rfl)
                try simp only [Act.put, List.setIfInBounds_toArray, List.set_cons_zero, List.set_cons_succ]
                refine wpAnyH_take (i := 18) (oi := ⟨some 96, _, _, _, _, _⟩) (v := ?vq6_18) rfl (by kernel_rfl) (by kernel_rfl) (by kernel_rfl) (fun _ _ _ h => h) (Or.inl ⟨by kernel_rfl, ?hyq6_18⟩) (by assumption) ?restq6_18
                case hyq6_18 => (intro w hSw; (try dsimp only at hSw); go_simp) <;> (with_reducible rfl)
                try simp only [Act.put, List.setIfInBounds_toArray, List.set_cons_zero, List.set_cons_succ]
                refine wpAnyH_take (i := 19) (oi := ⟨some 97, _, _, _, _, _⟩) (v := ?vq6_19) rfl (by kernel_rfl) (by kernel_rfl) (by kernel_rfl) (fun _ _ _ h => h) (Or.inl ⟨by kernel_rfl, ?hyq6_19⟩) (by assumption) ?restq6_19
                case hyq6_19 => (intro w hSw; (try dsimp only at hSw); go_simp) <;> (with_reducible rfl)
                try simp only [Act.put, List.setIfInBounds_toArray, List.set_cons_zero, List.set_cons_succ]
                refine wpAnyH_take (i := 20) (oi := ⟨some 98, _, _, _, _, _⟩) (v := ?vq6_20) rfl (by kernel_rfl) (by kernel_rfl) (by kernel_rfl) (fun _ _ _ h => h) (Or.inl ⟨by kernel_rfl, ?hyq6_20⟩) (by assumption) ?restq6_20
                case hyq6_20 => (intro w hSw; (try dsimp only at hSw); go_simp) <;> (with_reducible rfl)
                try simp only [Act.put, List.setIfInBounds_toArray, List.set_cons_zero, List.set_cons_succ]
                refine wpAnyH_take (i := 21) (oi := ⟨some 99, _, _, _, _, _⟩) (v := ?vq6_21) rfl (by kernel_rfl) (by kernel_rfl) (by kernel_rfl) (fun _ _ _ h => h) (Or.inl ⟨by kernel_rfl, ?hyq6_21⟩) (by assumption) ?restq6_21
                case hyq6_21 => (intro w hSw; (try dsimp only at hSw); go_simp) <;> (with_reducible rfl)
                try simp only [Act.put, List.setIfInBounds_toArray, List.set_cons_zero, List.set_cons_succ]
                refine wpAnyH_take (i := 22) (oi := ⟨some 100, _, _, _, _, _⟩) (v := ?vq6_22) rfl (by kernel_rfl) (by kernel_rfl) (by kernel_rfl) (fun _ _ _ h => h) (Or.inl ⟨by kernel_rfl, ?hyq6_22⟩) (by assumption) ?restq6_22
                case hyq6_22 => (intro w hSw; (try dsimp only at hSw); go_simp) <;> (with_reducible rfl)
                try simp only [Act.put, List.setIfInBounds_toArray, List.set_cons_zero, List.set_cons_succ]
                refine wpAnyH_take (i := 23) (oi := ⟨some 101, _, _, _, _, _⟩) (v := ?vq6_23) rfl (by kernel_rfl) (by kernel_rfl) (by kernel_rfl) (fun _ _ _ h => h) (Or.inl ⟨by kernel_rfl, ?hyq6_23⟩) (by assumption) ?restq6_23
                case hyq6_23 => (intro w hSw; (try dsimp only at hSw); go_simp) <;> (with_reducible rfl)
                try simp only [Act.put, List.setIfInBounds_toArray, List.set_cons_zero, List.set_cons_succ]
                refine wpAnyH_take (i := 24) (oi := ⟨some 102, _, _, _, _, _⟩) (v := ?vq6_24) rfl (by kernel_rfl) (by kernel_rfl) (by kernel_rfl) (fun _ _ _ h => h) (Or.inl ⟨by kernel_rfl, ?hyq6_24⟩) (by assumption) ?restq6_24
                case hyq6_24 => (intro w hSw; (try dsimp only at hSw); go_simp) <;> (with_reducible rfl)
                try simp only [Act.put, List.setIfInBounds_toArray, List.set_cons_zero, List.set_cons_succ]
                refine wpAnyH_take (i := 25) (oi := ⟨some 103, _, _, _, _, _⟩) (v := ?vq6_25) rfl (by kernel_rfl) (by kernel_rfl) (by kernel_rfl) (fun _ _ _ h => h) (Or.inl ⟨by kernel_rfl, ?hyq6_25⟩) (by assumption) ?restq6_25
                case hyq6_25 => (intro w hSw; (try dsimp only at hSw); go_simp) <;> (with_reducible rfl)
                try simp only [Act.put, List.setIfInBounds_toArray, List.set_cons_zero, List.set_cons_succ]
                refine wpAnyH_take (i := 26) (oi := ⟨some 104, _, _, _, _, _⟩) (v := ?vq6_26) rfl (by kernel_rfl) (by kernel_rfl) (by kernel_rfl) (fun _ _ _ h => h) (Or.inl ⟨by kernel_rfl, ?hyq6_26⟩) (by assumption) ?restq6_26
                case hyq6_26 => (intro w hSw; (try dsimp only at hSw); go_simp) <;> (with_reducible rfl)
                try simp only [Act.put, List.setIfInBounds_toArray, List.set_cons_zero, List.set_cons_succ]
                refine wpAnyH_take (i := 27) (oi := ⟨some 105, _, _, _, _, _⟩) (v := undef) rfl (by kernel_rfl) (by kernel_rfl) (by kernel_rfl) (fun _ _ _ h => h) (Or.inr ⟨by kernel_rfl, rfl⟩) (by assumption) ?_
                try simp only [Act.put, List.setIfInBounds_toArray, List.set_cons_zero, List.set_cons_succ]
                refine wpAnyH_take (i := 28) (oi := ⟨some 106, _, _, _, _, _⟩) (v := undef) rfl (by kernel_rfl) (by kernel_rfl) (by kernel_rfl) (fun _ _ _ h => h) (Or.inr ⟨by kernel_rfl, rfl⟩) (by assumption) ?_
                try simp only [Act.put, List.setIfInBounds_toArray, List.set_cons_zero, List.set_cons_succ]
                refine wpAnyH_take (i := 29) (oi := ⟨some 107, _, _, _, _, _⟩) (v := undef) rfl (by kernel_rfl) (by kernel_rfl) (by kernel_rfl) (fun _ _ _ h => h) (Or.inr ⟨by kernel_rfl, rfl⟩) (by assumption) ?_
                try simp only [Act.put, List.setIfInBounds_toArray, List.set_cons_zero, List.set_cons_succ]
                refine wpAnyH_take (i := 30) (oi := ⟨some 108, _, _, _, _, _⟩) (v := undef) rfl (by kernel_rfl) (by kernel_rfl) (by kernel_rfl) (fun _ _ _ h => h) (Or.inr ⟨by kernel_rfl, rfl⟩) (by assumption) ?_
                try simp only [Act.put, List.setIfInBounds_toArray, List.set_cons_zero, List.set_cons_succ]
                refine wpAnyH_take (i := 31) (oi := ⟨some 109, _, _, _, _, _⟩) (v := undef) rfl (by kernel_rfl) (by kernel_rfl) (by kernel_rfl) (fun _ _ _ h => h) (Or.inr ⟨by kernel_rfl, rfl⟩) (by assumption) ?_
                try simp only [Act.put, List.setIfInBounds_toArray, List.set_cons_zero, List.set_cons_succ]
                refine wpAnyH_take (i := 32) (oi := ⟨some 110, _, _, _, _, _⟩) (v := undef) rfl (by kernel_rfl) (by kernel_rfl) (by kernel_rfl) (fun _ _ _ h => h) (Or.inr ⟨by kernel_rfl, rfl⟩) (by assumption) ?_
                try simp only [Act.put, List.setIfInBounds_toArray, List.set_cons_zero, List.set_cons_succ]
                refine wpAnyH_take (i := 33) (oi := ⟨some 111, _, _, _, _, _⟩) (v := undef) rfl (by kernel_rfl) (by kernel_rfl) (by kernel_rfl) (fun _ _ _ h => h) (Or.inr ⟨by kernel_rfl, rfl⟩) (by assumption) ?_
                try simp only [Act.put, List.setIfInBounds_toArray, List.set_cons_zero, List.set_cons_succ]
                refine wpAnyH_take (i := 34) (oi := ⟨some 112, _, _, _, _, _⟩) (v := undef) rfl (by kernel_rfl) (by kernel_rfl) (by kernel_rfl) (fun _ _ _ h => h) (Or.inr ⟨by kernel_rfl, rfl⟩) (by assumption) ?_
                try simp only [Act.put, List.setIfInBounds_toArray, List.set_cons_zero, List.set_cons_succ]
                refine wpAnyH_take (i := 35) (oi := ⟨some 113, _, _, _, _, _⟩) (v := ?vq6_35) rfl (by kernel_rfl) (by kernel_rfl) (by kernel_rfl) (fun _ _ _ h => h) (Or.inl ⟨by kernel_rfl, ?hyq6_35⟩) (by assumption) ?restq6_35
                case hyq6_35 => (intro w hSw; (try dsimp only at hSw); go_simp) <;> (with_reducible rfl)
                try simp only [Act.put, List.setIfInBounds_toArray, List.set_cons_zero, List.set_cons_succ]
                refine wpAnyH_done (by kernel_rfl) ?_ _
                go_wp2_with fail
                go_roundw
                case rel => exact ⟨n + 1, by omega, by go_num, by rw [List.take_add_one, HX.out]; simp only [List.any_append, HA.out, Option.toList, List.any_cons, List.any_nil, Bool.or_false, Bool.false_or]; exact HN.out, Frm.less (by (repeat (with_reducible first | exact HR.out | apply Frm.drew | apply Frm.alloc | apply Frm.drewN))) (fun p hp => List.mem_cons_of_mem _ hp)⟩
                case measure => simp [intOf]; omega
            · have be3 : (x.a == ry.st) = false := by simp [e3]
              have HN : Hid (hitB rx ry x = false) := Lib.hid (by simp [hitB, HG.out, Ne.symm HG.out, e1, e3])
              have He1 := Lib.hid e1
              clear e1
              have He3 := Lib.hid e3
              clear e3
              refine wp_region_held_drew (S := fun w' => (∀ o, w'.cell? ⟨wr.heap.size, o, none⟩ = #[Value.int .i64 x.a, .int .i64 x.b, .int .i64 x.df][o]?) ∧ (∀ o, w'.cell? ⟨p, o, none⟩ = #[Value.int .i64 rx.st, .int .i64 rx.tk, .int .i64 rx.pr, .int .i64 rx.dlo, .int .i64 rx.dhi, .int .i64 rx.ur, .int .i64 rx.co][o]?) ∧ (∀ o, w'.cell? ⟨q, o, none⟩ = #[Value.int .i64 ry.st, .int .i64 ry.tk, .int .i64 ry.pr, .int .i64 ry.dlo, .int .i64 ry.dhi, .int .i64 ry.ur, .int .i64 ry.co][o]?)) (by kernel_rfl) ?_ (fun hHeld => ?_)
              · (try dsimp only); exact (fun hF : Frm w [(wr.heap.size, (lnkBox x)), (q, (.cells #[.int .i64 ry.st, .int .i64 ry.tk, .int .i64 ry.pr, .int .i64 ry.dlo, .int .i64 ry.dhi, .int .i64 ry.ur, .int .i64 ry.co] 77)), (p, (.cells #[.int .i64 rx.st, .int .i64 rx.tk, .int .i64 rx.pr, .int .i64 rx.dlo, .int .i64 rx.dhi, .int .i64 rx.ur, .int .i64 rx.co] 77)), (w.heap.size, (.cells #[.int .i64 m.n, (.slice (some ⟨b, off, none⟩) rs.length c1), (.slice (some ⟨lb, lo, none⟩) ls.length c2), (.slice A3 p3 c3), .int .i64 m.fall, .int .i64 m.win, .int .i64 m.hold, .int .i64 m.dawn, .int .i64 m.dusk] 26))] _ => ⟨hF.cells mZ, hF.cells (mS (mS mZ)), hF.cells (mS mZ)⟩) (by (repeat (with_reducible first | exact HR.out | apply Frm.drew | apply Frm.alloc | apply Frm.drewN)))
              refine wpAnyH_take (i := 0) (oi := ⟨some 78, _, _, _, _, _⟩) (v := ?vq7_0) rfl (by kernel_rfl) (by kernel_rfl) (by kernel_rfl) (fun _ _ _ h => h) (Or.inl ⟨by kernel_rfl, ?hyq7_0⟩) (by assumption) ?restq7_0
              case hyq7_0 => (intro w hSw; (try dsimp only at hSw); go_simp) <;> (with_reducible rfl)
              try simp only [Act.put, List.setIfInBounds_toArray, List.set_cons_zero, List.set_cons_succ]
              refine wpAnyH_take (i := 1) (oi := ⟨some 79, _, _, _, _, _⟩) (v := ?vq7_1) rfl (by kernel_rfl) (by kernel_rfl) (by kernel_rfl) (fun _ _ _ h => h) (Or.inl ⟨by kernel_rfl, ?hyq7_1⟩) (by assumption) ?restq7_1
              case hyq7_1 => (intro w hSw; (try dsimp only at hSw); go_simp) <;> (with_reducible rfl)
              try simp only [Act.put, List.setIfInBounds_toArray, List.set_cons_zero, List.set_cons_succ]
              refine wpAnyH_take (i := 2) (oi := ⟨some 80, _, _, _, _, _⟩) (v := ?vq7_2) rfl (by kernel_rfl) (by kernel_rfl) (by kernel_rfl) (fun _ _ _ h => h) (Or.inl ⟨by kernel_rfl, ?hyq7_2⟩) (by assumption) ?restq7_2
              case hyq7_2 => (intro w hSw; (try dsimp only at hSw); go_simp) <;> (with_reducible rfl)
              try simp only [Act.put, List.setIfInBounds_toArray, List.set_cons_zero, List.set_cons_succ]
              refine wpAnyH_take (i := 3) (oi := ⟨some 81, _, _, _, _, _⟩) (v := ?vq7_3) rfl (by kernel_rfl) (by kernel_rfl) (by kernel_rfl) (fun _ _ _ h => h) (Or.inl ⟨by kernel_rfl, ?hyq7_3⟩) (by assumption) ?restq7_3
              case hyq7_3 => (intro w hSw; (try dsimp only at hSw); go_simp) <;> (with_reducible rfl)
              try simp only [Act.put, List.setIfInBounds_toArray, List.set_cons_zero, List.set_cons_succ]
              refine wpAnyH_take (i := 4) (oi := ⟨some 82, _, _, _, _, _⟩) (v := ?vq7_4) rfl (by kernel_rfl) (by kernel_rfl) (by kernel_rfl) (fun _ _ _ h => h) (Or.inl ⟨by kernel_rfl, ?hyq7_4⟩) (by assumption) ?restq7_4
              case hyq7_4 => (intro w hSw; (try dsimp only at hSw); go_simp) <;> (with_reducible rfl)
              try simp only [Act.put, List.setIfInBounds_toArray, List.set_cons_zero, List.set_cons_succ]
              refine wpAnyH_take (i := 5) (oi := ⟨some 83, _, _, _, _, _⟩) (v := ?vq7_5) rfl (by kernel_rfl) (by kernel_rfl) (by kernel_rfl) (fun _ _ _ h => h) (Or.inl ⟨by kernel_rfl, ?hyq7_5⟩) (by assumption) ?restq7_5
              case hyq7_5 => (intro w hSw; (try dsimp only at hSw); go_simp) <;> (with_reducible rfl)
              try simp only [Act.put, List.setIfInBounds_toArray, List.set_cons_zero, List.set_cons_succ]
              refine wpAnyH_take (i := 6) (oi := ⟨some 84, _, _, _, _, _⟩) (v := undef) rfl (by kernel_rfl) (by kernel_rfl) (by kernel_rfl) (fun _ _ _ h => h) (Or.inr ⟨by kernel_rfl, rfl⟩) (by assumption) ?_
              try simp only [Act.put, List.setIfInBounds_toArray, List.set_cons_zero, List.set_cons_succ]
              refine wpAnyH_take (i := 7) (oi := ⟨some 85, _, _, _, _, _⟩) (v := undef) rfl (by kernel_rfl) (by kernel_rfl) (by kernel_rfl) (fun _ _ _ h => h) (Or.inr ⟨by kernel_rfl, rfl⟩) (by assumption) ?_
              try simp only [Act.put, List.setIfInBounds_toArray, List.set_cons_zero, List.set_cons_succ]
              refine wpAnyH_take (i := 8) (oi := ⟨some 86, _, _, _, _, _⟩) (v := undef) rfl (by kernel_rfl) (by kernel_rfl) (by kernel_rfl) (fun _ _ _ h => h) (Or.inr ⟨by kernel_rfl, rfl⟩) (by assumption) ?_
              try simp only [Act.put, List.setIfInBounds_toArray, List.set_cons_zero, List.set_cons_succ]
              refine wpAnyH_take (i := 9) (oi := ⟨some 87, _, _, _, _, _⟩) (v := undef) rfl (by kernel_rfl) (by kernel_rfl) (by kernel_rfl) (fun _ _ _ h => h) (Or.inr ⟨by kernel_rfl, rfl⟩) (by assumption) ?_
              try simp only [Act.put, List.setIfInBounds_toArray, List.set_cons_zero, List.set_cons_succ]
              refine wpAnyH_take (i := 10) (oi := ⟨some 88, _, _, _, _, _⟩) (v := undef) rfl (by kernel_rfl) (by kernel_rfl) (by kernel_rfl) (fun _ _ _ h => h) (Or.inr ⟨by kernel_rfl, rfl⟩) (by assumption) ?_
              try simp only [Act.put, List.setIfInBounds_toArray, List.set_cons_zero, List.set_cons_succ]
              refine wpAnyH_take (i := 11) (oi := ⟨some 89, _, _, _, _, _⟩) (v := ?vq7_11) rfl (by kernel_rfl) (by kernel_rfl) (by kernel_rfl) (fun _ _ _ h => h) (Or.inl ⟨by kernel_rfl, ?hyq7_11⟩) (by assumption) ?restq7_11
              case hyq7_11 => (intro w hSw; (try dsimp only at hSw); go_simp) <;> (with_reducible rfl)
              try simp only [Act.put, List.setIfInBounds_toArray, List.set_cons_zero, List.set_cons_succ]
              refine wpAnyH_take (i := 12) (oi := ⟨some 90, _, _, _, _, _⟩) (v := ?vq7_12) rfl (by kernel_rfl) (by kernel_rfl) (by kernel_rfl) (fun _ _ _ h => h) (Or.inl ⟨by kernel_rfl, ?hyq7_12⟩) (by assumption) ?restq7_12
              case hyq7_12 => (intro w hSw; (try dsimp only at hSw); go_simp) <;> (with_reducible rfl)
              try simp only [Act.put, List.setIfInBounds_toArray, List.set_cons_zero, List.set_cons_succ]
              refine wpAnyH_take (i := 13) (oi := ⟨some 91, _, _, _, _, _⟩) (v := ?vq7_13) rfl (by kernel_rfl) (by kernel_rfl) (by kernel_rfl) (fun _ _ _ h => h) (Or.inl ⟨by kernel_rfl, ?hyq7_13⟩) (by assumption) ?restq7_13
              case hyq7_13 => (intro w hSw; (try dsimp only at hSw); go_simp) <;> (with_reducible rfl)
              try simp only [Act.put, List.setIfInBounds_toArray, List.set_cons_zero, List.set_cons_succ]
              refine wpAnyH_take (i := 14) (oi := ⟨some 92, _, _, _, _, _⟩) (v := ?vq7_14) rfl (by kernel_rfl) (by kernel_rfl) (by kernel_rfl) (fun _ _ _ h => h) (Or.inl ⟨by kernel_rfl, ?hyq7_14⟩) (by assumption) ?restq7_14
              case hyq7_14 => (intro w hSw; (try dsimp only at hSw); go_simp) <;> (with_reducible rfl)
              try simp only [Act.put, List.setIfInBounds_toArray, List.set_cons_zero, List.set_cons_succ]
              refine wpAnyH_take (i := 15) (oi := ⟨some 93, _, _, _, _, _⟩) (v := ?vq7_15) rfl (by kernel_rfl) (by kernel_rfl) (by kernel_rfl) (fun _ _ _ h => h) (Or.inl ⟨by kernel_rfl, ?hyq7_15⟩) (by assumption) ?restq7_15
              case hyq7_15 => (intro w hSw; (try dsimp only at hSw); go_simp) <;> (with_reducible rfl)
              try simp only [Act.put, List.setIfInBounds_toArray, List.set_cons_zero, List.set_cons_succ]
              refine wpAnyH_take (i := 16) (oi := ⟨some 94, _, _, _, _, _⟩) (v := ?vq7_16) rfl (by kernel_rfl) (by kernel_rfl) (by kernel_rfl) (fun _ _ _ h => h) (Or.inl ⟨by kernel_rfl, ?hyq7_16⟩) (by assumption) ?restq7_16
              case hyq7_16 => (intro w hSw; (try dsimp only at hSw); go_simp) <;> (with_reducible rfl)
              try simp only [Act.put, List.setIfInBounds_toArray, List.set_cons_zero, List.set_cons_succ]
              refine wpAnyH_take (i := 17) (oi := ⟨some 95, _, _, _, _, _⟩) (v := ?vq7_17) rfl (by kernel_rfl) (by kernel_rfl) (by kernel_rfl) (fun _ _ _ h => h) (Or.inl ⟨by kernel_rfl, ?hyq7_17⟩) (by assumption) ?restq7_17
              case hyq7_17 => (intro w hSw; (try dsimp only at hSw); go_simp) <;> (with_reducible rfl)
              try simp only [Act.put, List.setIfInBounds_toArray, List.set_cons_zero, List.set_cons_succ]
              refine wpAnyH_take (i := 18) (oi := ⟨some 96, _, _, _, _, _⟩) (v := ?vq7_18) rfl (by kernel_rfl) (by kernel_rfl) (by kernel_rfl) (fun _ _ _ h => h) (Or.inl ⟨by kernel_rfl, ?hyq7_18⟩) (by assumption) ?restq7_18
              case hyq7_18 => (intro w hSw; (try dsimp only at hSw); go_simp) <;> (with_reducible rfl)
              try simp only [Act.put, List.setIfInBounds_toArray, List.set_cons_zero, List.set_cons_succ]
              refine wpAnyH_take (i := 19) (oi := ⟨some 97, _, _, _, _, _⟩) (v := undef) rfl (by kernel_rfl) (by kernel_rfl) (by kernel_rfl) (fun _ _ _ h => h) (Or.inr ⟨by kernel_rfl, rfl⟩) (by assumption) ?_
              try simp only [Act.put, List.setIfInBounds_toArray, List.set_cons_zero, List.set_cons_succ]
              refine wpAnyH_take (i := 20) (oi := ⟨some 98, _, _, _, _, _⟩) (v := undef) rfl (by kernel_rfl) (by kernel_rfl) (by kernel_rfl) (fun _ _ _ h => h) (Or.inr ⟨by kernel_rfl, rfl⟩) (by assumption) ?_
              try simp only [Act.put, List.setIfInBounds_toArray, List.set_cons_zero, List.set_cons_succ]
              refine wpAnyH_take (i := 21) (oi := ⟨some 99, _, _, _, _, _⟩) (v := undef) rfl (by kernel_rfl) (by kernel_rfl) (by kernel_rfl) (fun _ _ _ h => h) (Or.inr ⟨by kernel_rfl, rfl⟩) (by assumption) ?_
              try simp only [Act.put, List.setIfInBounds_toArray, List.set_cons_zero, List.set_cons_succ]
              refine wpAnyH_take (i := 22) (oi := ⟨some 100, _, _, _, _, _⟩) (v := undef) rfl (by kernel_rfl) (by kernel_rfl) (by kernel_rfl) (fun _ _ _ h => h) (Or.inr ⟨by kernel_rfl, rfl⟩) (by assumption) ?_
              try simp only [Act.put, List.setIfInBounds_toArray, List.set_cons_zero, List.set_cons_succ]
              refine wpAnyH_take (i := 23) (oi := ⟨some 101, _, _, _, _, _⟩) (v := undef) rfl (by kernel_rfl) (by kernel_rfl) (by kernel_rfl) (fun _ _ _ h => h) (Or.inr ⟨by kernel_rfl, rfl⟩) (by assumption) ?_
              try simp only [Act.put, List.setIfInBounds_toArray, List.set_cons_zero, List.set_cons_succ]
              refine wpAnyH_take (i := 24) (oi := ⟨some 102, _, _, _, _, _⟩) (v := ?vq7_24) rfl (by kernel_rfl) (by kernel_rfl) (by kernel_rfl) (fun _ _ _ h => h) (Or.inl ⟨by kernel_rfl, ?hyq7_24⟩) (by assumption) ?restq7_24
              case hyq7_24 => (intro w hSw; (try dsimp only at hSw); go_simp) <;> (with_reducible rfl)
              try simp only [Act.put, List.setIfInBounds_toArray, List.set_cons_zero, List.set_cons_succ]
              refine wpAnyH_take (i := 25) (oi := ⟨some 103, _, _, _, _, _⟩) (v := ?vq7_25) rfl (by kernel_rfl) (by kernel_rfl) (by kernel_rfl) (fun _ _ _ h => h) (Or.inl ⟨by kernel_rfl, ?hyq7_25⟩) (by assumption) ?restq7_25
              case hyq7_25 => (intro w hSw; (try dsimp only at hSw); go_simp) <;> (with_reducible rfl)
              try simp only [Act.put, List.setIfInBounds_toArray, List.set_cons_zero, List.set_cons_succ]
              refine wpAnyH_take (i := 26) (oi := ⟨some 104, _, _, _, _, _⟩) (v := ?vq7_26) rfl (by kernel_rfl) (by kernel_rfl) (by kernel_rfl) (fun _ _ _ h => h) (Or.inl ⟨by kernel_rfl, ?hyq7_26⟩) (by assumption) ?restq7_26
              case hyq7_26 => (intro w hSw; (try dsimp only at hSw); go_simp) <;> (with_reducible rfl)
              try simp only [Act.put, List.setIfInBounds_toArray, List.set_cons_zero, List.set_cons_succ]
              refine wpAnyH_take (i := 27) (oi := ⟨some 105, _, _, _, _, _⟩) (v := undef) rfl (by kernel_rfl) (by kernel_rfl) (by kernel_rfl) (fun _ _ _ h => h) (Or.inr ⟨by kernel_rfl, rfl⟩) (by assumption) ?_
              try simp only [Act.put, List.setIfInBounds_toArray, List.set_cons_zero, List.set_cons_succ]
              refine wpAnyH_take (i := 28) (oi := ⟨some 106, _, _, _, _, _⟩) (v := undef) rfl (by kernel_rfl) (by kernel_rfl) (by kernel_rfl) (fun _ _ _ h => h) (Or.inr ⟨by kernel_rfl, rfl⟩) (by assumption) ?_
              try simp only [Act.put, List.setIfInBounds_toArray, List.set_cons_zero, List.set_cons_succ]
              refine wpAnyH_take (i := 29) (oi := ⟨some 107, _, _, _, _, _⟩) (v := undef) rfl (by kernel_rfl) (by kernel_rfl) (by kernel_rfl) (fun _ _ _ h => h) (Or.inr ⟨by kernel_rfl, rfl⟩) (by assumption) ?_
              try simp only [Act.put, List.setIfInBounds_toArray, List.set_cons_zero, List.set_cons_succ]
              refine wpAnyH_take (i := 30) (oi := ⟨some 108, _, _, _, _, _⟩) (v := undef) rfl (by kernel_rfl) (by kernel_rfl) (by kernel_rfl) (fun _ _ _ h => h) (Or.inr ⟨by kernel_rfl, rfl⟩) (by assumption) ?_
              try simp only [Act.put, List.setIfInBounds_toArray, List.set_cons_zero, List.set_cons_succ]
              refine wpAnyH_take (i := 31) (oi := ⟨some 109, _, _, _, _, _⟩) (v := undef) rfl (by kernel_rfl) (by kernel_rfl) (by kernel_rfl) (fun _ _ _ h => h) (Or.inr ⟨by kernel_rfl, rfl⟩) (by assumption) ?_
              try simp only [Act.put, List.setIfInBounds_toArray, List.set_cons_zero, List.set_cons_succ]
              refine wpAnyH_take (i := 32) (oi := ⟨some 110, _, _, _, _, _⟩) (v := undef) rfl (by kernel_rfl) (by kernel_rfl) (by kernel_rfl) (fun _ _ _ h => h) (Or.inr ⟨by kernel_rfl, rfl⟩) (by assumption) ?_
              try simp only [Act.put, List.setIfInBounds_toArray, List.set_cons_zero, List.set_cons_succ]
              refine wpAnyH_take (i := 33) (oi := ⟨some 111, _, _, _, _, _⟩) (v := undef) rfl (by kernel_rfl) (by kernel_rfl) (by kernel_rfl) (fun _ _ _ h => h) (Or.inr ⟨by kernel_rfl, rfl⟩) (by assumption) ?_
              try simp only [Act.put, List.setIfInBounds_toArray, List.set_cons_zero, List.set_cons_succ]
              refine wpAnyH_take (i := 34) (oi := ⟨some 112, _, _, _, _, _⟩) (v := undef) rfl (by kernel_rfl) (by kernel_rfl) (by kernel_rfl) (fun _ _ _ h => h) (Or.inr ⟨by kernel_rfl, rfl⟩) (by assumption) ?_
              try simp only [Act.put, List.setIfInBounds_toArray, List.set_cons_zero, List.set_cons_succ]
              refine wpAnyH_take (i := 35) (oi := ⟨some 113, _, _, _, _, _⟩) (v := ?vq7_35) rfl (by kernel_rfl) (by kernel_rfl) (by kernel_rfl) (fun _ _ _ h => h) (Or.inl ⟨by kernel_rfl, ?hyq7_35⟩) (by assumption) ?restq7_35
              case hyq7_35 => (intro w hSw; (try dsimp only at hSw); go_simp) <;> (with_reducible rfl)
              try simp only [Act.put, List.setIfInBounds_toArray, List.set_cons_zero, List.set_cons_succ]
              refine wpAnyH_done (by kernel_rfl) ?_ _
              go_wp2_with fail
              go_roundw
              case rel => exact ⟨n + 1, by omega, by go_num, by rw [List.take_add_one, HX.out]; simp only [List.any_append, HA.out, Option.toList, List.any_cons, List.any_nil, Bool.or_false, Bool.false_or]; exact HN.out, Frm.less (by (repeat (with_reducible first | exact HR.out | apply Frm.drew | apply Frm.alloc | apply Frm.drewN))) (fun p hp => List.mem_cons_of_mem _ hp)⟩
              case measure => simp [intOf]; omega
        · obtain rfl : n = ls.length := by omega
          have HV : Hid (alF m ls rs i k = false) := Lib.hid (by rw [HAL.out, if_neg HG.out, HW9.out, Bool.true_and]; have := HA.out; rwa [List.take_length] at this)
          go_wp2_with fail
          go_ret
          exact ⟨ret_bool HV.out.symm, Frm.b (w := w) (by (repeat (with_reducible first | exact HR.out | apply Frm.drew | apply Frm.alloc | apply Frm.drewN)))⟩
end Go.Proofs.YtldimlnllmojiaaGreat
