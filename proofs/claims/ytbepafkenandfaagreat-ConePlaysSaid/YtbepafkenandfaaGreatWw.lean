/- The reference's First. -/
import Derived.Test.YtbepafkenandfaaGreatWv
set_option linter.unusedVariables false
set_option linter.unusedSimpArgs false
namespace Go.Proofs.YtbepafkenandfaaGreat
open Go.RowKit
open Go.Shelf
open Go.Maps
theorem rSees_is {m : Wn} {A1 A2 A3 : Option Addr} {rs : List Rep} {ls : List Lnk} {c1 c2 p3 c3 : Nat} {E : Option Addr} {ec : Nat} {zs : List Int} {t : Int} {w : World} {v : Bool} (h1 : Reps w (.slice A1 rs.length c1) rs) (h2 : Lnks w (.slice A2 ls.length c2) ls) (hz : Ints w (.slice E zs.length ec) zs) (hzl : zs.length = rs.length) (hlen : rs.length ≤ 12) (hg : ∀ x ∈ rs, 0 ≤ x.tk ∧ x.tk ≤ 100000 ∧ 0 ≤ x.pr ∧ x.pr ≤ 99999) (hho : 0 ≤ m.hold ∧ m.hold ≤ 100000) (hd : ∀ i, i < rs.length → 0 ≤ ev zs i ∧ ev zs i ≤ 100000) (hv : seenB (siL m ls rs (ev zs)) t = v) :
    Calls Tryz.prog 32 #[wtV m (.slice A1 rs.length c1) (.slice A2 ls.length c2) (.slice A3 p3 c3), (.slice E zs.length ec), .int .i64 t] w fun e w' => e = .returned (.bool v) ∧ Below w.heap.size w w' := by
  subst hv
  rw [seen_al]
  exact rSees_any m A1 A2 A3 rs ls c1 c2 p3 c3 E ec zs t w h1 h2 hz hzl hlen hg hho hd
set_option maxHeartbeats 4000000 in
set_option maxRecDepth 100000 in
theorem rFirst_any (m : Wn) (A1 A2 A3 : Option Addr) (rs : List Rep) (ls : List Lnk) (c1 c2 p3 c3 : Nat) (E : Option Addr) (ec : Nat) (zs : List Int) (w : World) (h1 : Reps w (.slice A1 rs.length c1) rs) (h2 : Lnks w (.slice A2 ls.length c2) ls) (hz : Ints w (.slice E zs.length ec) zs) (hzl : zs.length = rs.length) (hlen : rs.length ≤ 12) (hg : ∀ x ∈ rs, 0 ≤ x.tk ∧ x.tk ≤ 100000 ∧ 0 ≤ x.pr ∧ x.pr ≤ 99999) (hho : 0 ≤ m.hold ∧ m.hold ≤ 100000) (hd : ∀ i, i < rs.length → 0 ≤ ev zs i ∧ ev zs i ≤ 100000) :
    Calls Tryz.prog 26 #[wtV m (.slice A1 rs.length c1) (.slice A2 ls.length c2) (.slice A3 p3 c3), (.slice E zs.length ec)] w fun e w' => e = .returned (.int .i64 (sightF (siL m ls rs (ev zs)))) ∧ Below w.heap.size w w' := by
  have HFE : Hid (firstR (seenB (siL m ls rs (ev zs))) (comesL rs (ev zs) rs.length) = sightF (siL m ls rs (ev zs))) := Lib.hid (first_eq fun i hi => by have h1 := hg _ (repAt_mem (rs := rs) (i := i) hi); have h2 := hd i hi; omega)
  have H1 := Lib.hid h1
  have H2 := Lib.hid h2
  have HZ := Lib.hid hz
  have HG := Lib.hid hg
  have HDB := Lib.hid hd
  have HZL := Lib.hid hzl
  have hzl1 : zs.length ≤ rs.length := by omega
  have hzl2 : rs.length ≤ zs.length := by omega
  clear h1 h2 hz hg hd hzl
  have HR := Lib.hid ((Frm.nil w).add (.cells #[.int .i64 m.n, (.slice A1 rs.length c1), (.slice A2 ls.length c2), (.slice A3 p3 c3), .int .i64 m.fall, .int .i64 m.win, .int .i64 m.hold, .int .i64 m.dawn, .int .i64 m.dusk] 26) rfl)
  have x0 := HR.out.cells (List.mem_cons_self ..)
  go_enter Tryz.func26, Tryz.ntmps26
  go_wp2_with fail
  go_loopw [5, 6] (fun o j wr => ∃ n : Nat, n ≤ rs.length ∧ j = .int .i64 n ∧ o = .int .i64 (firstR (seenB (siL m ls rs (ev zs))) (comesL rs (ev zs) n)) ∧ Frm w [(w.heap.size, (.cells #[.int .i64 m.n, (.slice A1 rs.length c1), (.slice A2 ls.length c2), (.slice A3 p3 c3), .int .i64 m.fall, .int .i64 m.win, .int .i64 m.hold, .int .i64 m.dawn, .int .i64 m.dusk] 26))] wr) (fun _ j _ => rs.length - (intOf j).toNat)
  case atStart => exact ⟨0, Nat.zero_le _, rfl, rfl, (by (repeat (with_reducible first | exact HR.out | apply Frm.drew | apply Frm.alloc | apply Frm.drewN)))⟩
  case round =>
    obtain ⟨n, hn, rfl, rfl, hF⟩ := hrel
    clear HR x0
    have HR := Lib.hid hF
    clear hF
    have x0 := HR.out.cells (List.mem_cons_self ..)
    by_cases hnl : n < rs.length
    · have hrx := some_repAt (rs := rs) (i := n) hnl
      have hdi := ev_some (zs := zs) (i := n) (by omega)
      have HN := Lib.hid (firstR_snoc (seenB (siL m ls rs (ev zs))) (comesL rs (ev zs) n) ((repAt rs n).tk + ev zs n))
      have HC := Lib.hid (comesL_next rs (ev zs) n)
      have g1 := HG.out _ (repAt_mem (rs := rs) (i := n) hnl)
      have g3 := HDB.out n hnl
      have hnz : n < zs.length := by omega
      have HXI := Lib.hid hrx
      have HDI := Lib.hid hdi
      obtain ⟨b, off, hRR, hc1, hc2, c00, c10, -⟩ := rep_cells (Rws.below H1.out HR.out.b (Nat.le_refl _)) hrx
      obtain ⟨eb, eo, hEE, hel1, hel2, d00⟩ := ints_cells (HZ.out.below HR.out.b) hdi
      subst hRR
      subst hEE
      clear hrx hdi c00 c10 d00
      unfold maxLen at hel2 hc2
      have HNX : Hid (firstR (seenB (siL m ls rs (ev zs))) (comesL rs (ev zs) (n + 1)) = _) := Lib.hid (HC.out ▸ HN.out)
      clear HN HC
      generalize repAt rs n = rx at *
      generalize ev zs n = di at *
      generalize firstR (seenB (siL m ls rs (ev zs))) (comesL rs (ev zs) n) = ou at *
      have e1 : IntKind.i64.wrap (rx.tk + di) = rx.tk + di := IntWalk.i64_in _ (by omega)
      cases hs : seenB (siL m ls rs (ev zs)) (rx.tk + di)
      · have HV := Lib.hid hs
        clear hs
        have HNY : Hid (firstR (seenB (siL m ls rs (ev zs))) (comesL rs (ev zs) (n + 1)) = ou) := Lib.hid (by rw [HNX.out, HV.out]; simp only [Bool.true_and, Bool.false_and, Bool.or_eq_true, decide_eq_true_eq]; first | rfl | (split <;> omega))
        go_upto_region 5 with fail
        refine wp_region_held_drew (S := fun w' => (∀ o, w'.cell? ⟨w.heap.size, o, none⟩ = #[Value.int .i64 m.n, (.slice (some ⟨b, off, none⟩) rs.length c1), (.slice A2 ls.length c2), (.slice A3 p3 c3), .int .i64 m.fall, .int .i64 m.win, .int .i64 m.hold, .int .i64 m.dawn, .int .i64 m.dusk][o]?) ∧ w'.cell? ⟨b, off + n * 7 + 1, none⟩ = some (.int .i64 rx.tk) ∧ w'.cell? ⟨eb, eo + n, none⟩ = some (.int .i64 di)) (by kernel_rfl) ?_ (fun hHeld => ?_)
        · (try dsimp only); exact (fun hF : Frm w [(w.heap.size, (.cells #[.int .i64 m.n, (.slice (some ⟨b, off, none⟩) rs.length c1), (.slice A2 ls.length c2), (.slice A3 p3 c3), .int .i64 m.fall, .int .i64 m.win, .int .i64 m.hold, .int .i64 m.dawn, .int .i64 m.dusk] 26))] _ => ⟨hF.cells (List.mem_cons_self ..), (rep_at H1.out hF.b HXI.out).2.1, ints_at HZ.out hF.b HDI.out⟩) (by (repeat (with_reducible first | exact HR.out | apply Frm.drew | apply Frm.alloc | apply Frm.drewN)))
        refine wpAnyH_take (i := 0) (oi := ⟨some 15, _, _, _, _, _⟩) (v := ?vq2_0) rfl (by kernel_rfl) (by kernel_rfl) (by kernel_rfl) (fun _ _ _ h => h) (Or.inl ⟨by kernel_rfl, ?hyq2_0⟩) (by assumption) ?restq2_0
        case hyq2_0 => (intro w hSw; (try dsimp only at hSw); go_simp) <;> (with_reducible rfl)
        try simp only [Act.put, List.setIfInBounds_toArray, List.set_cons_zero, List.set_cons_succ]
        refine wpAnyH_take (i := 1) (oi := ⟨some 16, _, _, _, _, _⟩) (v := ?vq2_1) rfl (by kernel_rfl) (by kernel_rfl) (by kernel_rfl) (fun _ _ _ h => h) (Or.inl ⟨by kernel_rfl, ?hyq2_1⟩) (by assumption) ?restq2_1
        case hyq2_1 => (intro w hSw; (try dsimp only at hSw); go_simp) <;> (with_reducible rfl)
        try simp only [Act.put, List.setIfInBounds_toArray, List.set_cons_zero, List.set_cons_succ]
        refine wpAnyH_take (i := 2) (oi := ⟨some 17, _, _, _, _, _⟩) (v := ?vq2_2) rfl (by kernel_rfl) (by kernel_rfl) (by kernel_rfl) (fun _ _ _ h => h) (Or.inl ⟨by kernel_rfl, ?hyq2_2⟩) (by assumption) ?restq2_2
        case hyq2_2 => (intro w hSw; (try dsimp only at hSw); go_simp) <;> (with_reducible rfl)
        try simp only [Act.put, List.setIfInBounds_toArray, List.set_cons_zero, List.set_cons_succ]
        refine wpAnyH_take (i := 3) (oi := ⟨some 18, _, _, _, _, _⟩) (v := ?vq2_3) rfl (by kernel_rfl) (by kernel_rfl) (by kernel_rfl) (fun _ _ _ h => h) (Or.inl ⟨by kernel_rfl, ?hyq2_3⟩) (by assumption) ?restq2_3
        case hyq2_3 => (intro w hSw; (try dsimp only at hSw); go_simp) <;> (with_reducible rfl)
        try simp only [Act.put, List.setIfInBounds_toArray, List.set_cons_zero, List.set_cons_succ]
        refine wpAnyH_take (i := 4) (oi := ⟨some 19, _, _, _, _, _⟩) (v := ?vq2_4) rfl (by kernel_rfl) (by kernel_rfl) (by kernel_rfl) (fun _ _ _ h => h) (Or.inl ⟨by kernel_rfl, ?hyq2_4⟩) (by assumption) ?restq2_4
        case hyq2_4 => (intro w hSw; (try dsimp only at hSw); go_simp) <;> (with_reducible rfl)
        try simp only [Act.put, List.setIfInBounds_toArray, List.set_cons_zero, List.set_cons_succ]
        refine wpAnyH_take (i := 5) (oi := ⟨some 20, _, _, _, _, _⟩) (v := ?vq2_5) rfl (by kernel_rfl) (by kernel_rfl) (by kernel_rfl) (fun _ _ _ h => h) (Or.inl ⟨by kernel_rfl, ?hyq2_5⟩) (by assumption) ?restq2_5
        case hyq2_5 => (intro w hSw; (try dsimp only at hSw); go_simp) <;> (with_reducible rfl)
        try simp only [Act.put, List.setIfInBounds_toArray, List.set_cons_zero, List.set_cons_succ]
        refine wpAnyH_take (i := 6) (oi := ⟨some 21, _, _, _, _, _⟩) (v := ?vq2_6) rfl (by kernel_rfl) (by kernel_rfl) (by kernel_rfl) (fun _ _ _ h => h) (Or.inl ⟨by kernel_rfl, ?hyq2_6⟩) (by assumption) ?restq2_6
        case hyq2_6 => (intro w hSw; (try dsimp only at hSw); go_simp) <;> (with_reducible rfl)
        try simp only [Act.put, List.setIfInBounds_toArray, List.set_cons_zero, List.set_cons_succ]
        refine wpAnyH_take (i := 7) (oi := ⟨some 22, _, _, _, _, _⟩) (v := ?vq2_7) rfl (by kernel_rfl) (by kernel_rfl) (by kernel_rfl) (fun _ _ _ h => h) (Or.inl ⟨by kernel_rfl, ?hyq2_7⟩) (by assumption) ?restq2_7
        case hyq2_7 => (intro w hSw; (try dsimp only at hSw); go_simp) <;> (with_reducible rfl)
        try simp only [Act.put, List.setIfInBounds_toArray, List.set_cons_zero, List.set_cons_succ]
        refine wpAnyH_take (i := 8) (oi := ⟨some 23, _, _, _, _, _⟩) (v := ?vq2_8) rfl (by kernel_rfl) (by kernel_rfl) (by kernel_rfl) (fun _ _ _ h => h) (Or.inl ⟨by kernel_rfl, ?hyq2_8⟩) (by assumption) ?restq2_8
        case hyq2_8 => (intro w hSw; (try dsimp only at hSw); go_simp) <;> (with_reducible rfl)
        try simp only [Act.put, List.setIfInBounds_toArray, List.set_cons_zero, List.set_cons_succ]
        refine wpAnyH_take (i := 9) (oi := ⟨some 24, _, _, _, _, _⟩) (v := ?vq2_9) rfl (by kernel_rfl) (by kernel_rfl) (by kernel_rfl) (fun _ _ _ h => h) (Or.inl ⟨by kernel_rfl, ?hyq2_9⟩) (by assumption) ?restq2_9
        case hyq2_9 => (intro w hSw; (try dsimp only at hSw); go_simp) <;> (with_reducible rfl)
        try simp only [Act.put, List.setIfInBounds_toArray, List.set_cons_zero, List.set_cons_succ]
        refine wpAnyH_take (i := 10) (oi := ⟨some 25, _, _, _, _, _⟩) (v := ?vq2_10) rfl (by kernel_rfl) (by kernel_rfl) (by kernel_rfl) (fun _ _ _ h => h) (Or.inl ⟨by kernel_rfl, ?hyq2_10⟩) (by assumption) ?restq2_10
        case hyq2_10 => (intro w hSw; (try dsimp only at hSw); go_simp) <;> (with_reducible rfl)
        try simp only [Act.put, List.setIfInBounds_toArray, List.set_cons_zero, List.set_cons_succ]
        refine wpAnyH_take (i := 11) (oi := ⟨some 7, _, _, _, _, _⟩) (v := ?vq2_11) rfl (by kernel_rfl) (by kernel_rfl) (by kernel_rfl) (fun _ _ _ h => h) (Or.inl ⟨by kernel_rfl, ?hyq2_11⟩) (by assumption) ?restq2_11
        case hyq2_11 => (intro w hSw; (try dsimp only at hSw); go_simp) <;> (with_reducible rfl)
        try simp only [Act.put, List.setIfInBounds_toArray, List.set_cons_zero, List.set_cons_succ]
        refine wpAnyH_done (by kernel_rfl) ?_ _
        go_wp2_with (go_at_call 32; refine (rSees_is (Rws.below H1.out (Frm.b (w := w) (bs := [(w.heap.size, (.cells #[.int .i64 m.n, (.slice (some ⟨b, off, none⟩) rs.length c1), (.slice A2 ls.length c2), (.slice A3 p3 c3), .int .i64 m.fall, .int .i64 m.win, .int .i64 m.hold, .int .i64 m.dawn, .int .i64 m.dusk] 26))]) (by (repeat (with_reducible first | exact HR.out | apply Frm.drew | apply Frm.alloc | apply Frm.drewN)))) (Nat.le_refl _)) (Rws.below H2.out (Frm.b (w := w) (bs := [(w.heap.size, (.cells #[.int .i64 m.n, (.slice (some ⟨b, off, none⟩) rs.length c1), (.slice A2 ls.length c2), (.slice A3 p3 c3), .int .i64 m.fall, .int .i64 m.win, .int .i64 m.hold, .int .i64 m.dawn, .int .i64 m.dusk] 26))]) (by (repeat (with_reducible first | exact HR.out | apply Frm.drew | apply Frm.alloc | apply Frm.drewN)))) (Nat.le_refl _)) (HZ.out.below (Frm.b (w := w) (bs := [(w.heap.size, (.cells #[.int .i64 m.n, (.slice (some ⟨b, off, none⟩) rs.length c1), (.slice A2 ls.length c2), (.slice A3 p3 c3), .int .i64 m.fall, .int .i64 m.win, .int .i64 m.hold, .int .i64 m.dawn, .int .i64 m.dusk] 26))]) (by (repeat (with_reducible first | exact HR.out | apply Frm.drew | apply Frm.alloc | apply Frm.drewN))))) HZL.out hlen HG.out hho HDB.out HV.out).mono ?_; rintro e wa ⟨rfl, hbq⟩; have HRq := Lib.hid (Frm.below (w := w) (bs := [(w.heap.size, (.cells #[.int .i64 m.n, (.slice (some ⟨b, off, none⟩) rs.length c1), (.slice A2 ls.length c2), (.slice A3 p3 c3), .int .i64 m.fall, .int .i64 m.win, .int .i64 m.hold, .int .i64 m.dawn, .int .i64 m.dusk] 26))]) (by (repeat (with_reducible first | exact HR.out | apply Frm.drew | apply Frm.alloc | apply Frm.drewN))) hbq); clear HR x0; have HR := HRq; clear HRq hbq; have x0 := HR.out.cells (List.mem_cons_self ..))
        all_goals
          go_roundw
          case rel => exact ⟨n + 1, by omega, by go_num, by rw [HNY.out], (by (repeat (with_reducible first | exact HR.out | apply Frm.drew | apply Frm.alloc | apply Frm.drewN)))⟩
          case measure => simp [intOf]; omega
      · have HV := Lib.hid hs
        clear hs
        by_cases o1 : ou < 0
        · have HNY : Hid (firstR (seenB (siL m ls rs (ev zs))) (comesL rs (ev zs) (n + 1)) = rx.tk + di) := Lib.hid (by rw [HNX.out, HV.out]; simp only [Bool.true_and, Bool.false_and, Bool.or_eq_true, decide_eq_true_eq]; first | rfl | (split <;> omega))
          go_upto_region 5 with fail
          refine wp_region_held_drew (S := fun w' => (∀ o, w'.cell? ⟨w.heap.size, o, none⟩ = #[Value.int .i64 m.n, (.slice (some ⟨b, off, none⟩) rs.length c1), (.slice A2 ls.length c2), (.slice A3 p3 c3), .int .i64 m.fall, .int .i64 m.win, .int .i64 m.hold, .int .i64 m.dawn, .int .i64 m.dusk][o]?) ∧ w'.cell? ⟨b, off + n * 7 + 1, none⟩ = some (.int .i64 rx.tk) ∧ w'.cell? ⟨eb, eo + n, none⟩ = some (.int .i64 di)) (by kernel_rfl) ?_ (fun hHeld => ?_)
          · (try dsimp only); exact (fun hF : Frm w [(w.heap.size, (.cells #[.int .i64 m.n, (.slice (some ⟨b, off, none⟩) rs.length c1), (.slice A2 ls.length c2), (.slice A3 p3 c3), .int .i64 m.fall, .int .i64 m.win, .int .i64 m.hold, .int .i64 m.dawn, .int .i64 m.dusk] 26))] _ => ⟨hF.cells (List.mem_cons_self ..), (rep_at H1.out hF.b HXI.out).2.1, ints_at HZ.out hF.b HDI.out⟩) (by (repeat (with_reducible first | exact HR.out | apply Frm.drew | apply Frm.alloc | apply Frm.drewN)))
          refine wpAnyH_take (i := 0) (oi := ⟨some 15, _, _, _, _, _⟩) (v := ?vq3_0) rfl (by kernel_rfl) (by kernel_rfl) (by kernel_rfl) (fun _ _ _ h => h) (Or.inl ⟨by kernel_rfl, ?hyq3_0⟩) (by assumption) ?restq3_0
          case hyq3_0 => (intro w hSw; (try dsimp only at hSw); go_simp) <;> (with_reducible rfl)
          try simp only [Act.put, List.setIfInBounds_toArray, List.set_cons_zero, List.set_cons_succ]
          refine wpAnyH_take (i := 1) (oi := ⟨some 16, _, _, _, _, _⟩) (v := ?vq3_1) rfl (by kernel_rfl) (by kernel_rfl) (by kernel_rfl) (fun _ _ _ h => h) (Or.inl ⟨by kernel_rfl, ?hyq3_1⟩) (by assumption) ?restq3_1
          case hyq3_1 => (intro w hSw; (try dsimp only at hSw); go_simp) <;> (with_reducible rfl)
          try simp only [Act.put, List.setIfInBounds_toArray, List.set_cons_zero, List.set_cons_succ]
          refine wpAnyH_take (i := 2) (oi := ⟨some 17, _, _, _, _, _⟩) (v := ?vq3_2) rfl (by kernel_rfl) (by kernel_rfl) (by kernel_rfl) (fun _ _ _ h => h) (Or.inl ⟨by kernel_rfl, ?hyq3_2⟩) (by assumption) ?restq3_2
          case hyq3_2 => (intro w hSw; (try dsimp only at hSw); go_simp) <;> (with_reducible rfl)
          try simp only [Act.put, List.setIfInBounds_toArray, List.set_cons_zero, List.set_cons_succ]
          refine wpAnyH_take (i := 3) (oi := ⟨some 18, _, _, _, _, _⟩) (v := ?vq3_3) rfl (by kernel_rfl) (by kernel_rfl) (by kernel_rfl) (fun _ _ _ h => h) (Or.inl ⟨by kernel_rfl, ?hyq3_3⟩) (by assumption) ?restq3_3
          case hyq3_3 => (intro w hSw; (try dsimp only at hSw); go_simp) <;> (with_reducible rfl)
          try simp only [Act.put, List.setIfInBounds_toArray, List.set_cons_zero, List.set_cons_succ]
          refine wpAnyH_take (i := 4) (oi := ⟨some 19, _, _, _, _, _⟩) (v := ?vq3_4) rfl (by kernel_rfl) (by kernel_rfl) (by kernel_rfl) (fun _ _ _ h => h) (Or.inl ⟨by kernel_rfl, ?hyq3_4⟩) (by assumption) ?restq3_4
          case hyq3_4 => (intro w hSw; (try dsimp only at hSw); go_simp) <;> (with_reducible rfl)
          try simp only [Act.put, List.setIfInBounds_toArray, List.set_cons_zero, List.set_cons_succ]
          refine wpAnyH_take (i := 5) (oi := ⟨some 20, _, _, _, _, _⟩) (v := ?vq3_5) rfl (by kernel_rfl) (by kernel_rfl) (by kernel_rfl) (fun _ _ _ h => h) (Or.inl ⟨by kernel_rfl, ?hyq3_5⟩) (by assumption) ?restq3_5
          case hyq3_5 => (intro w hSw; (try dsimp only at hSw); go_simp) <;> (with_reducible rfl)
          try simp only [Act.put, List.setIfInBounds_toArray, List.set_cons_zero, List.set_cons_succ]
          refine wpAnyH_take (i := 6) (oi := ⟨some 21, _, _, _, _, _⟩) (v := ?vq3_6) rfl (by kernel_rfl) (by kernel_rfl) (by kernel_rfl) (fun _ _ _ h => h) (Or.inl ⟨by kernel_rfl, ?hyq3_6⟩) (by assumption) ?restq3_6
          case hyq3_6 => (intro w hSw; (try dsimp only at hSw); go_simp) <;> (with_reducible rfl)
          try simp only [Act.put, List.setIfInBounds_toArray, List.set_cons_zero, List.set_cons_succ]
          refine wpAnyH_take (i := 7) (oi := ⟨some 22, _, _, _, _, _⟩) (v := ?vq3_7) rfl (by kernel_rfl) (by kernel_rfl) (by kernel_rfl) (fun _ _ _ h => h) (Or.inl ⟨by kernel_rfl, ?hyq3_7⟩) (by assumption) ?restq3_7
          case hyq3_7 => (intro w hSw; (try dsimp only at hSw); go_simp) <;> (with_reducible rfl)
          try simp only [Act.put, List.setIfInBounds_toArray, List.set_cons_zero, List.set_cons_succ]
          refine wpAnyH_take (i := 8) (oi := ⟨some 23, _, _, _, _, _⟩) (v := ?vq3_8) rfl (by kernel_rfl) (by kernel_rfl) (by kernel_rfl) (fun _ _ _ h => h) (Or.inl ⟨by kernel_rfl, ?hyq3_8⟩) (by assumption) ?restq3_8
          case hyq3_8 => (intro w hSw; (try dsimp only at hSw); go_simp) <;> (with_reducible rfl)
          try simp only [Act.put, List.setIfInBounds_toArray, List.set_cons_zero, List.set_cons_succ]
          refine wpAnyH_take (i := 9) (oi := ⟨some 24, _, _, _, _, _⟩) (v := ?vq3_9) rfl (by kernel_rfl) (by kernel_rfl) (by kernel_rfl) (fun _ _ _ h => h) (Or.inl ⟨by kernel_rfl, ?hyq3_9⟩) (by assumption) ?restq3_9
          case hyq3_9 => (intro w hSw; (try dsimp only at hSw); go_simp) <;> (with_reducible rfl)
          try simp only [Act.put, List.setIfInBounds_toArray, List.set_cons_zero, List.set_cons_succ]
          refine wpAnyH_take (i := 10) (oi := ⟨some 25, _, _, _, _, _⟩) (v := ?vq3_10) rfl (by kernel_rfl) (by kernel_rfl) (by kernel_rfl) (fun _ _ _ h => h) (Or.inl ⟨by kernel_rfl, ?hyq3_10⟩) (by assumption) ?restq3_10
          case hyq3_10 => (intro w hSw; (try dsimp only at hSw); go_simp) <;> (with_reducible rfl)
          try simp only [Act.put, List.setIfInBounds_toArray, List.set_cons_zero, List.set_cons_succ]
          refine wpAnyH_take (i := 11) (oi := ⟨some 7, _, _, _, _, _⟩) (v := ?vq3_11) rfl (by kernel_rfl) (by kernel_rfl) (by kernel_rfl) (fun _ _ _ h => h) (Or.inl ⟨by kernel_rfl, ?hyq3_11⟩) (by assumption) ?restq3_11
          case hyq3_11 => (intro w hSw; (try dsimp only at hSw); go_simp) <;> (with_reducible rfl)
          try simp only [Act.put, List.setIfInBounds_toArray, List.set_cons_zero, List.set_cons_succ]
          refine wpAnyH_done (by kernel_rfl) ?_ _
          go_wp2_with (go_at_call 32; refine (rSees_is (Rws.below H1.out (Frm.b (w := w) (bs := [(w.heap.size, (.cells #[.int .i64 m.n, (.slice (some ⟨b, off, none⟩) rs.length c1), (.slice A2 ls.length c2), (.slice A3 p3 c3), .int .i64 m.fall, .int .i64 m.win, .int .i64 m.hold, .int .i64 m.dawn, .int .i64 m.dusk] 26))]) (by (repeat (with_reducible first | exact HR.out | apply Frm.drew | apply Frm.alloc | apply Frm.drewN)))) (Nat.le_refl _)) (Rws.below H2.out (Frm.b (w := w) (bs := [(w.heap.size, (.cells #[.int .i64 m.n, (.slice (some ⟨b, off, none⟩) rs.length c1), (.slice A2 ls.length c2), (.slice A3 p3 c3), .int .i64 m.fall, .int .i64 m.win, .int .i64 m.hold, .int .i64 m.dawn, .int .i64 m.dusk] 26))]) (by (repeat (with_reducible first | exact HR.out | apply Frm.drew | apply Frm.alloc | apply Frm.drewN)))) (Nat.le_refl _)) (HZ.out.below (Frm.b (w := w) (bs := [(w.heap.size, (.cells #[.int .i64 m.n, (.slice (some ⟨b, off, none⟩) rs.length c1), (.slice A2 ls.length c2), (.slice A3 p3 c3), .int .i64 m.fall, .int .i64 m.win, .int .i64 m.hold, .int .i64 m.dawn, .int .i64 m.dusk] 26))]) (by (repeat (with_reducible first | exact HR.out | apply Frm.drew | apply Frm.alloc | apply Frm.drewN))))) HZL.out hlen HG.out hho HDB.out HV.out).mono ?_; rintro e wa ⟨rfl, hbq⟩; have HRq := Lib.hid (Frm.below (w := w) (bs := [(w.heap.size, (.cells #[.int .i64 m.n, (.slice (some ⟨b, off, none⟩) rs.length c1), (.slice A2 ls.length c2), (.slice A3 p3 c3), .int .i64 m.fall, .int .i64 m.win, .int .i64 m.hold, .int .i64 m.dawn, .int .i64 m.dusk] 26))]) (by (repeat (with_reducible first | exact HR.out | apply Frm.drew | apply Frm.alloc | apply Frm.drewN))) hbq); clear HR x0; have HR := HRq; clear HRq hbq; have x0 := HR.out.cells (List.mem_cons_self ..))
          all_goals
            go_roundw
            case rel => exact ⟨n + 1, by omega, by go_num, by rw [HNY.out], (by (repeat (with_reducible first | exact HR.out | apply Frm.drew | apply Frm.alloc | apply Frm.drewN)))⟩
            case measure => simp [intOf]; omega
        · by_cases o2 : rx.tk + di < ou
          · have HNY : Hid (firstR (seenB (siL m ls rs (ev zs))) (comesL rs (ev zs) (n + 1)) = rx.tk + di) := Lib.hid (by rw [HNX.out, HV.out]; simp only [Bool.true_and, Bool.false_and, Bool.or_eq_true, decide_eq_true_eq]; first | rfl | (split <;> omega))
            go_upto_region 5 with fail
            refine wp_region_held_drew (S := fun w' => (∀ o, w'.cell? ⟨w.heap.size, o, none⟩ = #[Value.int .i64 m.n, (.slice (some ⟨b, off, none⟩) rs.length c1), (.slice A2 ls.length c2), (.slice A3 p3 c3), .int .i64 m.fall, .int .i64 m.win, .int .i64 m.hold, .int .i64 m.dawn, .int .i64 m.dusk][o]?) ∧ w'.cell? ⟨b, off + n * 7 + 1, none⟩ = some (.int .i64 rx.tk) ∧ w'.cell? ⟨eb, eo + n, none⟩ = some (.int .i64 di)) (by kernel_rfl) ?_ (fun hHeld => ?_)
            · (try dsimp only); exact (fun hF : Frm w [(w.heap.size, (.cells #[.int .i64 m.n, (.slice (some ⟨b, off, none⟩) rs.length c1), (.slice A2 ls.length c2), (.slice A3 p3 c3), .int .i64 m.fall, .int .i64 m.win, .int .i64 m.hold, .int .i64 m.dawn, .int .i64 m.dusk] 26))] _ => ⟨hF.cells (List.mem_cons_self ..), (rep_at H1.out hF.b HXI.out).2.1, ints_at HZ.out hF.b HDI.out⟩) (by (repeat (with_reducible first | exact HR.out | apply Frm.drew | apply Frm.alloc | apply Frm.drewN)))
            refine wpAnyH_take (i := 0) (oi := ⟨some 15, _, _, _, _, _⟩) (v := ?vq4_0) rfl (by kernel_rfl) (by kernel_rfl) (by kernel_rfl) (fun _ _ _ h => h) (Or.inl ⟨by kernel_rfl, ?hyq4_0⟩) (by assumption) ?restq4_0
            case hyq4_0 => (intro w hSw; (try dsimp only at hSw); go_simp) <;> (with_reducible rfl)
            try simp only [Act.put, List.setIfInBounds_toArray, List.set_cons_zero, List.set_cons_succ]
            refine wpAnyH_take (i := 1) (oi := ⟨some 16, _, _, _, _, _⟩) (v := ?vq4_1) rfl (by kernel_rfl) (by kernel_rfl) (by kernel_rfl) (fun _ _ _ h => h) (Or.inl ⟨by kernel_rfl, ?hyq4_1⟩) (by assumption) ?restq4_1
            case hyq4_1 => (intro w hSw; (try dsimp only at hSw); go_simp) <;> (with_reducible rfl)
            try simp only [Act.put, List.setIfInBounds_toArray, List.set_cons_zero, List.set_cons_succ]
            refine wpAnyH_take (i := 2) (oi := ⟨some 17, _, _, _, _, _⟩) (v := ?vq4_2) rfl (by kernel_rfl) (by kernel_rfl) (by kernel_rfl) (fun _ _ _ h => h) (Or.inl ⟨by kernel_rfl, ?hyq4_2⟩) (by assumption) ?restq4_2
            case hyq4_2 => (intro w hSw; (try dsimp only at hSw); go_simp) <;> (with_reducible rfl)
            try simp only [Act.put, List.setIfInBounds_toArray, List.set_cons_zero, List.set_cons_succ]
            refine wpAnyH_take (i := 3) (oi := ⟨some 18, _, _, _, _, _⟩) (v := ?vq4_3) rfl (by kernel_rfl) (by kernel_rfl) (by kernel_rfl) (fun _ _ _ h => h) (Or.inl ⟨by kernel_rfl, ?hyq4_3⟩) (by assumption) ?restq4_3
            case hyq4_3 => (intro w hSw; (try dsimp only at hSw); go_simp) <;> (with_reducible rfl)
            try simp only [Act.put, List.setIfInBounds_toArray, List.set_cons_zero, List.set_cons_succ]
            refine wpAnyH_take (i := 4) (oi := ⟨some 19, _, _, _, _, _⟩) (v := ?vq4_4) rfl (by kernel_rfl) (by kernel_rfl) (by kernel_rfl) (fun _ _ _ h => h) (Or.inl ⟨by kernel_rfl, ?hyq4_4⟩) (by assumption) ?restq4_4
            case hyq4_4 => (intro w hSw; (try dsimp only at hSw); go_simp) <;> (with_reducible rfl)
            try simp only [Act.put, List.setIfInBounds_toArray, List.set_cons_zero, List.set_cons_succ]
            refine wpAnyH_take (i := 5) (oi := ⟨some 20, _, _, _, _, _⟩) (v := ?vq4_5) rfl (by kernel_rfl) (by kernel_rfl) (by kernel_rfl) (fun _ _ _ h => h) (Or.inl ⟨by kernel_rfl, ?hyq4_5⟩) (by assumption) ?restq4_5
            case hyq4_5 => (intro w hSw; (try dsimp only at hSw); go_simp) <;> (with_reducible rfl)
            try simp only [Act.put, List.setIfInBounds_toArray, List.set_cons_zero, List.set_cons_succ]
            refine wpAnyH_take (i := 6) (oi := ⟨some 21, _, _, _, _, _⟩) (v := ?vq4_6) rfl (by kernel_rfl) (by kernel_rfl) (by kernel_rfl) (fun _ _ _ h => h) (Or.inl ⟨by kernel_rfl, ?hyq4_6⟩) (by assumption) ?restq4_6
            case hyq4_6 => (intro w hSw; (try dsimp only at hSw); go_simp) <;> (with_reducible rfl)
            try simp only [Act.put, List.setIfInBounds_toArray, List.set_cons_zero, List.set_cons_succ]
            refine wpAnyH_take (i := 7) (oi := ⟨some 22, _, _, _, _, _⟩) (v := ?vq4_7) rfl (by kernel_rfl) (by kernel_rfl) (by kernel_rfl) (fun _ _ _ h => h) (Or.inl ⟨by kernel_rfl, ?hyq4_7⟩) (by assumption) ?restq4_7
            case hyq4_7 => (intro w hSw; (try dsimp only at hSw); go_simp) <;> (with_reducible rfl)
            try simp only [Act.put, List.setIfInBounds_toArray, List.set_cons_zero, List.set_cons_succ]
            refine wpAnyH_take (i := 8) (oi := ⟨some 23, _, _, _, _, _⟩) (v := ?vq4_8) rfl (by kernel_rfl) (by kernel_rfl) (by kernel_rfl) (fun _ _ _ h => h) (Or.inl ⟨by kernel_rfl, ?hyq4_8⟩) (by assumption) ?restq4_8
            case hyq4_8 => (intro w hSw; (try dsimp only at hSw); go_simp) <;> (with_reducible rfl)
            try simp only [Act.put, List.setIfInBounds_toArray, List.set_cons_zero, List.set_cons_succ]
            refine wpAnyH_take (i := 9) (oi := ⟨some 24, _, _, _, _, _⟩) (v := ?vq4_9) rfl (by kernel_rfl) (by kernel_rfl) (by kernel_rfl) (fun _ _ _ h => h) (Or.inl ⟨by kernel_rfl, ?hyq4_9⟩) (by assumption) ?restq4_9
            case hyq4_9 => (intro w hSw; (try dsimp only at hSw); go_simp) <;> (with_reducible rfl)
            try simp only [Act.put, List.setIfInBounds_toArray, List.set_cons_zero, List.set_cons_succ]
            refine wpAnyH_take (i := 10) (oi := ⟨some 25, _, _, _, _, _⟩) (v := ?vq4_10) rfl (by kernel_rfl) (by kernel_rfl) (by kernel_rfl) (fun _ _ _ h => h) (Or.inl ⟨by kernel_rfl, ?hyq4_10⟩) (by assumption) ?restq4_10
            case hyq4_10 => (intro w hSw; (try dsimp only at hSw); go_simp) <;> (with_reducible rfl)
            try simp only [Act.put, List.setIfInBounds_toArray, List.set_cons_zero, List.set_cons_succ]
            refine wpAnyH_take (i := 11) (oi := ⟨some 7, _, _, _, _, _⟩) (v := ?vq4_11) rfl (by kernel_rfl) (by kernel_rfl) (by kernel_rfl) (fun _ _ _ h => h) (Or.inl ⟨by kernel_rfl, ?hyq4_11⟩) (by assumption) ?restq4_11
            case hyq4_11 => (intro w hSw; (try dsimp only at hSw); go_simp) <;> (with_reducible rfl)
            try simp only [Act.put, List.setIfInBounds_toArray, List.set_cons_zero, List.set_cons_succ]
            refine wpAnyH_done (by kernel_rfl) ?_ _
            go_wp2_with (go_at_call 32; refine (rSees_is (Rws.below H1.out (Frm.b (w := w) (bs := [(w.heap.size, (.cells #[.int .i64 m.n, (.slice (some ⟨b, off, none⟩) rs.length c1), (.slice A2 ls.length c2), (.slice A3 p3 c3), .int .i64 m.fall, .int .i64 m.win, .int .i64 m.hold, .int .i64 m.dawn, .int .i64 m.dusk] 26))]) (by (repeat (with_reducible first | exact HR.out | apply Frm.drew | apply Frm.alloc | apply Frm.drewN)))) (Nat.le_refl _)) (Rws.below H2.out (Frm.b (w := w) (bs := [(w.heap.size, (.cells #[.int .i64 m.n, (.slice (some ⟨b, off, none⟩) rs.length c1), (.slice A2 ls.length c2), (.slice A3 p3 c3), .int .i64 m.fall, .int .i64 m.win, .int .i64 m.hold, .int .i64 m.dawn, .int .i64 m.dusk] 26))]) (by (repeat (with_reducible first | exact HR.out | apply Frm.drew | apply Frm.alloc | apply Frm.drewN)))) (Nat.le_refl _)) (HZ.out.below (Frm.b (w := w) (bs := [(w.heap.size, (.cells #[.int .i64 m.n, (.slice (some ⟨b, off, none⟩) rs.length c1), (.slice A2 ls.length c2), (.slice A3 p3 c3), .int .i64 m.fall, .int .i64 m.win, .int .i64 m.hold, .int .i64 m.dawn, .int .i64 m.dusk] 26))]) (by (repeat (with_reducible first | exact HR.out | apply Frm.drew | apply Frm.alloc | apply Frm.drewN))))) HZL.out hlen HG.out hho HDB.out HV.out).mono ?_; rintro e wa ⟨rfl, hbq⟩; have HRq := Lib.hid (Frm.below (w := w) (bs := [(w.heap.size, (.cells #[.int .i64 m.n, (.slice (some ⟨b, off, none⟩) rs.length c1), (.slice A2 ls.length c2), (.slice A3 p3 c3), .int .i64 m.fall, .int .i64 m.win, .int .i64 m.hold, .int .i64 m.dawn, .int .i64 m.dusk] 26))]) (by (repeat (with_reducible first | exact HR.out | apply Frm.drew | apply Frm.alloc | apply Frm.drewN))) hbq); clear HR x0; have HR := HRq; clear HRq hbq; have x0 := HR.out.cells (List.mem_cons_self ..))
            all_goals
              go_roundw
              case rel => exact ⟨n + 1, by omega, by go_num, by rw [HNY.out], (by (repeat (with_reducible first | exact HR.out | apply Frm.drew | apply Frm.alloc | apply Frm.drewN)))⟩
              case measure => simp [intOf]; omega
          · have HNY : Hid (firstR (seenB (siL m ls rs (ev zs))) (comesL rs (ev zs) (n + 1)) = ou) := Lib.hid (by rw [HNX.out, HV.out]; simp only [Bool.true_and, Bool.false_and, Bool.or_eq_true, decide_eq_true_eq]; first | rfl | (split <;> omega))
            go_upto_region 5 with fail
            refine wp_region_held_drew (S := fun w' => (∀ o, w'.cell? ⟨w.heap.size, o, none⟩ = #[Value.int .i64 m.n, (.slice (some ⟨b, off, none⟩) rs.length c1), (.slice A2 ls.length c2), (.slice A3 p3 c3), .int .i64 m.fall, .int .i64 m.win, .int .i64 m.hold, .int .i64 m.dawn, .int .i64 m.dusk][o]?) ∧ w'.cell? ⟨b, off + n * 7 + 1, none⟩ = some (.int .i64 rx.tk) ∧ w'.cell? ⟨eb, eo + n, none⟩ = some (.int .i64 di)) (by kernel_rfl) ?_ (fun hHeld => ?_)
            · (try dsimp only); exact (fun hF : Frm w [(w.heap.size, (.cells #[.int .i64 m.n, (.slice (some ⟨b, off, none⟩) rs.length c1), (.slice A2 ls.length c2), (.slice A3 p3 c3), .int .i64 m.fall, .int .i64 m.win, .int .i64 m.hold, .int .i64 m.dawn, .int .i64 m.dusk] 26))] _ => ⟨hF.cells (List.mem_cons_self ..), (rep_at H1.out hF.b HXI.out).2.1, ints_at HZ.out hF.b HDI.out⟩) (by (repeat (with_reducible first | exact HR.out | apply Frm.drew | apply Frm.alloc | apply Frm.drewN)))
            refine wpAnyH_take (i := 0) (oi := ⟨some 15, _, _, _, _, _⟩) (v := ?vq5_0) rfl (by kernel_rfl) (by kernel_rfl) (by kernel_rfl) (fun _ _ _ h => h) (Or.inl ⟨by kernel_rfl, ?hyq5_0⟩) (by assumption) ?restq5_0
            case hyq5_0 => (intro w hSw; (try dsimp only at hSw); go_simp) <;> (with_reducible rfl)
            try simp only [Act.put, List.setIfInBounds_toArray, List.set_cons_zero, List.set_cons_succ]
            refine wpAnyH_take (i := 1) (oi := ⟨some 16, _, _, _, _, _⟩) (v := ?vq5_1) rfl (by kernel_rfl) (by kernel_rfl) (by kernel_rfl) (fun _ _ _ h => h) (Or.inl ⟨by kernel_rfl, ?hyq5_1⟩) (by assumption) ?restq5_1
            case hyq5_1 => (intro w hSw; (try dsimp only at hSw); go_simp) <;> (with_reducible rfl)
            try simp only [Act.put, List.setIfInBounds_toArray, List.set_cons_zero, List.set_cons_succ]
            refine wpAnyH_take (i := 2) (oi := ⟨some 17, _, _, _, _, _⟩) (v := ?vq5_2) rfl (by kernel_rfl) (by kernel_rfl) (by kernel_rfl) (fun _ _ _ h => h) (Or.inl ⟨by kernel_rfl, ?hyq5_2⟩) (by assumption) ?restq5_2
            case hyq5_2 => (intro w hSw; (try dsimp only at hSw); go_simp) <;> (with_reducible rfl)
            try simp only [Act.put, List.setIfInBounds_toArray, List.set_cons_zero, List.set_cons_succ]
            refine wpAnyH_take (i := 3) (oi := ⟨some 18, _, _, _, _, _⟩) (v := ?vq5_3) rfl (by kernel_rfl) (by kernel_rfl) (by kernel_rfl) (fun _ _ _ h => h) (Or.inl ⟨by kernel_rfl, ?hyq5_3⟩) (by assumption) ?restq5_3
            case hyq5_3 => (intro w hSw; (try dsimp only at hSw); go_simp) <;> (with_reducible rfl)
            try simp only [Act.put, List.setIfInBounds_toArray, List.set_cons_zero, List.set_cons_succ]
            refine wpAnyH_take (i := 4) (oi := ⟨some 19, _, _, _, _, _⟩) (v := ?vq5_4) rfl (by kernel_rfl) (by kernel_rfl) (by kernel_rfl) (fun _ _ _ h => h) (Or.inl ⟨by kernel_rfl, ?hyq5_4⟩) (by assumption) ?restq5_4
            case hyq5_4 => (intro w hSw; (try dsimp only at hSw); go_simp) <;> (with_reducible rfl)
            try simp only [Act.put, List.setIfInBounds_toArray, List.set_cons_zero, List.set_cons_succ]
            refine wpAnyH_take (i := 5) (oi := ⟨some 20, _, _, _, _, _⟩) (v := ?vq5_5) rfl (by kernel_rfl) (by kernel_rfl) (by kernel_rfl) (fun _ _ _ h => h) (Or.inl ⟨by kernel_rfl, ?hyq5_5⟩) (by assumption) ?restq5_5
            case hyq5_5 => (intro w hSw; (try dsimp only at hSw); go_simp) <;> (with_reducible rfl)
            try simp only [Act.put, List.setIfInBounds_toArray, List.set_cons_zero, List.set_cons_succ]
            refine wpAnyH_take (i := 6) (oi := ⟨some 21, _, _, _, _, _⟩) (v := ?vq5_6) rfl (by kernel_rfl) (by kernel_rfl) (by kernel_rfl) (fun _ _ _ h => h) (Or.inl ⟨by kernel_rfl, ?hyq5_6⟩) (by assumption) ?restq5_6
            case hyq5_6 => (intro w hSw; (try dsimp only at hSw); go_simp) <;> (with_reducible rfl)
            try simp only [Act.put, List.setIfInBounds_toArray, List.set_cons_zero, List.set_cons_succ]
            refine wpAnyH_take (i := 7) (oi := ⟨some 22, _, _, _, _, _⟩) (v := ?vq5_7) rfl (by kernel_rfl) (by kernel_rfl) (by kernel_rfl) (fun _ _ _ h => h) (Or.inl ⟨by kernel_rfl, ?hyq5_7⟩) (by assumption) ?restq5_7
            case hyq5_7 => (intro w hSw; (try dsimp only at hSw); go_simp) <;> (with_reducible rfl)
            try simp only [Act.put, List.setIfInBounds_toArray, List.set_cons_zero, List.set_cons_succ]
            refine wpAnyH_take (i := 8) (oi := ⟨some 23, _, _, _, _, _⟩) (v := ?vq5_8) rfl (by kernel_rfl) (by kernel_rfl) (by kernel_rfl) (fun _ _ _ h => h) (Or.inl ⟨by kernel_rfl, ?hyq5_8⟩) (by assumption) ?restq5_8
            case hyq5_8 => (intro w hSw; (try dsimp only at hSw); go_simp) <;> (with_reducible rfl)
            try simp only [Act.put, List.setIfInBounds_toArray, List.set_cons_zero, List.set_cons_succ]
            refine wpAnyH_take (i := 9) (oi := ⟨some 24, _, _, _, _, _⟩) (v := ?vq5_9) rfl (by kernel_rfl) (by kernel_rfl) (by kernel_rfl) (fun _ _ _ h => h) (Or.inl ⟨by kernel_rfl, ?hyq5_9⟩) (by assumption) ?restq5_9
            case hyq5_9 => (intro w hSw; (try dsimp only at hSw); go_simp) <;> (with_reducible rfl)
            try simp only [Act.put, List.setIfInBounds_toArray, List.set_cons_zero, List.set_cons_succ]
            refine wpAnyH_take (i := 10) (oi := ⟨some 25, _, _, _, _, _⟩) (v := ?vq5_10) rfl (by kernel_rfl) (by kernel_rfl) (by kernel_rfl) (fun _ _ _ h => h) (Or.inl ⟨by kernel_rfl, ?hyq5_10⟩) (by assumption) ?restq5_10
            case hyq5_10 => (intro w hSw; (try dsimp only at hSw); go_simp) <;> (with_reducible rfl)
            try simp only [Act.put, List.setIfInBounds_toArray, List.set_cons_zero, List.set_cons_succ]
            refine wpAnyH_take (i := 11) (oi := ⟨some 7, _, _, _, _, _⟩) (v := ?vq5_11) rfl (by kernel_rfl) (by kernel_rfl) (by kernel_rfl) (fun _ _ _ h => h) (Or.inl ⟨by kernel_rfl, ?hyq5_11⟩) (by assumption) ?restq5_11
            case hyq5_11 => (intro w hSw; (try dsimp only at hSw); go_simp) <;> (with_reducible rfl)
            try simp only [Act.put, List.setIfInBounds_toArray, List.set_cons_zero, List.set_cons_succ]
            refine wpAnyH_done (by kernel_rfl) ?_ _
            go_wp2_with (go_at_call 32; refine (rSees_is (Rws.below H1.out (Frm.b (w := w) (bs := [(w.heap.size, (.cells #[.int .i64 m.n, (.slice (some ⟨b, off, none⟩) rs.length c1), (.slice A2 ls.length c2), (.slice A3 p3 c3), .int .i64 m.fall, .int .i64 m.win, .int .i64 m.hold, .int .i64 m.dawn, .int .i64 m.dusk] 26))]) (by (repeat (with_reducible first | exact HR.out | apply Frm.drew | apply Frm.alloc | apply Frm.drewN)))) (Nat.le_refl _)) (Rws.below H2.out (Frm.b (w := w) (bs := [(w.heap.size, (.cells #[.int .i64 m.n, (.slice (some ⟨b, off, none⟩) rs.length c1), (.slice A2 ls.length c2), (.slice A3 p3 c3), .int .i64 m.fall, .int .i64 m.win, .int .i64 m.hold, .int .i64 m.dawn, .int .i64 m.dusk] 26))]) (by (repeat (with_reducible first | exact HR.out | apply Frm.drew | apply Frm.alloc | apply Frm.drewN)))) (Nat.le_refl _)) (HZ.out.below (Frm.b (w := w) (bs := [(w.heap.size, (.cells #[.int .i64 m.n, (.slice (some ⟨b, off, none⟩) rs.length c1), (.slice A2 ls.length c2), (.slice A3 p3 c3), .int .i64 m.fall, .int .i64 m.win, .int .i64 m.hold, .int .i64 m.dawn, .int .i64 m.dusk] 26))]) (by (repeat (with_reducible first | exact HR.out | apply Frm.drew | apply Frm.alloc | apply Frm.drewN))))) HZL.out hlen HG.out hho HDB.out HV.out).mono ?_; rintro e wa ⟨rfl, hbq⟩; have HRq := Lib.hid (Frm.below (w := w) (bs := [(w.heap.size, (.cells #[.int .i64 m.n, (.slice (some ⟨b, off, none⟩) rs.length c1), (.slice A2 ls.length c2), (.slice A3 p3 c3), .int .i64 m.fall, .int .i64 m.win, .int .i64 m.hold, .int .i64 m.dawn, .int .i64 m.dusk] 26))]) (by (repeat (with_reducible first | exact HR.out | apply Frm.drew | apply Frm.alloc | apply Frm.drewN))) hbq); clear HR x0; have HR := HRq; clear HRq hbq; have x0 := HR.out.cells (List.mem_cons_self ..))
            all_goals
              go_roundw
              case rel => exact ⟨n + 1, by omega, by go_num, by rw [HNY.out], (by (repeat (with_reducible first | exact HR.out | apply Frm.drew | apply Frm.alloc | apply Frm.drewN)))⟩
              case measure => simp [intOf]; omega
    · obtain rfl : n = rs.length := by omega
      go_wp2_with fail
      go_ret
      exact ⟨ret_int HFE.out, Frm.b (w := w) (bs := [(w.heap.size, (.cells #[.int .i64 m.n, (.slice A1 rs.length c1), (.slice A2 ls.length c2), (.slice A3 p3 c3), .int .i64 m.fall, .int .i64 m.win, .int .i64 m.hold, .int .i64 m.dawn, .int .i64 m.dusk] 26))]) (by (repeat (with_reducible first | exact HR.out | apply Frm.drew | apply Frm.alloc | apply Frm.drewN)))⟩
theorem sane_tks {m : Wn} {rs : List Rep} {ls : List Lnk} {ps : List Prt} (h : Sane m rs ls ps) : ∀ x ∈ rs, 0 ≤ x.tk ∧ x.tk ≤ 100000 ∧ 0 ≤ x.pr ∧ x.pr ≤ 99999 := fun x hx => by
  have := h.rep x hx
  omega
theorem sane_hold {m : Wn} {rs : List Rep} {ls : List Lnk} {ps : List Prt} (h : Sane m rs ls ps) : 0 ≤ m.hold ∧ m.hold ≤ 100000 := by
  have := h.h0; have := h.h1; omega
theorem rFirst_is {m : Wn} {A1 A2 A3 : Option Addr} {rs : List Rep} {ls : List Lnk} {ps : List Prt} {c1 c2 c3 : Nat} {E : Option Addr} {ec : Nat} {zs : List Int} {w : World} {n : Int} (h1 : Reps w (.slice A1 rs.length c1) rs) (h2 : Lnks w (.slice A2 ls.length c2) ls) (hz : Ints w (.slice E zs.length ec) zs) (hlen : rs.length ≤ 12) (hs : Sane m rs ls ps) (hzl : zs.length = rs.length) (hd : ∀ i, i < rs.length → 0 ≤ ev zs i ∧ ev zs i ≤ 100000) (hn : sightF (siL m ls rs (ev zs)) = n) :
    Calls Tryz.prog 26 #[wtV m (.slice A1 rs.length c1) (.slice A2 ls.length c2) (.slice A3 ps.length c3), (.slice E zs.length ec)] w fun e w' => e = .returned (.int .i64 n) ∧ Below w.heap.size w w' := by
  rw [← hn]
  exact rFirst_any m A1 A2 A3 rs ls c1 c2 ps.length c3 E ec zs w h1 h2 hz hzl hlen (sane_tks hs) (sane_hold hs) hd
end Go.Proofs.YtbepafkenandfaaGreat
