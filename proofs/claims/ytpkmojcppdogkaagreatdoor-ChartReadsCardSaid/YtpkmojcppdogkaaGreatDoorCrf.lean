/- The reference's Fits. -/
import Derived.Test.YtpkmojcppdogkaaGreatDoorCfl
set_option linter.unusedVariables false
set_option linter.unusedSimpArgs false
namespace Go.Proofs.YtpkmojcppdogkaaGreatDoor
open Go.RowKit
open Go.Maps
theorem Ints.at0 {w : World} {Z : Option Addr} {zc : Nat} {zs : List Int} (h : Ints w (.slice Z zs.length zc) zs) (h0 : 0 < zs.length) : ∃ b off, Z = some ⟨b, off, none⟩ ∧ zs.length ≤ zc ∧ zc ≤ maxLen := by
  obtain ⟨b, off, hA, h1, h2, _⟩ := ints_cells h (List.getElem?_eq_getElem h0)
  exact ⟨b, off, hA, h1, h2⟩
theorem not_fits {m : Mp} {cs : List Sta} {wd : Int} {zs : List Int} {p q : Nat} (hp : p < zs.length) (hq : q < zs.length) (hd : distI m.wd p q = 1) (h : m.sl < farI (ev zs p) (ev zs q)) : fitsB m cs wd zs = false := fitsB_no fun hf => by
  have := hf.near p q hp hq hd
  omega
set_option maxHeartbeats 8000000 in
set_option maxRecDepth 100000 in
theorem rFits_any (m : Mp) (A : Option Addr) (c : Nat) (cs : List Sta) (wd : Int) (Z : Option Addr) (zc : Nat) (zs : List Int) (w : World) (hs : Sane m cs) (hfb : fieldB wd zs = true) (hc : Stas w (.slice A cs.length c) cs) (hz : Ints w (.slice Z zs.length zc) zs) :
    Calls Tryz.prog 37 #[mpV m (.slice A cs.length c), .agg #[.int .i64 wd, .slice Z zs.length zc]] w fun e w' => e = .returned (.bool (fitsB m cs wd zs)) ∧ Below w.heap.size w w' := by
  obtain ⟨hv, hw1, hw2, hl1, hl2⟩ := fieldB_all hfb
  obtain ⟨zb, zo, rfl, hzc1, hzc2⟩ := hz.at0 (by omega)
  unfold maxLen at hzc2
  have HC0 := Lib.hid hc
  have HZ := Lib.hid hz
  have HVV := Lib.hid hv
  have ok := hs.ok
  have w1 := ok.w1; have w2 := ok.w2; have s0 := ok.s0; have s1 := ok.s1; have a1 := ok.a1; have a2 := ok.a2
  have hl12 := hs.len
  have e1 : IntKind.i64.wrap (m.wd * m.rw) = m.wd * m.rw := IntWalk.i64_in _ (by omega)
  clear hc hz hv hfb
  have HR := Lib.hid (((Frm.nil w).add (mpBox m (.slice A cs.length c)) rfl).add (k := w.heap.size + 1) (.cells #[.int .i64 wd, .slice (some ⟨zb, zo, none⟩) zs.length zc] 27) (by simp))
  have x0 := HR.out.cells (List.mem_cons_self ..)
  have x1 := HR.out.cells (List.mem_cons_of_mem _ (List.mem_cons_self ..))
  by_cases g1 : wd = m.wd
  rotate_left
  · have HN := Lib.hid (show false = fitsB m cs wd zs from (fitsB_no (cs := cs) fun h => g1 h.wide).symm)
    go_enter Tryz.func37, Tryz.ntmps37
    go_wp2_with fail
    go_ret
    exact ⟨ret_bool HN.out, (Frm.b (w := w) (bs := [(w.heap.size + 1, (.cells #[.int .i64 wd, .slice (some ⟨zb, zo, none⟩) zs.length zc] 27)), (w.heap.size, (mpBox m (.slice A cs.length c)))]) (by (repeat (with_reducible first | exact HR.out | apply Frm.drew | apply Frm.alloc | apply Frm.drewN))))⟩
  subst g1
  by_cases g2 : (zs.length : Int) = m.wd * m.rw
  rotate_left
  · have HN := Lib.hid (show false = fitsB m cs m.wd zs from (fitsB_no (cs := cs) fun h => g2 h.size).symm)
    go_enter Tryz.func37, Tryz.ntmps37
    go_wp2_with fail
    go_ret
    exact ⟨ret_bool HN.out, (Frm.b (w := w) (bs := [(w.heap.size + 1, (.cells #[.int .i64 m.wd, .slice (some ⟨zb, zo, none⟩) zs.length zc] 27)), (w.heap.size, (mpBox m (.slice A cs.length c)))]) (by (repeat (with_reducible first | exact HR.out | apply Frm.drew | apply Frm.alloc | apply Frm.drewN))))⟩
  have HG2 := Lib.hid g2
  have g3 : ((zs.length : Int) != m.wd * m.rw) = false := by simp; exact g2
  clear g2
  go_enter Tryz.func37, Tryz.ntmps37
  go_wp2_with fail
  clear g3
  go_loopw [5, 6] (fun i _ wr => ∃ n : Nat, n ≤ zs.length ∧ i = .int .i64 n ∧ (∀ p' q' : Nat, p' < n → q' < p' → distI m.wd p' q' = 1 → farI (ev zs p') (ev zs q') ≤ m.sl) ∧ Frm w [(w.heap.size + 1, (.cells #[.int .i64 m.wd, .slice (some ⟨zb, zo, none⟩) zs.length zc] 27)), (w.heap.size, (mpBox m (.slice A cs.length c)))] wr) (fun i _ _ => zs.length - (intOf i).toNat)
  case atStart => exact ⟨0, Nat.zero_le _, rfl, fun _ _ h => absurd h (Nat.not_lt_zero _), HR.out⟩
  case round =>
    obtain ⟨n, hn, rfl, hno, hF⟩ := hrel
    obtain ⟨wo, rfl⟩ : ∃ wo : World, wo = wr := ⟨_, rfl⟩
    clear HR x0 x1
    have HN := Lib.hid hno
    have HF0 := Lib.hid hF
    have y0 := hF.cells (List.mem_cons_self ..)
    have y1 := hF.cells (List.mem_cons_of_mem _ (List.mem_cons_self ..))
    clear hno hF
    by_cases hlt : n < zs.length
    · go_wp2_with fail
      go_loopw [6] (fun k wr => ∃ p : Nat, p ≤ n ∧ k = .int .i64 p ∧ (∀ q' : Nat, q' < p → distI m.wd n q' = 1 → farI (ev zs n) (ev zs q') ≤ m.sl) ∧ Frm w [(w.heap.size + 1, (.cells #[.int .i64 m.wd, .slice (some ⟨zb, zo, none⟩) zs.length zc] 27)), (w.heap.size, (mpBox m (.slice A cs.length c)))] wr) (fun k _ => n - (intOf k).toNat)
      case atStart => exact ⟨0, by omega, rfl, fun q' h => absurd h (Nat.not_lt_zero _), HF0.out⟩
      case round =>
        obtain ⟨p, hp, rfl, hno2, hF2⟩ := hrel
        clear y0 y1
        have HN2 := Lib.hid hno2
        have HR := Lib.hid hF2
        have x0 := HR.out.cells (List.mem_cons_self ..)
        have x1 := HR.out.cells (List.mem_cons_of_mem _ (List.mem_cons_self ..))
        clear hno2 hF2
        by_cases hpn : p < n
        · have hpl : p < zs.length := Nat.lt_trans hpn hlt
          have HNB := Lib.hid (fun W => rNeighbours_any m.wd n p W (by omega) (by omega) (by omega) (by omega) (by omega) (by omega))
          by_cases hd : distI m.wd n p = 1
          · have v1 := betw_iff.1 (HVV.out _ (List.mem_of_getElem? (ev_is hlt)))
            have v2 := betw_iff.1 (HVV.out _ (List.mem_of_getElem? (ev_is (Nat.lt_trans hpn hlt))))
            have HFA := Lib.hid (fun W => far_any (ev zs n) (ev zs p) W (by omega) (by omega) (by omega) (by omega))
            rw [decide_eq_true hd] at HNB
            have Hd := Lib.hid hd
            clear hd v1 v2
            by_cases hfar : m.sl < farI (ev zs n) (ev zs p)
            · have HX := Lib.hid (not_fits (cs := cs) (wd := m.wd) hlt (Nat.lt_trans hpn hlt) Hd.out hfar)
              go_upto_region 9 with fail
              go_region_held3 (fun w' => (∀ o, w'.cell? ⟨w.heap.size + 1, o, none⟩ = #[Value.int .i64 m.wd, .slice (some ⟨zb, zo, none⟩) zs.length zc][o]?) ∧ (∀ o, w'.cell? ⟨w.heap.size, o, none⟩ = #[Value.int .i64 m.wd, .int .i64 m.rw, .int .i64 m.sl, (.slice A cs.length c)][o]?) ∧ w'.cell? ⟨zb, zo + n, none⟩ = some (.int .i64 (ev zs n)) ∧ w'.cell? ⟨zb, zo + p, none⟩ = some (.int .i64 (ev zs p))) ((exact (fun hF : Frm w [(w.heap.size + 1, (.cells #[.int .i64 m.wd, .slice (some ⟨zb, zo, none⟩) zs.length zc] 27)), (w.heap.size, (mpBox m (.slice A cs.length c)))] _ => ⟨hF.cells (List.mem_cons_self ..), hF.cells (List.mem_cons_of_mem _ (List.mem_cons_self ..)), int_at HZ.out hF.b (ev_is hlt), int_at HZ.out hF.b (ev_is (Nat.lt_trans hpn hlt))⟩) (by (repeat (with_reducible first | exact HR.out | apply Frm.drew | apply Frm.alloc | apply Frm.drewN))))) (first | (go_at_call 26; refine (HNB.out _).mono ?_; rintro e wa ⟨rfl, hba⟩; have HRq := Lib.hid (Frm.below (w := w) (bs := [(w.heap.size + 1, (.cells #[.int .i64 m.wd, .slice (some ⟨zb, zo, none⟩) zs.length zc] 27)), (w.heap.size, (mpBox m (.slice A cs.length c)))]) (by (repeat (with_reducible first | exact HR.out | apply Frm.drew | apply Frm.alloc | apply Frm.drewN))) hba); clear HR; have HR := HRq; clear HRq hba; have x0 := HR.out.cells (List.mem_cons_self ..); have x1 := HR.out.cells (List.mem_cons_of_mem _ (List.mem_cons_self ..))) | (go_at_call 75; refine (HFA.out _).mono ?_; rintro e wq ⟨rfl, rfl⟩))
              all_goals
                go_wp2_with fail
                go_ret
                exact ⟨ret_bool HX.out.symm, (Frm.b (w := w) (bs := [(w.heap.size + 1, (.cells #[.int .i64 m.wd, .slice (some ⟨zb, zo, none⟩) zs.length zc] 27)), (w.heap.size, (mpBox m (.slice A cs.length c)))]) (by (repeat (with_reducible first | exact HR.out | apply Frm.drew | apply Frm.alloc | apply Frm.drewN))))⟩
            · go_upto_region 9 with fail
              go_cut [57] (fun s57 wx => s57 = .bool false ∧ Frm w [(w.heap.size + 1, (.cells #[.int .i64 m.wd, .slice (some ⟨zb, zo, none⟩) zs.length zc] 27)), (w.heap.size, (mpBox m (.slice A cs.length c)))] wx)
              case first =>
                go_region_held3 (fun w' => (∀ o, w'.cell? ⟨w.heap.size + 1, o, none⟩ = #[Value.int .i64 m.wd, .slice (some ⟨zb, zo, none⟩) zs.length zc][o]?) ∧ (∀ o, w'.cell? ⟨w.heap.size, o, none⟩ = #[Value.int .i64 m.wd, .int .i64 m.rw, .int .i64 m.sl, (.slice A cs.length c)][o]?) ∧ w'.cell? ⟨zb, zo + n, none⟩ = some (.int .i64 (ev zs n)) ∧ w'.cell? ⟨zb, zo + p, none⟩ = some (.int .i64 (ev zs p))) ((exact (fun hF : Frm w [(w.heap.size + 1, (.cells #[.int .i64 m.wd, .slice (some ⟨zb, zo, none⟩) zs.length zc] 27)), (w.heap.size, (mpBox m (.slice A cs.length c)))] _ => ⟨hF.cells (List.mem_cons_self ..), hF.cells (List.mem_cons_of_mem _ (List.mem_cons_self ..)), int_at HZ.out hF.b (ev_is hlt), int_at HZ.out hF.b (ev_is (Nat.lt_trans hpn hlt))⟩) (by (repeat (with_reducible first | exact HR.out | apply Frm.drew | apply Frm.alloc | apply Frm.drewN))))) (first | (go_at_call 26; refine (HNB.out _).mono ?_; rintro e wa ⟨rfl, hba⟩; have HRq := Lib.hid (Frm.below (w := w) (bs := [(w.heap.size + 1, (.cells #[.int .i64 m.wd, .slice (some ⟨zb, zo, none⟩) zs.length zc] 27)), (w.heap.size, (mpBox m (.slice A cs.length c)))]) (by (repeat (with_reducible first | exact HR.out | apply Frm.drew | apply Frm.alloc | apply Frm.drewN))) hba); clear HR; have HR := HRq; clear HRq hba; have x0 := HR.out.cells (List.mem_cons_self ..); have x1 := HR.out.cells (List.mem_cons_of_mem _ (List.mem_cons_self ..))) | (go_at_call 75; refine (HFA.out _).mono ?_; rintro e wq ⟨rfl, rfl⟩))
                all_goals
                  go_wp2_with fail
                  go_meet
                  exact ⟨by rw [decide_eq_false (by omega)], (by (repeat (with_reducible first | exact HR.out | apply Frm.drew | apply Frm.alloc | apply Frm.drewN)))⟩
              case rest =>
                obtain ⟨rfl, hF⟩ := hcut
                clear HR x0 x1
                have HR := Lib.hid hF
                clear hF
                go_wp2_with fail
                go_roundw
                case rel => exact ⟨p + 1, by omega, by go_num, fun q' h1 h2 => by
                  rcases Nat.lt_or_ge q' p with h3 | h3
                  · exact HN2.out q' h3 h2
                  · obtain rfl : q' = p := by omega
                    omega, HR.out⟩
                case measure => simp [intOf]; omega
          · rw [decide_eq_false hd] at HNB
            have Hd := Lib.hid hd
            clear hd
            go_upto_region 9 with fail
            go_cut [57] (fun s57 wx => s57 = .bool false ∧ Frm w [(w.heap.size + 1, (.cells #[.int .i64 m.wd, .slice (some ⟨zb, zo, none⟩) zs.length zc] 27)), (w.heap.size, (mpBox m (.slice A cs.length c)))] wx)
            case first =>
              refine wp_region_held_drew (S := fun w' => (∀ o, w'.cell? ⟨w.heap.size + 1, o, none⟩ = #[Value.int .i64 m.wd, .slice (some ⟨zb, zo, none⟩) zs.length zc][o]?) ∧ (∀ o, w'.cell? ⟨w.heap.size, o, none⟩ = #[Value.int .i64 m.wd, .int .i64 m.rw, .int .i64 m.sl, (.slice A cs.length c)][o]?)) (by kernel_rfl) ?_ (fun hHeld => ?_)
              · (try dsimp only); (exact (fun hF : Frm w [(w.heap.size + 1, (.cells #[.int .i64 m.wd, .slice (some ⟨zb, zo, none⟩) zs.length zc] 27)), (w.heap.size, (mpBox m (.slice A cs.length c)))] _ => ⟨hF.cells (List.mem_cons_self ..), hF.cells (List.mem_cons_of_mem _ (List.mem_cons_self ..))⟩) (by (repeat (with_reducible first | exact HR.out | apply Frm.drew | apply Frm.alloc | apply Frm.drewN))))
              refine wpAnyH_take (i := 0) (oi := ⟨some 37, _, _, _, _, _⟩) (v := ?v0) rfl (by kernel_rfl) (by kernel_rfl) (by kernel_rfl) (fun _ _ _ h => h) (Or.inl ⟨by kernel_rfl, ?hy0⟩) (by assumption) ?rest0
              case hy0 => (intro w hSw; (try dsimp only at hSw); go_simp) <;> (with_reducible rfl)
              try simp only [Act.put, List.setIfInBounds_toArray, List.set_cons_zero, List.set_cons_succ]
              refine wpAnyH_take (i := 1) (oi := ⟨some 38, _, _, _, _, _⟩) (v := ?v1) rfl (by kernel_rfl) (by kernel_rfl) (by kernel_rfl) (fun _ _ _ h => h) (Or.inl ⟨by kernel_rfl, ?hy1⟩) (by assumption) ?rest1
              case hy1 => (intro w hSw; (try dsimp only at hSw); go_simp) <;> (with_reducible rfl)
              try simp only [Act.put, List.setIfInBounds_toArray, List.set_cons_zero, List.set_cons_succ]
              refine wpAnyH_take (i := 2) (oi := ⟨some 39, _, _, _, _, _⟩) (v := ?v2) rfl (by kernel_rfl) (by kernel_rfl) (by kernel_rfl) (fun _ _ _ h => h) (Or.inl ⟨by kernel_rfl, ?hy2⟩) (by assumption) ?rest2
              case hy2 => (intro w hSw; (try dsimp only at hSw); go_simp) <;> (with_reducible rfl)
              try simp only [Act.put, List.setIfInBounds_toArray, List.set_cons_zero, List.set_cons_succ]
              refine wpAnyH_take (i := 3) (oi := ⟨some 40, _, _, _, _, _⟩) (v := ?v3) rfl (by kernel_rfl) (by kernel_rfl) (by kernel_rfl) (fun _ _ _ h => h) (Or.inl ⟨by kernel_rfl, ?hy3⟩) (by assumption) ?rest3
              case hy3 => (intro w hSw; (try dsimp only at hSw); go_simp) <;> (with_reducible rfl)
              try simp only [Act.put, List.setIfInBounds_toArray, List.set_cons_zero, List.set_cons_succ]
              refine wpAnyH_ready (rs := [4]) (by kernel_rfl) (by simp) ?_
              refine AllReadyH.cons (o := ⟨some 41, _, _, _, _, _⟩) rfl (fun K hK => ?_) AllReadyH.nil
              go_simp
              go_at_call 26; refine (HNB.out _).mono ?_; rintro e wa ⟨rfl, hba⟩; have HRq := Lib.hid (Frm.below (w := w) (bs := [(w.heap.size + 1, (.cells #[.int .i64 m.wd, .slice (some ⟨zb, zo, none⟩) zs.length zc] 27)), (w.heap.size, (mpBox m (.slice A cs.length c)))]) (by (repeat (with_reducible first | exact HR.out | apply Frm.drew | apply Frm.alloc | apply Frm.drewN))) hba); clear HR; have HR := HRq; clear HRq hba; have x0 := HR.out.cells (List.mem_cons_self ..); have x1 := HR.out.cells (List.mem_cons_of_mem _ (List.mem_cons_self ..))
              try go_wp2_with fail
              clear hHeld
              refine hK.out _ _ ?_ (fun hHeld => ?_)
              · (try dsimp only); (exact (fun hF : Frm w [(w.heap.size + 1, (.cells #[.int .i64 m.wd, .slice (some ⟨zb, zo, none⟩) zs.length zc] 27)), (w.heap.size, (mpBox m (.slice A cs.length c)))] _ => ⟨hF.cells (List.mem_cons_self ..), hF.cells (List.mem_cons_of_mem _ (List.mem_cons_self ..))⟩) (by (repeat (with_reducible first | exact HR.out | apply Frm.drew | apply Frm.alloc | apply Frm.drewN))))
              clear hK K
              try simp only [Act.put, List.setIfInBounds_toArray, List.set_cons_zero, List.set_cons_succ]
              refine wpAnyH_take (i := 5) (oi := ⟨some 42, _, _, _, _, _⟩) (v := ?v5) rfl (by kernel_rfl) (by kernel_rfl) (by kernel_rfl) (fun _ _ _ h => h) (Or.inl ⟨by kernel_rfl, ?hy5⟩) (by assumption) ?rest5
              case hy5 => (intro w hSw; (try dsimp only at hSw); go_simp) <;> (with_reducible rfl)
              try simp only [Act.put, List.setIfInBounds_toArray, List.set_cons_zero, List.set_cons_succ]
              refine wpAnyH_take (i := 6) (oi := ⟨some 43, _, _, _, _, _⟩) (v := undef) rfl (by kernel_rfl) (by kernel_rfl) (by kernel_rfl) (fun _ _ _ h => h) (Or.inr ⟨by kernel_rfl, rfl⟩) (by assumption) ?_
              try simp only [Act.put, List.setIfInBounds_toArray, List.set_cons_zero, List.set_cons_succ]
              refine wpAnyH_take (i := 7) (oi := ⟨some 44, _, _, _, _, _⟩) (v := undef) rfl (by kernel_rfl) (by kernel_rfl) (by kernel_rfl) (fun _ _ _ h => h) (Or.inr ⟨by kernel_rfl, rfl⟩) (by assumption) ?_
              try simp only [Act.put, List.setIfInBounds_toArray, List.set_cons_zero, List.set_cons_succ]
              refine wpAnyH_take (i := 8) (oi := ⟨some 45, _, _, _, _, _⟩) (v := undef) rfl (by kernel_rfl) (by kernel_rfl) (by kernel_rfl) (fun _ _ _ h => h) (Or.inr ⟨by kernel_rfl, rfl⟩) (by assumption) ?_
              try simp only [Act.put, List.setIfInBounds_toArray, List.set_cons_zero, List.set_cons_succ]
              refine wpAnyH_take (i := 9) (oi := ⟨some 46, _, _, _, _, _⟩) (v := undef) rfl (by kernel_rfl) (by kernel_rfl) (by kernel_rfl) (fun _ _ _ h => h) (Or.inr ⟨by kernel_rfl, rfl⟩) (by assumption) ?_
              try simp only [Act.put, List.setIfInBounds_toArray, List.set_cons_zero, List.set_cons_succ]
              refine wpAnyH_take (i := 10) (oi := ⟨some 47, _, _, _, _, _⟩) (v := undef) rfl (by kernel_rfl) (by kernel_rfl) (by kernel_rfl) (fun _ _ _ h => h) (Or.inr ⟨by kernel_rfl, rfl⟩) (by assumption) ?_
              try simp only [Act.put, List.setIfInBounds_toArray, List.set_cons_zero, List.set_cons_succ]
              refine wpAnyH_take (i := 11) (oi := ⟨some 48, _, _, _, _, _⟩) (v := undef) rfl (by kernel_rfl) (by kernel_rfl) (by kernel_rfl) (fun _ _ _ h => h) (Or.inr ⟨by kernel_rfl, rfl⟩) (by assumption) ?_
              try simp only [Act.put, List.setIfInBounds_toArray, List.set_cons_zero, List.set_cons_succ]
              refine wpAnyH_take (i := 12) (oi := ⟨some 49, _, _, _, _, _⟩) (v := undef) rfl (by kernel_rfl) (by kernel_rfl) (by kernel_rfl) (fun _ _ _ h => h) (Or.inr ⟨by kernel_rfl, rfl⟩) (by assumption) ?_
              try simp only [Act.put, List.setIfInBounds_toArray, List.set_cons_zero, List.set_cons_succ]
              refine wpAnyH_take (i := 13) (oi := ⟨some 50, _, _, _, _, _⟩) (v := undef) rfl (by kernel_rfl) (by kernel_rfl) (by kernel_rfl) (fun _ _ _ h => h) (Or.inr ⟨by kernel_rfl, rfl⟩) (by assumption) ?_
              try simp only [Act.put, List.setIfInBounds_toArray, List.set_cons_zero, List.set_cons_succ]
              refine wpAnyH_take (i := 14) (oi := ⟨some 51, _, _, _, _, _⟩) (v := undef) rfl (by kernel_rfl) (by kernel_rfl) (by kernel_rfl) (fun _ _ _ h => h) (Or.inr ⟨by kernel_rfl, rfl⟩) (by assumption) ?_
              try simp only [Act.put, List.setIfInBounds_toArray, List.set_cons_zero, List.set_cons_succ]
              refine wpAnyH_take (i := 15) (oi := ⟨some 52, _, _, _, _, _⟩) (v := undef) rfl (by kernel_rfl) (by kernel_rfl) (by kernel_rfl) (fun _ _ _ h => h) (Or.inr ⟨by kernel_rfl, rfl⟩) (by assumption) ?_
              try simp only [Act.put, List.setIfInBounds_toArray, List.set_cons_zero, List.set_cons_succ]
              refine wpAnyH_take (i := 16) (oi := ⟨some 53, _, _, _, _, _⟩) (v := undef) rfl (by kernel_rfl) (by kernel_rfl) (by kernel_rfl) (fun _ _ _ h => h) (Or.inr ⟨by kernel_rfl, rfl⟩) (by assumption) ?_
              try simp only [Act.put, List.setIfInBounds_toArray, List.set_cons_zero, List.set_cons_succ]
              refine wpAnyH_take (i := 17) (oi := ⟨some 54, _, _, _, _, _⟩) (v := undef) rfl (by kernel_rfl) (by kernel_rfl) (by kernel_rfl) (fun _ _ _ h => h) (Or.inr ⟨by kernel_rfl, rfl⟩) (by assumption) ?_
              try simp only [Act.put, List.setIfInBounds_toArray, List.set_cons_zero, List.set_cons_succ]
              refine wpAnyH_take (i := 18) (oi := ⟨some 55, _, _, _, _, _⟩) (v := undef) rfl (by kernel_rfl) (by kernel_rfl) (by kernel_rfl) (fun _ _ _ h => h) (Or.inr ⟨by kernel_rfl, rfl⟩) (by assumption) ?_
              try simp only [Act.put, List.setIfInBounds_toArray, List.set_cons_zero, List.set_cons_succ]
              refine wpAnyH_take (i := 19) (oi := ⟨some 56, _, _, _, _, _⟩) (v := undef) rfl (by kernel_rfl) (by kernel_rfl) (by kernel_rfl) (fun _ _ _ h => h) (Or.inr ⟨by kernel_rfl, rfl⟩) (by assumption) ?_
              try simp only [Act.put, List.setIfInBounds_toArray, List.set_cons_zero, List.set_cons_succ]
              refine wpAnyH_take (i := 20) (oi := ⟨some 57, _, _, _, _, _⟩) (v := ?v20) rfl (by kernel_rfl) (by kernel_rfl) (by kernel_rfl) (fun _ _ _ h => h) (Or.inl ⟨by kernel_rfl, ?hy20⟩) (by assumption) ?rest20
              case hy20 => (intro w hSw; (try dsimp only at hSw); go_simp) <;> (with_reducible rfl)
              try simp only [Act.put, List.setIfInBounds_toArray, List.set_cons_zero, List.set_cons_succ]
              refine wpAnyH_done (by kernel_rfl) ?_ _
              go_wp2_with fail
              go_meet
              exact ⟨rfl, (by (repeat (with_reducible first | exact HR.out | apply Frm.drew | apply Frm.alloc | apply Frm.drewN)))⟩
            case rest =>
              obtain ⟨rfl, hF⟩ := hcut
              clear HR x0 x1
              have HR := Lib.hid hF
              clear hF
              go_wp2_with fail
              go_roundw
              case rel => exact ⟨p + 1, by omega, by go_num, fun q' h1 h2 => by
                rcases Nat.lt_or_ge q' p with h3 | h3
                · exact HN2.out q' h3 h2
                · obtain rfl : q' = p := by omega
                  exact absurd h2 Hd.out, HR.out⟩
              case measure => simp [intOf]; omega
        · go_wp2_with fail
          go_roundw
          case rel => exact ⟨n + 1, by omega, by go_num, fun p' q' h1 h2 h3 => by
            rcases Nat.lt_or_ge p' n with h4 | h4
            · exact HN.out p' q' h4 h2 h3
            · obtain rfl : p' = n := by omega
              exact HN2.out q' (by omega) h3, HR.out⟩
          case measure => simp [intOf]; omega
    · obtain rfl : n = zs.length := by omega
      have HNE := Lib.hid (show ∀ p q : Nat, p < zs.length → q < zs.length → distI m.wd p q = 1 → farI (ev zs p) (ev zs q) ≤ m.sl from fun p q h1 h2 h3 => by
        rcases Nat.lt_trichotomy p q with h | h | h
        · rw [farI_comm]; exact HN.out q p h2 h (by rw [dist_comm]; exact h3)
        · subst h; rw [dist_self] at h3; omega
        · exact HN.out p q h1 h h3)
      go_wp2_with fail
      go_loopw [7, 8] (fun i _ wr => ∃ n : Nat, n ≤ cs.length ∧ i = .int .i64 n ∧ (∀ x ∈ cs.take n, x.lo ≤ ev zs x.pt.toNat ∧ ev zs x.pt.toNat ≤ x.hi) ∧ Frm w [(w.heap.size + 1, (.cells #[.int .i64 m.wd, .slice (some ⟨zb, zo, none⟩) zs.length zc] 27)), (w.heap.size, (mpBox m (.slice A cs.length c)))] wr) (fun i _ _ => cs.length - (intOf i).toNat)
      case atStart => exact ⟨0, Nat.zero_le _, rfl, by simp, HF0.out⟩
      case round =>
        obtain ⟨n, hn, rfl, hall, hF⟩ := hrel
        clear y0 y1
        have HA := Lib.hid hall
        have HR := Lib.hid hF
        have x0 := HR.out.cells (List.mem_cons_self ..)
        have x1 := HR.out.cells (List.mem_cons_of_mem _ (List.mem_cons_self ..))
        clear hall hF
        by_cases hnl : n < cs.length
        · obtain ⟨x, hx⟩ : ∃ x, cs[n]? = some x := ⟨_, List.getElem?_eq_getElem hnl⟩
          obtain ⟨b, off, hA, hcap, hmx, c0, c1, c2⟩ := sta_cells (HC0.out.below HR.out.b) hx
          unfold maxLen at hmx
          have hxo := hs.all x (List.mem_of_getElem? hx)
          obtain ⟨o0, o1, o2, o3, o4⟩ := hxo
          obtain ⟨xp, xl, xh⟩ := x
          dsimp only at c0 c1 c2 o0 o1 o2 o3 o4
          obtain ⟨pt, rfl⟩ : ∃ pt : Nat, xp = pt := ⟨xp.toNat, by omega⟩
          have hptl : pt < zs.length := by have := HG2.out; omega
          have HX := Lib.hid hx
          clear hx o0 o1
          subst hA
          have HIN := Lib.hid (fun W => in_any (ev zs pt) xl xh W)
          go_upto_region 15 with fail
          have HRq := Lib.hid (HR.out.add (.cells #[.int .i64 pt, .int .i64 xl, .int .i64 xh] 43) rfl)
          clear HR x0 x1 c0 c1 c2
          have HR := HRq
          clear HRq
          cases q : betw (ev zs pt) xl xh
          · have HQ := Lib.hid (show false = fitsB m cs m.wd zs from (fitsB_no fun hf => by
              have h1 := hf.own _ (List.mem_of_getElem? HX.out)
              have h2 := betw_not.1 q
              exact h2 (by simpa using h1)).symm)
            rw [q] at HIN
            go_region_held3 (fun w' => (∀ o, w'.cell? ⟨wr.heap.size, o, none⟩ = #[Value.int .i64 pt, .int .i64 xl, .int .i64 xh][o]?) ∧ (∀ o, w'.cell? ⟨w.heap.size + 1, o, none⟩ = #[Value.int .i64 m.wd, .slice (some ⟨zb, zo, none⟩) zs.length zc][o]?) ∧ w'.cell? ⟨zb, zo + pt, none⟩ = some (.int .i64 (ev zs pt))) ((exact (fun hF : Frm w [(wr.heap.size, (.cells #[.int .i64 pt, .int .i64 xl, .int .i64 xh] 43)), (w.heap.size + 1, (.cells #[.int .i64 m.wd, .slice (some ⟨zb, zo, none⟩) zs.length zc] 27)), (w.heap.size, (mpBox m (.slice (some ⟨b, off, none⟩) cs.length c)))] _ => ⟨hF.cells (List.mem_cons_self ..), hF.cells (List.mem_cons_of_mem _ (List.mem_cons_self ..)), int_at HZ.out hF.b (ev_is hptl)⟩) (by (repeat (with_reducible first | exact HR.out | apply Frm.drew | apply Frm.alloc | apply Frm.drewN))))) ((go_at_call 44; refine (HIN.out _).mono ?_; rintro e wq ⟨rfl, rfl⟩))
            all_goals
              go_wp2_with fail
              go_ret
              exact ⟨ret_bool HQ.out, (Frm.b (w := w) (bs := [(wr.heap.size, (.cells #[.int .i64 pt, .int .i64 xl, .int .i64 xh] 43)), (w.heap.size + 1, (.cells #[.int .i64 m.wd, .slice (some ⟨zb, zo, none⟩) zs.length zc] 27)), (w.heap.size, (mpBox m (.slice (some ⟨b, off, none⟩) cs.length c)))]) (by (repeat (with_reducible first | exact HR.out | apply Frm.drew | apply Frm.alloc | apply Frm.drewN))))⟩
          · have HQ := Lib.hid (betw_iff.1 q)
            rw [q] at HIN
            go_region_held3 (fun w' => (∀ o, w'.cell? ⟨wr.heap.size, o, none⟩ = #[Value.int .i64 pt, .int .i64 xl, .int .i64 xh][o]?) ∧ (∀ o, w'.cell? ⟨w.heap.size + 1, o, none⟩ = #[Value.int .i64 m.wd, .slice (some ⟨zb, zo, none⟩) zs.length zc][o]?) ∧ w'.cell? ⟨zb, zo + pt, none⟩ = some (.int .i64 (ev zs pt))) ((exact (fun hF : Frm w [(wr.heap.size, (.cells #[.int .i64 pt, .int .i64 xl, .int .i64 xh] 43)), (w.heap.size + 1, (.cells #[.int .i64 m.wd, .slice (some ⟨zb, zo, none⟩) zs.length zc] 27)), (w.heap.size, (mpBox m (.slice (some ⟨b, off, none⟩) cs.length c)))] _ => ⟨hF.cells (List.mem_cons_self ..), hF.cells (List.mem_cons_of_mem _ (List.mem_cons_self ..)), int_at HZ.out hF.b (ev_is hptl)⟩) (by (repeat (with_reducible first | exact HR.out | apply Frm.drew | apply Frm.alloc | apply Frm.drewN))))) ((go_at_call 44; refine (HIN.out _).mono ?_; rintro e wq ⟨rfl, rfl⟩))
            all_goals
              go_wp2_with fail
              go_roundw
              case rel => exact ⟨n + 1, by omega, by go_num, fun z hz => by
                rw [List.take_add_one, HX.out] at hz
                rcases List.mem_append.1 hz with h1 | h1
                · exact HA.out z h1
                · obtain rfl := (by simpa using h1 : z = _)
                  simpa using HQ.out, Frm.less (bs := [(wr.heap.size, (.cells #[.int .i64 pt, .int .i64 xl, .int .i64 xh] 43)), (w.heap.size + 1, (.cells #[.int .i64 m.wd, .slice (some ⟨zb, zo, none⟩) zs.length zc] 27)), (w.heap.size, (mpBox m (.slice (some ⟨b, off, none⟩) cs.length c)))]) (by (repeat (with_reducible first | exact HR.out | apply Frm.drew | apply Frm.alloc | apply Frm.drewN))) (fun p hp => List.mem_cons_of_mem _ hp)⟩
              case measure => simp [intOf]; omega
        · obtain rfl : n = cs.length := by omega
          have HT := Lib.hid (show true = fitsB m cs m.wd zs from (fitsB_iff.2 ⟨rfl, HG2.out, by have := HA.out; rwa [List.take_length] at this, HNE.out⟩).symm)
          go_wp2_with fail
          go_ret
          exact ⟨ret_bool HT.out, HR.out.b⟩
end Go.Proofs.YtpkmojcppdogkaaGreatDoor
