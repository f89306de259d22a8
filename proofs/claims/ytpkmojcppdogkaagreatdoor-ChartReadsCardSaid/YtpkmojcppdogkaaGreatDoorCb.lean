/- The bounds of all points, by the program. -/
import Derived.Test.YtpkmojcppdogkaaGreatDoorCx
set_option linter.unusedVariables false
set_option linter.unusedSimpArgs false
namespace Go.Proofs.YtpkmojcppdogkaaGreatDoor
open Go.RowKit
open Go.Maps
theorem blk_at1 {W W1 : World} {k : Nat} {o : Obj} (hk : k = W.heap.size) (hb : Below (W.alloc o).heap.size (W.alloc o) W1) : W1.heap[k]? = some o := blk_below (heap_new W o hk) hb
theorem blk_d1 {W W1 : World} {k : Nat} {o : Obj} (hk : k = W.heap.size) (hb : Below ((W.alloc o).drew).heap.size ((W.alloc o).drew) W1) : W1.heap[k]? = some o := blk_below (blk_dr (heap_new W o hk)) hb
theorem blk_d2 {W W1 : World} {k : Nat} {o o2 : Obj} (hk : k = W.heap.size) (hb : Below (((W.alloc o).alloc o2).drew).heap.size (((W.alloc o).alloc o2).drew) W1) : W1.heap[k]? = some o := blk_below (blk_dr (blk_alloc (heap_new W o hk) _)) hb
theorem blk_at2 {W W1 : World} {k : Nat} {o o2 : Obj} (hk : k = W.heap.size) (hb : Below ((W.alloc o).alloc o2).heap.size ((W.alloc o).alloc o2) W1) : W1.heap[k]? = some o := blk_below (blk_alloc (heap_new W o hk) _) hb
/-- The span of a point. -/
def spF (m : Mp) (cs : List Sta) (p : Nat) : Sp := ⟨lowestF m.wd m.sl p cs, highestF m.wd m.sl p cs⟩
set_option maxHeartbeats 16000000 in
set_option maxRecDepth 100000 in
theorem bounds_any (m : Mp) (A : Option Addr) (c : Nat) (cs : List Sta) (w : World) (hs : Sane m cs) (hc : Stas w (.slice A cs.length c) cs) :
    Calls Tryz.prog 93 #[viewV m.wd m.rw m.sl (.slice A cs.length c)] w fun e w' => ∃ g cap cur, e = .returned (.slice (some ⟨g, 0, none⟩) ((m.wd * m.rw).toNat) cap) ∧ w'.heap[g]? = some (.cells cur 41) ∧ RowS (rowP (spF m cs) ((m.wd * m.rw).toNat)) cur ∧ w.heap.size ≤ g ∧ ((m.wd * m.rw).toNat) ≤ cap ∧ cap ≤ maxLen ∧ Below w.heap.size w w' := by
  have HC0 := Lib.hid hc
  clear hc
  have ok := hs.ok
  have w1 := ok.w1; have w2 := ok.w2; have s0 := ok.s0; have s1 := ok.s1; have a1 := ok.a1; have a2 := ok.a2
  obtain ⟨N, hN⟩ : ∃ N : Nat, (m.wd * m.rw).toNat = N := ⟨_, rfl⟩
  have HN := Lib.hid hN
  have hN' : m.wd * m.rw = (N : Int) := by omega
  have hN2 : (N : Int) ≤ 30 := by omega
  have hN1 : 0 < N := by omega
  have e1 : IntKind.i64.wrap (m.wd * m.rw) = (N : Int) := by rw [hN']; exact IntWalk.i64_in _ (by omega)
  have HP : Hid (∀ W, Calls Tryz.prog 89 #[.agg #[.int .i64 m.wd, .int .i64 m.rw]] W fun e w' => e = .returned (.int .i64 (N : Int)) ∧ Below W.heap.size W w') := Lib.hid (fun W => by
    go_enter Tryz.func89, Tryz.ntmps89
    go_wp2
    go_ret
    exact ⟨ret_int (by omega), (Below.refl _ _).alloc (Nat.le_refl _) _⟩)
  rw [hN]
  clear hN e1 hN'
  obtain ⟨fS, hfS⟩ : ∃ fS : Nat → Sp, fS = spF m cs := ⟨_, rfl⟩
  have HFS := Lib.hid hfS
  rw [← hfS]
  clear hfS
  have HV := Lib.hid ((Frm.nil w).add (.cells #[.int .i64 m.wd, .int .i64 m.rw, .int .i64 m.sl, (.slice A cs.length c), .int .i64 m.wd, .int .i64 m.rw] 87) rfl)
  have x0 := HV.out.cells (List.mem_cons_self ..)
  go_enter Tryz.func93, Tryz.ntmps93
  go_upto_region 1 with fail
  have HN1 := Lib.hid (show w.heap.size + 1 = (w.alloc (.cells #[.int .i64 m.wd, .int .i64 m.rw, .int .i64 m.sl, (.slice A cs.length c), .int .i64 m.wd, .int .i64 m.rw] 87)).heap.size by simp)
  have HN2 := Lib.hid (show w.heap.size + 1 + 1 = ((w.alloc (.cells #[.int .i64 m.wd, .int .i64 m.rw, .int .i64 m.sl, (.slice A cs.length c), .int .i64 m.wd, .int .i64 m.rw] 87)).alloc (.cells #[.int .i64 0, .slice none 0 0] 27)).heap.size by simp)
  go_cut [3, 4] (fun s3 s4 wx => ∃ (P Q gl cl gh ch : Nat) (curl curh : Array Value), s3 = .pointer (some ⟨P, 0, none⟩) ∧ s4 = .pointer (some ⟨Q, 0, none⟩) ∧ Frm w [(P, (.cells #[.int .i64 m.wd, .slice (some ⟨gl, 0, none⟩) N cl] 27)), (Q, (.cells #[.int .i64 m.wd, .slice (some ⟨gh, 0, none⟩) N ch] 27)), (gl, (.cells curl 3)), (gh, (.cells curh 3)), (w.heap.size, (.cells #[.int .i64 m.wd, .int .i64 m.rw, .int .i64 m.sl, (.slice A cs.length c), .int .i64 m.wd, .int .i64 m.rw] 87))] wx ∧ RowI (rowZ (fun p : Nat => lowestF m.wd m.sl p cs) N) curl ∧ RowI (rowZ (fun p : Nat => highestF m.wd m.sl p cs) N) curh ∧ N ≤ cl ∧ cl ≤ maxLen ∧ N ≤ ch ∧ ch ≤ maxLen)
  case first =>
    go_region_held3 (fun w' => (∀ o, w'.cell? ⟨w.heap.size, o, none⟩ = #[Value.int .i64 m.wd, .int .i64 m.rw, .int .i64 m.sl, (.slice A cs.length c), .int .i64 m.wd, .int .i64 m.rw][o]?)) ((exact (fun hF : Frm w [(w.heap.size, (.cells #[.int .i64 m.wd, .int .i64 m.rw, .int .i64 m.sl, (.slice A cs.length c), .int .i64 m.wd, .int .i64 m.rw] 87))] _ => hF.cells (List.mem_cons_self ..)) (by (repeat (with_reducible first | exact HV.out | apply Frm.drew | apply Frm.alloc | apply Frm.drewN | (refine Frm.set ?_ (by simp <;> omega) (by simp <;> omega) _)))))) (first | (go_at_call 122; with_reducible refine (extreme_low m A c cs _ hs (HC0.out.below (Frm.b (w := w) (bs := [(w.heap.size, (.cells #[.int .i64 m.wd, .int .i64 m.rw, .int .i64 m.sl, (.slice A cs.length c), .int .i64 m.wd, .int .i64 m.rw] 87))]) (by (repeat (with_reducible first | exact HV.out | apply Frm.drew | apply Frm.alloc | apply Frm.drewN | (refine Frm.set ?_ (by simp <;> omega) (by simp <;> omega) _))))))).mono ?_; rintro e wa ⟨gl, cl, curl, rfl, hgl, hrl, hbl, hl1, hl2, hba⟩; rw [HN.out] at hrl hl1; try rw [HN.out]; have HGL := Lib.hid hgl; have HRL := Lib.hid hrl; have zl := (Array.getElem?_eq_some_iff.1 hgl).1; (try simp at hbl); have HVq := Lib.hid (Frm.below (w := w) (bs := [(w.heap.size, (.cells #[.int .i64 m.wd, .int .i64 m.rw, .int .i64 m.sl, (.slice A cs.length c), .int .i64 m.wd, .int .i64 m.rw] 87))]) (by (repeat (with_reducible first | exact HV.out | apply Frm.drew | apply Frm.alloc | apply Frm.drewN | (refine Frm.set ?_ (by simp <;> omega) (by simp <;> omega) _)))) hba); clear HV; have HV := HVq; clear HVq hgl hrl; have x0 := HV.out.cells (List.mem_cons_self ..); (first | (have P2 : Hid (wa.heap[w.heap.size + 1 + 1]? = some (.cells #[.int .i64 0, .slice none 0 0] 27)) := Lib.hid (blk_d1 HN2.out hba)) | skip); (first | (have P1 : Hid (wa.heap[w.heap.size + 1]? = some (.cells #[.int .i64 0, .slice none 0 0] 27)) := Lib.hid (blk_d1 HN1.out hba)) | (have P1 : Hid (wa.heap[w.heap.size + 1]? = some (.cells #[.int .i64 0, .slice none 0 0] 27)) := Lib.hid (blk_d2 HN1.out hba)) | skip); (try (have P1c := (boxCells P1.out).1; have P1f := (boxCells P1.out).2; have P1l := (Array.getElem?_eq_some_iff.1 P1.out).1)); (try (have P2c := (boxCells P2.out).1; have P2f := (boxCells P2.out).2; have P2l := (Array.getElem?_eq_some_iff.1 P2.out).1)); have za := hba.size; (try simp at za); clear hba) | (go_at_call 122; with_reducible refine (extreme_high m A c cs _ hs (HC0.out.below (Frm.b (w := w) (bs := [(w.heap.size, (.cells #[.int .i64 m.wd, .int .i64 m.rw, .int .i64 m.sl, (.slice A cs.length c), .int .i64 m.wd, .int .i64 m.rw] 87))]) (by (repeat (with_reducible first | exact HV.out | apply Frm.drew | apply Frm.alloc | apply Frm.drewN | (refine Frm.set ?_ (by simp <;> omega) (by simp <;> omega) _))))))).mono ?_; rintro e wb ⟨gh, ch, curh, rfl, hgh, hrh, hbh, hh1, hh2, hbb⟩; rw [HN.out] at hrh hh1; try rw [HN.out]; have HGH := Lib.hid hgh; have HRH := Lib.hid hrh; have zh := (Array.getElem?_eq_some_iff.1 hgh).1; (try simp at hbh); have HVq := Lib.hid (Frm.below (w := w) (bs := [(w.heap.size, (.cells #[.int .i64 m.wd, .int .i64 m.rw, .int .i64 m.sl, (.slice A cs.length c), .int .i64 m.wd, .int .i64 m.rw] 87))]) (by (repeat (with_reducible first | exact HV.out | apply Frm.drew | apply Frm.alloc | apply Frm.drewN | (refine Frm.set ?_ (by simp <;> omega) (by simp <;> omega) _)))) hbb); clear HV; have HV := HVq; clear HVq hgh hrh; have x0 := HV.out.cells (List.mem_cons_self ..); (first | (have HGLq := Lib.hid (blk_below HGL.out hbb); clear HGL; have HGL := HGLq; clear HGLq) | (have HGLq := Lib.hid (blk_below (blk_alloc HGL.out _) hbb); clear HGL; have HGL := HGLq; clear HGLq) | (have HGLq := Lib.hid (blk_below (blk_alloc (blk_alloc HGL.out _) _) hbb); clear HGL; have HGL := HGLq; clear HGLq) | skip); (first | (have P1q := Lib.hid (blk_below P1.out hbb); clear P1 P1c P1f P1l; have P1 := P1q; clear P1q) | (have P1q := Lib.hid (blk_below (blk_alloc P1.out _) hbb); clear P1 P1c P1f P1l; have P1 := P1q; clear P1q) | (have P1q := Lib.hid (blk_below (blk_alloc (blk_alloc P1.out _) _) hbb); clear P1 P1c P1f P1l; have P1 := P1q; clear P1q) | skip); (first | (have P2q := Lib.hid (blk_below P2.out hbb); clear P2 P2c P2f P2l; have P2 := P2q; clear P2q) | (have P2q := Lib.hid (blk_below (blk_alloc P2.out _) hbb); clear P2 P2c P2f P2l; have P2 := P2q; clear P2q) | (have P2q := Lib.hid (blk_below (blk_alloc (blk_alloc P2.out _) _) hbb); clear P2 P2c P2f P2l; have P2 := P2q; clear P2q) | skip); (first | (have P4 : Hid (wb.heap[wa.heap.size + 1]? = some (.cells #[.int .i64 0, .slice none 0 0] 27)) := Lib.hid (blk_at1 (World.size_alloc _ _).symm hbb)) | skip); (first | (have P3 : Hid (wb.heap[wa.heap.size]? = some (.cells #[.int .i64 0, .slice none 0 0] 27)) := Lib.hid (blk_at1 rfl hbb)) | (have P3 : Hid (wb.heap[wa.heap.size]? = some (.cells #[.int .i64 0, .slice none 0 0] 27)) := Lib.hid (blk_at2 rfl hbb)) | skip); (try (have P1c := (boxCells P1.out).1; have P1f := (boxCells P1.out).2; have P1l := (Array.getElem?_eq_some_iff.1 P1.out).1)); (try (have P2c := (boxCells P2.out).1; have P2f := (boxCells P2.out).2; have P2l := (Array.getElem?_eq_some_iff.1 P2.out).1)); (try (have P3c := (boxCells P3.out).1; have P3f := (boxCells P3.out).2; have P3l := (Array.getElem?_eq_some_iff.1 P3.out).1)); (try (have P4c := (boxCells P4.out).1; have P4f := (boxCells P4.out).2; have P4l := (Array.getElem?_eq_some_iff.1 P4.out).1)); have zb := hbb.size; (try simp at zb); clear hbb))
    all_goals
      go_wp2_with fail
      go_meet
      refine ⟨_, _, gl, cl, gh, ch, curl, curh, rfl, rfl, Frm.more (Frm.more (Frm.more (Frm.more (bs := [(w.heap.size, (.cells #[.int .i64 m.wd, .int .i64 m.rw, .int .i64 m.sl, (.slice A cs.length c), .int .i64 m.wd, .int .i64 m.rw] 87))]) ?_ ?_) ?_) ?_) ?_, HRL.out, HRH.out, hl1, hl2, hh1, hh2⟩
      · (repeat (with_reducible first | exact HV.out | apply Frm.drew | apply Frm.alloc | apply Frm.drewN | (refine Frm.set ?_ (by simp <;> omega) (by simp <;> omega) _)))
      all_goals (repeat (with_reducible first | exact P1.out | exact P2.out | exact P3.out | exact P4.out | exact HGL.out | exact HGH.out | exact heap_new _ _ (by simp) | apply blk_dr | apply blk_alloc | apply blk_set2 | (refine blk_set ?_ (by simp <;> omega) _)))
  case rest =>
    obtain ⟨P, Q, gl, cl, gh, ch, curl, curh, rfl, rfl, hF, hrl, hrh, hl1, hl2, hh1, hh2⟩ := hcut
    clear HV x0 HN1 HN2
    unfold maxLen at hl2 hh2
    have HR := Lib.hid hF
    have HRL := Lib.hid hrl
    have HRH := Lib.hid hrh
    clear hF hrl hrh
    have x0 := HR.out.cells (List.mem_cons_self ..)
    have x1 := HR.out.cells (List.mem_cons_of_mem _ (List.mem_cons_self ..))
    have x2 := HR.out.cells (List.mem_cons_of_mem _ (List.mem_cons_of_mem _ (List.mem_cons_self ..)))
    have x3 := HR.out.cells (List.mem_cons_of_mem _ (List.mem_cons_of_mem _ (List.mem_cons_of_mem _ (List.mem_cons_self ..))))
    have x4 := HR.out.cells (List.mem_cons_of_mem _ (List.mem_cons_of_mem _ (List.mem_cons_of_mem _ (List.mem_cons_of_mem _ (List.mem_cons_self ..)))))
    go_wp2_with (go_at_call 89; refine (HP.out _).mono ?_; rintro e wa ⟨rfl, hba⟩; have HRq := Lib.hid (Frm.below (w := w) (bs := [(P, (.cells #[.int .i64 m.wd, .slice (some ⟨gl, 0, none⟩) N cl] 27)), (Q, (.cells #[.int .i64 m.wd, .slice (some ⟨gh, 0, none⟩) N ch] 27)), (gl, (.cells curl 3)), (gh, (.cells curh 3)), (w.heap.size, (.cells #[.int .i64 m.wd, .int .i64 m.rw, .int .i64 m.sl, (.slice A cs.length c), .int .i64 m.wd, .int .i64 m.rw] 87))]) (by (repeat (with_reducible first | exact HR.out | apply Frm.drew | apply Frm.alloc | apply Frm.drewN))) hba); clear HR; have HR := HRq; clear HRq hba; have x0 := HR.out.cells (List.mem_cons_self ..); have x1 := HR.out.cells (List.mem_cons_of_mem _ (List.mem_cons_self ..)); have x2 := HR.out.cells (List.mem_cons_of_mem _ (List.mem_cons_of_mem _ (List.mem_cons_self ..))); have x3 := HR.out.cells (List.mem_cons_of_mem _ (List.mem_cons_of_mem _ (List.mem_cons_of_mem _ (List.mem_cons_self ..)))); have x4 := HR.out.cells (List.mem_cons_of_mem _ (List.mem_cons_of_mem _ (List.mem_cons_of_mem _ (List.mem_cons_of_mem _ (List.mem_cons_self ..))))))
    have z0 := HR.out.lt (List.mem_cons_self ..)
    have z1 := HR.out.lt (List.mem_cons_of_mem _ (List.mem_cons_self ..))
    have z2 := HR.out.lt (List.mem_cons_of_mem _ (List.mem_cons_of_mem _ (List.mem_cons_self ..)))
    have z3 := HR.out.lt (List.mem_cons_of_mem _ (List.mem_cons_of_mem _ (List.mem_cons_of_mem _ (List.mem_cons_self ..))))
    have z4 := HR.out.lt (List.mem_cons_of_mem _ (List.mem_cons_of_mem _ (List.mem_cons_of_mem _ (List.mem_cons_of_mem _ (List.mem_cons_self ..)))))
    generalize hbase : wa.heap.size = base at *
    have hbl : base ≤ wa.heap.size := by omega
    clear hbase
    go_loopw [5, 6, 14] (fun v _ i wr => ∃ n E ec, n ≤ N ∧ i = .int .i64 (n : Int) ∧ v = .slice E n ec ∧ wr.ownsRow base 41 2 (.slice E n ec) n (spsL (rowP fS n)) ∧ Frm w [(P, (.cells #[.int .i64 m.wd, .slice (some ⟨gl, 0, none⟩) N cl] 27)), (Q, (.cells #[.int .i64 m.wd, .slice (some ⟨gh, 0, none⟩) N ch] 27)), (gl, (.cells curl 3)), (gh, (.cells curh 3)), (w.heap.size, (.cells #[.int .i64 m.wd, .int .i64 m.rw, .int .i64 m.sl, (.slice A cs.length c), .int .i64 m.wd, .int .i64 m.rw] 87))] wr ∧ base ≤ wr.heap.size) (fun _ _ i _ => N - (intOf i).toNat)
    case atStart => exact ⟨0, none, 0, Nat.zero_le _, rfl, rfl, World.ownsRow_nil .., HR.out, hbl⟩
    case round =>
      obtain ⟨n, E, ec, hn, rfl, rfl, hO, hF, hbs⟩ := hrel
      clear HR x0 x1 x2 x3 x4 hbl
      have HR := Lib.hid hF
      have HO := Lib.hid hO
      clear hF hO
      have x0 := HR.out.cells (List.mem_cons_self ..)
      have x1 := HR.out.cells (List.mem_cons_of_mem _ (List.mem_cons_self ..))
      have x2 := HR.out.cells (List.mem_cons_of_mem _ (List.mem_cons_of_mem _ (List.mem_cons_self ..)))
      have x3 := HR.out.cells (List.mem_cons_of_mem _ (List.mem_cons_of_mem _ (List.mem_cons_of_mem _ (List.mem_cons_self ..))))
      have x4 := HR.out.cells (List.mem_cons_of_mem _ (List.mem_cons_of_mem _ (List.mem_cons_of_mem _ (List.mem_cons_of_mem _ (List.mem_cons_self ..)))))
      by_cases hnl : n < N
      · have HLn := Lib.hid (HRL.out n _ (rowZ_at (f := (fun p : Nat => lowestF m.wd m.sl p cs)) hnl))
        have HHn := Lib.hid (HRH.out n _ (rowZ_at (f := (fun p : Nat => highestF m.wd m.sl p cs)) hnl))
        have HSn := Lib.hid (show fS n = ⟨lowestF m.wd m.sl n cs, highestF m.wd m.sl n cs⟩ by rw [HFS.out]; rfl)
        generalize lowestF m.wd m.sl n cs = lo at *
        generalize highestF m.wd m.sl n cs = hi at *
        go_upto_region 6 with fail
        go_region_held3 (fun w' => (∀ o, w'.cell? ⟨P, o, none⟩ = #[Value.int .i64 m.wd, .slice (some ⟨gl, 0, none⟩) N cl][o]?) ∧ (∀ o, w'.cell? ⟨Q, o, none⟩ = #[Value.int .i64 m.wd, .slice (some ⟨gh, 0, none⟩) N ch][o]?) ∧ w'.cell? ⟨gl, n, none⟩ = some (.int .i64 lo) ∧ w'.cell? ⟨gh, n, none⟩ = some (.int .i64 hi)) ((exact (fun hF : Frm w [(P, (.cells #[.int .i64 m.wd, .slice (some ⟨gl, 0, none⟩) N cl] 27)), (Q, (.cells #[.int .i64 m.wd, .slice (some ⟨gh, 0, none⟩) N ch] 27)), (gl, (.cells curl 3)), (gh, (.cells curh 3)), (w.heap.size, (.cells #[.int .i64 m.wd, .int .i64 m.rw, .int .i64 m.sl, (.slice A cs.length c), .int .i64 m.wd, .int .i64 m.rw] 87))] _ => ⟨hF.cells (List.mem_cons_self ..), hF.cells (List.mem_cons_of_mem _ (List.mem_cons_self ..)), (hF.cells (List.mem_cons_of_mem _ (List.mem_cons_of_mem _ (List.mem_cons_self ..))) n).trans HLn.out, (hF.cells (List.mem_cons_of_mem _ (List.mem_cons_of_mem _ (List.mem_cons_of_mem _ (List.mem_cons_self ..)))) n).trans HHn.out⟩) (by (repeat (with_reducible first | exact HR.out | apply Frm.drew | apply Frm.alloc | apply Frm.drewN))))) (((first | refine step_of (by rfl) (wp_span _ _ (by rfl) (base := base) (n := n) (zs := rowP fS n) (y := ⟨lo, hi⟩) (rowP_len _ _) (by rfl) (World.ownsRow.alloc (by first | exact HO.out | exact own_drew HO.out) _) (by rfl) (heap_new _ _ rfl) (by omega) (by have := HR.out.size; simp <;> omega) ?_) | refine wp_span _ _ (by rfl) (base := base) (n := n) (zs := rowP fS n) (y := ⟨lo, hi⟩) (rowP_len _ _) (by rfl) (World.ownsRow.alloc (by first | exact HO.out | exact own_drew HO.out) _) (by rfl) (heap_new _ _ rfl) (by omega) (by have := HR.out.size; simp <;> omega) ?_); intro g cap wb hO3 hg3 hat hlt; have HRq := Lib.hid (after_app (w := w) (bs := [(P, (.cells #[.int .i64 m.wd, .slice (some ⟨gl, 0, none⟩) N cl] 27)), (Q, (.cells #[.int .i64 m.wd, .slice (some ⟨gh, 0, none⟩) N ch] 27)), (gl, (.cells curl 3)), (gh, (.cells curh 3)), (w.heap.size, (.cells #[.int .i64 m.wd, .int .i64 m.rw, .int .i64 m.sl, (.slice A cs.length c), .int .i64 m.wd, .int .i64 m.rw] 87))]) (base := base) (by (repeat (with_reducible first | exact HR.out | apply Frm.drew | apply Frm.alloc | apply Frm.drewN))) (by omega) (by simp <;> omega) (fun k hk => (HO.out.lt k hk).1) hg3); have HOq := Lib.hid (show wb.ownsRow (base) 41 2 (.slice (some ⟨g, 0, none⟩) (n + 1) cap) (n + 1) (spsL (rowP fS (n + 1))) from by rw [rowP_succ, HSn.out]; exact hO3); clear HR HO; have HR := HRq; have HO := HOq; clear HRq HOq hO3 hg3 hat hlt; have x0 := HR.out.cells (List.mem_cons_self ..); have x1 := HR.out.cells (List.mem_cons_of_mem _ (List.mem_cons_self ..)); have x2 := HR.out.cells (List.mem_cons_of_mem _ (List.mem_cons_of_mem _ (List.mem_cons_self ..))); have x3 := HR.out.cells (List.mem_cons_of_mem _ (List.mem_cons_of_mem _ (List.mem_cons_of_mem _ (List.mem_cons_self ..)))); have x4 := HR.out.cells (List.mem_cons_of_mem _ (List.mem_cons_of_mem _ (List.mem_cons_of_mem _ (List.mem_cons_of_mem _ (List.mem_cons_self ..)))))))
        all_goals
          go_wp2_with fail
          go_roundw
          case rel => exact ⟨n + 1, some ⟨g, 0, none⟩, cap, by omega, by go_num, rfl, HO.out, HR.out, by have := HO.out.lt g rfl; omega⟩
          case measure => simp [intOf]; omega
      · obtain rfl : n = N := by omega
        go_wp2_with fail
        obtain ⟨g, cur, rfl, hg, hrow, hbg, hc1, hc2⟩ := span_row HO.out (rowP_len _ _) (by omega)
        go_ret
        exact ⟨g, ec, cur, rfl, hg, hrow, by omega, hc1, hc2, HR.out.b⟩
end Go.Proofs.YtpkmojcppdogkaaGreatDoor
