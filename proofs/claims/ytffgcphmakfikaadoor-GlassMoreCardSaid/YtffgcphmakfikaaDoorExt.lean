/- The truth in which a pressure, and the bulbs, are at their ends, by the program. -/
import Derived.Test.YtffgcphmakfikaaDoorSmall
set_option linter.unusedVariables false
set_option linter.unusedSimpArgs false
namespace Go.Proofs.YtffgcphmakfikaaDoor
open Go.RowKit Go.Maps

/-- A station that is as defined. -/
structure Good (s : Stn) (cs : List Chk) : Prop where
  sane : Sane s cs
  dr1 : s.dr ≤ 100
  h0 : 0 ≤ s.hl
  h1 : s.hl ≤ s.hh
  h2 : s.hh ≤ 3000
  g0 : -3000 ≤ s.gl
  g1 : s.gl ≤ s.gh
  g2 : s.gh ≤ 3000
  r0 : 0 ≤ s.rd
  r1 : s.rd ≤ 200
  e0 : -720 ≤ s.ea
  e1 : s.ea ≤ 720
  s0 : 0 ≤ s.sl
  s1 : s.sl ≤ 60
theorem good_of_soundB {s : Stn} {cs : List Chk} (h : soundB s cs = true) : Good s cs := by
  simp only [soundB, Bool.and_eq_true, betw_iff, withinB, decide_eq_true_eq, List.all_eq_true] at h
  obtain ⟨⟨⟨⟨⟨⟨⟨h1, h2⟩, h3⟩, h4⟩, h5⟩, h6⟩, h7⟩, h8⟩ := h
  exact ⟨⟨h5.1, by omega, h1, fun c hc => chkB_sane (h2 c hc)⟩, h5.2, h3.1.1, h3.1.2, h3.2, h4.1.1, h4.1.2, h4.2, h6.1, h6.2, h7.1, h7.2, h8.1, h8.2⟩
/-- A reading that is as defined. -/
structure Rdg.Good (r : Rdg) : Prop where
  d0 : 0 ≤ r.day
  d1 : r.day ≤ 400
  m0 : 0 ≤ r.mi
  m1 : r.mi ≤ 1439
  c0 : 1 ≤ r.cl
  c1 : r.cl ≤ 3
  b0 : 40000 ≤ r.me
  b1 : r.me ≤ 90000
  a0 : -300 ≤ r.al
  a1 : r.al ≤ r.ah
  a2 : r.ah ≤ 500
  t0 : -300 ≤ r.dl
  t1 : r.dl ≤ r.dh
  t2 : r.dh ≤ 500
  w0 : -300 ≤ r.wl
  w1 : r.wl ≤ r.wh
  w2 : r.wh ≤ 500
theorem good_of_readB {r : Rdg} (h : readB r = true) : r.Good := by
  simp only [readB, restB, Bool.and_eq_true, betw_iff, withinB, decide_eq_true_eq] at h
  obtain ⟨⟨⟨⟨⟨a0, a1⟩, a2⟩, ⟨t0, t1⟩, t2⟩, ⟨w0, w1⟩, w2⟩, ⟨⟨⟨⟨d0, d1⟩, m0, m1⟩, c0⟩, c1⟩, b0, b1⟩ := h
  exact ⟨d0, d1, m0, m1, c0, c1, b0, b1, a0, a1, a2, t0, t1, t2, w0, w1, w2⟩

theorem Cache.below {w w' : World} {M n : Nat} {s : Stn} {cs : List Chk} (h : Cache w M n s cs) (hb : Below w.heap.size w w') : Cache w' M n s cs := by
  obtain ⟨D, h1, h2⟩ := h
  exact ⟨D, h1.kept (grownBy_of_below hb) (by simp), h2⟩
theorem Cache.lt {w : World} {M n : Nat} {s : Stn} {cs : List Chk} (h : Cache w M n s cs) : M < w.heap.size := h.elim fun _ h => h.1.lt
theorem Cache.drew {w : World} {M n : Nat} {s : Stn} {cs : List Chk} (h : Cache w M n s cs) : Cache w.drew M n s cs := h
theorem Cache.mono {w : World} {M n n' : Nat} {s : Stn} {cs : List Chk} (h : Cache w M n s cs) (hn : n ≤ n') : Cache w M n' s cs := h.elim fun D h => ⟨D, h.1.mono hn, h.2⟩
theorem Cache.setCell {w : World} {M n : Nat} {s : Stn} {cs : List Chk} (h : Cache w M n s cs) {a : Addr} (ha : M ≠ a.block) (u : Value) : Cache (w.setCell a u) M n s cs := h.elim fun D h => ⟨D, h.1.setCell ha u, h.2⟩

theorem Chks.grown {w w' : World} {v : Value} {cs : List Chk} {M n : Nat} {s : Stn} {cs' : List Chk} (h : Chks w v cs) (hk : Cache w M n s cs') (hg : w.grownBy w' (some M)) : Chks w' v cs := by
  obtain ⟨A, cap, hv, hl, hm, h⟩ := h
  refine ⟨A, cap, hv, hl, hm, ?_⟩
  rcases h with h | ⟨b, off, hA, hlt, hc⟩
  · exact .inl h
  · cases cs with
    | nil => exact .inl rfl
    | cons c cs =>
      have hne : b ≠ M := by
        rintro rfl
        obtain ⟨D, ⟨es, clock, hh, _⟩, _⟩ := hk
        have := (hc 0 c rfl).1
        simp [World.cell?, hh] at this
      refine .inr ⟨b, off, hA, Nat.lt_of_lt_of_le hlt hg.size, fun i c' hc' => ?_⟩
      obtain ⟨h0, h1, h2⟩ := hc i c' hc'
      have hbk := hg.block b hlt (by simp; exact hne)
      exact ⟨(World.cell?_of_block (w := w) (a := ⟨b, _, none⟩) hbk).trans h0, (World.cell?_of_block (w := w) (a := ⟨b, _, none⟩) hbk).trans h1, (World.cell?_of_block (w := w) (a := ⟨b, _, none⟩) hbk).trans h2⟩

@[reducible] def vwArr (s : Stn) (v m : Value) : Array Value := #[.int .i64 s.hl, .int .i64 s.hh, .int .i64 s.gl, .int .i64 s.gh, .int .i64 s.dr, .int .i64 s.rd, .int .i64 s.ea, .int .i64 s.sl, v, m]
@[reducible] def rdArr (r : Rdg) : Array Value := #[.int .i64 r.day, .int .i64 r.mi, .int .i64 r.cl, .int .i64 r.me, .int .i64 r.al, .int .i64 r.ah, .int .i64 r.dl, .int .i64 r.dh, .int .i64 r.wl, .int .i64 r.wh]

/-- The truth in which the pressure is at one end, and the bulbs at others. -/
def extF (s : Stn) (cs : List Chk) (r : Rdg) (p d u : Int) : Tru :=
  ⟨ofF (1 - p) (lowF s r.day cs) (highF s r.day cs), ofF (1 - p) (-s.rd) s.rd, ofF p s.gl s.gh, ofF p s.hl s.hh, ofF (1 - p) r.al r.ah, ofF d r.dl r.dh, ofF u r.wl r.wh⟩

/-- What lies in the blocks of the call, and what the map of bounds is. -/
structure ExtAt (w : World) (M n : Nat) (s : Stn) (cs : List Chk) (v : Value) (r : Rdg) (W : World) : Prop where
  g : w.grownBy W (some M)
  sz : w.heap.size + 3 ≤ W.heap.size
  b0 : W.heap[w.heap.size]? = some (vwBox s v (.map (some M)))
  b1 : W.heap[w.heap.size + 1]? = some (rdBox r)
  b2 : W.heap[w.heap.size + 2]? = some (.cells #[.int .i64 0, .int .i64 0, .int .i64 0, .int .i64 0, .int .i64 0, .int .i64 0, .int .i64 0] 82)
  k : Cache W M n s cs
  c : Chks W v cs
theorem grownBy_sets {w W : World} {M : Nat} (h : w.grownBy W (some M)) {a : Addr} (ha : w.heap.size ≤ a.block) (u : Value) : w.grownBy (W.setCell a u) (some M) :=
  ⟨h.os, h.tape, h.output, by simpa [World.setCell] using h.size, fun k hk hx => (Below.heap_setCell _ _ _ _ (by omega)).trans (h.block k hk hx)⟩
theorem grownBy_row {w W : World} (h : Below w.heap.size w W) (M : Nat) : w.grownBy W (some M) := ⟨h.os, h.tape, h.output, h.size, fun k hk _ => h.block k hk⟩
theorem ExtAt.drew {w : World} {M n : Nat} {s : Stn} {cs : List Chk} {v : Value} {r : Rdg} {W : World} (h : ExtAt w M n s cs v r W) : ExtAt w M n s cs v r W.drew :=
  ⟨⟨h.g.os, h.g.tape, h.g.output, h.g.size, h.g.block⟩, h.sz, h.b0, h.b1, h.b2, h.k, h.c⟩
theorem ExtAt.grown {w : World} {M n n' : Nat} {s : Stn} {cs : List Chk} {v : Value} {r : Rdg} {W W' : World} (h : ExtAt w M n s cs v r W) (hM : M < w.heap.size) (hg : W.grownBy W' (some M)) (hk : Cache W' M n' s cs) : ExtAt w M n' s cs v r W' := by
  have hz := h.sz
  have hz' := hg.size
  refine ⟨⟨hg.os.trans h.g.os, hg.tape.trans h.g.tape, hg.output.trans h.g.output, by omega, fun k hk hx => (hg.block k (by omega) hx).trans (h.g.block k hk hx)⟩, by omega, ?_, ?_, ?_, hk, h.c.grown h.k hg⟩
  · exact (hg.block _ (by omega) (by simp; omega)).trans h.b0
  · exact (hg.block _ (by omega) (by simp; omega)).trans h.b1
  · exact (hg.block _ (by omega) (by simp; omega)).trans h.b2
theorem ExtAt.below {w : World} {M n : Nat} {s : Stn} {cs : List Chk} {v : Value} {r : Rdg} {W W' : World} (h : ExtAt w M n s cs v r W) (hM : M < w.heap.size) (hb : Below W.heap.size W W') : ExtAt w M n s cs v r W' :=
  h.grown hM ⟨hb.os, hb.tape, hb.output, hb.size, fun k hk _ => hb.block k hk⟩ (h.k.below hb)

set_option maxHeartbeats 4000000 in
set_option maxRecDepth 100000 in
theorem extreme_any (s : Stn) (cs : List Chk) (v : Value) (r : Rdg) (M n : Nat) (p d u : Int) (w : World) (hs : Good s cs) (hr : r.Good) (hc : Chks w v cs) (hk : Cache w M n s cs) (hn : n ≤ 1000000) (hp0 : 0 ≤ p) (hp1 : p ≤ 1) (hd0 : 0 ≤ d) (hd1 : d ≤ 1) (hu0 : 0 ≤ u) (hu1 : u ≤ 1) :
    Calls Tryd.prog 49 #[vwV s v (.map (some M)), rdV r, .int .i64 p, .int .i64 d, .int .i64 u] w fun x w' => x = .returned (trV (extF s cs r p d u)) ∧ w.grownBy w' (some M) ∧ Cache w' M (n + 1) s cs := by
  have hM := hk.lt
  go_enter Tryd.func49, Tryd.ntmps49
  go_wp2_with (go_at_call 50; refine (other_any p _ (by omega) (by omega)).mono ?_; rintro e w' ⟨rfl, rfl⟩)
  have HE := Lib.hid ((ExtAt.mk (w := w) (M := M) (n := n) (s := s) (cs := cs) (v := v) (r := r) (W := ((w.alloc (vwBox s v (.map (some M)))).alloc (rdBox r)).alloc (.cells #[.int .i64 0, .int .i64 0, .int .i64 0, .int .i64 0, .int .i64 0, .int .i64 0, .int .i64 0] 82))
    (grownBy_row ((((Below.refl _ _).alloc (Nat.le_refl _) _).alloc (by simp) _).alloc (by simp; omega) _) M) (by simp) ((Below.heap_alloc _ _ _ (by simp; omega)).trans ((Below.heap_alloc _ _ _ (by simp)).trans (heap_new _ _ rfl))) ((Below.heap_alloc _ _ _ (by simp)).trans (heap_new _ _ (by simp))) (heap_new _ _ (by simp))
    (hk.below ((((Below.refl _ _).alloc (Nat.le_refl _) _).alloc (by simp) _).alloc (by simp; omega) _)) (hc.below ((((Below.refl _ _).alloc (Nat.le_refl _) _).alloc (by simp) _).alloc (by simp; omega) _))).drew)
  have c0 := (boxCells HE.out.b0).1
  have c1 := (boxCells HE.out.b1).1
  have ne1 : w.heap.size ≠ w.heap.size + 1 + 1 := by omega
  have ne2 : w.heap.size + 1 + 1 ≠ w.heap.size := by omega
  go_region_held3 (fun w' => (∀ o, w'.cell? ⟨w.heap.size, o, none⟩ = #[Value.int .i64 s.hl, .int .i64 s.hh, .int .i64 s.gl, .int .i64 s.gh, .int .i64 s.dr, .int .i64 s.rd, .int .i64 s.ea, .int .i64 s.sl, v, .map (some M)][o]?) ∧ (∀ o, w'.cell? ⟨w.heap.size + 1, o, none⟩ = #[Value.int .i64 r.day, .int .i64 r.mi, .int .i64 r.cl, .int .i64 r.me, .int .i64 r.al, .int .i64 r.ah, .int .i64 r.dl, .int .i64 r.dh, .int .i64 r.wl, .int .i64 r.wh][o]?)) (go_keep) ((first | (go_at_call 34; refine (bounds_any (cs := cs) (n := n) hs.sane HE.out.c hr.d0 hr.d1 hn HE.out.k).mono ?_; rintro e w1 ⟨rfl, hg1, hk1⟩; have HE' := Lib.hid (HE.out.grown hM hg1 hk1); clear HE; have HE := HE'; clear HE' hg1 hk1; have hN := (boxCells HE.out.b0).1; have hR := (boxCells HE.out.b1).1; have hT := (boxCells HE.out.b2).1; have hTf := (boxCells HE.out.b2).2; have hzz := HE.out.sz) | (go_at_call 57; refine (misread_any s v _ _ hs.r0 hs.r1).mono ?_; rintro e w1 ⟨rfl, hb1⟩; have HE' := Lib.hid (HE.out.below hM hb1); clear HE; have HE := HE'; clear HE' hb1; have hN := (boxCells HE.out.b0).1; have hR := (boxCells HE.out.b1).1; have hT := (boxCells HE.out.b2).1; have hTf := (boxCells HE.out.b2).2; have hzz := HE.out.sz) | (go_at_call 66; refine (of_any _ _ _ _ (by omega) (by omega)).mono ?_; rintro e w1 ⟨rfl, hb1⟩; have HE' := Lib.hid (HE.out.below hM hb1); clear HE; have HE := HE'; clear HE' hb1; have hN := (boxCells HE.out.b0).1; have hR := (boxCells HE.out.b1).1; have hT := (boxCells HE.out.b2).1; have hTf := (boxCells HE.out.b2).2; have hzz := HE.out.sz)))
  go_wp2
  refine bodyPost_ret (v := trV (extF s cs r p d u)) (by simp [results, Tryd.results49, go_sem, hT, extF]) rfl ⟨rfl, ?_, ?_⟩
  · exact grownBy_sets (grownBy_sets (grownBy_sets (grownBy_sets (grownBy_sets (grownBy_sets (grownBy_sets HE.out.g (by simp; omega) _) (by simp; omega) _) (by simp; omega) _) (by simp; omega) _) (by simp; omega) _) (by simp; omega) _) (by simp; omega) _
  · exact ((((((HE.out.k.setCell (by simp; omega) _).setCell (by simp; omega) _).setCell (by simp; omega) _).setCell (by simp; omega) _).setCell (by simp; omega) _).setCell (by simp; omega) _).setCell (by simp; omega) _
end Go.Proofs.YtffgcphmakfikaaDoor
