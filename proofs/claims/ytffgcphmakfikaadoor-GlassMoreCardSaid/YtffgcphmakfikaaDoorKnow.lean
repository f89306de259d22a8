/- What is known of a reading, by the program: the closures that take an end. -/
import Derived.Test.YtffgcphmakfikaaDoorExt
set_option linter.unusedVariables false
set_option linter.unusedSimpArgs false
namespace Go.Proofs.YtffgcphmakfikaaDoor
open Go.RowKit Go.Maps
attribute [local simp] Holds.alloc Holds.drew Holds.setCell

theorem fold_max_bd {l : List Chk} {f : Chk → Int} {a A : Int} (h0 : -A ≤ a) (h1 : a ≤ A) (hf : ∀ c ∈ l, f c ≤ A) : -A ≤ l.foldl (fun a c => max a (f c)) a ∧ l.foldl (fun a c => max a (f c)) a ≤ A := by
  induction l generalizing a with
  | nil => exact ⟨h0, h1⟩
  | cons c l ih =>
    have := hf c (by simp)
    exact ih (show -A ≤ max a (f c) by omega) (show max a (f c) ≤ A by omega) (fun c hc => hf c (by simp [hc]))
theorem fold_min_bd {l : List Chk} {f : Chk → Int} {a A : Int} (h0 : -A ≤ a) (h1 : a ≤ A) (hf : ∀ c ∈ l, -A ≤ f c) : -A ≤ l.foldl (fun a c => min a (f c)) a ∧ l.foldl (fun a c => min a (f c)) a ≤ A := by
  induction l generalizing a with
  | nil => exact ⟨h0, h1⟩
  | cons c l ih =>
    have := hf c (by simp)
    exact ih (show -A ≤ min a (f c) by omega) (show min a (f c) ≤ A by omega) (fun c hc => hf c (by simp [hc]))
theorem lowF_bd {s : Stn} {cs : List Chk} {day : Int} (hs : Sane s cs) (h0 : 0 ≤ day) (h1 : day ≤ 400) : -2000 ≤ lowF s day cs ∧ lowF s day cs ≤ 2000 := by
  refine fold_max_bd (f := fun c => c.lo - s.dr * farI day c.day) (by omega) (by omega) fun c hc => ?_
  obtain ⟨a0, a1, a2, a3, a4⟩ := hs.all c hc
  have := change_bounds hs.d0 hs.d1 h0 (show day ≤ 10000 by omega) a0 (show c.day ≤ 10000 by omega)
  show c.lo - s.dr * farI day c.day ≤ 2000
  omega
theorem highF_bd {s : Stn} {cs : List Chk} {day : Int} (hs : Sane s cs) (h0 : 0 ≤ day) (h1 : day ≤ 400) : -2000 ≤ highF s day cs ∧ highF s day cs ≤ 2000 := by
  refine fold_min_bd (f := fun c => c.hi + s.dr * farI day c.day) (by omega) (by omega) fun c hc => ?_
  obtain ⟨a0, a1, a2, a3, a4⟩ := hs.all c hc
  have := change_bounds hs.d0 hs.d1 h0 (show day ≤ 10000 by omega) a0 (show c.day ≤ 10000 by omega)
  show -2000 ≤ c.hi + s.dr * farI day c.day
  omega
theorem ofF_bd {e a b lo hi : Int} (h1 : lo ≤ a) (h2 : a ≤ hi) (h3 : lo ≤ b) (h4 : b ≤ hi) : lo ≤ ofF e a b ∧ ofF e a b ≤ hi := by unfold ofF; split <;> omega
theorem extF_sane {s : Stn} {cs : List Chk} {r : Rdg} (hs : Good s cs) (hr : r.Good) (p d u : Int) : (extF s cs r p d u).Sane := by
  have l := lowF_bd hs.sane hr.d0 hr.d1
  have h := highF_bd hs.sane hr.d0 hr.d1
  obtain ⟨_, _, h0, h1, h2, g0, g1, g2, r0, r1, _, _, _, _⟩ := hs
  obtain ⟨_, _, _, _, _, _, _, _, a0, a1, a2, t0, t1, t2, w0, w1, w2⟩ := hr
  have e1 := ofF_bd (e := 1 - p) l.1 l.2 h.1 h.2
  have e2 := ofF_bd (e := 1 - p) (a := -s.rd) (b := s.rd) (lo := -200) (hi := 200) (by omega) (by omega) (by omega) (by omega)
  have e3 := ofF_bd (e := p) (a := s.gl) (b := s.gh) (lo := -3000) (hi := 3000) (by omega) (by omega) (by omega) (by omega)
  have e4 := ofF_bd (e := p) (a := s.hl) (b := s.hh) (lo := 0) (hi := 3000) (by omega) (by omega) (by omega) (by omega)
  have e5 := ofF_bd (e := 1 - p) (a := r.al) (b := r.ah) (lo := -300) (hi := 500) (by omega) (by omega) (by omega) (by omega)
  have e6 := ofF_bd (e := d) (a := r.dl) (b := r.dh) (lo := -300) (hi := 500) (by omega) (by omega) (by omega) (by omega)
  have e7 := ofF_bd (e := u) (a := r.wl) (b := r.wh) (lo := -300) (hi := 500) (by omega) (by omega) (by omega) (by omega)
  exact ⟨e1.1, e1.2, e2.1, e2.2, e3.1, e3.2, e4.1, e4.2, e5.1, e5.2, e6.1, e6.2, e7.1, e7.2⟩

theorem Holds.grown {w w' : World} {M n : Nat} {s : Stn} {cs : List Chk} (h : Holds w) (hk : Cache w M n s cs) (hg : w.grownBy w' (some M)) : Holds w' := by
  have hne : (0 : Nat) ≠ M := by
    rintro e
    obtain ⟨D, ⟨es, clock, hh, _⟩, _⟩ := hk
    have := h.2 0 (by omega)
    rw [← e] at hh
    simp [World.cell?, hh] at this
  have hb := hg.block 0 h.1 (by simpa using hne)
  exact ⟨Nat.lt_of_lt_of_le h.1 hg.size, fun i hi => (World.cell?_of_block (w := w) (a := ⟨0, i, none⟩) hb).trans (h.2 i hi)⟩

/-- What a call of a closure finds: the blocks of the view and the reading; its own first block; the map of bounds. -/
structure KnAt (w : World) (M n : Nat) (s : Stn) (cs : List Chk) (v : Value) (r : Rdg) (V R : Nat) (W : World) : Prop where
  g : w.grownBy W (some M)
  b0 : W.heap[V]? = some (vwBox s v (.map (some M)))
  b1 : W.heap[R]? = some (rdBox r)
  k : Cache W M n s cs
  c : Chks W v cs
  h : Holds W
theorem KnAt.drew {w : World} {M n : Nat} {s : Stn} {cs : List Chk} {v : Value} {r : Rdg} {V R : Nat} {W : World} (h : KnAt w M n s cs v r V R W) : KnAt w M n s cs v r V R W.drew :=
  ⟨⟨h.g.os, h.g.tape, h.g.output, h.g.size, h.g.block⟩, h.b0, h.b1, h.k, h.c, h.h.drew⟩
theorem KnAt.grown {w : World} {M n n' : Nat} {s : Stn} {cs : List Chk} {v : Value} {r : Rdg} {V R : Nat} {W W' : World} (h : KnAt w M n s cs v r V R W) (hg : W.grownBy W' (some M)) (hk : Cache W' M n' s cs) : KnAt w M n' s cs v r V R W' := by
  have hV : V < W.heap.size := (Array.getElem?_eq_some_iff.1 h.b0).1
  have hR : R < W.heap.size := (Array.getElem?_eq_some_iff.1 h.b1).1
  obtain ⟨D, ⟨es, clock, hh, _⟩, _⟩ := h.k
  have nV : V ≠ M := by rintro rfl; rw [h.b0] at hh; cases hh
  have nR : R ≠ M := by rintro rfl; rw [h.b1] at hh; cases hh
  have hs := h.g.size
  exact ⟨⟨hg.os.trans h.g.os, hg.tape.trans h.g.tape, hg.output.trans h.g.output, Nat.le_trans hs hg.size, fun k hk hx => (hg.block k (by omega) hx).trans (h.g.block k hk hx)⟩,
    (hg.block _ hV (by simpa using nV)).trans h.b0, (hg.block _ hR (by simpa using nR)).trans h.b1, hk, h.c.grown h.k hg, h.h.grown h.k hg⟩
theorem KnAt.below {w : World} {M n : Nat} {s : Stn} {cs : List Chk} {v : Value} {r : Rdg} {V R : Nat} {W W' : World} (h : KnAt w M n s cs v r V R W) (hb : Below W.heap.size W W') : KnAt w M n s cs v r V R W' :=
  h.grown ⟨hb.os, hb.tape, hb.output, hb.size, fun k hk _ => hb.block k hk⟩ (h.k.below hb)
/-- A store into a block of its own. -/
theorem KnAt.setCell {w : World} {M n : Nat} {s : Stn} {cs : List Chk} {v : Value} {r : Rdg} {V R : Nat} {W : World} (h : KnAt w M n s cs v r V R W) {a : Addr} (ha : w.heap.size ≤ a.block) (hV : V < w.heap.size) (hR : R < w.heap.size) (hM : M < w.heap.size) (h0 : 0 < w.heap.size) (hc : Chks w v cs) (u : Value) : KnAt w M n s cs v r V R (W.setCell a u) := by
  have hg := grownBy_sets h.g ha u
  obtain ⟨D, ⟨es, clock, hh, _⟩, _⟩ := h.k
  refine ⟨hg, (Below.heap_setCell _ _ _ _ (by omega)).trans h.b0, (Below.heap_setCell _ _ _ _ (by omega)).trans h.b1, h.k.setCell (by omega) u, ?_, h.h.setCell (by omega) u⟩
  obtain ⟨A, cap, hv, hl, hm, hx⟩ := h.c
  refine ⟨A, cap, hv, hl, hm, ?_⟩
  rcases hx with hx | ⟨b, off, hA, hlt, hcc⟩
  · exact .inl hx
  · cases cs with
    | nil => exact .inl rfl
    | cons c cs =>
      obtain ⟨A', cap', hv', -, -, hx'⟩ := hc
      rw [hv] at hv'
      injection hv' with e1
      rcases hx' with hx' | ⟨b', off', hA', hlt', -⟩
      · cases hx'
      · rw [← e1, hA] at hA'
        injection hA' with e2
        injection e2 with e3
        subst e3
        refine .inr ⟨b, off, hA, by simpa [World.setCell] using hlt, fun i c' hc' => ?_⟩
        obtain ⟨h0, h1, h2⟩ := hcc i c' hc'
        have hbk := Below.heap_setCell W a u b (by omega)
        exact ⟨(World.cell?_of_block (w := W) (a := ⟨b, _, none⟩) hbk).trans h0, (World.cell?_of_block (w := W) (a := ⟨b, _, none⟩) hbk).trans h1, (World.cell?_of_block (w := W) (a := ⟨b, _, none⟩) hbk).trans h2⟩

@[reducible] def weF (m : Int) (t : Tru) : Value := weV (hereF m t) (loweredF (hereF m t) t) (humidF (hereF m t) t)

set_option maxHeartbeats 4000000 in
set_option maxRecDepth 100000 in
theorem pressAt (s : Stn) (cs : List Chk) (v : Value) (r : Rdg) (M n V R : Nat) (e : Int) (w : World) (hs : Good s cs) (hr : r.Good) (hE : KnAt w M n s cs v r V R w) (hn : n ≤ 1000000) (he0 : 0 ≤ e) (he1 : e ≤ 1) :
    Calls Tryd.prog 48 #[.int .i64 e, .pointer (some ⟨R, 0, none⟩), .pointer (some ⟨V, 0, none⟩)] w fun x w' => x = .returned (weF r.me (extF s cs r e (1 - e) e)) ∧ w.grownBy w' (some M) ∧ Cache w' M (n + 1) s cs := by
  have hM := hE.k.lt
  have hVl : V < w.heap.size := (Array.getElem?_eq_some_iff.1 hE.b0).1
  have hRl : R < w.heap.size := (Array.getElem?_eq_some_iff.1 hE.b1).1
  have HE : Hid (KnAt w M n s cs v r V R (w.alloc (.cells #[.int .i64 0, .int .i64 0, .int .i64 0] 53)).drew) := Lib.hid (hE.below ((Below.refl _ _).alloc (Nat.le_refl _) _)).drew
  have HT : Hid ((w.alloc (.cells #[.int .i64 0, .int .i64 0, .int .i64 0] 53)).drew.heap[w.heap.size]? = some (.cells #[.int .i64 0, .int .i64 0, .int .i64 0] 53)) := Lib.hid (World.alloc_heap_new w _)
  have hTl : w.heap.size < (w.alloc (.cells #[.int .i64 0, .int .i64 0, .int .i64 0] 53)).drew.heap.size := by show _ < (w.alloc _).heap.size; simp
  have c0 := (boxCells hE.b0).1
  have c1 := (boxCells hE.b1).1
  have d0 := (boxCells HE.out.b0).1
  have d1 := (boxCells HE.out.b1).1
  have ne1 : V ≠ w.heap.size := by omega
  have ne2 : R ≠ w.heap.size := by omega
  have ne3 : w.heap.size ≠ V := by omega
  have ne4 : w.heap.size ≠ R := by omega
  clear hE
  go_enter Tryd.func48, Tryd.ntmps48
  go_wp2_with fail
  go_region_held3 (fun w' => (∀ o, w'.cell? ⟨V, o, none⟩ = #[Value.int .i64 s.hl, .int .i64 s.hh, .int .i64 s.gl, .int .i64 s.gh, .int .i64 s.dr, .int .i64 s.rd, .int .i64 s.ea, .int .i64 s.sl, v, .map (some M)][o]?) ∧ (∀ o, w'.cell? ⟨R, o, none⟩ = #[Value.int .i64 r.day, .int .i64 r.mi, .int .i64 r.cl, .int .i64 r.me, .int .i64 r.al, .int .i64 r.ah, .int .i64 r.dl, .int .i64 r.dh, .int .i64 r.wl, .int .i64 r.wh][o]?)) (go_keep) ((first | (go_at_call 50; refine (other_any _ _ (by omega) (by omega)).mono ?_; rintro x w' ⟨rfl, rfl⟩) | (go_at_call 49; refine (extreme_any s cs v r M n _ _ _ _ hs hr HE.out.c HE.out.k hn (by omega) (by omega) (by omega) (by omega) (by omega) (by omega)).mono ?_; rintro x w1 ⟨rfl, hg1, hk1⟩; have HE1 := Lib.hid (HE.out.grown hg1 hk1); have hN := (boxCells HE1.out.b0).1; have hR := (boxCells HE1.out.b1).1; have HT1 := Lib.hid ((hg1.block w.heap.size hTl (by simp; omega)).trans HT.out); have hz1 : w.heap.size < w1.heap.size := (by have := hg1.size; simp at this; omega); clear hg1 hk1) | (go_at_call 39; refine (weather_any _ _ _ (extF_sane hs hr _ _ _) HE1.out.h hr.b0 hr.b1).mono ?_; rintro x w2 ⟨rfl, hb2⟩; have HE2 := Lib.hid (HE1.out.below hb2); have hN2 := (boxCells HE2.out.b0).1; have hR2 := (boxCells HE2.out.b1).1; have HT2 := Lib.hid ((hb2.block w.heap.size hz1).trans HT1.out); have hT := (boxCells HT2.out).1; have hTf := (boxCells HT2.out).2; have hz2 : w.heap.size < w2.heap.size := Nat.lt_of_lt_of_le hz1 hb2.size; clear hb2)))
  go_wp2
  refine bodyPost_ret (v := weF r.me (extF s cs r e (1 - e) e)) (by simp [results, Tryd.results48, go_sem, hT]) rfl ⟨rfl, ?_, ?_⟩
  · exact grownBy_sets (grownBy_sets (grownBy_sets HE2.out.g (by simp) _) (by simp) _) (by simp) _
  · exact ((HE2.out.k.setCell (by simp; omega) _).setCell (by simp; omega) _).setCell (by simp; omega) _

set_option maxHeartbeats 4000000 in
set_option maxRecDepth 100000 in
theorem dampAt (s : Stn) (cs : List Chk) (v : Value) (r : Rdg) (M n V R : Nat) (e : Int) (w : World) (hs : Good s cs) (hr : r.Good) (hE : KnAt w M n s cs v r V R w) (hn : n ≤ 1000000) (he0 : 0 ≤ e) (he1 : e ≤ 1) :
    Calls Tryd.prog 51 #[.int .i64 e, .pointer (some ⟨R, 0, none⟩), .pointer (some ⟨V, 0, none⟩)] w fun x w' => x = .returned (weF r.me (extF s cs r (1 - e) (1 - e) e)) ∧ w.grownBy w' (some M) ∧ Cache w' M (n + 1) s cs := by
  have hM := hE.k.lt
  have hVl : V < w.heap.size := (Array.getElem?_eq_some_iff.1 hE.b0).1
  have hRl : R < w.heap.size := (Array.getElem?_eq_some_iff.1 hE.b1).1
  have HE : Hid (KnAt w M n s cs v r V R (w.alloc (.cells #[.int .i64 0, .int .i64 0, .int .i64 0] 53)).drew) := Lib.hid (hE.below ((Below.refl _ _).alloc (Nat.le_refl _) _)).drew
  have HT : Hid ((w.alloc (.cells #[.int .i64 0, .int .i64 0, .int .i64 0] 53)).drew.heap[w.heap.size]? = some (.cells #[.int .i64 0, .int .i64 0, .int .i64 0] 53)) := Lib.hid (World.alloc_heap_new w _)
  have hTl : w.heap.size < (w.alloc (.cells #[.int .i64 0, .int .i64 0, .int .i64 0] 53)).drew.heap.size := by show _ < (w.alloc _).heap.size; simp
  have c0 := (boxCells hE.b0).1
  have c1 := (boxCells hE.b1).1
  have d0 := (boxCells HE.out.b0).1
  have d1 := (boxCells HE.out.b1).1
  have ne1 : V ≠ w.heap.size := by omega
  have ne2 : R ≠ w.heap.size := by omega
  have ne3 : w.heap.size ≠ V := by omega
  have ne4 : w.heap.size ≠ R := by omega
  clear hE
  go_enter Tryd.func51, Tryd.ntmps51
  go_wp2_with fail
  go_region_held3 (fun w' => (∀ o, w'.cell? ⟨V, o, none⟩ = #[Value.int .i64 s.hl, .int .i64 s.hh, .int .i64 s.gl, .int .i64 s.gh, .int .i64 s.dr, .int .i64 s.rd, .int .i64 s.ea, .int .i64 s.sl, v, .map (some M)][o]?) ∧ (∀ o, w'.cell? ⟨R, o, none⟩ = #[Value.int .i64 r.day, .int .i64 r.mi, .int .i64 r.cl, .int .i64 r.me, .int .i64 r.al, .int .i64 r.ah, .int .i64 r.dl, .int .i64 r.dh, .int .i64 r.wl, .int .i64 r.wh][o]?)) (go_keep) ((first | (go_at_call 50; refine (other_any _ _ (by omega) (by omega)).mono ?_; rintro x w' ⟨rfl, rfl⟩) | (go_at_call 49; refine (extreme_any s cs v r M n _ _ _ _ hs hr HE.out.c HE.out.k hn (by omega) (by omega) (by omega) (by omega) (by omega) (by omega)).mono ?_; rintro x w1 ⟨rfl, hg1, hk1⟩; have HE1 := Lib.hid (HE.out.grown hg1 hk1); have hN := (boxCells HE1.out.b0).1; have hR := (boxCells HE1.out.b1).1; have HT1 := Lib.hid ((hg1.block w.heap.size hTl (by simp; omega)).trans HT.out); have hz1 : w.heap.size < w1.heap.size := (by have := hg1.size; simp at this; omega); clear hg1 hk1) | (go_at_call 39; refine (weather_any _ _ _ (extF_sane hs hr _ _ _) HE1.out.h hr.b0 hr.b1).mono ?_; rintro x w2 ⟨rfl, hb2⟩; have HE2 := Lib.hid (HE1.out.below hb2); have hN2 := (boxCells HE2.out.b0).1; have hR2 := (boxCells HE2.out.b1).1; have HT2 := Lib.hid ((hb2.block w.heap.size hz1).trans HT1.out); have hT := (boxCells HT2.out).1; have hTf := (boxCells HT2.out).2; have hz2 : w.heap.size < w2.heap.size := Nat.lt_of_lt_of_le hz1 hb2.size; clear hb2)))
  go_wp2
  refine bodyPost_ret (v := weF r.me (extF s cs r (1 - e) (1 - e) e)) (by simp [results, Tryd.results51, go_sem, hT]) rfl ⟨rfl, ?_, ?_⟩
  · exact grownBy_sets (grownBy_sets (grownBy_sets HE2.out.g (by simp) _) (by simp) _) (by simp) _
  · exact ((HE2.out.k.setCell (by simp; omega) _).setCell (by simp; omega) _).setCell (by simp; omega) _
end Go.Proofs.YtffgcphmakfikaaDoor
