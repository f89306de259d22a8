/- By how much the mercury can have risen, by the program. -/
import Derived.Test.YtffgcphmakfikaaDoorDue
import Derived.Deep.DeepCutAuto
set_option linter.unusedVariables false
set_option linter.unusedSimpArgs false
namespace Go.Proofs.YtffgcphmakfikaaDoor
open Go.RowKit Go.Maps

def fallLo (s : Stn) (cs : List Chk) (a b : Int) : Int := max (lowF s a cs - highF s b cs) (-(s.dr * farI a b))
def fallHi (s : Stn) (cs : List Chk) (a b : Int) : Int := min (highF s a cs - lowF s b cs) (s.dr * farI a b)
@[reducible] def spBox (a b : Int) : Obj := .cells #[.int .i64 a, .int .i64 b] 23
def riseF (ra rb : Rdg) (fl fh ml mh e : Int) : Int := rb.me - ra.me + ofF e fl fh + ofF e ml mh

theorem blk_dr {W : World} {k : Nat} {o : Obj} (h : W.heap[k]? = some o) : W.drew.heap[k]? = some o := h
theorem below_dr {w W : World} (h : Below w.heap.size w W) : Below w.heap.size w W.drew := h.drew
set_option maxHeartbeats 800000 in
theorem rise1_any (ra rb : Rdg) (A B Fb Mb : Nat) (fl fh ml mh e : Int) (w : World) (h1 : w.heap[B]? = some (rdBox rb)) (h2 : w.heap[A]? = some (rdBox ra)) (h3 : w.heap[Fb]? = some (spBox fl fh)) (h4 : w.heap[Mb]? = some (spBox ml mh))
    (ha : ra.Good) (hb : rb.Good) (f0 : -10000000 ≤ ofF e fl fh) (f1 : ofF e fl fh ≤ 10000000) (m0 : -10000 ≤ ofF e ml mh) (m1 : ofF e ml mh ≤ 10000) (he0 : 0 ≤ e) (he1 : e ≤ 1) :
    Calls Tryd.prog 65 #[.int .i64 e, .pointer (some ⟨B, 0, none⟩), .pointer (some ⟨A, 0, none⟩), .pointer (some ⟨Fb, 0, none⟩), .pointer (some ⟨Mb, 0, none⟩)] w fun x w' => x = .returned (.int .i64 (riseF ra rb fl fh ml mh e)) ∧ Below w.heap.size w w' := by
  have a0 := ha.b0; have a1 := ha.b1; have b0 := hb.b0; have b1 := hb.b1
  have H1 := Lib.hid h1; have H2 := Lib.hid h2; have H3 := Lib.hid h3; have H4 := Lib.hid h4
  have HB := Lib.hid (Below.refl w.heap.size w)
  have x1 := (boxCells h1).1; have x2 := (boxCells h2).1; have x3 := (boxCells h3).1; have x4 := (boxCells h4).1
  clear h1 h2 h3 h4
  have Hr := Lib.hid (show rb.me - ra.me + ofF e fl fh + ofF e ml mh = riseF ra rb fl fh ml mh e from rfl)
  have e1 : IntKind.i64.wrap (rb.me - ra.me) = rb.me - ra.me := IntWalk.i64_in _ (by omega)
  have e2 : IntKind.i64.wrap (rb.me - ra.me + ofF e fl fh) = rb.me - ra.me + ofF e fl fh := IntWalk.i64_in _ (by omega)
  have e3 : IntKind.i64.wrap (rb.me - ra.me + ofF e fl fh + ofF e ml mh) = rb.me - ra.me + ofF e fl fh + ofF e ml mh := IntWalk.i64_in _ (by omega)
  go_enter Tryd.func65, Tryd.ntmps65
  go_wp2_with fail
  go_region_held3 (fun w' => (∀ o, w'.cell? ⟨B, o, none⟩ = #[Value.int .i64 rb.day, .int .i64 rb.mi, .int .i64 rb.cl, .int .i64 rb.me, .int .i64 rb.al, .int .i64 rb.ah, .int .i64 rb.dl, .int .i64 rb.dh, .int .i64 rb.wl, .int .i64 rb.wh][o]?) ∧ (∀ o, w'.cell? ⟨A, o, none⟩ = #[Value.int .i64 ra.day, .int .i64 ra.mi, .int .i64 ra.cl, .int .i64 ra.me, .int .i64 ra.al, .int .i64 ra.ah, .int .i64 ra.dl, .int .i64 ra.dh, .int .i64 ra.wl, .int .i64 ra.wh][o]?) ∧ (∀ o, w'.cell? ⟨Fb, o, none⟩ = #[Value.int .i64 fl, .int .i64 fh][o]?) ∧ (∀ o, w'.cell? ⟨Mb, o, none⟩ = #[Value.int .i64 ml, .int .i64 mh][o]?)) (go_keep) ((go_at_call 66; refine (of_any _ _ _ _ he0 he1).mono ?_; rintro x w1 ⟨rfl, hb1⟩; have HBq := Lib.hid (below_step (by first | exact HB.out | exact (below_al HB.out _) | exact below_dr HB.out) hb1); clear HB; have HB := HBq; clear HBq; have H1q := Lib.hid (blk_below (by first | exact H1.out | exact blk_dr H1.out) hb1); clear H1; have H1 := H1q; clear H1q; have H2q := Lib.hid (blk_below (by first | exact H2.out | exact blk_dr H2.out) hb1); clear H2; have H2 := H2q; clear H2q; have H3q := Lib.hid (blk_below (by first | exact H3.out | exact blk_dr H3.out) hb1); clear H3; have H3 := H3q; clear H3q; have H4q := Lib.hid (blk_below (by first | exact H4.out | exact blk_dr H4.out) hb1); clear H4; have H4 := H4q; clear H4q; have x1 := (boxCells H1.out).1; have x2 := (boxCells H2.out).1; have x3 := (boxCells H3.out).1; have x4 := (boxCells H4.out).1))
  go_wp2
  go_ret
  exact ⟨ret_int Hr.out, HB.out⟩

set_option maxHeartbeats 800000 in
theorem endsInt_any (ra rb : Rdg) (A B Fb Mb : Nat) (fl fh ml mh : Int) (w : World) (h1 : w.heap[B]? = some (rdBox rb)) (h2 : w.heap[A]? = some (rdBox ra)) (h3 : w.heap[Fb]? = some (spBox fl fh)) (h4 : w.heap[Mb]? = some (spBox ml mh))
    (ha : ra.Good) (hb : rb.Good) (f0 : -10000000 ≤ fl) (f1 : fl ≤ 10000000) (f2 : -10000000 ≤ fh) (f3 : fh ≤ 10000000) (m0 : -10000 ≤ ml) (m1 : ml ≤ 10000) (m2 : -10000 ≤ mh) (m3 : mh ≤ 10000) :
    Calls Tryd.prog 64 #[.func (.func 65) #[] #[.pointer (some ⟨B, 0, none⟩), .pointer (some ⟨A, 0, none⟩), .pointer (some ⟨Fb, 0, none⟩), .pointer (some ⟨Mb, 0, none⟩)]] w fun x w' => x = .returned (.tuple #[.int .i64 (riseF ra rb fl fh ml mh 0), .int .i64 (riseF ra rb fl fh ml mh 1)]) ∧ Below w.heap.size w w' := by
  have g0 := ofF_bd (e := 0) f0 f1 f2 f3; have g1 := ofF_bd (e := 1) f0 f1 f2 f3
  have k0 := ofF_bd (e := 0) m0 m1 m2 m3; have k1 := ofF_bd (e := 1) m0 m1 m2 m3
  go_enter Tryd.func64, Tryd.ntmps64
  go_wp2_with fail
  refine (rise1_any ra rb A B Fb Mb fl fh ml mh 0 _ h1 h2 h3 h4 ha hb g0.1 g0.2 k0.1 k0.2 (by omega) (by omega)).mono ?_
  rintro x w1 ⟨rfl, hb1⟩
  have H := Lib.hid hb1
  have q1 := blk_below h1 hb1; have q2 := blk_below h2 hb1; have q3 := blk_below h3 hb1; have q4 := blk_below h4 hb1
  clear h1 h2 h3 h4 hb1
  have Q1 := Lib.hid q1; have Q2 := Lib.hid q2; have Q3 := Lib.hid q3; have Q4 := Lib.hid q4
  clear q1 q2 q3 q4
  go_wp2_with fail
  refine (rise1_any ra rb A B Fb Mb fl fh ml mh 1 _ Q1.out Q2.out Q3.out Q4.out ha hb g1.1 g1.2 k1.1 k1.2 (by omega) (by omega)).mono ?_
  rintro x w2 ⟨rfl, hb2⟩
  go_wp2
  go_ret2
  exact ⟨rfl, below_step H.out hb2⟩

theorem Chks.drew {w : World} {v : Value} {cs : List Chk} (h : Chks w v cs) : Chks w.drew v cs := h
theorem sets4 {W : World} {P Q : Nat} {a b c d : Value} (hPQ : P ≠ Q) (p0 : (W.cell? ⟨P, 0, none⟩).isSome = true) (p1 : (W.cell? ⟨P, 1, none⟩).isSome = true) :
    ((((W.setCell ⟨P, 0, none⟩ a).setCell ⟨P, 1, none⟩ b).setCell ⟨Q, 0, none⟩ c).setCell ⟨Q, 1, none⟩ d).cell? ⟨P, 0, none⟩ = some a ∧
    ((((W.setCell ⟨P, 0, none⟩ a).setCell ⟨P, 1, none⟩ b).setCell ⟨Q, 0, none⟩ c).setCell ⟨Q, 1, none⟩ d).cell? ⟨P, 1, none⟩ = some b := by
  have h1 : (⟨Q, 1, none⟩ : Addr) ≠ ⟨P, 0, none⟩ := by simp
  have h2 : (⟨Q, 0, none⟩ : Addr) ≠ ⟨P, 0, none⟩ := by simp [Ne.symm hPQ]
  have h3 : (⟨P, 1, none⟩ : Addr) ≠ ⟨P, 0, none⟩ := by simp
  have h4 : (⟨Q, 1, none⟩ : Addr) ≠ ⟨P, 1, none⟩ := by simp [Ne.symm hPQ]
  have h5 : (⟨Q, 0, none⟩ : Addr) ≠ ⟨P, 1, none⟩ := by simp
  have h6 : (⟨P, 0, none⟩ : Addr) ≠ ⟨P, 1, none⟩ := by simp
  constructor
  · rw [World.cell?_setCell_other (h := h1), World.cell?_setCell_other (h := h2), World.cell?_setCell_other (h := h3), World.cell?_setCell_same' _ _ _ p0]
  · rw [World.cell?_setCell_other (h := h4), World.cell?_setCell_other (h := h5), World.cell?_setCell_same' _ _ _ (by rw [World.cell?_setCell_other (h := h6)]; exact p1)]
theorem sets3 {W : World} {P Q : Nat} {a b c d : Value} (q0 : (W.cell? ⟨Q, 0, none⟩).isSome = true) (hPQ : P ≠ Q) :
    ((((W.setCell ⟨P, 0, none⟩ a).setCell ⟨P, 1, none⟩ b).setCell ⟨Q, 0, none⟩ c).setCell ⟨Q, 1, none⟩ d).cell? ⟨Q, 0, none⟩ = some c := by
  have h1 : (⟨Q, 1, none⟩ : Addr) ≠ ⟨Q, 0, none⟩ := by simp
  have h2 : (⟨P, 1, none⟩ : Addr) ≠ ⟨Q, 0, none⟩ := by simp
  have h3 : (⟨P, 0, none⟩ : Addr) ≠ ⟨Q, 0, none⟩ := by simp [hPQ]
  rw [World.cell?_setCell_other (h := h1), World.cell?_setCell_same' _ _ _ (by rw [World.cell?_setCell_other (h := h2), World.cell?_setCell_other (h := h3)]; exact q0)]
theorem chks_set {w W : World} {v : Value} {cs : List Chk} (hc : Chks w v cs) (h : Chks W v cs) {a : Addr} (ha : w.heap.size ≤ a.block) (u : Value) : Chks (W.setCell a u) v cs := by
  obtain ⟨A, cap, hv, hl, hm, hx⟩ := h
  refine ⟨A, cap, hv, hl, hm, ?_⟩
  rcases hx with hx | ⟨b, off, hA, hlt, hcc⟩
  · exact .inl hx
  · cases cs with
    | nil => exact .inl rfl
    | cons c cs =>
      obtain ⟨A', cap', hv', -, -, hx'⟩ := hc
      rw [hv] at hv'
      injection hv' with e1
      rcases hx' with hx' | ⟨b', off', hA', hlt', -⟩
      · cases hx'
      · rw [← e1, hA] at hA'
        injection hA' with e2
        injection e2 with e3
        subst e3
        refine .inr ⟨b, off, hA, by simpa [World.setCell] using hlt, fun i c' hc' => ?_⟩
        obtain ⟨h0, h1, h2⟩ := hcc i c' hc'
        have hbk := Below.heap_setCell W a u b (by omega)
        exact ⟨(World.cell?_of_block (w := W) (a := ⟨b, _, none⟩) hbk).trans h0, (World.cell?_of_block (w := W) (a := ⟨b, _, none⟩) hbk).trans h1, (World.cell?_of_block (w := W) (a := ⟨b, _, none⟩) hbk).trans h2⟩
/-- What lies in the blocks of the call that tells a rise. -/
structure RsAt (w : World) (M n : Nat) (s : Stn) (cs : List Chk) (v : Value) (ra rb : Rdg) (W : World) : Prop where
  g : w.grownBy W (some M)
  b0 : W.heap[w.heap.size]? = some (vwBox s v (.map (some M)))
  b1 : W.heap[w.heap.size + 1]? = some (rdBox ra)
  b2 : W.heap[w.heap.size + 1 + 1]? = some (rdBox rb)
  b3 : W.heap[w.heap.size + 1 + 1 + 1]? = some (spBox 0 0)
  k : Cache W M n s cs
  c : Chks W v cs
theorem RsAt.grown {w : World} {M n : Nat} {s : Stn} {cs : List Chk} {v : Value} {ra rb : Rdg} {W : World} (h : RsAt w M n s cs v ra rb W) {n' : Nat} {W' : World} (hM : M < w.heap.size) (hg : W.grownBy W' (some M)) (hk : Cache W' M n' s cs) : RsAt w M n' s cs v ra rb W' :=
  ⟨grownBy_tr h.g hg, blk_grown h.b0 hg (by omega), blk_grown h.b1 hg (by omega), blk_grown h.b2 hg (by omega), blk_grown h.b3 hg (by omega), hk, h.c.grown h.k hg⟩
theorem RsAt.alloc {w : World} {M n : Nat} {s : Stn} {cs : List Chk} {v : Value} {ra rb : Rdg} {W : World} (h : RsAt w M n s cs v ra rb W) (o : Obj) : RsAt w M n s cs v ra rb (W.alloc o) :=
  ⟨grownBy_al h.g o, blk_alloc h.b0 o, blk_alloc h.b1 o, blk_alloc h.b2 o, blk_alloc h.b3 o, h.k.alloc o, h.c.below ((Below.refl _ _).alloc (Nat.le_refl _) o)⟩
theorem RsAt.drew {w : World} {M n : Nat} {s : Stn} {cs : List Chk} {v : Value} {ra rb : Rdg} {W : World} (h : RsAt w M n s cs v ra rb W) : RsAt w M n s cs v ra rb W.drew := ⟨grownBy_dr h.g, h.b0, h.b1, h.b2, h.b3, h.k, h.c⟩
theorem RsAt.below {w : World} {M n : Nat} {s : Stn} {cs : List Chk} {v : Value} {ra rb : Rdg} {W : World} (h : RsAt w M n s cs v ra rb W) {W' : World} (hM : M < w.heap.size) (hb : Below W.heap.size W W') : RsAt w M n s cs v ra rb W' := h.grown hM ⟨hb.os, hb.tape, hb.output, hb.size, fun k hk _ => hb.block k hk⟩ (h.k.below hb)
theorem RsAt.set {w : World} {M n : Nat} {s : Stn} {cs : List Chk} {v : Value} {ra rb : Rdg} {W : World} (h : RsAt w M n s cs v ra rb W) (hc : Chks w v cs) (hM : M < w.heap.size) {a : Addr} (ha : w.heap.size + 1 + 1 + 1 < a.block) (u : Value) : RsAt w M n s cs v ra rb (W.setCell a u) := by
  refine ⟨grownBy_sets h.g (by omega) u, (Below.heap_setCell _ _ _ _ (by omega)).trans h.b0, (Below.heap_setCell _ _ _ _ (by omega)).trans h.b1, (Below.heap_setCell _ _ _ _ (by omega)).trans h.b2, (Below.heap_setCell _ _ _ _ (by omega)).trans h.b3, h.k.setCell (by omega) u, ?_⟩
  exact chks_set hc h.c (by omega) u
theorem RsAt.cells {w : World} {M n : Nat} {s : Stn} {cs : List Chk} {v : Value} {ra rb : Rdg} {W : World} (h : RsAt w M n s cs v ra rb W) : (∀ o, W.cell? ⟨w.heap.size, o, none⟩ = #[Value.int .i64 s.hl, .int .i64 s.hh, .int .i64 s.gl, .int .i64 s.gh, .int .i64 s.dr, .int .i64 s.rd, .int .i64 s.ea, .int .i64 s.sl, v, .map (some M)][o]?) ∧ (∀ o, W.cell? ⟨w.heap.size + 1, o, none⟩ = #[Value.int .i64 ra.day, .int .i64 ra.mi, .int .i64 ra.cl, .int .i64 ra.me, .int .i64 ra.al, .int .i64 ra.ah, .int .i64 ra.dl, .int .i64 ra.dh, .int .i64 ra.wl, .int .i64 ra.wh][o]?) ∧ (∀ o, W.cell? ⟨w.heap.size + 1 + 1, o, none⟩ = #[Value.int .i64 rb.day, .int .i64 rb.mi, .int .i64 rb.cl, .int .i64 rb.me, .int .i64 rb.al, .int .i64 rb.ah, .int .i64 rb.dl, .int .i64 rb.dh, .int .i64 rb.wl, .int .i64 rb.wh][o]?) := ⟨(boxCells h.b0).1, (boxCells h.b1).1, (boxCells h.b2).1⟩

set_option maxHeartbeats 2000000 in
set_option maxRecDepth 100000 in
theorem rise_any (s : Stn) (cs : List Chk) (v : Value) (ra rb : Rdg) (M n : Nat) (w : World) (hs : Good s cs) (ha : ra.Good) (hb : rb.Good) (hc : Chks w v cs) (hk : Cache w M n s cs) (hn : n ≤ 100000) :
    Calls Tryd.prog 40 #[vwV s v (.map (some M)), rdV ra, rdV rb] w fun x w' => x = .returned (spV (riseF ra rb (fallLo s cs ra.day rb.day) (fallHi s cs ra.day rb.day) (-2 * s.rd) (2 * s.rd) 0) (riseF ra rb (fallLo s cs ra.day rb.day) (fallHi s cs ra.day rb.day) (-2 * s.rd) (2 * s.rd) 1)) ∧ w.grownBy w' (some M) := by
  have hM := hk.lt
  have hbl : Below w.heap.size w ((((w.alloc (vwBox s v (.map (some M)))).alloc (rdBox ra)).alloc (rdBox rb)).alloc (spBox 0 0)) := below_al (below_al (below_al (below_al (Below.refl _ _) _) _) _) _
  have HR : Hid (RsAt w M n s cs v ra rb ((((w.alloc (vwBox s v (.map (some M)))).alloc (rdBox ra)).alloc (rdBox rb)).alloc (spBox 0 0))) := Lib.hid ⟨grownBy_row hbl M, blk_alloc (blk_alloc (blk_alloc (blk_new _ _ rfl) _) _) _, blk_alloc (blk_alloc (blk_new _ _ (by simp)) _) _, blk_alloc (blk_new _ _ (by simp)) _, blk_new _ _ (by simp), hk.below hbl, hc.below hbl⟩
  obtain ⟨x0, x1, x2⟩ := HR.out.cells
  have HCC := Lib.hid hc
  clear hbl hk hc
  have m4 : w.heap.size + 1 + 1 + 1 + 1 ≠ M := by omega
  have m5 : w.heap.size + 1 + 1 + 1 + 1 + 1 ≠ M := by omega
  go_enter Tryd.func40, Tryd.ntmps40
  go_upto_region 1 with fail
  go_cut [7, 8] (fun s7 s8 wx => ∃ P Q : Nat, P ≠ Q ∧ w.heap.size + 1 + 1 + 1 < P ∧ w.heap.size + 1 + 1 + 1 < Q ∧ s7 = .pointer (some ⟨P, 0, none⟩) ∧ s8 = .pointer (some ⟨Q, 0, none⟩) ∧ wx.cell? ⟨P, 0, none⟩ = some (.int .i64 (lowF s ra.day cs)) ∧ wx.cell? ⟨P, 1, none⟩ = some (.int .i64 (highF s ra.day cs)) ∧ wx.cell? ⟨Q, 0, none⟩ = some (.int .i64 (lowF s rb.day cs)) ∧ wx.cell? ⟨Q, 1, none⟩ = some (.int .i64 (highF s rb.day cs)) ∧ RsAt w M (n + 2) s cs v ra rb wx)
  case first =>
    go_region_held3 (fun w' => (∀ o, w'.cell? ⟨w.heap.size, o, none⟩ = #[Value.int .i64 s.hl, .int .i64 s.hh, .int .i64 s.gl, .int .i64 s.gh, .int .i64 s.dr, .int .i64 s.rd, .int .i64 s.ea, .int .i64 s.sl, v, .map (some M)][o]?) ∧ (∀ o, w'.cell? ⟨w.heap.size + 1, o, none⟩ = #[Value.int .i64 ra.day, .int .i64 ra.mi, .int .i64 ra.cl, .int .i64 ra.me, .int .i64 ra.al, .int .i64 ra.ah, .int .i64 ra.dl, .int .i64 ra.dh, .int .i64 ra.wl, .int .i64 ra.wh][o]?) ∧ (∀ o, w'.cell? ⟨w.heap.size + 1 + 1, o, none⟩ = #[Value.int .i64 rb.day, .int .i64 rb.mi, .int .i64 rb.cl, .int .i64 rb.me, .int .i64 rb.al, .int .i64 rb.ah, .int .i64 rb.dl, .int .i64 rb.dh, .int .i64 rb.wl, .int .i64 rb.wh][o]?)) ((apply RsAt.cells (w := w) (M := M) (s := s) (cs := cs) (v := v) (ra := ra) (rb := rb); (repeat (with_reducible first | exact HR.out | apply RsAt.drew | apply RsAt.alloc | (apply RsAt.set (hc := HCC.out) (hM := hM); (simp <;> omega)))))) ((first | (go_at_call_of 34 (ra.day); refine (bounds_any (n := n) hs.sane (RsAt.c (by first | exact HR.out | exact HR.out.drew | exact HR.out.alloc _ | exact (HR.out.alloc _).alloc _ | exact (HR.out.alloc _).drew | exact ((HR.out.alloc _).alloc _).drew)) ha.d0 ha.d1 (by omega) (RsAt.k (by first | exact HR.out | exact HR.out.drew | exact HR.out.alloc _ | exact (HR.out.alloc _).alloc _ | exact (HR.out.alloc _).drew | exact ((HR.out.alloc _).alloc _).drew))).mono ?_; rintro x w1 ⟨rfl, hg1, hk1⟩; have HRq := Lib.hid (RsAt.grown (by first | exact HR.out | exact HR.out.drew | exact HR.out.alloc _ | exact (HR.out.alloc _).alloc _ | exact (HR.out.alloc _).drew | exact ((HR.out.alloc _).alloc _).drew) hM hg1 hk1); clear HR; have HR := HRq; clear HRq; have hcar := (fun k o (hk : k < _) (hx : k ≠ M) => World.cell?_of_block (w := _) (w' := w1) (a := ⟨k, o, none⟩) (hg1.block k hk (by simpa using hx))); have hcarf := (fun k o (hk : k < _) (hx : k ≠ M) => World.frozen?_of_block (w := _) (w' := w1) (a := ⟨k, o, none⟩) (hg1.block k hk (by simpa using hx))); have hsz := hg1.size; (try simp at hsz); have lb := (Array.getElem?_eq_some_iff.1 HR.out.b3).1; have mA : w1.heap.size ≠ M := (by omega); have mB : w1.heap.size + 1 ≠ M := (by omega); (try (have f4 : w.heap.size + 1 + 1 + 1 + 1 < w1.heap.size := (by omega))); (try (have f5 : w.heap.size + 1 + 1 + 1 + 1 + 1 < w1.heap.size := (by omega))); (try (have f6 : w1.heap.size < w2.heap.size := (by omega))); (try (have f7 : w1.heap.size + 1 < w2.heap.size := (by omega))); clear hg1 hk1 hsz) | (go_at_call_of 34 (rb.day); refine (bounds_any (n := n + 1) hs.sane (RsAt.c (by first | exact HR.out | exact HR.out.drew | exact HR.out.alloc _ | exact (HR.out.alloc _).alloc _ | exact (HR.out.alloc _).drew | exact ((HR.out.alloc _).alloc _).drew)) hb.d0 hb.d1 (by omega) (RsAt.k (by first | exact HR.out | exact HR.out.drew | exact HR.out.alloc _ | exact (HR.out.alloc _).alloc _ | exact (HR.out.alloc _).drew | exact ((HR.out.alloc _).alloc _).drew))).mono ?_; rintro x w2 ⟨rfl, hg1, hk1⟩; have HRq := Lib.hid (RsAt.grown (by first | exact HR.out | exact HR.out.drew | exact HR.out.alloc _ | exact (HR.out.alloc _).alloc _ | exact (HR.out.alloc _).drew | exact ((HR.out.alloc _).alloc _).drew) hM hg1 hk1); clear HR; have HR := HRq; clear HRq; have hcar := (fun k o (hk : k < _) (hx : k ≠ M) => World.cell?_of_block (w := _) (w' := w2) (a := ⟨k, o, none⟩) (hg1.block k hk (by simpa using hx))); have hcarf := (fun k o (hk : k < _) (hx : k ≠ M) => World.frozen?_of_block (w := _) (w' := w2) (a := ⟨k, o, none⟩) (hg1.block k hk (by simpa using hx))); have hsz := hg1.size; (try simp at hsz); have lb := (Array.getElem?_eq_some_iff.1 HR.out.b3).1; have mA : w2.heap.size ≠ M := (by omega); have mB : w2.heap.size + 1 ≠ M := (by omega); (try (have f4 : w.heap.size + 1 + 1 + 1 + 1 < w2.heap.size := (by omega))); (try (have f5 : w.heap.size + 1 + 1 + 1 + 1 + 1 < w2.heap.size := (by omega))); (try (have f6 : w1.heap.size < w2.heap.size := (by omega))); (try (have f7 : w1.heap.size + 1 < w2.heap.size := (by omega))); clear hg1 hk1 hsz)))
    all_goals
      go_wp2_with fail
      go_meet
      have lbb := (Array.getElem?_eq_some_iff.1 HR.out.b3).1
      refine ⟨_, _, ?_, ?_, ?_, rfl, rfl, (by first | (go_simp; done) | with_reducible exact (sets4 (by simp) (by first | (go_simp; done) | (simp (maxDischargeDepth := 10) [*]; done)) (by first | (go_simp; done) | (simp (maxDischargeDepth := 10) [*]; done))).1 | with_reducible exact (sets4 (by simp) (by first | (go_simp; done) | (simp (maxDischargeDepth := 10) [*]; done)) (by first | (go_simp; done) | (simp (maxDischargeDepth := 10) [*]; done))).2 | with_reducible exact sets3 (by first | (go_simp; done) | (simp (maxDischargeDepth := 10) [*]; done)) (by simp) | (rw [World.cell?_setCell_same' _ _ _ (by first | (go_simp; done) | (simp (maxDischargeDepth := 10) [*]; done))])), (by first | (go_simp; done) | with_reducible exact (sets4 (by simp) (by first | (go_simp; done) | (simp (maxDischargeDepth := 10) [*]; done)) (by first | (go_simp; done) | (simp (maxDischargeDepth := 10) [*]; done))).1 | with_reducible exact (sets4 (by simp) (by first | (go_simp; done) | (simp (maxDischargeDepth := 10) [*]; done)) (by first | (go_simp; done) | (simp (maxDischargeDepth := 10) [*]; done))).2 | with_reducible exact sets3 (by first | (go_simp; done) | (simp (maxDischargeDepth := 10) [*]; done)) (by simp) | (rw [World.cell?_setCell_same' _ _ _ (by first | (go_simp; done) | (simp (maxDischargeDepth := 10) [*]; done))])), (by first | (go_simp; done) | with_reducible exact (sets4 (by simp) (by first | (go_simp; done) | (simp (maxDischargeDepth := 10) [*]; done)) (by first | (go_simp; done) | (simp (maxDischargeDepth := 10) [*]; done))).1 | with_reducible exact (sets4 (by simp) (by first | (go_simp; done) | (simp (maxDischargeDepth := 10) [*]; done)) (by first | (go_simp; done) | (simp (maxDischargeDepth := 10) [*]; done))).2 | with_reducible exact sets3 (by first | (go_simp; done) | (simp (maxDischargeDepth := 10) [*]; done)) (by simp) | (rw [World.cell?_setCell_same' _ _ _ (by first | (go_simp; done) | (simp (maxDischargeDepth := 10) [*]; done))])), (by first | (go_simp; done) | with_reducible exact (sets4 (by simp) (by first | (go_simp; done) | (simp (maxDischargeDepth := 10) [*]; done)) (by first | (go_simp; done) | (simp (maxDischargeDepth := 10) [*]; done))).1 | with_reducible exact (sets4 (by simp) (by first | (go_simp; done) | (simp (maxDischargeDepth := 10) [*]; done)) (by first | (go_simp; done) | (simp (maxDischargeDepth := 10) [*]; done))).2 | with_reducible exact sets3 (by first | (go_simp; done) | (simp (maxDischargeDepth := 10) [*]; done)) (by simp) | (rw [World.cell?_setCell_same' _ _ _ (by first | (go_simp; done) | (simp (maxDischargeDepth := 10) [*]; done))])), ?_⟩
      · (try simp) <;> omega
      · (try simp) <;> omega
      · (try simp) <;> omega
      · (repeat (with_reducible first | exact HR.out | apply RsAt.drew | apply RsAt.alloc | (apply RsAt.set (hc := HCC.out) (hM := hM); (simp <;> omega))))
  case rest =>
    obtain ⟨P, Q, hPQ, hP, hQ, rfl, rfl, p0, p1, q0, q1, hR⟩ := hcut
    have HR := Lib.hid hR
    obtain ⟨x0, x1, x2⟩ := hR.cells
    have lP : P < wc.heap.size := World.block_lt_of_cell? _ _ p0
    have lQ : Q < wc.heap.size := World.block_lt_of_cell? _ _ q0
    clear hR
    have hch := change_bounds hs.sane.d0 hs.sane.d1 ha.d0 (show ra.day ≤ 10000 by have := ha.d1; omega) hb.d0 (show rb.day ≤ 10000 by have := hb.d1; omega)
    have A1 := lowF_bd hs.sane ha.d0 ha.d1; have A2 := highF_bd hs.sane ha.d0 ha.d1; have B1 := lowF_bd hs.sane hb.d0 hb.d1; have B2 := highF_bd hs.sane hb.d0 hb.d1
    have HF1 := Lib.hid (show max (lowF s ra.day cs - highF s rb.day cs) (-(s.dr * farI ra.day rb.day)) = fallLo s cs ra.day rb.day from rfl)
    have HF2 := Lib.hid (show min (highF s ra.day cs - lowF s rb.day cs) (s.dr * farI ra.day rb.day) = fallHi s cs ra.day rb.day from rfl)
    generalize lowF s ra.day cs = la at *
    generalize highF s ra.day cs = ha1 at *
    generalize lowF s rb.day cs = lb1 at *
    generalize highF s rb.day cs = hb1' at *
    generalize hq : s.dr * farI ra.day rb.day = ch at *
    have Hq := Lib.hid hq
    clear hq
    go_upto_region 3 with (go_at_call 63; refine (change_any s v (.map (some M)) ra.day rb.day _ hs.sane.d0 hs.sane.d1 ha.d0 (by have := ha.d1; omega) hb.d0 (by have := hb.d1; omega)).mono ?_; rw [Hq.out]; rintro x w1 ⟨rfl, hb1⟩; have HRq := Lib.hid (HR.out.below hM hb1); clear HR; have HR := HRq; clear HRq; have lP1 : P < w1.heap.size := Nat.lt_of_lt_of_le lP hb1.size; have lQ1 : Q < w1.heap.size := Nat.lt_of_lt_of_le lQ hb1.size; replace p0 := (hb1.cell (p := ⟨P, 0, none⟩) lP).trans p0; replace p1 := (hb1.cell (p := ⟨P, 1, none⟩) lP).trans p1; replace q0 := (hb1.cell (p := ⟨Q, 0, none⟩) lQ).trans q0; replace q1 := (hb1.cell (p := ⟨Q, 1, none⟩) lQ).trans q1; clear hb1)
    go_cut [10] (fun s10 wx => ∃ Fb : Nat, w.heap.size + 1 + 1 + 1 < Fb ∧ s10 = .pointer (some ⟨Fb, 0, none⟩) ∧ wx.heap[Fb]? = some (spBox (fallLo s cs ra.day rb.day) (fallHi s cs ra.day rb.day)) ∧ RsAt w M (n + 2) s cs v ra rb wx)
    case first =>
      have e1 : IntKind.i64.wrap (la - hb1') = la - hb1' := IntWalk.i64_in _ (by omega)
      have e2 : IntKind.i64.wrap (ha1 - lb1) = ha1 - lb1 := IntWalk.i64_in _ (by omega)
      have e3 : IntKind.i64.wrap (-ch) = -ch := IntWalk.i64_in _ (by omega)
      go_region_held3 (fun w' => w'.cell? ⟨P, 0, none⟩ = some (.int .i64 la) ∧ w'.cell? ⟨P, 1, none⟩ = some (.int .i64 ha1) ∧ w'.cell? ⟨Q, 0, none⟩ = some (.int .i64 lb1) ∧ w'.cell? ⟨Q, 1, none⟩ = some (.int .i64 hb1')) ((simp (maxDischargeDepth := 10) [*, World.cell?_alloc_some, World.cell?_setCell_far])) ((first | (go_at_call 53; refine (greatest_two _ (-ch) _ _ _ (by go_simp)).mono ?_; rintro e w' ⟨rfl, rfl⟩) | (go_at_call 54; refine (least_two _ ch _ _ _ (by go_simp)).mono ?_; rintro e w' ⟨rfl, rfl⟩)))
      all_goals
        go_wp2_with fail
        go_meet
        have lbb := (Array.getElem?_eq_some_iff.1 HR.out.b3).1
        rw [HF1.out, HF2.out]
        refine ⟨_, ?_, rfl, ?_, ?_⟩
        · (try simp) <;> omega
        · (repeat (with_reducible first | apply blk_dr | exact heap_new _ _ (by simp) | apply blk_alloc))
        · (repeat (with_reducible first | exact HR.out | apply RsAt.drew | apply RsAt.alloc))
    case rest =>
      obtain ⟨Fb, hFb, rfl, hF, hR⟩ := hcut
      have HF := Lib.hid hF
      have HR2 := Lib.hid hR
      obtain ⟨y0, y1, y2⟩ := hR.cells
      have b3 := (boxCells hR.b3).1
      have b3f := (boxCells hR.b3).2
      have lb3 := (Array.getElem?_eq_some_iff.1 hR.b3).1
      have r0 := hs.r0
      have r1 := hs.r1
      clear hF hR x0 x1 x2 p0 p1 q0 q1 HR
      have f1 : -10000000 ≤ fallLo s cs ra.day rb.day ∧ fallLo s cs ra.day rb.day ≤ 10000000 := by have := HF1.out; omega
      have f2 : -10000000 ≤ fallHi s cs ra.day rb.day ∧ fallHi s cs ra.day rb.day ≤ 10000000 := by have := HF2.out; omega
      generalize hfl : fallLo s cs ra.day rb.day = fl at *
      generalize hfh : fallHi s cs ra.day rb.day = fh at *
      have Hfl := Lib.hid hfl
      have Hfh := Lib.hid hfh
      clear hfl hfh
      go_wp2_with fail
      refine (endsInt_any ra rb (w.heap.size + 1) (w.heap.size + 1 + 1) Fb wc.heap.size fl fh (-2 * s.rd) (2 * s.rd) _ (blk_alloc HR2.out.b2 _) (blk_alloc HR2.out.b1 _) (blk_alloc HF.out _) (heap_new _ _ rfl) ha hb f1.1 f1.2 f2.1 f2.2 (by omega) (by omega) (by omega) (by omega)).mono ?_
      rintro x w2 ⟨rfl, hb2⟩
      have HR3 := Lib.hid ((HR2.out.alloc (spBox (-2 * s.rd) (2 * s.rd))).below hM hb2)
      have c3 := (boxCells HR3.out.b3).1
      have c3f := (boxCells HR3.out.b3).2
      have lb4 := (Array.getElem?_eq_some_iff.1 HR3.out.b3).1
      clear hb2 y0 y1 y2 b3 b3f lb3
      go_wp2
      have u0 := (boxCells (heap_setCell_same (o := 1) (heap_setCell_same (o := 0) HR3.out.b3 (.int .i64 (riseF ra rb fl fh (-2 * s.rd) (2 * s.rd) 0))) (.int .i64 (riseF ra rb fl fh (-2 * s.rd) (2 * s.rd) 1)))).1
      refine bodyPost_ret (v := spV (riseF ra rb fl fh (-2 * s.rd) (2 * s.rd) 0) (riseF ra rb fl fh (-2 * s.rd) (2 * s.rd) 1)) (by simp [results, Tryd.results40, go_sem, u0]) rfl ⟨?_, ?_⟩
      · rw [Hfl.out, Hfh.out]
      · exact grownBy_sets (grownBy_sets HR3.out.g (by simp; omega) _) (by simp; omega) _
end Go.Proofs.YtffgcphmakfikaaDoor
