/- Whether a truth is as defined for a reading, by the program. -/
import Derived.Test.YtffgcphmakfikaaDoorWhn
set_option linter.unusedVariables false
set_option linter.unusedSimpArgs false
namespace Go.Proofs.YtffgcphmakfikaaDoor
open Go.RowKit Go.Maps

@[reducible] def trBox (t : Tru) : Obj := .cells #[.int .i64 t.ix, .int .i64 t.er, .int .i64 t.gr, .int .i64 t.he, .int .i64 t.aT, .int .i64 t.dT, .int .i64 t.wT] 58
/-- What lies in the blocks of the call that looks at a truth. -/
structure AlAt (w : World) (M n : Nat) (s : Stn) (cs : List Chk) (v : Value) (r : Rdg) (t : Tru) (W : World) : Prop where
  g : w.grownBy W (some M)
  b0 : W.heap[w.heap.size]? = some (vwBox s v (.map (some M)))
  b1 : W.heap[w.heap.size + 1]? = some (rdBox r)
  b2 : W.heap[w.heap.size + 1 + 1]? = some (trBox t)
  k : Cache W M n s cs
  c : Chks W v cs
theorem AlAt.grown {w : World} {M n : Nat} {s : Stn} {cs : List Chk} {v : Value} {r : Rdg} {t : Tru} {W : World} (h : AlAt w M n s cs v r t W) {n' : Nat} {W' : World} (hM : M < w.heap.size) (hg : W.grownBy W' (some M)) (hk : Cache W' M n' s cs) : AlAt w M n' s cs v r t W' :=
  ⟨grownBy_tr h.g hg, blk_grown h.b0 hg (by omega), blk_grown h.b1 hg (by omega), blk_grown h.b2 hg (by omega), hk, h.c.grown h.k hg⟩
theorem AlAt.drew {w : World} {M n : Nat} {s : Stn} {cs : List Chk} {v : Value} {r : Rdg} {t : Tru} {W : World} (h : AlAt w M n s cs v r t W) : AlAt w M n s cs v r t W.drew := ⟨grownBy_dr h.g, h.b0, h.b1, h.b2, h.k, h.c⟩
theorem AlAt.below {w : World} {M n : Nat} {s : Stn} {cs : List Chk} {v : Value} {r : Rdg} {t : Tru} {W : World} (h : AlAt w M n s cs v r t W) {W' : World} (hM : M < w.heap.size) (hb : Below W.heap.size W W') : AlAt w M n s cs v r t W' := h.grown hM ⟨hb.os, hb.tape, hb.output, hb.size, fun k hk _ => hb.block k hk⟩ (h.k.below hb)
theorem AlAt.cells {w : World} {M n : Nat} {s : Stn} {cs : List Chk} {v : Value} {r : Rdg} {t : Tru} {W : World} (h : AlAt w M n s cs v r t W) : (∀ o, W.cell? ⟨w.heap.size, o, none⟩ = #[Value.int .i64 s.hl, .int .i64 s.hh, .int .i64 s.gl, .int .i64 s.gh, .int .i64 s.dr, .int .i64 s.rd, .int .i64 s.ea, .int .i64 s.sl, v, .map (some M)][o]?) ∧ (∀ o, W.cell? ⟨w.heap.size + 1, o, none⟩ = #[Value.int .i64 r.day, .int .i64 r.mi, .int .i64 r.cl, .int .i64 r.me, .int .i64 r.al, .int .i64 r.ah, .int .i64 r.dl, .int .i64 r.dh, .int .i64 r.wl, .int .i64 r.wh][o]?) ∧ (∀ o, W.cell? ⟨w.heap.size + 1 + 1, o, none⟩ = #[Value.int .i64 t.ix, .int .i64 t.er, .int .i64 t.gr, .int .i64 t.he, .int .i64 t.aT, .int .i64 t.dT, .int .i64 t.wT][o]?) := ⟨(boxCells h.b0).1, (boxCells h.b1).1, (boxCells h.b2).1⟩

def allowB (s : Stn) (cs : List Chk) (r : Rdg) (t : Tru) : Bool := betw t.ix (lowF s r.day cs) (highF s r.day cs) && betw t.er (-s.rd) s.rd && betw t.gr s.gl s.gh && betw t.he s.hl s.hh && betw t.aT r.al r.ah && betw t.dT r.dl r.dh && betw t.wT r.wl r.wh

set_option maxHeartbeats 4000000 in
set_option maxRecDepth 100000 in
theorem allows_yes (s : Stn) (cs : List Chk) (v : Value) (r : Rdg) (t : Tru) (M n : Nat) (w : World) (hs : Good s cs) (hr : r.Good) (hc : Chks w v cs) (hk : Cache w M n s cs) (hn : n ≤ 100000) (k0 : betw t.ix (lowF s r.day cs) (highF s r.day cs) = true) (k1 : betw t.er (-s.rd) s.rd = true) (k2 : betw t.gr s.gl s.gh = true) (k3 : betw t.he s.hl s.hh = true) (k4 : betw t.aT r.al r.ah = true) (k5 : betw t.dT r.dl r.dh = true) (k6 : betw t.wT r.wl r.wh = true) :
    Calls Tryd.prog 38 #[vwV s v (.map (some M)), rdV r, trV t] w fun x w' => x = .returned (.bool true) ∧ w.grownBy w' (some M) ∧ Cache w' M (n + 1) s cs := by
  have hM := hk.lt
  have hbl : Below w.heap.size w (((w.alloc (vwBox s v (.map (some M)))).alloc (rdBox r)).alloc (trBox t)) := below_al (below_al (below_al (Below.refl _ _) _) _) _
  have HR : Hid (AlAt w M n s cs v r t (((w.alloc (vwBox s v (.map (some M)))).alloc (rdBox r)).alloc (trBox t)).drew) := Lib.hid (AlAt.drew ⟨grownBy_row hbl M, blk_alloc (blk_alloc (blk_new _ _ rfl) _) _, blk_alloc (blk_new _ _ (by simp)) _, blk_new _ _ (by simp), hk.below hbl, hc.below hbl⟩)
  obtain ⟨x0, x1, x2⟩ := HR.out.cells
  clear hbl hk hc
  go_enter Tryd.func38, Tryd.ntmps38
  go_wp2_with fail
  go_region_held3 (fun w' => (∀ o, w'.cell? ⟨w.heap.size, o, none⟩ = #[Value.int .i64 s.hl, .int .i64 s.hh, .int .i64 s.gl, .int .i64 s.gh, .int .i64 s.dr, .int .i64 s.rd, .int .i64 s.ea, .int .i64 s.sl, v, .map (some M)][o]?) ∧ (∀ o, w'.cell? ⟨w.heap.size + 1, o, none⟩ = #[Value.int .i64 r.day, .int .i64 r.mi, .int .i64 r.cl, .int .i64 r.me, .int .i64 r.al, .int .i64 r.ah, .int .i64 r.dl, .int .i64 r.dh, .int .i64 r.wl, .int .i64 r.wh][o]?) ∧ (∀ o, w'.cell? ⟨w.heap.size + 1 + 1, o, none⟩ = #[Value.int .i64 t.ix, .int .i64 t.er, .int .i64 t.gr, .int .i64 t.he, .int .i64 t.aT, .int .i64 t.dT, .int .i64 t.wT][o]?)) (go_keep) ((first | (go_at_call 34; refine (bounds_any (n := n) hs.sane HR.out.c hr.d0 hr.d1 (by omega) HR.out.k).mono ?_; rintro x w1 ⟨rfl, hg1, hk1⟩; have HRq := Lib.hid (HR.out.grown hM hg1 hk1); clear HR; have HR := HRq; clear HRq; obtain ⟨x0, x1, x2⟩ := HR.out.cells; clear hg1 hk1) | (go_at_call 56; refine (inside_any _ _ _ _).mono ?_; rintro x w1 ⟨rfl, hb1⟩; have HRq := Lib.hid (HR.out.below hM hb1); clear HR; have HR := HRq; clear HRq; obtain ⟨x0, x1, x2⟩ := HR.out.cells; clear hb1) | (go_at_call 57; refine (misread_any s v _ _ hs.r0 hs.r1).mono ?_; rintro x w1 ⟨rfl, hb1⟩; have HRq := Lib.hid (HR.out.below hM hb1); clear HR; have HR := HRq; clear HRq; obtain ⟨x0, x1, x2⟩ := HR.out.cells; clear hb1)))
  go_wp2
  go_ret
  exact ⟨rfl, HR.out.g, HR.out.k⟩
end Go.Proofs.YtffgcphmakfikaaDoor
