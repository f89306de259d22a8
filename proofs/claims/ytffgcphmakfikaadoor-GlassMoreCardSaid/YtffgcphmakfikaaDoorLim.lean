/- The comparisons that bound a day, as the program goes through them: a range over a function. -/
import Derived.Test.YtffgcphmakfikaaDoorNil
import Derived.RangeFuncNested
import Derived.RangeFuncBound
import Derived.RangeFuncCalls
import Derived.RangeFuncLeaves
import Derived.Shelf.Abstract
import Derived.Shelf.RegionOpen
import Derived.OwnWalkIn
import Derived.TacticsInMore
import Derived.LoopNIn
import Derived.LoopIn
import Derived.RangeFuncBox
set_option linter.unusedVariables false
set_option linter.unusedSimpArgs false
namespace Go.Proofs.YtffgcphmakfikaaDoor
open Go.RowKit Go.Shelf
attribute [local go_sem] Oper.semAt_some

/-- Between which bounds a comparison leaves the index of a day. -/
def limF (s : Stn) (day : Int) (c : Chk) : Int × Int := (c.lo - s.dr * farI day c.day, c.hi + s.dr * farI day c.day)

/-- Below n₀ nothing has turned but block X. -/
structure KX (n₀ X : Nat) (W W' : World) : Prop where
  os : W'.os = W.os
  tape : W'.tape = W.tape
  output : W'.output = W.output
  size : W.heap.size ≤ W'.heap.size
  block : ∀ k, k < n₀ → k ≠ X → W'.heap[k]? = W.heap[k]?
theorem KX.refl (n₀ X : Nat) (W : World) : KX n₀ X W W := ⟨rfl, rfl, rfl, Nat.le_refl _, fun _ _ _ => rfl⟩
theorem KX.trans {n₀ X : Nat} {A B C : World} (h : KX n₀ X A B) (k : KX n₀ X B C) : KX n₀ X A C := ⟨k.os.trans h.os, k.tape.trans h.tape, k.output.trans h.output, Nat.le_trans h.size k.size, fun i h1 h2 => (k.block i h1 h2).trans (h.block i h1 h2)⟩
theorem KX.of_below {n₀ X : Nat} {A B : World} (h : Below n₀ A B) : KX n₀ X A B := ⟨h.os, h.tape, h.output, h.size, fun k hk _ => h.block k hk⟩
theorem KX.cell {n₀ X : Nat} {w w' : World} (h : KX n₀ X w w') {p : Addr} (hp : p.block < n₀) (hx : p.block ≠ X) : w'.cell? p = w.cell? p := World.cell?_of_block (w := w) (h.block p.block hp hx)
theorem ChksAt.kx {w w' : World} {B X b off : Nat} {cs : List Chk} (h : ChksAt w b off cs) (hb : KX B X w w') (hB : b < B) (hx : b ≠ X) : ChksAt w' b off cs := fun i c hc => by
  obtain ⟨h0, h1, h2⟩ := h i c hc
  exact ⟨(hb.cell (p := ⟨b, _, none⟩) hB hx).trans h0, (hb.cell (p := ⟨b, _, none⟩) hB hx).trans h1, (hb.cell (p := ⟨b, _, none⟩) hB hx).trans h2⟩

theorem grownBy_of_below {W W' : World} (h : Below W.heap.size W W') : W.grownBy W' none := ⟨h.os, h.tape, h.output, h.size, fun k hk _ => h.block k hk⟩
theorem boxCells {W : World} {B : Nat} {cs : Array Value} {t : TypeId} (h : W.heap[B]? = some (.cells cs t (0, 0))) : (∀ o, W.cell? ⟨B, o, none⟩ = cs[o]?) ∧ (∀ o, W.frozen? ⟨B, o, none⟩ = false) :=
  ⟨fun o => by simp [World.cell?, h], fun o => by simp [World.frozen?, h]⟩

set_option maxHeartbeats 800000 in
set_option maxRecDepth 100000 in
theorem limits1_in (n : Nat) (hn : 1 ≤ n) (s : Stn) (cs : List Chk) (hs : Sane s cs) (day : Int) (hd0 : 0 ≤ day) (hd1 : day ≤ 400) (b off cap : Nat) (m : Value) (hcap : cs.length ≤ cap) (hm : cap ≤ maxLen) (l B2 B3 n₀ X : Nat) (hB2 : B2 < n₀) (hB3 : B3 < n₀) (hb : b < n₀) (x2 : B2 ≠ X) (x3 : B3 ≠ X) (xb : b ≠ X)
    (J Jx : List (Int × Int) → World → Prop) (W : World) (hn₀ : n₀ ≤ W.heap.size) (hJ : AbidesFrom W.heap.size J)
    (hY : ∀ pre x W, J pre W → pre.length < cs.length → YieldAt Fence.wide (n - 1) Tryd.prog l #[.agg #[.int .i64 x.1, .int .i64 x.2]] W fun e W' =>
      (e = .returned (.bool true) ∧ J (pre ++ [x]) W' ∧ KX n₀ X W W') ∨ (e = .returned (.bool false) ∧ Jx (pre ++ [x]) W'))
    (hv : W.heap[B2]? = some (vwBox s (.slice (some ⟨b, off, none⟩) cs.length cap) m)) (hdy : W.heap[B3]? = some (.cells #[.int .i64 day] 3)) (hc : ChksAt W b off cs) (h0 : J [] W) :
    CallsIn Fence.wide n Tryd.prog 71 #[.func (.yield l) #[] #[], .pointer (some ⟨B2, 0, none⟩), .pointer (some ⟨B3, 0, none⟩)] W fun e W' => (∃ v, e = .returned v) ∧
      ((∃ ys, ys = cs.map (limF s day) ∧ J ys W') ∨ (∃ pre, pre <+: cs.map (limF s day) ∧ Jx pre W')) := by
  unfold maxLen at hm
  have hl12 := hs.len
  have hv1 := (boxCells hv).1
  refine callsIn_of_wp Tryd.func71 rfl trivial ?_ rfl
  simp only [Tryd.ntmps71, List.size_toArray, List.length_cons, List.length_nil, Nat.reduceAdd, Nat.reduceSub, Array.replicate_succ, Array.replicate_zero, List.push_toArray, List.append_toArray, List.nil_append, List.cons_append]
  gi_wp2
  gi_loopw [11] (fun k wr => ∃ i : Nat, i ≤ cs.length ∧ k = .int .i64 i ∧ J ((cs.take i).map (limF s day)) wr ∧ KX n₀ X W wr ∧ W.heap.size ≤ wr.heap.size) (fun k _ => cs.length - (intOf k).toNat)
  case atStart => exact ⟨0, Nat.zero_le _, rfl, h0, KX.refl _ _ _, Nat.le_refl _⟩
  case round =>
    obtain ⟨i, hi, rfl, hJi, hB, hsz⟩ := hrel
    have hbx : ∀ o, wr.cell? ⟨B2, o, none⟩ = #[Value.int .i64 s.hl, .int .i64 s.hh, .int .i64 s.gl, .int .i64 s.gh, .int .i64 s.dr, .int .i64 s.rd, .int .i64 s.ea, .int .i64 s.sl, .slice (some ⟨b, off, none⟩) cs.length cap, m][o]? := fun o => (hB.cell (p := ⟨B2, o, none⟩) hB2 x2).trans (hv1 o)
    have hby : wr.cell? ⟨B3, 0, none⟩ = some (.int .i64 day) := (hB.cell (p := ⟨B3, 0, none⟩) hB3 x3).trans ((boxCells hdy).1 0)
    have hc' := hc.kx hB hb xb
    have hB2' : B2 < wr.heap.size := by omega
    have hB3' : B3 < wr.heap.size := by omega
    clear hc hv hdy hv1
    by_cases hlt : i < cs.length
    · obtain ⟨c0, c1, c2⟩ := hc' i cs[i] (List.getElem?_eq_getElem hlt)
      have hsc := hs.all cs[i] (List.getElem_mem hlt)
      have Htk := Lib.hid (show cs.take (i + 1) = cs.take i ++ [cs[i]] from by rw [List.take_add_one, List.getElem?_eq_getElem hlt]; rfl)
      have hlen : ((cs.take i).map (limF s day)).length < cs.length := by simp; omega
      generalize cs[i] = ca at *
      obtain ⟨g0, g1, g2, g3, g4⟩ := hsc
      have hp := change_bounds hs.d0 hs.d1 hd0 (show day ≤ 10000 by omega) g0 (show ca.day ≤ 10000 by omega)
      gi_wp2_with (refine ⟨trivial, ?_⟩; gi_at_call 63; refine (callsIn_wide.2 (change_any s _ m _ _ _ hs.d0 hs.d1 hd0 (by omega) g0 (by omega))).mono ?_; rintro e w1 ⟨rfl, hb1⟩; have hcc : ∀ o, w1.cell? ⟨wr.heap.size, o, none⟩ = #[Value.int .i64 ca.day, .int .i64 ca.lo, .int .i64 ca.hi][o]? := fun o => (hb1.cell (p := ⟨wr.heap.size, o, none⟩) (by simp)).trans (World.cell?_alloc_new _ _ _ _); have hbw : Below wr.heap.size wr w1 := ((Below.refl _ _).alloc (Nat.le_refl _) _).trans (hb1.mono (by simp)); obtain ⟨fn, tmps, assign, body, hy, hR⟩ := hY _ (ca.lo - s.dr * farI day ca.day, ca.hi + s.dr * farI day ca.day) w1 (hJ _ wr w1 none hJi (grownBy_of_below hbw) (by simp)) hlen; dsimp only at hy; clear hY hJ)
      refine hR.mono ?_
      rintro e W3 (⟨rfl, hJ3, hk3⟩ | ⟨rfl, hJx3⟩)
      · gi_wp2
        go_roundw
        case rel => exact ⟨i + 1, by omega, by go_num, by rw [Htk.out]; simpa [limF] using hJ3, (hB.trans (KX.of_below (hbw.mono (by omega)))).trans hk3, by have := hbw.size; have := hk3.size; omega⟩
        case measure => simp [intOf]; omega
      · gi_wp2
        refine bodyPost_ret (results_none rfl _ _ _) rfl ?_
        exact ⟨⟨_, rfl⟩, .inr ⟨_, ⟨(cs.drop (i + 1)).map (limF s day), by have h := congrArg (List.map (limF s day)) (List.take_append_drop (i + 1) cs); rw [Htk.out] at h; simpa [limF] using h⟩, hJx3⟩⟩
    · obtain rfl : i = cs.length := by omega
      gi_wp2
      go_end0
      exact ⟨⟨_, rfl⟩, .inl ⟨_, by rw [List.take_length], hJi⟩⟩

set_option maxHeartbeats 800000 in
set_option maxRecDepth 100000 in
theorem limits1_nil (n : Nat) (s : Stn) (A : Option Addr) (cap : Nat) (m : Value) (l B2 B3 : Nat) (W : World)
    (hv : W.heap[B2]? = some (vwBox s (.slice A 0 cap) m)) :
    CallsIn Fence.wide n Tryd.prog 71 #[.func (.yield l) #[] #[], .pointer (some ⟨B2, 0, none⟩), .pointer (some ⟨B3, 0, none⟩)] W fun e W' => (∃ v, e = .returned v) ∧ W = W' := by
  have hv1 := (boxCells hv).1
  refine callsIn_of_wp Tryd.func71 rfl trivial ?_ rfl
  simp only [Tryd.ntmps71, List.size_toArray, List.length_cons, List.length_nil, Nat.reduceAdd, Nat.reduceSub, Array.replicate_succ, Array.replicate_zero, List.push_toArray, List.append_toArray, List.nil_append, List.cons_append]
  gi_wp2
  gi_loopw [11] (fun k wr => k = .int .i64 0 ∧ W = wr) (fun k _ => (0 - intOf k).toNat)
  case atStart => exact ⟨rfl, rfl⟩
  case round =>
    obtain ⟨rfl, rfl⟩ := hrel
    gi_wp2
    go_end0
    exact ⟨⟨_, rfl⟩, rfl⟩

/-- The iterator over any slice that reads as a list of comparisons. -/
theorem limits1_any (n : Nat) (hn : 1 ≤ n) (s : Stn) (cs : List Chk) (hs : Sane s cs) (day : Int) (hd0 : 0 ≤ day) (hd1 : day ≤ 400) (v m : Value) (w : World) (hv : Chks w v cs) (l B2 B3 n₀ X : Nat) (hB2 : B2 < n₀) (hB3 : B3 < n₀) (x2 : B2 ≠ X) (x3 : B3 ≠ X) (hw : w.heap.size ≤ n₀) (hX : w.heap.size ≤ X)
    (J Jx : List (Int × Int) → World → Prop) (W : World) (hwW : Below w.heap.size w W) (hn₀ : n₀ ≤ W.heap.size) (hJ : AbidesFrom W.heap.size J)
    (hY : ∀ pre x W, J pre W → pre.length < cs.length → YieldAt Fence.wide (n - 1) Tryd.prog l #[.agg #[.int .i64 x.1, .int .i64 x.2]] W fun e W' =>
      (e = .returned (.bool true) ∧ J (pre ++ [x]) W' ∧ KX n₀ X W W') ∨ (e = .returned (.bool false) ∧ Jx (pre ++ [x]) W'))
    (hvb : W.heap[B2]? = some (vwBox s v m)) (hdy : W.heap[B3]? = some (.cells #[.int .i64 day] 3)) (h0 : J [] W) :
    CallsIn Fence.wide n Tryd.prog 71 #[.func (.yield l) #[] #[], .pointer (some ⟨B2, 0, none⟩), .pointer (some ⟨B3, 0, none⟩)] W fun e W' => (∃ v, e = .returned v) ∧
      ((∃ ys, ys = cs.map (limF s day) ∧ J ys W') ∨ (∃ pre, pre <+: cs.map (limF s day) ∧ Jx pre W')) := by
  obtain ⟨A, cap, rfl, hl, hm, h⟩ := hv
  rcases h with rfl | ⟨b, off, rfl, hlt, hc⟩
  · exact (limits1_nil n s A cap m l B2 B3 W hvb).mono fun e W' ⟨h1, h2⟩ => ⟨h1, .inl ⟨[], rfl, h2 ▸ h0⟩⟩
  · exact limits1_in n hn s cs hs day hd0 hd1 b off cap m hl hm l B2 B3 n₀ X hB2 hB3 (by omega) x2 x3 (by omega) J Jx W hn₀ hJ hY hvb hdy (hc.below hwW hlt) h0
end Go.Proofs.YtffgcphmakfikaaDoor
