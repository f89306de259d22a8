/- Part of a claim on cone. -/
import Derived.Test.YtldimlnllmojiaaGreatXb
import Derived.Test.YtldimlnllmojiaaGreatGA1
set_option linter.unusedVariables false
set_option linter.unusedSimpArgs false
namespace Go.Proofs.YtldimlnllmojiaaGreat
open Go.RowKit
open Go.Shelf
open Go.Maps
attribute [local go_sem] Oper.semAt_some
theorem run_min (P : Program) (ts : Array TypeId) (ty : TypeId) (a b : Int) (w : World) : (Builtin.min_ ts ty #[.int .i64 a, .int .i64 b]).run P w = .ok (.int .i64 (min a b)) w := by
  unfold Builtin.min_
  by_cases h : a < b
  · simp [Builtin.min2, h]; omega
  · simp [Builtin.min2, h]; omega
theorem wpIn_scope7 {P : Program} {F : Fence} {n : Nat} {Q : Exit → Act → World → Prop} {a : Act} {w : World} {c : Code} (hq : ∀ l a w, ¬ Q (.goto l) a w) (hx : c.wpIn F n P Q a w) : (Code.scope c).wpIn F n P Q a w := by
  intro b k cs hro hb hr
  have h0 : (lone (b.atR a (.code (.scope c) :: k)) cs w).fenced P F := fenced_calm hb hr rfl
  have s0 : step P (lone (b.atR a (.code (.scope c) :: k)) cs w) = .next (lone (b.atR a (.code c :: .inScope c :: k)) cs w) := step_lone_go (by simp [stepG, stepG.exec, Frame.atR])
  have s1 : ∀ a w, step P (lone (b.atR a (.inScope c :: k)) cs w) = .next (lone (b.atR a k) cs w) := fun a w => step_lone_go (by simp [stepG, stepG.exec, Frame.atR])
  obtain ⟨e, a₁, w₁, hQ, harr⟩ := hx b (.inScope c :: k) cs hro hb hr
  cases e with
  | normal => exact ⟨.normal, a₁, w₁, hQ, .head h0 s0 (StepsIn.trans harr (.one (fenced_calm hb hr rfl) (s1 _ _)))⟩
  | exit id =>
    have hx : exitTo id (.inScope c :: k) = exitTo id k := by simp [exitTo]
    exact ⟨_, a₁, w₁, hQ, fun k' hk => .head h0 s0 (harr.1 k' (by rw [hx]; exact hk)), fun hr' hk => let ⟨k₁, h1, h2⟩ := harr.2 hr' (by rw [hx]; exact hk); ⟨k₁, h1, .head h0 s0 h2⟩⟩
  | goto l => exact (hq _ _ _ hQ).elim
  | ret => exact ⟨_, a₁, w₁, hQ, .of_steps (.one h0 s0) harr⟩
  | panic ch => exact ⟨_, a₁, w₁, hQ, .of_steps (.one h0 s0) harr⟩
  | outgrown => exact ⟨_, a₁, w₁, hQ, .of_steps (.one h0 s0) harr⟩
set_option maxHeartbeats 1600000 in
set_option maxRecDepth 100000 in
theorem mins1x_in (n : Nat) (hn : 1 ≤ n) (lo hi : Int) (h1 : -1000000 ≤ lo) (h2 : lo ≤ 1000000) (h3 : -1000000 ≤ hi) (h4 : hi ≤ 1000000) (l B n₀ : Nat) (hB : B < n₀)
    (J Jx : List Int → World → Prop) (Jp : List PanicEntry → List Int → World → Prop) (W : World) (hn₀ : n₀ ≤ W.heap.size)
    (hY : ∀ pre x W, J pre W → pre.length < 3000000 → lo ≤ x ∧ x ≤ hi → YieldAt Fence.wide (n - 1) Tryz.prog l #[.int .i64 x] W fun e W' =>
      (e = .returned (.bool true) ∧ J (pre ++ [x]) W' ∧ Below n₀ W W') ∨ (e = .returned (.bool false) ∧ Jx (pre ++ [x]) W') ∨ (∃ ch, e = .panicked ch ∧ Jp ch (pre ++ [x]) W'))
    (hv : W.heap[B]? = some (.cells #[.int .i64 lo, .int .i64 hi] 56)) (h0 : J [] W) :
    CallsIn Fence.wide n Tryz.prog 127 #[.func (.yield l) #[] #[], .pointer (some ⟨B, 0, none⟩)] W fun e W' => ((∃ v, e = .returned v) ∧
      ((∃ ys, ys = minsL lo hi ∧ J ys W') ∨ (∃ pre, (∃ k, pre = (minsL lo hi).take k) ∧ Jx pre W'))) ∨ (∃ ch pre, e = .panicked ch ∧ (∃ k, pre = (minsL lo hi).take k) ∧ Jp ch pre W') := by
  have HV := Lib.hid hv
  have hv1 := (boxCells hv).1
  have w1 : IntKind.i64.wrap (hi - lo) = hi - lo := IntWalk.i64_in _ (by omega)
  have w2 : IntKind.i64.wrap (hi - lo + 1) = hi - lo + 1 := IntWalk.i64_in _ (by omega)
  clear hv
  refine callsIn_of_wp Tryz.func127 rfl trivial ?_ rfl
  simp only [Tryz.ntmps127, List.size_toArray, List.length_cons, List.length_nil, Nat.reduceAdd, Nat.reduceSub, Array.replicate_succ, Array.replicate_zero, List.push_toArray, List.append_toArray, List.nil_append, List.cons_append]
  gi_wp2
  clear hv1
  gi_loopw [3, 10, 11, 12, 13, 14, 15, 16, 17, 18, 19, 20] (fun _ i _ _ _ _ _ _ _ _ _ _ wr => ∃ p : Nat, ((p : Int) ≤ hi - lo + 1 ∨ p = 0) ∧ i = .int .i64 p ∧ J ((minsL lo hi).take p) wr ∧ Below n₀ W wr) (fun _ i _ _ _ _ _ _ _ _ _ _ _ => (hi - lo + 1).toNat - (intOf i).toNat)
  case atStart => exact ⟨0, .inr rfl, rfl, by simpa using h0, Below.refl _ _⟩
  case round =>
    obtain ⟨p, hp, rfl, hJ0, hb⟩ := hrel
    have HJ0 := Lib.hid hJ0
    have HB := Lib.hid hb
    have hbox : ∀ o, wr.cell? ⟨B, o, none⟩ = #[Value.int .i64 lo, .int .i64 hi][o]? := (boxCells ((hb.block B hB).trans HV.out)).1
    clear hJ0 hb
    by_cases hlt : (p : Int) < hi - lo + 1
    · have w3 : IntKind.i64.wrap (lo + p) = lo + p := IntWalk.i64_in _ (by omega)
      have hlen : ((minsL lo hi).take p).length < 3000000 := by rw [List.length_take, minsL_length]; omega
      obtain ⟨fn, tmps, assign, body, hy, hR⟩ := hY _ (lo + p) _ HJ0.out hlen ⟨by omega, by omega⟩
      have HR := Lib.hid hR
      have HT : Hid ((minsL lo hi).take (p + 1) = (minsL lo hi).take p ++ [lo + (p : Int)]) := Lib.hid (by rw [List.take_add_one, minsL_get hlt]; rfl)
      clear hR hY hlen
      gi_wp2
      refine HR.out.mono ?_
      rintro e W3 (⟨rfl, hJ3, hk3⟩ | ⟨rfl, hJx3⟩ | ⟨ch, rfl, hJp3⟩)
      · have HJ3 := Lib.hid hJ3
        have HK3 := Lib.hid hk3
        clear hJ3 hk3
        gi_wp2
        go_roundw
        case rel => exact ⟨p + 1, by omega, by go_num, by rw [HT.out]; exact HJ3.out, HB.out.trans HK3.out⟩
        case measure => simp [intOf]; omega
      · have HJx3 := Lib.hid hJx3
        clear hJx3
        gi_wp2
        refine bodyPost_ret (results_none rfl _ _ _) rfl ?_
        exact .inl ⟨⟨_, rfl⟩, .inr ⟨_, ⟨p + 1, HT.out.symm⟩, HJx3.out⟩⟩
      · refine ⟨rfl, .inr ⟨ch, _, rfl, ⟨p + 1, HT.out.symm⟩, hJp3⟩⟩
    · gi_wp2
      go_end0
      have HE : Hid (J (minsL lo hi) wr) := Lib.hid (by have e : (minsL lo hi).take p = minsL lo hi := List.take_of_length_le (by rw [minsL_length]; omega); rw [← e]; exact HJ0.out)
      first | exact .inl ⟨⟨_, rfl⟩, .inl ⟨_, rfl, HE.out⟩⟩ | exact .inl (.inl HE.out) | exact .inl ⟨⟨_, rfl⟩, .inl HE.out⟩
abbrev Mn (lo hi : Int) := {x : Int // lo ≤ x ∧ x ≤ hi}
theorem mins2_in (n : Nat) (hn : 1 ≤ n) (lo hi : Int) (h1 : -1000000 ≤ lo) (h2 : lo ≤ 1000000) (h3 : -1000000 ≤ hi) (h4 : hi ≤ 1000000) (l B n₀ : Nat) (hB : B < n₀)
    (J Jx : List (Mn lo hi) → World → Prop) (W : World) (hn₀ : n₀ ≤ W.heap.size)
    (hY : ∀ pre x W, J pre W → pre.length < 3000000 → YieldAt Fence.wide (n - 1) Tryz.prog l #[.int .i64 x.1] W fun e W' =>
      (e = .returned (.bool true) ∧ J (pre ++ [x]) W' ∧ Below n₀ W W') ∨ (e = .returned (.bool false) ∧ Jx (pre ++ [x]) W'))
    (hv : W.heap[B]? = some (.cells #[.int .i64 lo, .int .i64 hi] 56)) (h0 : J [] W) :
    CallsIn Fence.wide n Tryz.prog 127 #[.func (.yield l) #[] #[], .pointer (some ⟨B, 0, none⟩)] W fun e W' => (∃ v, e = .returned v) ∧
      ((∃ ys, ys.map Subtype.val = minsL lo hi ∧ J ys W') ∨ (∃ pre : List (Mn lo hi), True ∧ Jx pre W')) := by
  refine (mins1x_in n hn lo hi h1 h2 h3 h4 l B n₀ hB (fun pre W => ∃ q : List (Mn lo hi), q.map Subtype.val = pre ∧ J q W) (fun pre W => ∃ q : List (Mn lo hi), q.map Subtype.val = pre ∧ Jx q W) (fun _ _ _ => False) W hn₀ ?_ hv ⟨[], rfl, h0⟩).mono ?_
  · rintro pre x W ⟨q, rfl, hj⟩ hl hx
    refine (hY q ⟨x, hx⟩ W hj (by simpa using hl)).mono ?_
    rintro e W' (⟨rfl, hj', hb⟩ | ⟨rfl, hj'⟩)
    · exact .inl ⟨rfl, ⟨_, by simp, hj'⟩, hb⟩
    · exact .inr (.inl ⟨rfl, _, by simp, hj'⟩)
  · rintro e W' (⟨hv, h⟩ | ⟨_, _, _, _, h⟩)
    · refine ⟨hv, ?_⟩
      rcases h with ⟨ys, rfl, q, hq, hj⟩ | ⟨pre, _, q, _, hj⟩
      · exact .inl ⟨q, hq, hj⟩
      · exact .inr ⟨q, trivial, hj⟩
    · exact h.elim
structure NoneP {lo hi : Int} (Q : Int → Bool) (pre : List (Mn lo hi)) : Prop where
  out : ∀ y ∈ pre, Q y.1 = false
structure SomeP {lo hi : Int} (Q : Int → Bool) (pre : List (Mn lo hi)) : Prop where
  out : ∃ y ∈ pre, Q y.1 = true
def perB (m : Wn) (xp : Prt) (ss : List (Int × Int)) (llo lhi alo : Int) : Bool := (minsL (llo - xp.ohi) (lhi - xp.olo)).any (fun t : Int => seenB ss t && (minsL (max llo (t + xp.olo)) (min lhi (t + xp.ohi))).any (fun u : Int => decide (alo ≤ farT m xp u)))
set_option maxHeartbeats 8000000 in
set_option maxRecDepth 100000 in
theorem perhaps_any {m : Wn} {R L MV : Value} {A3 : Option Addr} {ps : List Prt} {c3 j : Nat} {xp : Prt} {llo lhi alo ahi : Int} {A : Option Addr} {c : Nat} {ss : List (Int × Int)} {w : World} (h3 : Prts w (.slice A3 ps.length c3) ps) (hx : ps[j]? = some xp) (hd : 0 ≤ m.dusk ∧ m.dusk ≤ 1440) (hxp : 0 ≤ xp.olo ∧ xp.olo ≤ 100000 ∧ 0 ≤ xp.ohi ∧ xp.ohi ≤ 100000) (hlb : 0 ≤ llo ∧ llo ≤ 100000 ∧ 0 ≤ lhi ∧ lhi ≤ 100000) (hS : Sps w (.slice A ss.length c) ss) (hsl : ss.length ≤ 1000) (hs : ∀ b off, A = some ⟨b, off, none⟩ → b < w.heap.size) :
    Calls Tryz.prog 102 #[lookV m R L (.slice A3 ps.length c3) MV, .slice A ss.length c, .int .i64 j, .agg #[.int .i64 llo, .int .i64 lhi, .int .i64 alo, .int .i64 ahi]] w fun e w' => e = .returned (.bool (perB m xp ss llo lhi alo)) ∧ Below w.heap.size w w' := by
  have H3 := Lib.hid h3
  have HQX := Lib.hid hx
  have HS := Lib.hid hS
  have HSA := Lib.hid hs
  have HR5 := Lib.hid ((((((Frm.nil w).add (lookBox m R L (.slice A3 ps.length c3) MV) rfl).add (k := w.heap.size + 1) (.cells #[.slice A ss.length c] 100) (by simp)).add (k := w.heap.size + 1 + 1) (.cells #[.int .i64 j] 3) (by simp)).add (k := w.heap.size + 1 + 1 + 1) (.cells #[.int .i64 llo, .int .i64 lhi, .int .i64 alo, .int .i64 ahi] 63) (by simp)).add (k := w.heap.size + 1 + 1 + 1 + 1) (.cells #[.bool false] 4) (by simp))
  have HR6 := Lib.hid ((HR5.out.add (k := w.heap.size + 1 + 1 + 1 + 1 + 1) (.cells #[.int .i64 xp.olo, .int .i64 xp.ohi] 56) (by simp)).less (bs' := [(w.heap.size + 1 + 1 + 1 + 1 + 1, (.cells #[.int .i64 xp.olo, .int .i64 xp.ohi] 56)), (w.heap.size + 1 + 1 + 1 + 1, (.cells #[.bool false] 4)), (w.heap.size + 1 + 1 + 1, (.cells #[.int .i64 llo, .int .i64 lhi, .int .i64 alo, .int .i64 ahi] 63)), (w.heap.size + 1 + 1, (.cells #[.int .i64 j] 3)), (w.heap.size + 1, (.cells #[.slice A ss.length c] 100)), (w.heap.size, (lookBox m R L (.slice A3 ps.length c3) MV))]) (by simp))
  obtain ⟨PI, hPI⟩ : ∃ f : Int → Bool, f = (fun u : Int => decide (alo ≤ farT m xp u)) := ⟨_, rfl⟩
  obtain ⟨PO, hPO⟩ : ∃ f : Int → Bool, f = fun t => seenB ss t && (minsL (max llo (t + xp.olo)) (min lhi (t + xp.ohi))).any PI := ⟨_, rfl⟩
  have HPI := Lib.hid hPI
  have HPO := Lib.hid hPO
  have HPB : Hid (perB m xp ss llo lhi alo = (minsL (llo - xp.ohi) (lhi - xp.olo)).any PO) := Lib.hid (by rw [hPO, hPI]; rfl)
  clear hPI hPO
  obtain ⟨b, off, hA, hc1, hc2, q0, q1, q2, q3⟩ := prt_cells h3 hx
  unfold maxLen at hc2
  have hjl : j < ps.length := (List.getElem?_eq_some_iff.1 hx).1
  subst hA
  have HP : Hid (Prts w (.slice (some ⟨b, off, none⟩) ps.length c3) ps ∧ ps[j]? = some xp) := Lib.hid ⟨h3, hx⟩
  obtain ⟨y0, y1, y2, y3⟩ := prt_at HP.out HR5.out.b
  clear h3 hx hS hs q0 q1 q2 q3
  refine (callsIn_wide (n := 4)).1 ?_
  refine callsIn_of_wp_marks Tryz.func102 rfl trivial ?_ rfl
  simp only [Tryz.ntmps102, List.size_toArray, List.length_cons, List.length_nil, Nat.reduceAdd, Nat.reduceSub, Array.replicate_succ, Array.replicate_zero, List.push_toArray, List.append_toArray, List.nil_append, List.cons_append]
  gi_wp2
  refine wpIn_scope7 (fun _ _ _ h => h) ?_
  gi_wp2
  refine wpIn_label ?_
  gi_wp2_with (first | (refine ⟨trivial, ?_⟩; gi_at_call 118; refine (callsIn_wide.2 (looks_any (Rws.below H3.out HR6.out.b (Nat.le_refl _)) HQX.out hxp hlb)).mono ?_; rintro e w1 ⟨rfl, hb1⟩; have hbq := Lib.hid hb1; clear hb1) | (refine ⟨trivial, ?_⟩; gi_at_call 115; refine (callsIn_wide.2 (minutes_any _ _ _)).mono ?_; rintro e w2 ⟨rfl, rfl⟩))
  have hW6 : ((((((w.alloc (lookBox m R L (.slice (some ⟨b, off, none⟩) ps.length c3) MV)).alloc (.cells #[.slice A ss.length c] 100)).alloc (.cells #[.int .i64 j] 3)).alloc (.cells #[.int .i64 llo, .int .i64 lhi, .int .i64 alo, .int .i64 ahi] 63)).alloc (.cells #[.bool false] 4)).alloc (.cells #[.int .i64 xp.olo, .int .i64 xp.ohi] 56)).heap.size = w.heap.size + 1 + 1 + 1 + 1 + 1 + 1 := by simp
  have hBs := hbq.out.size
  have HFa := Lib.hid (HR6.out.below hbq.out)
  have HF0 := Lib.hid (HFa.out.alloc (.cells #[.int .i64 (llo - xp.ohi), .int .i64 (lhi - xp.olo)] 56))
  have kB : (w1.alloc (.cells #[.int .i64 (llo - xp.ohi), .int .i64 (lhi - xp.olo)] 56)).heap[w1.heap.size]? = some (.cells #[.int .i64 (llo - xp.ohi), .int .i64 (lhi - xp.olo)] 56) := heap_new _ _ rfl
  have hz0 : (w1.alloc (.cells #[.int .i64 (llo - xp.ohi), .int .i64 (lhi - xp.olo)] 56)).heap.size = w1.heap.size + 1 := by simp
  have hBl : w.heap.size + 1 + 1 + 1 + 1 + 1 + 1 ≤ w1.heap.size := by omega
  clear y0 y1 y2 y3 HR5 HFa hBs hW6
  obtain ⟨B, hB⟩ : ∃ B, w1.heap.size = B := ⟨_, rfl⟩
  rw [hB] at kB hz0 hBl
  generalize w1.alloc (.cells #[.int .i64 (llo - xp.ohi), .int .i64 (lhi - xp.olo)] 56) = V1 at *
  rw [hB]
  have hz1 : V1.heap.size ≤ B + 1 := by omega
  have hz2 : B + 1 ≤ V1.heap.size := by omega
  clear hz0 hbq HR6 hB
  refine wpIn_gen ?_
  intro A0 hA0
  refine wpIn_rangeFunc_ownH rfl (by omega) (gf := 127) (lb := #[.pointer (some ⟨B, 0, none⟩)]) (by subst hA0; rfl) trivial (enters_of Tryz.func127 (by kernel_rfl) rfl)
    (encs := fun x : Mn (llo - xp.ohi) (lhi - xp.olo) => #[.int .i64 x.1]) (Kp := Below (B + 1)) (S := fun ys => ys.map Subtype.val = minsL (llo - xp.ohi) (lhi - xp.olo)) (Sp := fun _ => True) (N := 3000000) (w0 := V1)
    (fun l J Jx W hW hJ _ hY hJ0 => mins2_in 3 (by omega) (llo - xp.ohi) (lhi - xp.olo) (by omega) (by omega) (by omega) (by omega) l B (B + 1) (by omega) J Jx W (by have := hW.size; omega) hY ((hW.block _ (by omega)).trans kB) hJ0)
    (fun h k => h.trans k) ?kb (Below.refl _ _) (fun _ => rfl)
    (fun pre X => NoneP PO pre ∧ Frm w [(w.heap.size + 1 + 1 + 1 + 1 + 1, (.cells #[.int .i64 xp.olo, .int .i64 xp.ohi] 56)), (w.heap.size + 1 + 1 + 1 + 1, (.cells #[.bool false] 4)), (w.heap.size + 1 + 1 + 1, (.cells #[.int .i64 llo, .int .i64 lhi, .int .i64 alo, .int .i64 ahi] 63)), (w.heap.size + 1 + 1, (.cells #[.int .i64 j] 3)), (w.heap.size + 1, (.cells #[.slice A ss.length c] 100)), (w.heap.size, (lookBox m R L (.slice (some ⟨b, off, none⟩) ps.length c3) MV))] X)
    (fun co pre X => co = .exit 0 ∧ SomeP PO pre ∧ X.heap[w.heap.size + 1 + 1 + 1 + 1]? = some (.cells #[.bool true] 4) ∧ Below w.heap.size w X)
    ?hI ?hIx ⟨⟨by simp⟩, HF0.out⟩
    (fun t a' X => a' = { tmps := (A0.tmps.setIfInBounds 26 (.int .i64 t.1)).setIfInBounds 11 (.int .i64 t.1), defers := [] })
    (fun _ _ _ _ _ _ h _ _ => h) ?assign ?body ?done ?stop
  case kb => exact fun W l o o' h1 h2 h3 h4 => belowK_b (w := V1) (by omega) W l o o' h1 h2 h3 h4
  case hI =>
    rintro pre X Y row ⟨hp, hF⟩ hg hr
    exact ⟨hp, hF.grownR hg (fun k hk => by have := (hr k hk).1; omega) (fun p hp e => by
      have h1 := (hr _ e.symm).1
      simp only [List.mem_cons, List.not_mem_nil, or_false] at hp
      rcases hp with rfl | rfl | rfl | rfl | rfl | rfl <;> simp only at h1 <;> omega)⟩
  case hIx =>
    rintro co pre X Y row ⟨rfl, hp, q, hb⟩ hg hr
    exact ⟨rfl, hp, (hg.block _ (lt_of_blk q) (fun e => by have := (hr _ e.symm).1; omega)).trans q, hb.grown hg hb.size (fun k hk => by have := (hr k hk).1; omega)⟩
  case assign =>
    subst hA0
    rintro l pre x W K ⟨hp, hF⟩ hK
    gi_wp2
    exact hK _ _ (KeepsFrom.refl _ _) (Below.refl _ _) ⟨hp, hF⟩ rfl
  case body =>
    rintro l pre ⟨t, ht⟩ a' X hl ⟨r, hr⟩ ⟨hp, hF⟩ hA hlt
    subst hA0
    dsimp only at hA
    simp only [List.setIfInBounds_toArray, List.set_cons_zero, List.set_cons_succ] at hA
    subst hA
    have x0 := hF.cells mZ
    have x1 := hF.cells (mS mZ)
    have x2 := hF.cells (mS (mS mZ))
    have x3 := hF.cells (mS (mS (mS mZ)))
    have x4 := hF.cells (mS (mS (mS (mS mZ))))
    have x5 := hF.cells (mS (mS (mS (mS (mS mZ)))))
    have HF := Lib.hid hF
    have hXz : B + 1 ≤ X.heap.size := by have := lt_of_blk hr; omega
    have HRr := Lib.hid hr
    have HSX := Lib.hid (HS.out.below hF.b (Nat.le_refl _))
    have hsX : Hid (∀ b off, A = some ⟨b, off, none⟩ → b < X.heap.size) := Lib.hid fun b off h => Nat.lt_of_lt_of_le (HSA.out b off h) hF.b.size
    clear hF hr kB HF0
    cases hq : seenB ss t
    · have Hq := Lib.hid hq
      have HAT := Lib.hid (at_any t A c ss X hsl HSX.out hsX.out)
      rw [hq] at HAT
      clear hq
      gi_wp2_with (refine ⟨trivial, ?_⟩; gi_at_call 73; refine (CallsIn.inRound l (callsIn_wide.2 HAT.out)).mono ?_; rintro e w2 ⟨rfl, hb2⟩)
      refine ⟨keeps_of_below hb2, hb2.mono hXz, ⟨fun y hy => ?_⟩, HF.out.below hb2⟩
      rcases List.mem_append.1 hy with h | h
      · exact hp.out y h
      · obtain rfl : y = ⟨t, ht⟩ := by simpa using h
        rw [HPO.out]
        simp only [Hq.out, Bool.false_and]
    · have Hq := Lib.hid hq
      have HAT := Lib.hid (at_any t A c ss X hsl HSX.out hsX.out)
      rw [hq] at HAT
      have HVT := Lib.hid ht
      have e1 : IntKind.i64.wrap (t + xp.olo) = t + xp.olo := IntWalk.i64_in _ (by omega)
      have e2 : IntKind.i64.wrap (t + xp.ohi) = t + xp.ohi := IntWalk.i64_in _ (by omega)
      have hm1 := fun w => run_max Tryz.prog #[3, 3] 3 llo (t + xp.olo) w
      have hm2 := fun w => run_min Tryz.prog #[3, 3] 3 lhi (t + xp.ohi) w
      clear hq
      gi_wp2_with (first | (refine ⟨trivial, ?_⟩; gi_at_call 73; refine (CallsIn.inRound l (callsIn_wide.2 HAT.out)).mono ?_; rintro e w2 ⟨rfl, hb2⟩; have HF2 := Lib.hid (HF.out.below hb2); have HB2 := Lib.hid hb2; clear x0 x1 x2 x3 x4 x5 hb2; have x0 := HF2.out.cells mZ; have x2 := HF2.out.cells (mS (mS mZ))) | (refine ⟨trivial, ?_⟩; gi_at_call 115; refine (CallsIn.inRound l (callsIn_wide.2 (minutes_any _ _ _))).mono ?_; rintro e w3 ⟨rfl, rfl⟩))
      clear e1 e2 hm1 hm2 x0 x2
      have HFU := Lib.hid ((HF2.out.alloc (.cells #[.int .i64 (max llo (t + xp.olo)), .int .i64 (min lhi (t + xp.ohi))] 56)).alloc (.cells #[.int .i64 (max llo (t + xp.olo)), .int .i64 (min lhi (t + xp.ohi))] 56))
      have kU : ((w2.alloc (.cells #[.int .i64 (max llo (t + xp.olo)), .int .i64 (min lhi (t + xp.ohi))] 56)).alloc (.cells #[.int .i64 (max llo (t + xp.olo)), .int .i64 (min lhi (t + xp.ohi))] 56)).heap[w2.heap.size + 1]? = some (.cells #[.int .i64 (max llo (t + xp.olo)), .int .i64 (min lhi (t + xp.ohi))] 56) := heap_new _ _ (by simp)
      have hzU : ((w2.alloc (.cells #[.int .i64 (max llo (t + xp.olo)), .int .i64 (min lhi (t + xp.ohi))] 56)).alloc (.cells #[.int .i64 (max llo (t + xp.olo)), .int .i64 (min lhi (t + xp.ohi))] 56)).heap.size = w2.heap.size + 2 := by simp
      have hw2 := HB2.out.size
      have HBU := Lib.hid ((HB2.out.alloc hw2 (.cells #[.int .i64 (max llo (t + xp.olo)), .int .i64 (min lhi (t + xp.ohi))] 56)).alloc (by simp; omega) (.cells #[.int .i64 (max llo (t + xp.olo)), .int .i64 (min lhi (t + xp.ohi))] 56))
      have HRU := Lib.hid (blk_below HRr.out HBU.out)
      clear HF2 HB2
      generalize ((w2.alloc (.cells #[.int .i64 (max llo (t + xp.olo)), .int .i64 (min lhi (t + xp.ohi))] 56)).alloc (.cells #[.int .i64 (max llo (t + xp.olo)), .int .i64 (min lhi (t + xp.ohi))] 56)) = U at *
      have hzU1 : U.heap.size ≤ w2.heap.size + 2 := by omega
      have hzU2 : w2.heap.size + 2 ≤ U.heap.size := by omega
      clear hzU
      refine wpIn_gen ?_
      intro A1 hA1
      refine wpIn_rangeFunc_ownN (l₀ := l) rfl HRU.out (by omega) (gf := 127) (lb := #[.pointer (some ⟨w2.heap.size + 1, 0, none⟩)]) (by subst hA1; rfl) trivial (enters_of Tryz.func127 (by kernel_rfl) rfl)
        (encs := fun x : Mn (max llo (t + xp.olo)) (min lhi (t + xp.ohi)) => #[.int .i64 x.1]) (Kp := Below (w2.heap.size + 2)) (S := fun ys => ys.map Subtype.val = minsL (max llo (t + xp.olo)) (min lhi (t + xp.ohi))) (Sp := fun _ => True) (N := 3000000) (w0 := U)
        (SeqStopsK.inRound l (fun l2 J Jx W hW hJ _ hY hJ0 => mins2_in 1 (by omega) (max llo (t + xp.olo)) (min lhi (t + xp.ohi)) (by omega) (by omega) (by omega) (by omega) l2 (w2.heap.size + 1) (w2.heap.size + 2) (by omega) J Jx W (by have := hW.size; omega) hY ((hW.block _ (by omega)).trans kU) hJ0))
        (fun h k => h.trans k) ?kb2 (Below.refl _ _) (fun _ => rfl)
        (fun pre Y => NoneP PI pre ∧ Frm w [(w.heap.size + 1 + 1 + 1 + 1 + 1, (.cells #[.int .i64 xp.olo, .int .i64 xp.ohi] 56)), (w.heap.size + 1 + 1 + 1 + 1, (.cells #[.bool false] 4)), (w.heap.size + 1 + 1 + 1, (.cells #[.int .i64 llo, .int .i64 lhi, .int .i64 alo, .int .i64 ahi] 63)), (w.heap.size + 1 + 1, (.cells #[.int .i64 j] 3)), (w.heap.size + 1, (.cells #[.slice A ss.length c] 100)), (w.heap.size, (lookBox m R L (.slice (some ⟨b, off, none⟩) ps.length c3) MV))] Y ∧ Below X.heap.size X Y)
        (fun co pre Y => co = .exit 0 ∧ SomeP PI pre ∧ Y.heap[w.heap.size + 1 + 1 + 1 + 1]? = some (.cells #[.bool true] 4) ∧ Below w.heap.size w Y ∧ KeepsFrom V1.heap.size X Y)
        ?hI2 ?hIx2 ⟨⟨by simp⟩, HFU.out, HBU.out⟩
        (fun u a' Y => a' = { tmps := (A1.tmps.setIfInBounds 50 (.int .i64 u.1)).setIfInBounds 13 (.int .i64 u.1), defers := [] })
        (fun _ _ _ _ _ _ h _ _ => h) ?assign2 ?body2 ?done2 ?stop2
      case kb2 => exact fun W l o o' h1 h2 h3 h4 => belowK_b (w := U) (by omega) W l o o' h1 h2 h3 h4
      case hI2 =>
        rintro pre Y Z row ⟨hp2, hF2, hb2⟩ hg hr
        have hlt6 := HF.out.lt mZ
        exact ⟨hp2, hF2.grownR hg (fun k hk => by have := (hr k hk).1; omega) (fun p hp e => by
          have h1 := (hr _ e.symm).1
          simp only [List.mem_cons, List.not_mem_nil, or_false] at hp
          rcases hp with rfl | rfl | rfl | rfl | rfl | rfl <;> simp only at h1 <;> omega), hb2.grown hg hb2.size (fun k hk => by have := (hr k hk).1; omega)⟩
      case hIx2 =>
        rintro co pre Y Z row ⟨rfl, hp2, q, hb2, hk2⟩ hg hr
        have hlt6 := HF.out.lt mZ
        exact ⟨rfl, hp2, (hg.block _ (lt_of_blk q) (fun e => by have := (hr _ e.symm).1; omega)).trans q, hb2.grown hg hb2.size (fun k hk => by have := (hr k hk).1; omega), ownFrom_keepsFrom (β := Unit) (w₀ := X) (by omega) () Y Z row hk2 hg hr⟩
      case assign2 =>
        subst hA1
        rintro l2 pre x W K ⟨hp2, hF2, hb2⟩ hK
        gi_wp2
        exact hK _ _ (KeepsFrom.refl _ _) (Below.refl _ _) ⟨hp2, hF2, hb2⟩ rfl
      case body2 =>
        rintro l2 pre2 ⟨u, hu⟩ a' Y hl2 ⟨r2, hr2⟩ ⟨hp2, hFY, hbY⟩ hA hlt2
        change Code.wpIn (Fence.wide.inRound l2) _ _ _ _ _ _
        subst hA1
        dsimp only at hA
        simp only [List.setIfInBounds_toArray, List.set_cons_zero, List.set_cons_succ] at hA
        subst hA
        have hYU : U.heap.size ≤ Y.heap.size := by have := lt_of_blk hr2; omega
        have HRE : Hid (∀ V, Below Y.heap.size Y V → Calls Tryz.prog 74 #[lookV m R L (.slice (some ⟨b, off, none⟩) ps.length c3) MV, .int .i64 j, .int .i64 u] V fun e w' => e = .returned (.int .i64 (farT m xp u)) ∧ Below V.heap.size V w') := Lib.hid fun V hV => reach_gen (Rws.below H3.out (hFY.b.trans (hV.mono hFY.b.size)) (Nat.le_refl _)) HQX.out hd rfl
        have HR := Lib.hid (show RW Y Y.heap.size [(w.heap.size + 1 + 1 + 1, (.cells #[.int .i64 llo, .int .i64 lhi, .int .i64 alo, .int .i64 ahi] 63)), (w.heap.size + 1 + 1, (.cells #[.int .i64 j] 3)), (w.heap.size, (lookBox m R L (.slice (some ⟨b, off, none⟩) ps.length c3) MV))] [] Y from RW.start ⟨Below.refl _ _, by
          intro p hp
          simp only [List.mem_cons, List.not_mem_nil, or_false] at hp
          rcases hp with rfl | rfl | rfl
          · exact hFY.h _ (mS (mS mZ))
          · exact hFY.h _ (mS (mS (mS mZ)))
          · exact hFY.h _ (mS (mS (mS (mS (mS mZ)))))⟩)
        have HFY := Lib.hid hFY
        have HBY := Lib.hid hbY
        clear hFY hbY kU HFU HBU HRU hr2
        refine wpIn_block ?_
        refine wpIn_seq ?_
        refine wpIn_gen ?_
        intro A9 hA9
        refine wpIn_mono (Q := onlyN fun a1 X1 => ∃ v51 v52 v53 v54 v55 v56 v57, a1 = { tmps := ((((((((A9.tmps.setIfInBounds 51 v51).setIfInBounds 52 v52).setIfInBounds 53 v53).setIfInBounds 54 v54).setIfInBounds 55 v55).setIfInBounds 56 v56).setIfInBounds 57 v57).setIfInBounds 58 (.bool (decide (alo ≤ farT m xp u)))), defers := [] } ∧ Frm Y [(w.heap.size + 1 + 1 + 1, (.cells #[.int .i64 llo, .int .i64 lhi, .int .i64 alo, .int .i64 ahi] 63)), (w.heap.size + 1 + 1, (.cells #[.int .i64 j] 3)), (w.heap.size, (lookBox m R L (.slice (some ⟨b, off, none⟩) ps.length c3) MV))] X1) ?reg9 ?aft9
        case reg9 =>
          subst hA9
          refine hx_start [(2, fun w' : World => ∀ o, w'.cell? ⟨w.heap.size + 1 + 1 + 1, o, none⟩ = #[Value.int .i64 llo, .int .i64 lhi, .int .i64 alo, .int .i64 ahi][o]?), (3, fun w' : World => ∀ o, w'.cell? ⟨w.heap.size, o, none⟩ = #[Value.int .i64 m.n, R, L, (.slice (some ⟨b, off, none⟩) ps.length c3), .int .i64 m.fall, .int .i64 m.win, .int .i64 m.hold, .int .i64 m.dawn, .int .i64 m.dusk, MV][o]?), (4, fun w' : World => ∀ o, w'.cell? ⟨w.heap.size + 1 + 1, o, none⟩ = #[Value.int .i64 j][o]?)] (by kernel_rfl) (fM ⟨HR.out.drew.frm.cells mZ, fM ⟨HR.out.drew.frm.cells (mS (mS mZ)), fM ⟨HR.out.drew.frm.cells (mS mZ), (by simp)⟩⟩⟩) ?_
          refine (fun (W1 : World) (hRn : RW Y _ [(w.heap.size + 1 + 1 + 1, (.cells #[.int .i64 llo, .int .i64 lhi, .int .i64 alo, .int .i64 ahi] 63)), (w.heap.size + 1 + 1, (.cells #[.int .i64 j] 3)), (w.heap.size, (lookBox m R L (.slice (some ⟨b, off, none⟩) ps.length c3) MV))] [] W1) (hzW1 : Hid (W1.heap.size = Y.heap.size)) => (?_ : HX _ _ _ _ _ _ _ _ W1)) _ HR.out.drew (Lib.hid rfl)
          clear HR
          have HR := Lib.hid hRn
          clear hRn
          refine hx_pure (i := 0) (oi := ⟨some 51, _, _, _, _, _⟩) (v := ?v2) rfl (by kernel_rfl) (by kernel_rfl) (by kernel_rfl) (by kernel_rfl) (fun _ _ _ h => h) rfl (by kernel_rfl) ?hv2 ?rv2
          case hv2 => (intro w; go_simp) <;> (with_reducible rfl)
          try simp only [Act.put, List.setIfInBounds_toArray, List.set_cons_zero, List.set_cons_succ]
          refine hx_pure (i := 1) (oi := ⟨some 52, _, _, _, _, _⟩) (v := ?v3) rfl (by kernel_rfl) (by kernel_rfl) (by kernel_rfl) (by kernel_rfl) (fun _ _ _ h => h) rfl (by kernel_rfl) ?hv3 ?rv3
          case hv3 => (intro w; go_simp) <;> (with_reducible rfl)
          try simp only [Act.put, List.setIfInBounds_toArray, List.set_cons_zero, List.set_cons_succ]
          refine hx_load (i := 2) (oi := ⟨some 53, _, _, _, _, _⟩) (v := ?v4) _ mZ rfl (by kernel_rfl) (by kernel_rfl) (by kernel_rfl) (by kernel_rfl) (fun _ _ _ h => h) rfl (by kernel_rfl) ?hv4 ?rv4
          case hv4 => (intro w hSw; (try dsimp only at hSw); go_simp) <;> (with_reducible rfl)
          try simp only [Act.put, List.setIfInBounds_toArray, List.set_cons_zero, List.set_cons_succ]
          refine hx_load (i := 3) (oi := ⟨some 54, _, _, _, _, _⟩) (v := ?v5) _ (mS mZ) rfl (by kernel_rfl) (by kernel_rfl) (by kernel_rfl) (by kernel_rfl) (fun _ _ _ h => h) rfl (by kernel_rfl) ?hv5 ?rv5
          case hv5 => (intro w hSw; (try dsimp only at hSw); go_simp) <;> (with_reducible rfl)
          try simp only [Act.put, List.setIfInBounds_toArray, List.set_cons_zero, List.set_cons_succ]
          refine hx_load (i := 4) (oi := ⟨some 55, _, _, _, _, _⟩) (v := ?v6) _ (mS (mS mZ)) rfl (by kernel_rfl) (by kernel_rfl) (by kernel_rfl) (by kernel_rfl) (fun _ _ _ h => h) rfl (by kernel_rfl) ?hv6 ?rv6
          case hv6 => (intro w hSw; (try dsimp only at hSw); go_simp) <;> (with_reducible rfl)
          try simp only [Act.put, List.setIfInBounds_toArray, List.set_cons_zero, List.set_cons_succ]
          refine hx_pure (i := 5) (oi := ⟨some 56, _, _, _, _, _⟩) (v := ?v7) rfl (by kernel_rfl) (by kernel_rfl) (by kernel_rfl) (by kernel_rfl) (fun _ _ _ h => h) rfl (by kernel_rfl) ?hv7 ?rv7
          case hv7 => (intro w; go_simp) <;> (with_reducible rfl)
          try simp only [Act.put, List.setIfInBounds_toArray, List.set_cons_zero, List.set_cons_succ]
          refine hx_ready (rs := [6]) (by kernel_rfl) (by simp) ?_
          refine AllHX.cons (i := 6) (o := ⟨some 57, _, _, _, _, _⟩) rfl rfl (by kernel_rfl) (fun K hK => ?s8) ?ms8
          case s8 =>
            (try go_simp)
            go_at_call 74
            refine (HRE.out _ HR.out.frm.b).mono ?_
            rintro e W9 ⟨rfl, hbd1⟩
            have hRn := HR.out.below hbd1
            have hzW9 : Hid (W1.heap.size ≤ W9.heap.size) := Lib.hid hbd1.size
            clear HR hbd1
            have HR := Lib.hid hRn
            clear hRn
            (try go_wp2_with fail)
            refine hK.out _ _ (fM ⟨.inr (HR.out.frm.cells mZ), fM ⟨.inl (by kernel_rfl), fM ⟨.inl (by kernel_rfl), (by simp)⟩⟩⟩) ?_
            try simp only [Act.put, List.setIfInBounds_toArray, List.set_cons_zero, List.set_cons_succ]
            refine hx_pure (i := 7) (oi := ⟨some 58, _, _, _, _, _⟩) (v := ?v10) rfl (by kernel_rfl) (by kernel_rfl) (by kernel_rfl) (by kernel_rfl) (fun _ _ _ h => h) rfl (by kernel_rfl) ?hv10 ?rv10
            case hv10 => (intro w; go_simp) <;> (with_reducible rfl)
            try simp only [Act.put, List.setIfInBounds_toArray, List.set_cons_zero, List.set_cons_succ]
            refine hx_done (by kernel_rfl) ?_
            exact ⟨_, _, _, _, _, _, _, rfl, (RW.less (bs' := [(w.heap.size + 1 + 1 + 1, (.cells #[.int .i64 llo, .int .i64 lhi, .int .i64 alo, .int .i64 ahi] 63)), (w.heap.size + 1 + 1, (.cells #[.int .i64 j] 3)), (w.heap.size, (lookBox m R L (.slice (some ⟨b, off, none⟩) ps.length c3) MV))]) HR.out (by simp only [List.forall_mem_cons, List.forall_mem_nil, and_true]; exact ⟨mZ, (mS mZ), (mS (mS mZ)), by simp⟩)).frm⟩
          exact AllHX.nil
        case aft9 =>
          rintro e a1 Y1 hO
          obtain ⟨rfl, v51, v52, v53, v54, v55, v56, v57, rfl, hF1⟩ := onlyN_is hO
          subst hA9
          simp only [List.setIfInBounds_toArray, List.set_cons_zero, List.set_cons_succ]
          have HB1 := Lib.hid hF1.b
          have HFZ := Lib.hid (HFY.out.below hF1.b)
          have HBZ := Lib.hid (HBY.out.trans (hF1.b.mono HBY.out.size))
          clear hF1 hO HR
          have HPu : Hid (PI u = decide (alo ≤ farT m xp u)) := Lib.hid (by rw [HPI.out])
          cases hq2 : decide (alo ≤ farT m xp u)
          · have Hq2 := Lib.hid (HPu.out.trans hq2)
            clear hq2
            gi_wp2
            refine ⟨keeps_of_below HB1.out, HB1.out.mono (by omega), ⟨fun y hy => ?_⟩, HFZ.out, HBZ.out⟩
            rcases List.mem_append.1 hy with h | h
            · exact hp2.out y h
            · obtain rfl : y = ⟨u, hu⟩ := by simpa using h
              exact Hq2.out
          · have Hq2 := Lib.hid (HPu.out.trans hq2)
            clear hq2
            have z4 := (boxCells (HFZ.out.h _ (mS mZ))).1
            have z4f := (boxCells (HFZ.out.h _ (mS mZ))).2
            have z4l := HFZ.out.lt (mS mZ)
            gi_wp2
            refine ⟨(keeps_of_below HB1.out).trans ((KeepsOthers.setCell _ _ _).from _), rfl, ⟨⟨u, hu⟩, by simp, Hq2.out⟩, heap_setCell_same (o := 0) (HFZ.out.h _ (mS mZ)) (.bool true), HFZ.out.b.setCell (p := ⟨w.heap.size + 1 + 1 + 1 + 1, 0, none⟩) (by show w.heap.size ≤ w.heap.size + 1 + 1 + 1 + 1; omega) _, (keeps_of_below HBZ.out).trans ((KeepsOthers.setCell _ _ _).from _)⟩
      case done2 =>
        rintro xs W hS2 ⟨hp2, hF2, hb2⟩
        refine ⟨keeps_of_below hb2, hb2.mono hXz, ⟨fun y hy => ?_⟩, hF2⟩
        rcases List.mem_append.1 hy with h | h
        · exact hp.out y h
        · obtain rfl : y = ⟨t, ht⟩ := by simpa using h
          rw [HPO.out]
          simp only [Hq.out, Bool.true_and]
          rw [List.any_eq_false]
          intro z hz
          rw [← hS2] at hz
          obtain ⟨z', hz', rfl⟩ := List.mem_map.1 hz
          rw [hp2.out z' hz']
          simp
      case stop2 =>
        rintro co pre2 W _ ⟨rfl, hp2, q, hb2, hk2⟩
        gi_wp2
        refine ⟨hk2, rfl, ⟨⟨t, ht⟩, by simp, ?_⟩, q, hb2⟩
        rw [HPO.out]
        simp only [Hq.out, Bool.true_and]
        obtain ⟨⟨u, hu⟩, _, hu2⟩ := hp2.out
        exact List.any_eq_true.2 ⟨u, minsL_mem.2 hu, hu2⟩
  case done =>
    rintro D ys W hD hS2 ⟨hp, hF⟩ hK
    subst hA0
    have x4 := (boxCells (hF.h _ (mS mZ))).1
    have HBw := Lib.hid hF.b
    have hlt6 := hF.lt mZ
    have HAg : Hid ((minsL (llo - xp.ohi) (lhi - xp.olo)).any PO = false) := Lib.hid (by
      rw [List.any_eq_false]
      intro z hz
      rw [← hS2] at hz
      obtain ⟨z', hz', rfl⟩ := List.mem_map.1 hz
      rw [hp.out z' hz']
      simp)
    have HK := Lib.hid hK
    clear hF hp hK hS2 kB HF0
    gi_wp2
    have hgf := grownBy_putObj' W D (.deferred none)
    refine ⟨by simp, .inl ⟨_, _, rfl, run_takeDeferred HK.out, .bool false, by simp [results, Tryz.results102, go_sem], by rw [HPB.out, HAg.out], HBw.out.grown hgf HBw.out.size (fun k hk => by cases hk; omega)⟩⟩
  case stop =>
    rintro D co pre W hD _ ⟨rfl, hp, q, hb⟩ hK
    subst hA0
    have x4 := (boxCells q).1
    have HBw := Lib.hid hb
    have HAg : Hid ((minsL (llo - xp.ohi) (lhi - xp.olo)).any PO = true) := Lib.hid (by
      obtain ⟨⟨u, hu⟩, _, hu2⟩ := hp.out
      exact List.any_eq_true.2 ⟨u, minsL_mem.2 hu, hu2⟩)
    have HK := Lib.hid hK
    clear hp hK q hb kB HF0
    gi_wp2
    have hgf := grownBy_putObj' W D (.deferred none)
    refine ⟨by simp, .inl ⟨_, _, rfl, run_takeDeferred HK.out, .bool true, by simp [results, Tryz.results102, go_sem], by rw [HPB.out, HAg.out], HBw.out.grown hgf HBw.out.size (fun k hk => by cases hk; omega)⟩⟩
end Go.Proofs.YtldimlnllmojiaaGreat
