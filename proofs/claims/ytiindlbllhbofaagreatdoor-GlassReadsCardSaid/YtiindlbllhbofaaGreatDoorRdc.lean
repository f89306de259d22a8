/- A text, read. -/
import Derived.Test.YtiindlbllhbofaaGreatDoorRdb
import Derived.Tactics
import Derived.Tactics2
import Derived.Defers
import Derived.Recover
import Derived.Laws.Pointers
import Derived.Deep.AppendLies
set_option linter.unusedVariables false
set_option linter.unusedSimpArgs false
namespace Go.Proofs.YtiindlbllhbofaaGreatDoor
open Go.RowKit Go.Maps
set_option maxHeartbeats 1000000 in
set_option maxRecDepth 100000 in
theorem catch_gave (L E : Nat) (x y : Value) (older : List PanicEntry) (w : World) (hL : w.heap[L]? = some (.cells #[x] 22)) (hE : w.heap[E]? = some (.cells #[y] 24)) (hne : L ≠ E) :
    CallsD Tryz.prog 50 #[.pointer (some ⟨L, 0, none⟩), .pointer (some ⟨E, 0, none⟩)] (.panicking ({ v := .iface 97 (.agg #[]), recovered := false } :: older)) w fun e u' w' =>
      e = .returned (.tuple #[]) ∧ u' = .panicking ({ v := .iface 97 (.agg #[]), recovered := true } :: older) ∧ w' = ((w.alloc (.cells #[] 97)).setCell ⟨L, 0, none⟩ (.slice none 0 0)).setCell ⟨E, 0, none⟩ (.int .i64 4) := by
  have kL := blk_alloc hL (.cells #[] 97)
  have kE := blk_alloc hE (.cells #[] 97)
  have kE2 : ((w.alloc (.cells #[] 97)).setCell ⟨L, 0, none⟩ (.slice none 0 0)).heap[E]? = some (.cells #[y] 24) := (Below.heap_setCell _ _ _ _ (Ne.symm hne)).trans kE
  have a0 := (boxCells kL).1 0
  have a1 := (boxCells kL).2 0
  have b0 := (boxCells kE2).1 0
  have b1 := (boxCells kE2).2 0
  simp at a0 b0
  clear hL hE kL kE kE2
  have hta : ∀ w : World, (Instr.typeAssert (.iface 97 (.agg #[])) 20 97 true).run Tryz.prog w = .ok (.tuple #[.agg #[], .bool true]) w := fun w => by kernel_rfl
  refine callsD_of_wpS Tryz.func50 rfl fun c₀ cs hu => ?_
  apply wpS_seq
  apply wpS_region
  simp [wpOpsS, go_sem, recoverD, hu, Tryz.ntmps50, Exit.thenS, hta]
  apply wpS_seq
  apply wpS_region
  simp [wpOpsS, go_sem, Exit.thenS]
  refine wpS_cond (t := true) (by simp [Act.eval, Array.replicate]) ?_
  simp only [if_true]
  apply wpS_region
  simp [wpOpsS, go_sem, a0, a1, b0, b1, bodyPostS, results, Tryz.results50]
set_option maxHeartbeats 1000000 in
set_option maxRecDepth 100000 in
theorem catch_idle (L E : Nat) (w : World) :
    CallsD Tryz.prog 50 #[.pointer (some ⟨L, 0, none⟩), .pointer (some ⟨E, 0, none⟩)] .returning w fun e u' w' => e = .returned (.tuple #[]) ∧ u' = .returning ∧ w' = w.alloc (.cells #[] 97) := by
  have hta : ∀ w : World, (Instr.typeAssert .nilIface 20 97 true).run Tryz.prog w = .ok (.tuple #[.agg #[], .bool false]) w := fun w => by kernel_rfl
  refine callsD_of_wpS Tryz.func50 rfl fun c₀ cs hu => ?_
  apply wpS_seq
  apply wpS_region
  simp [wpOpsS, go_sem, recoverD, hu, Tryz.ntmps50, Exit.thenS, hta]
  apply wpS_seq
  apply wpS_region
  simp [wpOpsS, go_sem, Exit.thenS]
  refine wpS_cond (t := false) (by simp [Act.eval, Array.replicate]) ?_
  simp only [Bool.false_eq_true, if_false]
  refine wpS_of_wp (wp_skip ?_)
  cases c₀
  simp_all [bodyPostS, results, Tryz.results50]

open Go.RowKit Go.Maps
def rdL (r : Rdg) : List Value := [.int .i64 r.day, .int .i64 r.mi, .int .i64 r.cl, .int .i64 r.me, .int .i64 r.al, .int .i64 r.ah, .int .i64 r.dl, .int .i64 r.dh, .int .i64 r.wl, .int .i64 r.wh]
def rdsL : List Rdg → List Value
  | [] => []
  | r :: l => rdL r ++ rdsL l
theorem rdsL_len : ∀ rs : List Rdg, (rdsL rs).length = rs.length * 10
  | [] => rfl
  | r :: l => by simp only [rdsL, rdL, List.length_append, List.length_cons, List.length_nil, rdsL_len l]; omega
theorem rdsL_add (rs : List Rdg) (r : Rdg) : rdsL (rs ++ [r]) = rdsL rs ++ rdL r := by
  induction rs with
  | nil => simp [rdsL]
  | cons x l ih => simp only [List.cons_append, rdsL, ih, List.append_assoc]
theorem rdsL_at : ∀ (rs : List Rdg) (i k : Nat) (r : Rdg) (v : Value), rs[i]? = some r → (rdL r)[k]? = some v → (rdsL rs)[i * 10 + k]? = some v
  | [], i, k, r, v, h, _ => by simp at h
  | x :: l, 0, k, r, v, h, hk => by
    obtain rfl : x = r := by simpa using h
    have hlt : k < (rdL x).length := (List.getElem?_eq_some_iff.1 hk).1
    rw [rdsL, List.getElem?_append_left (by omega), show 0 * 10 + k = k by omega]
    exact hk
  | x :: l, i + 1, k, r, v, h, hk => by
    have q := rdsL_at l i k r v (by simpa using h) hk
    rw [rdsL, List.getElem?_append_right (by simp [rdL]; omega)]
    rw [show (i + 1) * 10 + k - (rdL x).length = i * 10 + k by simp [rdL]; omega]
    exact q
theorem rdL_one {r : Rdg} : ∀ u ∈ rdL r, u.oneCell' = true := fun u hu => by
  simp only [rdL, List.mem_cons, List.not_mem_nil, or_false] at hu
  rcases hu with rfl | rfl | rfl | rfl | rfl | rfl | rfl | rfl | rfl | rfl <;> rfl
@[reducible] def OwnR (w : World) (base : Nat) (v : Value) (rs : List Rdg) : Prop := w.ownsRow base 51 10 v rs.length (rdsL rs)
theorem Tryz.infoRdg : (Tryz.prog.info? 51).map (fun i => (i.zero, i.size, i.bytes)) = some (some (.agg #[.int .i64 0, .int .i64 0, .int .i64 0, .int .i64 0, .int .i64 0, .int .i64 0, .int .i64 0, .int .i64 0, .int .i64 0, .int .i64 0]), 10, 80) := by kernel_rfl
theorem info_parts10 {o : Option TypeInfo} {z : Value} {a b : Nat} (h : o.map (fun i => (i.zero, i.size, i.bytes)) = some (some z, a, b)) : ∃ i, o = some i ∧ i.zero = some z ∧ i.size = a ∧ i.bytes = b := by
  cases o with
  | none => cases h
  | some i =>
    simp only [Option.map_some, Option.some.injEq, Prod.mk.injEq] at h
    exact ⟨i, rfl, h.1, h.2.1, h.2.2⟩
section
variable {w : World} {o : Oper} {a : Act} {K : Act → World → Prop} {Q : Exit → Act → World → Prop}
theorem wp_rd (s x : Operand) (ho : o.op = .call { callee := .builtin .append, args := #[s, x], argTypes := #[22, 22] })
    {base N : Nat} {v : Value} {rs : List Rdg} {r : Rdg} (hs : a.eval s = v) (hown : OwnR w base v rs) (hx : a.eval x = .slice (some ⟨N, 0, none⟩) 1 1) (hN : w.heap[N]? = some (rdBox r)) (hl : rs.length ≤ 4000) (hbase : base ≤ w.heap.size)
    (h : ∀ g cap w', OwnR w' base (.slice (some ⟨g, 0, none⟩) (rs.length + 1) cap) (rs ++ [r]) → w.grownBy w' v.ownBlock → (v.ownBlock = some g ∨ g = w.heap.size) → g < w'.heap.size → K (a.put o.dst (.slice (some ⟨g, 0, none⟩) (rs.length + 1) cap)) w') : o.wp Tryz.prog a w K Q := by
  obtain ⟨i0, hi0, hz0, hz1, hz2⟩ := info_parts10 Tryz.infoRdg
  obtain ⟨hc, _⟩ := boxCells hN
  refine wp_append_lies w s x _ ho base 51 i0 _ 10 80 Tryz.underlying22 hi0 hz0 hz1 hz2 rfl (by omega) v rs.length (rdsL rs) hs hown ⟨N, 0, none⟩ 1 1 (rdL r) hx rfl (fun j u hj => ?_) rdL_one (by omega) (by unfold maxLen; omega) (by omega) hbase _ rfl ?_
  · rw [Go.WideShapes.add_plain, Nat.zero_add, hc j]
    simpa [rdL] using hj
  · intro g cap w1 hown1 hgrow hat hlt
    rw [← rdsL_add] at hown1
    exact h g cap w1 (by show w1.ownsRow _ _ _ _ (rs ++ [r]).length _; rw [List.length_append]; exact hown1) hgrow hat hlt
variable {ops : Array Oper} {E : Prop}
theorem step_rd (hgd : o.guard = none) (h : Oper.wp Tryz.prog o a w K Q) : if Region.wanted o (yielded ops a.tmps) = true then Oper.wp Tryz.prog o a w K Q else E := by
  have hw : Region.wanted o (yielded ops a.tmps) = true := by simp [Region.wanted, hgd]
  rw [if_pos hw]
  exact h
end
set_option maxRecDepth 100000 in
set_option maxHeartbeats 1000000 in
theorem wp_reading {o : Oper} {a : Act} {w : World} {K : Act → World → Prop} {Q : Exit → Act → World → Prop} {x : Operand} {tys : Array TypeId} (ho : o.op = .call { callee := .value (.func 54), args := #[x], argTypes := tys }) {val : Value} (hx : a.eval x = val) {R : Ending → World → Prop} (hc : Calls Tryz.prog 54 #[val] w R)
    (h : ∀ v w', R (.returned v) w' → K (a.put o.dst v) w') (hp : ∀ ch w', R (.panicked ch) w' → Q (Exit.panic ch) a w') (hog : ∀ w', ¬ R .outgrown w') : o.wp Tryz.prog a w K Q := by
  have hcf : (callFunc 54 #[val]).run Tryz.prog w = .ok (.enter 54 #[val]) w := by kernel_rfl
  have e : o.wp Tryz.prog a w K Q = o.upon Tryz.prog a K Q (.ok (.enter 54 #[val]) w) := by
    unfold Oper.wp execOp
    simp only [ho, resolve, invoke, Act.eval, Sem.run_bind, Sem.run_pure, Result.andThen_ok, List.map_toArray, List.map_cons, List.map_nil]
    have hx' := hx
    unfold Act.eval at hx'
    rw [hx']
    rw [← hcf]
    rfl
  rw [e, Oper.upon_enter]
  refine hc.mono ?_
  intro e w' hr
  cases e with
  | returned v => exact h v w' hr
  | panicked ch => exact hp ch w' hr
  | outgrown => exact absurd hr (hog _)
theorem own_rds {w : World} {base : Nat} {v : Value} {rs : List Rdg} (h : OwnR w base v rs) : Rdgs w v rs := by
  rcases h.2 with ⟨hv, hz⟩ | ⟨g, cap, cur, hv, hb0, hg, h1, h2, h3, h4⟩
  · obtain rfl : rs = [] := List.length_eq_zero_iff.1 hz
    exact ⟨none, 0, hv, by simp, by unfold maxLen; omega, .inl rfl⟩
  · refine ⟨_, cap, hv, h1, h2, .inr ⟨g, 0, rfl, (Array.getElem?_eq_some_iff.1 hg).1, fun i r hi => ?_⟩⟩
    have hil := (List.getElem?_eq_some_iff.1 hi).1
    have hc := (boxCells hg).1
    have key : ∀ k u, (rdL r)[k]? = some u → w.cell? ⟨g, 0 + i * 10 + k, none⟩ = some u := fun k u hk => by
      have hk10 : k < 10 := (List.getElem?_eq_some_iff.1 hk).1
      have q := rdsL_at rs i k r u hi hk
      rw [← h4, List.getElem?_take] at q
      rw [if_pos (by omega)] at q
      rw [hc, Nat.zero_add]
      simpa using q
    exact ⟨key 0 _ rfl, key 1 _ rfl, key 2 _ rfl, key 3 _ rfl, key 4 _ rfl, key 5 _ rfl, key 6 _ rfl, key 7 _ rfl, key 8 _ rfl, key 9 _ rfl⟩
theorem own_shape {w : World} {base : Nat} {v : Value} {rs : List Rdg} (h : OwnR w base v rs) : ∃ A n c, v = .slice A n c := by
  rcases h.2 with ⟨hv, hz⟩ | ⟨g, cap, cur, hv, -⟩
  · exact ⟨_, _, _, hv⟩
  · exact ⟨_, _, _, hv⟩
theorem OwnR.below {w w' : World} {base : Nat} {v : Value} {rs : List Rdg} (h : OwnR w base v rs) (hb : Below w.heap.size w w') : OwnR w' base v rs :=
  h.kept (row := none) ⟨hb.os, hb.tape, hb.output, hb.size, fun k hk _ => hb.block k hk⟩ (by cases v.ownBlock <;> simp)

open Go.RowKit Go.Maps
def AllPr (rs : List Rdg) : Prop := ∀ r ∈ rs, PrR r
def IsText (text : List UInt8) : Prop := ∃ l, AllPr l ∧ text = textF l
theorem feed_end (l : List UInt8) : 10 ∈ endF l := by simp [endF]
theorem not_cut {text left : List UInt8} {rs : List Rdg} (ha : AllPr rs) (ht : text = linesF rs ++ left) (h : 10 ∉ left) : ¬ IsText text := by
  rintro ⟨l, hl, e⟩
  obtain ⟨l', -, q⟩ := text_split rs l left _ ha hl (end_head (linesF l)) (ht ▸ e)
  exact h (by rw [q]; exact List.mem_append_right _ (feed_end _))
theorem not_row {text u rest : List UInt8} {rs : List Rdg} (ha : AllPr rs) (ht : text = linesF rs ++ (u ++ 10 :: rest)) (hu : 10 ∉ u) (hp : Lib.hasPrefix (u ++ 10 :: rest) [101, 110, 100] = false) (h : ¬ ∃ r, PrR r ∧ u = rowF r) : ¬ IsText text := by
  rintro ⟨l, hl, e⟩
  obtain ⟨l', e1, q⟩ := text_split rs l _ _ ha hl (end_head (linesF l)) (ht ▸ e)
  cases l' with
  | nil =>
    rw [show linesF [] = [] from rfl, List.nil_append] at q
    rw [q, end_head] at hp; cases hp
  | cons t l' =>
    rw [lines_cons, lineF_row, List.append_assoc, List.append_assoc, List.singleton_append] at q
    have e := congrArg (fun l => Lib.cut l [10]) q
    rw [cut_at 10 _ _ hu, cut_at 10 _ _ (row_feed t)] at e
    simp only [Prod.mk.injEq, and_true] at e
    exact h ⟨t, hl t (by rw [e1]; simp), e.1⟩
theorem not_end {text left : List UInt8} {rs : List Rdg} (ha : AllPr rs) (ht : text = linesF rs ++ left) (hp : Lib.hasPrefix left [101, 110, 100] = true) (h : left ≠ endF (linesF rs)) : ¬ IsText text := by
  rintro ⟨l, hl, e⟩
  obtain ⟨l', e1, q⟩ := text_split rs l left _ ha hl (end_head (linesF l)) (ht ▸ e)
  cases l' with
  | nil =>
    rw [List.append_nil] at e1
    rw [e1, show linesF [] = [] from rfl, List.nil_append] at q
    exact h q
  | cons t l' =>
    rw [q, lines_cons, List.append_assoc, row_head] at hp; cases hp
theorem reading_ok {r : Rdg} {w : World} {m : Int} (hr : PrR r) (hm : MxL w m) (hl : (rowF r).length < 4000000000) :
    Calls Tryz.prog 54 #[str (rowF r)] w fun e w' => e = .returned (rdV r) ∧ Below w.heap.size w w' := by
  refine (reading_any hm hm.1 hl).mono ?_
  rintro e w' ⟨hb, ⟨t, ht, h, rfl⟩ | ⟨hno, -⟩⟩
  · obtain rfl := row_inj hr ht h
    exact ⟨rfl, hb⟩
  · exact absurd ⟨r, hr, rfl⟩ hno
theorem reading_bad {row : List UInt8} {w : World} {m : Int} (h : ¬ ∃ r, PrR r ∧ row = rowF r) (hm : MxL w m) (hl : row.length < 4000000000) :
    Calls Tryz.prog 54 #[str row] w fun e w' => e = gaveUp ∧ Below w.heap.size w w' := by
  refine (reading_any hm hm.1 hl).mono ?_
  rintro e w' ⟨hb, ⟨t, ht, h', rfl⟩ | ⟨hno, rfl⟩⟩
  · exact absurd ⟨t, ht, h'⟩ h
  · exact ⟨rfl, hb⟩
theorem lines_ge (rs : List Rdg) : rs.length ≤ (linesF rs).length := by
  induction rs with
  | nil => simp [linesF]
  | cons r rs ih =>
    rw [lines_cons, List.length_append, List.length_cons, lineF_row, List.length_append, List.length_singleton]
    omega
theorem below_dn {B : Nat} {a w : World} (h : Below B a w) (n : Nat) : Below B a (w.drewN n) := ⟨h.os, h.tape, h.output, h.size, h.block⟩
theorem wp_calm {P : Program} {c : Code} {Q : Exit → Act → World → Prop} {a : Act} {w : World} (h : c.wp P (fun e a' w' => match e with | .panic _ => False | e => Q e a' w') a w) : c.wp P Q a w :=
  Code.wp_mono (fun e a' w' h => by cases e <;> first | exact h | exact absurd h id) h
theorem MxL.dn {w : World} {m : Int} (h : MxL w m) (n : Nat) : MxL (w.drewN n) m := h.below (below_dn (Below.refl _ _) n)
theorem MxL.drew0 {w : World} {m : Int} (h : MxL w m) : MxL w.drew m := h
theorem Frm.below0 {w W : World} {bs : List (Nat × Obj)} (h : Frm w bs W) : Below w.heap.size w W := h.b
def strLen : Value → Nat
  | .string s => s.size
  | _ => 0
/-- What the reading of a text returns. -/
def TextPost (w : World) (text : List UInt8) (e : Ending) (w' : World) : Prop :=
  Below w.heap.size w w' ∧ ((∃ rs v, AllPr rs ∧ text = textF rs ∧ e = .returned (.tuple #[v, .int .i64 0]) ∧ Rdgs w' v rs) ∨ (¬ IsText text ∧ e = .returned (.tuple #[.slice none 0 0, .int .i64 4])))
/-- What lies in memory while a text is read. -/
def TxAt (w : World) (rs : List Rdg) (v : Value) (W : World) : Prop :=
  Frm w [(w.heap.size + 1, .cells #[.int .i64 0] 24), (w.heap.size, .cells #[v] 22)] W ∧ OwnR W (w.heap.size + 1 + 1) v rs
theorem TxAt.below {w W W1 : World} {rs : List Rdg} {v : Value} (h : TxAt w rs v W) (hb : Below W.heap.size W W1) : TxAt w rs v W1 := ⟨h.1.below hb, h.2.below hb⟩
theorem TxAt.drew {w W : World} {rs : List Rdg} {v : Value} (h : TxAt w rs v W) : TxAt w rs v W.drew := ⟨h.1.drew, h.2⟩
theorem TxAt.drewN {w W : World} {rs : List Rdg} {v : Value} (h : TxAt w rs v W) (n : Nat) : TxAt w rs v (W.drewN n) := ⟨h.1.drewN n, h.2⟩
theorem TxAt.alloc {w W : World} {rs : List Rdg} {v : Value} (h : TxAt w rs v W) (o : Obj) : TxAt w rs v (W.alloc o) := ⟨h.1.alloc o, World.ownsRow.alloc h.2 o⟩
theorem TxAt.grown {w Wb wd : World} {rs : List Rdg} {v : Value} (h : TxAt w rs v Wb) (hg : Wb.grownBy wd v.ownBlock) : Frm w [(w.heap.size + 1, .cells #[.int .i64 0] 24), (w.heap.size, .cells #[v] 22)] wd := by
  have hlt : ∀ k, v.ownBlock = some k → w.heap.size + 1 + 1 ≤ k := fun k hk => (World.ownsRow.lt h.2 k hk).1
  exact ⟨h.1.b.grown hg h.1.b.size (fun k hk => by have := hlt k hk; omega), fun p hp => (hg.block p.1 (Array.getElem?_eq_some_iff.1 (h.1.h p hp)).1 (fun e => by
    have q := hlt _ e.symm
    simp only [List.mem_cons, List.not_mem_nil, or_false] at hp
    rcases hp with rfl | rfl
    · simp only at q; omega
    · simp only at q; omega)).trans (h.1.h p hp)⟩
theorem TxAt.put {w wd : World} {rs : List Rdg} {v : Value} {g n cap : Nat} (hF : Frm w [(w.heap.size + 1, .cells #[.int .i64 0] 24), (w.heap.size, .cells #[v] 22)] wd) (hO : OwnR wd (w.heap.size + 1 + 1) (.slice (some ⟨g, 0, none⟩) n cap) rs) :
    TxAt w rs (.slice (some ⟨g, 0, none⟩) n cap) (wd.setCell ⟨w.heap.size, 0, none⟩ (.slice (some ⟨g, 0, none⟩) n cap)) := by
  have hlt := (World.ownsRow.lt hO g rfl).1
  refine ⟨?_, ownsRow_setCell_other hO (a := ⟨w.heap.size, 0, none⟩) (fun e => by have : g = w.heap.size := by simpa [Value.ownBlock] using e
                                                                                  omega) _⟩
  have q := Frm.put (Frm.less (bs' := [(w.heap.size, .cells #[v] 22), (w.heap.size + 1, .cells #[.int .i64 0] 24)]) hF (fun p hp => by simp only [List.mem_cons, List.not_mem_nil, or_false] at hp ⊢; rcases hp with rfl | rfl <;> simp)) (Nat.le_refl _) (fun p hp => by simp only [List.mem_cons, List.not_mem_nil, or_false] at hp; subst hp; simp) 0 (.slice (some ⟨g, 0, none⟩) n cap)
  exact Frm.less q (fun p hp => by simp only [List.mem_cons, List.not_mem_nil, or_false] at hp; rcases hp with rfl | rfl <;> simp)
theorem end_mem {w W : World} {rs : List Rdg} {v : Value} (h : TxAt w rs v W) : TxAt w rs v ((W.setCell ⟨w.heap.size, 0, none⟩ v).setCell ⟨w.heap.size + 1, 0, none⟩ (.int .i64 0)) := by
  have hb : ∀ k, v.ownBlock = some k → w.heap.size + 1 + 1 ≤ k := fun k hk => (World.ownsRow.lt h.2 k hk).1
  refine ⟨?_, ownsRow_setCell_other (ownsRow_setCell_other h.2 (a := ⟨w.heap.size, 0, none⟩) (fun e => by have := hb _ e; simp only at this; omega) _) (a := ⟨w.heap.size + 1, 0, none⟩) (fun e => by have := hb _ e; simp only at this; omega) _⟩
  have q := Frm.put (Frm.less (bs' := [(w.heap.size, .cells #[v] 22), (w.heap.size + 1, .cells #[.int .i64 0] 24)]) h.1 (fun p hp => by simp only [List.mem_cons, List.not_mem_nil, or_false] at hp ⊢; rcases hp with rfl | rfl <;> simp)) (Nat.le_refl _) (fun p hp => by simp only [List.mem_cons, List.not_mem_nil, or_false] at hp; subst hp; simp) 0 v
  have q2 := Frm.put (Frm.less (bs' := [(w.heap.size + 1, .cells #[.int .i64 0] 24), (w.heap.size, .cells #[v] 22)]) q (fun p hp => by simp only [List.mem_cons, List.not_mem_nil, or_false] at hp; rcases hp with rfl | rfl <;> simp)) (by omega) (fun p hp => by simp only [List.mem_cons, List.not_mem_nil, or_false] at hp; subst hp; simp) 0 (.int .i64 0)
  exact q2
theorem text_front {text left : List UInt8} {rs : List Rdg} (h : text = linesF rs ++ left) : (⟨text.toArray⟩ : ByteArray).extract 0 (text.length - left.length) = ⟨(linesF rs).toArray⟩ := by
  have q := Lib.extract_from_zero ⟨text.toArray⟩ (text.length - left.length)
  have e : text.take (text.length - left.length) = linesF rs := by
    rw [h, List.length_append, Nat.add_sub_cancel, List.take_left]
  rw [show (⟨text.toArray⟩ : ByteArray).data.toList = text from rfl, e] at q
  generalize (⟨text.toArray⟩ : ByteArray).extract 0 (text.length - left.length) = z at *
  cases z with
  | mk d => rw [← q]
set_option maxHeartbeats 8000000 in
set_option maxRecDepth 100000 in
theorem readings_any {text : List UInt8} {w : World} {m : Int} (hm : MxL w m) (ht : Tab w) (hl : text.length ≤ 3000) :
    Calls Tryz.prog 27 #[str text] w fun e w' => TextPost w text e w' := by
  have HM := Lib.hid hm
  have HT := Lib.hid ht
  clear hm ht
  have hmf : ∀ (fn : Fn) (first cap : Array Value) (w : World), (Instr.makeFunc fn first cap).run Tryz.prog w = .ok (.func fn first cap) w := fun _ _ _ _ => rfl
  go_enter_defers Tryz.func27, Tryz.ntmps27
  go_wp2_with fail
  go_loopw [4] (fun l wr => ∃ rs left v, AllPr rs ∧ l = str left ∧ text = linesF rs ++ left ∧ TxAt w rs v wr) (fun l _ => strLen l)
  case atStart =>
    refine ⟨[], text, .slice none 0 0, (fun r h => by cases h), rfl, rfl, ?_, ?_⟩
    · exact Frm.less (Frm.add (Frm.add (Frm.nil w) _ rfl) (k := w.heap.size + 1) _ (by simp)) (fun p hp => hp)
    · exact World.ownsRow_nil ..
  case round =>
    obtain ⟨rs, left, v, har, rfl, htx, hat⟩ := hrel
    obtain ⟨A, n0, c0, rfl⟩ := own_shape hat.2
    have HA := Lib.hid har
    have HX := Lib.hid htx
    have HTX := Lib.hid hat
    have hlen : left.length ≤ 3000 ∧ rs.length + left.length ≤ 3000 := by
      have q := congrArg List.length htx
      have q2 := lines_ge rs
      simp only [List.length_append] at q
      omega
    have HMr := Lib.hid (HM.out.below (w' := wr) (Frm.below0 hat.1))
    clear har htx hat
    cases hp : Lib.hasPrefix left [101, 110, 100]
    · have HP := Lib.hid hp
      clear hp
      go_wp2_with fail
      refine (Tryz.strings_HasPrefix _ _ _).mono ?_
      rintro e w1 ⟨rfl, rfl⟩
      simp only [HP.out]
      by_cases hmem : (10 : UInt8) ∈ left
      · obtain ⟨u, rest, hsp, hu⟩ := split_mem 10 left hmem
        have HSP := Lib.hid hsp
        have HU := Lib.hid hu
        have HCUT := Lib.hid (show Lib.cut left [10] = (u, rest, true) by rw [hsp]; exact cut_at 10 u rest hu)
        have hul : u.length + 1 + rest.length = left.length := by rw [hsp]; simp; omega
        clear hsp hu hmem
        go_wp2_with fail
        refine (Tryz.strings_Cut _ _ m _ (by show left.length < 4294967281; omega) HMr.out.2).mono ?_
        rintro e w2 ⟨rfl, n, rfl⟩
        simp only [HCUT.out]
        have HT0 := HTX
        have HM0 := HMr
        have HTq : Hid (TxAt w rs (.slice A n0 c0) (w1.drewN n)) := Lib.hid (HTX.out.drewN n)
        have HMq := Lib.hid (HMr.out.below (w' := w1.drewN n) (below_dn (Below.refl _ _) n))
        clear HTX HMr
        have HTX := HTq
        have HMr := HMq
        clear HTq HMq
        go_upto_region 7 with fail
        by_cases hr : ∃ r, PrR r ∧ u = rowF r
        · obtain ⟨r, hpr, rfl⟩ := hr
          have HPR := Lib.hid hpr
          clear hpr
          go_cut [] from 10 to 27 (fun wx => ∃ g cap, TxAt w (rs ++ [r]) (.slice (some ⟨g, 0, none⟩) (rs.length + 1) cap) wx)
          case first =>
            have xc := HTX.out.1.cells (List.mem_cons_of_mem _ (List.mem_cons_self ..))
            have xc2 := HTX.out.drew.1.cells (List.mem_cons_of_mem _ (List.mem_cons_self ..))
            have xc3 := HT0.out.1.cells (List.mem_cons_of_mem _ (List.mem_cons_self ..))
            refine wp_calm ?_
            go_region_law (first | (refine step_rd (by rfl) (wp_reading (by rfl) (by rfl) (reading_ok HPR.out (m := m) (by first | exact HM0.out.dn _ | exact HMr.out | exact HMr.out.drew0) (by omega)) (fun v1 wa hv => ?_) (fun ch w' h => by cases h.1) (fun w' h => by cases h.1)); obtain ⟨hve, hba⟩ := hv; obtain rfl := Ending.returned.inj hve; have HTq := Lib.hid (TxAt.below (w := w) (rs := rs) (v := .slice A n0 c0) (by first | exact HT0.out.drewN _ | exact HTX.out | exact HTX.out.drew) hba); clear HTX; have HTX := HTq; clear HTq hba hve; have xc := HTX.out.1.cells (List.mem_cons_of_mem _ (List.mem_cons_self ..)); have xd := (HTX.out.1.alloc (rdBox r)).cells (List.mem_cons_of_mem _ (List.mem_cons_self ..)); have xn := HTX.out.1.lt (List.mem_cons_of_mem _ (List.mem_cons_self ..))) | (refine step_rd (by rfl) (wp_rd _ _ (by rfl) (base := w.heap.size + 1 + 1) (v := .slice A n0 c0) (rs := rs) (r := r) (by rfl) (World.ownsRow.alloc HTX.out.2 _) (by rfl) (heap_new _ _ rfl) (by omega) (by have q := HTX.out.1.lt (List.mem_cons_self ..); simp <;> omega) (fun g cap wd hO hg hat hlt => ?_)); have HF := Lib.hid (TxAt.grown (HTX.out.alloc _) hg); have HO := Lib.hid hO; have xc := HF.out.cells (List.mem_cons_of_mem _ (List.mem_cons_self ..)); have xf := HF.out.free (List.mem_cons_of_mem _ (List.mem_cons_self ..)); have xn := HF.out.lt (List.mem_cons_of_mem _ (List.mem_cons_self ..)); clear hO hg hat hlt))
            all_goals
              go_wp2_with fail
              go_meet
              first
                | exact ⟨g, cap, TxAt.put HF.out HO.out⟩
                | exact ⟨g, cap, (TxAt.put HF.out HO.out).drew⟩
          case rest =>
            obtain ⟨g, cap, hT⟩ := hcut
            have HT2 := Lib.hid hT
            clear hT HTX HMr
            have HA2 : Hid (AllPr (rs ++ [r])) := Lib.hid (fun z hz => by
              rcases List.mem_append.1 hz with hz | hz
              · exact HA.out z hz
              · rw [List.mem_singleton] at hz; subst hz; exact HPR.out)
            have HX2 : Hid (text = linesF (rs ++ [r]) ++ rest) := Lib.hid (by
              rw [HX.out, HSP.out, lines_app, List.append_assoc]
              simp [linesF, lineF_row])
            go_wp2_with fail
            go_roundw
            case rel => exact ⟨rs ++ [r], rest, _, HA2.out, rfl, HX2.out, HT2.out⟩
            case measure => show rest.length < left.length; omega
        · have K := Lib.hid (not_row HA.out (HX.out.trans (by rw [HSP.out])) HU.out (by rw [← HSP.out]; exact HP.out) hr)
          have HNR := Lib.hid hr
          have KB := K
          clear hr
          have xc := HTX.out.1.cells (List.mem_cons_of_mem _ (List.mem_cons_self ..))
          have xc2 := HTX.out.drew.1.cells (List.mem_cons_of_mem _ (List.mem_cons_self ..))
          have xc3 := HT0.out.1.cells (List.mem_cons_of_mem _ (List.mem_cons_self ..))
          refine wp_region_any (by kernel_rfl) ?_
          try (change wpAny _ _ _ _ _ _ _ (World.drew _))
          refine wpAny_ready (rs := [0, 1]) (by kernel_rfl) (by simp) ?_
          refine AllReady.cons rfl (fun K hK => ?_) (AllReady.cons rfl (fun K hK => ?_) AllReady.nil)
          · go_simp
            refine hK _ _ ?_
            clear hK K
            refine wpAny_ready (rs := [1]) (by kernel_rfl) (by simp) ?_
            refine AllReady.cons rfl (fun K hK => ?_) AllReady.nil
            go_simp
            refine hK _ _ ?_
            clear hK K
            refine wpAny_ready (rs := [2]) (by kernel_rfl) (by simp) ?_
            refine AllReady.cons rfl (fun K hK => ?_) AllReady.nil
            go_simp
            refine (reading_bad HNR.out (m := m) (by first | exact HM0.out.dn _ | exact HMr.out | exact HMr.out.drew0) (by omega)).mono ?_
            rintro e wa ⟨rfl, hba⟩
            have HTq := Lib.hid (TxAt.below (w := w) (rs := rs) (v := .slice A n0 c0) (by first | exact HT0.out.drewN _ | exact HTX.out | exact HTX.out.drew) hba)
            clear HTX HT0 hba xc xc2 xc3
            have HTX := HTq
            clear HTq
            try go_wp2_with fail
            have hL := HTX.out.1.h _ (List.mem_cons_of_mem _ (List.mem_cons_self ..))
            have hE := HTX.out.1.h _ (List.mem_cons_self ..)
            have HBW := Lib.hid HTX.out.1.b
            refine leaves_cons (f := 50) (args := #[.pointer (some ⟨w.heap.size, 0, none⟩), .pointer (some ⟨w.heap.size + 1, 0, none⟩)]) (by simp) (by simp [go_sem]) ?_
            refine (catch_gave w.heap.size (w.heap.size + 1) (.slice A n0 c0) (.int .i64 0) [] wa hL hE (by omega)).mono ?_
            rintro e u' w'' ⟨rfl, rfl, rfl⟩
            have d1 := (boxCells (heap_setCell_same (o := 0) (blk_alloc hL (.cells #[] 97)) (.slice none 0 0))).1
            have d2 := (Below.heap_setCell ((wa.alloc (.cells #[] 97)).setCell ⟨w.heap.size, 0, none⟩ (.slice none 0 0)) ⟨w.heap.size + 1, 0, none⟩ (.int .i64 4) w.heap.size (by simp)).trans (heap_setCell_same (o := 0) (blk_alloc hL (.cells #[] 97)) (.slice none 0 0))
            have d3 := heap_setCell_same (o := 0) ((Below.heap_setCell (wa.alloc (.cells #[] 97)) ⟨w.heap.size, 0, none⟩ (.slice none 0 0) (w.heap.size + 1) (by simp)).trans (blk_alloc hE (.cells #[] 97))) (.int .i64 4)
            have c2 := (boxCells d2).1 0
            have c3 := (boxCells d3).1 0
            simp at c2 c3
            have HPO : Hid (TextPost w text (.returned (.tuple #[.slice none 0 0, .int .i64 4])) (((wa.alloc (.cells #[] 97)).setCell ⟨w.heap.size, 0, none⟩ (.slice none 0 0)).setCell ⟨w.heap.size + 1, 0, none⟩ (.int .i64 4))) := Lib.hid ⟨below_set (below_set (below_al HBW.out _) (by simp) _) (by simp) _, .inr ⟨KB.out, rfl⟩⟩
            clear hL hE d1 d2 d3 HBW
            simp [Leaves, settle, results, Tryz.results27, go_sem, c2, c3]
            exact HPO.out
          · go_simp
            refine hK _ _ ?_
            clear hK K
            refine wpAny_ready (rs := [0, 2]) (by kernel_rfl) (by simp) ?_
            refine AllReady.cons rfl (fun K hK => ?_) (AllReady.cons rfl (fun K hK => ?_) AllReady.nil)
            · go_simp
              refine hK _ _ ?_
              clear hK K
              refine wpAny_ready (rs := [2]) (by kernel_rfl) (by simp) ?_
              refine AllReady.cons rfl (fun K hK => ?_) AllReady.nil
              go_simp
              refine (reading_bad HNR.out (m := m) (by first | exact HM0.out.dn _ | exact HMr.out | exact HMr.out.drew0) (by omega)).mono ?_
              rintro e wa ⟨rfl, hba⟩
              have HTq := Lib.hid (TxAt.below (w := w) (rs := rs) (v := .slice A n0 c0) (by first | exact HT0.out.drewN _ | exact HTX.out | exact HTX.out.drew) hba)
              clear HTX HT0 hba xc xc2 xc3
              have HTX := HTq
              clear HTq
              try go_wp2_with fail
              have hL := HTX.out.1.h _ (List.mem_cons_of_mem _ (List.mem_cons_self ..))
              have hE := HTX.out.1.h _ (List.mem_cons_self ..)
              have HBW := Lib.hid HTX.out.1.b
              refine leaves_cons (f := 50) (args := #[.pointer (some ⟨w.heap.size, 0, none⟩), .pointer (some ⟨w.heap.size + 1, 0, none⟩)]) (by simp) (by simp [go_sem]) ?_
              refine (catch_gave w.heap.size (w.heap.size + 1) (.slice A n0 c0) (.int .i64 0) [] wa hL hE (by omega)).mono ?_
              rintro e u' w'' ⟨rfl, rfl, rfl⟩
              have d1 := (boxCells (heap_setCell_same (o := 0) (blk_alloc hL (.cells #[] 97)) (.slice none 0 0))).1
              have d2 := (Below.heap_setCell ((wa.alloc (.cells #[] 97)).setCell ⟨w.heap.size, 0, none⟩ (.slice none 0 0)) ⟨w.heap.size + 1, 0, none⟩ (.int .i64 4) w.heap.size (by simp)).trans (heap_setCell_same (o := 0) (blk_alloc hL (.cells #[] 97)) (.slice none 0 0))
              have d3 := heap_setCell_same (o := 0) ((Below.heap_setCell (wa.alloc (.cells #[] 97)) ⟨w.heap.size, 0, none⟩ (.slice none 0 0) (w.heap.size + 1) (by simp)).trans (blk_alloc hE (.cells #[] 97))) (.int .i64 4)
              have c2 := (boxCells d2).1 0
              have c3 := (boxCells d3).1 0
              simp at c2 c3
              have HPO : Hid (TextPost w text (.returned (.tuple #[.slice none 0 0, .int .i64 4])) (((wa.alloc (.cells #[] 97)).setCell ⟨w.heap.size, 0, none⟩ (.slice none 0 0)).setCell ⟨w.heap.size + 1, 0, none⟩ (.int .i64 4))) := Lib.hid ⟨below_set (below_set (below_al HBW.out _) (by simp) _) (by simp) _, .inr ⟨KB.out, rfl⟩⟩
              clear hL hE d1 d2 d3 HBW
              simp [Leaves, settle, results, Tryz.results27, go_sem, c2, c3]
              exact HPO.out
            · go_simp
              refine (reading_bad HNR.out (m := m) (by first | exact HM0.out.dn _ | exact HMr.out | exact HMr.out.drew0) (by omega)).mono ?_
              rintro e wa ⟨rfl, hba⟩
              have HTq := Lib.hid (TxAt.below (w := w) (rs := rs) (v := .slice A n0 c0) (by first | exact HT0.out.drewN _ | exact HTX.out | exact HTX.out.drew) hba)
              clear HTX HT0 hba xc xc2 xc3
              have HTX := HTq
              clear HTq
              try go_wp2_with fail
              have hL := HTX.out.1.h _ (List.mem_cons_of_mem _ (List.mem_cons_self ..))
              have hE := HTX.out.1.h _ (List.mem_cons_self ..)
              have HBW := Lib.hid HTX.out.1.b
              refine leaves_cons (f := 50) (args := #[.pointer (some ⟨w.heap.size, 0, none⟩), .pointer (some ⟨w.heap.size + 1, 0, none⟩)]) (by simp) (by simp [go_sem]) ?_
              refine (catch_gave w.heap.size (w.heap.size + 1) (.slice A n0 c0) (.int .i64 0) [] wa hL hE (by omega)).mono ?_
              rintro e u' w'' ⟨rfl, rfl, rfl⟩
              have d1 := (boxCells (heap_setCell_same (o := 0) (blk_alloc hL (.cells #[] 97)) (.slice none 0 0))).1
              have d2 := (Below.heap_setCell ((wa.alloc (.cells #[] 97)).setCell ⟨w.heap.size, 0, none⟩ (.slice none 0 0)) ⟨w.heap.size + 1, 0, none⟩ (.int .i64 4) w.heap.size (by simp)).trans (heap_setCell_same (o := 0) (blk_alloc hL (.cells #[] 97)) (.slice none 0 0))
              have d3 := heap_setCell_same (o := 0) ((Below.heap_setCell (wa.alloc (.cells #[] 97)) ⟨w.heap.size, 0, none⟩ (.slice none 0 0) (w.heap.size + 1) (by simp)).trans (blk_alloc hE (.cells #[] 97))) (.int .i64 4)
              have c2 := (boxCells d2).1 0
              have c3 := (boxCells d3).1 0
              simp at c2 c3
              have HPO : Hid (TextPost w text (.returned (.tuple #[.slice none 0 0, .int .i64 4])) (((wa.alloc (.cells #[] 97)).setCell ⟨w.heap.size, 0, none⟩ (.slice none 0 0)).setCell ⟨w.heap.size + 1, 0, none⟩ (.int .i64 4))) := Lib.hid ⟨below_set (below_set (below_al HBW.out _) (by simp) _) (by simp) _, .inr ⟨KB.out, rfl⟩⟩
              clear hL hE d1 d2 d3 HBW
              simp [Leaves, settle, results, Tryz.results27, go_sem, c2, c3]
              exact HPO.out
      · have HCUT := Lib.hid (cut_no 10 left hmem)
        have K := Lib.hid (not_cut HA.out HX.out hmem)
        clear hmem
        go_wp2_with fail
        refine (Tryz.strings_Cut _ _ m _ (by show left.length < 4294967281; omega) HMr.out.2).mono ?_
        rintro e w2 ⟨rfl, n, rfl⟩
        simp only [HCUT.out]
        have HTq : Hid (TxAt w rs (.slice A n0 c0) (w1.drewN n)) := Lib.hid ⟨HTX.out.1.drewN n, HTX.out.2⟩
        clear HTX
        have HTX := HTq
        clear HTq
        go_wp2_with (go_at_call 53; refine (giveUp_any _).mono ?_; rintro e w3 ⟨rfl, rfl⟩)
        have hL := HTX.out.1.h _ (List.mem_cons_of_mem _ (List.mem_cons_self ..))
        have hE := HTX.out.1.h _ (List.mem_cons_self ..)
        have HBW := Lib.hid HTX.out.1.b
        refine leaves_cons (f := 50) (args := #[.pointer (some ⟨w.heap.size, 0, none⟩), .pointer (some ⟨w.heap.size + 1, 0, none⟩)]) (by simp) (by simp [go_sem]) ?_
        refine (catch_gave w.heap.size (w.heap.size + 1) (.slice A n0 c0) (.int .i64 0) [] (w1.drewN n) hL hE (by omega)).mono ?_
        rintro e u' w'' ⟨rfl, rfl, rfl⟩
        have d1 := (boxCells (heap_setCell_same (o := 0) (blk_alloc hL (.cells #[] 97)) (.slice none 0 0))).1
        have d2 := (Below.heap_setCell (((w1.drewN n).alloc (.cells #[] 97)).setCell ⟨w.heap.size, 0, none⟩ (.slice none 0 0)) ⟨w.heap.size + 1, 0, none⟩ (.int .i64 4) w.heap.size (by simp)).trans (heap_setCell_same (o := 0) (blk_alloc hL (.cells #[] 97)) (.slice none 0 0))
        have d3 := heap_setCell_same (o := 0) ((Below.heap_setCell ((w1.drewN n).alloc (.cells #[] 97)) ⟨w.heap.size, 0, none⟩ (.slice none 0 0) (w.heap.size + 1) (by simp)).trans (blk_alloc hE (.cells #[] 97))) (.int .i64 4)
        have c2 := (boxCells d2).1 0
        have c3 := (boxCells d3).1 0
        simp at c2 c3
        have HPO : Hid (TextPost w text (.returned (.tuple #[.slice none 0 0, .int .i64 4])) ((((w1.drewN n).alloc (.cells #[] 97)).setCell ⟨w.heap.size, 0, none⟩ (.slice none 0 0)).setCell ⟨w.heap.size + 1, 0, none⟩ (.int .i64 4))) := Lib.hid ⟨below_set (below_set (below_al HBW.out _) (by simp) _) (by simp) _, .inr ⟨K.out, rfl⟩⟩
        clear hL hE d1 d2 d3 HBW
        simp [Leaves, settle, results, Tryz.results27, go_sem, c2, c3]
        exact HPO.out

    · have HP := Lib.hid hp
      clear hp
      go_wp2_with fail
      refine (Tryz.strings_HasPrefix _ _ _).mono ?_
      rintro e w1 ⟨rfl, rfl⟩
      simp only [HP.out]
      have hle : (left.length : Int) ≤ text.length := by
        have q := congrArg List.length HX.out
        simp only [List.length_append] at q
        omega
      have HFR := Lib.hid (text_front HX.out)
      have HAS : Hid (∀ (k : Nat) (h : k < (⟨(linesF rs).toArray⟩ : ByteArray).size), ((⟨(linesF rs).toArray⟩ : ByteArray)[k]'h).toNat < 128) := Lib.hid (fun k h => asc_lines rs _ (by
        show (linesF rs).toArray[k]'h ∈ linesF rs
        simp))
      have HTr := Lib.hid (HT.out.below (w' := w1) (Frm.below0 HTX.out.1))
      have hll : (linesF rs).length ≤ 3000 := by
        have q := congrArg List.length HX.out
        simp only [List.length_append] at q
        omega
      go_wp2_with fail
      rw [HFR.out]
      refine (ending_any _ _ (by show (linesF rs).length ≤ 1000000; omega) HAS.out HTr.out).mono ?_
      rintro e w2 ⟨rfl, hb⟩
      have HTq : Hid (TxAt w rs (.slice A n0 c0) w2) := Lib.hid (HTX.out.below hb)
      clear HTX hb HTr HAS HFR
      have HTX := HTq
      clear HTq
      have xc := HTX.out.1.cells (List.mem_cons_of_mem _ (List.mem_cons_self ..))
      have xf := HTX.out.1.free (List.mem_cons_of_mem _ (List.mem_cons_self ..))
      have xn := HTX.out.1.lt (List.mem_cons_of_mem _ (List.mem_cons_self ..))
      have yc := HTX.out.1.cells (List.mem_cons_self ..)
      have yf := HTX.out.1.free (List.mem_cons_self ..)
      have yn := HTX.out.1.lt (List.mem_cons_self ..)
      by_cases heq : left = endF (linesF rs)
      · have HEQ := Lib.hid heq
        have hb2 : (left == endF (linesF rs)) = true := by simpa using heq
        clear heq
        go_wp2_with fail
        have HEN := Lib.hid (end_mem HTX.out)
        have HEA := Lib.hid (HEN.out.alloc (.cells #[] 97))
        have c2 := (HEA.out.1.cells (List.mem_cons_of_mem _ (List.mem_cons_self ..)) 0).trans (show (#[Value.slice A n0 c0] : Array Value)[0]? = some (.slice A n0 c0) from rfl)
        have c3 := (HEA.out.1.cells (List.mem_cons_self ..) 0).trans (show (#[Value.int .i64 0] : Array Value)[0]? = some (.int .i64 0) from rfl)
        have HTXT : Hid (text = textF rs) := Lib.hid (by rw [HX.out, HEQ.out]; rfl)
        have HPO := Lib.hid (show TextPost w text (.returned (.tuple #[(.slice A n0 c0), .int .i64 0])) _ from ⟨HEA.out.1.b, .inl ⟨rs, _, HA.out, HTXT.out, rfl, own_rds HEA.out.2⟩⟩)
        clear xc xf xn yc yf yn HTX HEN hb2
        show Leaves _ _ _ _ _ FrameMode.returning _
        refine leaves_cons (f := 50) (args := #[.pointer (some ⟨w.heap.size, 0, none⟩), .pointer (some ⟨w.heap.size + 1, 0, none⟩)]) (by simp) (by simp [go_sem]) ?_
        refine (catch_idle w.heap.size (w.heap.size + 1) _).mono ?_
        rintro e u' w'' ⟨rfl, rfl, rfl⟩
        simp [Leaves, settle, results, Tryz.results27, go_sem, c2, c3]
        exact HPO.out
      · have K := Lib.hid (not_end HA.out HX.out HP.out heq)
        have hb : (left == endF (linesF rs)) = false := by simpa using heq
        clear heq
        clear xc xf xn yc yf yn
        go_wp2_with (go_at_call 53; refine (giveUp_any _).mono ?_; rintro e w3 ⟨rfl, rfl⟩)
        have hL := HTX.out.1.h _ (List.mem_cons_of_mem _ (List.mem_cons_self ..))
        have hE := HTX.out.1.h _ (List.mem_cons_self ..)
        have HBW := Lib.hid HTX.out.1.b
        refine leaves_cons (f := 50) (args := #[.pointer (some ⟨w.heap.size, 0, none⟩), .pointer (some ⟨w.heap.size + 1, 0, none⟩)]) (by simp) (by simp [go_sem]) ?_
        refine (catch_gave w.heap.size (w.heap.size + 1) (.slice A n0 c0) (.int .i64 0) [] w3 hL hE (by omega)).mono ?_
        rintro e u' w'' ⟨rfl, rfl, rfl⟩
        have d1 := (boxCells (heap_setCell_same (o := 0) (blk_alloc hL (.cells #[] 97)) (.slice none 0 0))).1
        have d2 := (Below.heap_setCell ((w3.alloc (.cells #[] 97)).setCell ⟨w.heap.size, 0, none⟩ (.slice none 0 0)) ⟨w.heap.size + 1, 0, none⟩ (.int .i64 4) w.heap.size (by simp)).trans (heap_setCell_same (o := 0) (blk_alloc hL (.cells #[] 97)) (.slice none 0 0))
        have d3 := heap_setCell_same (o := 0) ((Below.heap_setCell (w3.alloc (.cells #[] 97)) ⟨w.heap.size, 0, none⟩ (.slice none 0 0) (w.heap.size + 1) (by simp)).trans (blk_alloc hE (.cells #[] 97))) (.int .i64 4)
        have c2 := (boxCells d2).1 0
        have c3 := (boxCells d3).1 0
        simp at c2 c3
        have HPO : Hid (TextPost w text (.returned (.tuple #[.slice none 0 0, .int .i64 4])) (((w3.alloc (.cells #[] 97)).setCell ⟨w.heap.size, 0, none⟩ (.slice none 0 0)).setCell ⟨w.heap.size + 1, 0, none⟩ (.int .i64 4))) := Lib.hid ⟨below_set (below_set (below_al HBW.out _) (by simp) _) (by simp) _, .inr ⟨K.out, rfl⟩⟩
        clear hL hE d1 d2 d3 HBW
        simp [Leaves, settle, results, Tryz.results27, go_sem, c2, c3]
        exact HPO.out


open Go.RowKit Go.Maps
@[reducible] def nilErr (n : Int) : Ending := .returned (.tuple #[.slice none 0 0, .int .i64 n])
/-- What Read returns. -/
def ReadPost (w : World) (text : List UInt8) (e : Ending) (w' : World) : Prop :=
  Below w.heap.size w w' ∧ ((3000 < text.length ∧ e = nilErr 3) ∨ (text.length ≤ 3000 ∧ ¬ IsText text ∧ e = nilErr 4) ∨
    (∃ rs, text.length ≤ 3000 ∧ AllPr rs ∧ text = textF rs ∧ ((¬ sheetF rs = 0 ∧ e = nilErr (sheetF rs)) ∨ (sheetF rs = 0 ∧ ∃ v, e = .returned (.tuple #[v, .int .i64 0]) ∧ Rdgs w' v rs))))
set_option maxHeartbeats 2000000 in
set_option maxRecDepth 100000 in
theorem read_any {text : List UInt8} {w : World} {m : Int} (hm : MxL w m) (ht : Tab w) (hl : text.length < 4611686018427387904) :
    Calls Tryz.prog 8 #[str text] w fun e w' => ReadPost w text e w' := by
  have HM := Lib.hid hm
  have HT := Lib.hid ht
  clear hm ht
  by_cases h3 : 3000 < text.length
  · go_enter Tryz.func8, Tryz.ntmps8
    go_wp2_with fail
    go_ret2
    exact ⟨Below.refl _ _, .inl ⟨h3, rfl⟩⟩
  · have h4 : text.length ≤ 3000 := by omega
    clear h3
    go_enter Tryz.func8, Tryz.ntmps8
    go_wp2_with fail
    refine (readings_any HM.out HT.out h4).mono ?_
    rintro e w1 ⟨hb, ⟨rs, v, ha, htx, rfl, hv⟩ | ⟨hno, rfl⟩⟩
    · have HB := Lib.hid hb
      have HA := Lib.hid ha
      have HX := Lib.hid htx
      have HV := Lib.hid hv
      clear hb ha htx hv
      go_wp2_with fail
      refine (sheet_any HV.out).mono ?_
      rintro e w2 ⟨rfl, hb⟩
      have HB2 := Lib.hid (HB.out.trans (hb.mono HB.out.size))
      have HV2 := Lib.hid (HV.out.below hb)
      clear hb
      by_cases hs : sheetF rs = 0
      · have HS := Lib.hid hs
        simp only [HS.out]
        clear hs
        go_wp2_with fail
        go_ret2
        exact ⟨HB2.out, .inr (.inr ⟨rs, h4, HA.out, HX.out, .inr ⟨HS.out, v, rfl, HV2.out⟩⟩)⟩
      · go_wp2_with fail
        go_ret2
        exact ⟨HB2.out, .inr (.inr ⟨rs, h4, HA.out, HX.out, .inl ⟨hs, rfl⟩⟩)⟩
    · have HB := Lib.hid hb
      have HNO := Lib.hid hno
      clear hb hno
      go_wp2_with fail
      go_ret2
      exact ⟨HB.out, .inr (.inl ⟨h4, HNO.out, rfl⟩)⟩
end Go.Proofs.YtiindlbllhbofaaGreatDoor
