/- Comparisons appended to a list of comparisons: what lies in memory. -/
import Derived.Test.YtffgcphmakfikaaDoorLsh
import Derived.Test.YtffgcphmakfikaaDoorLin
import Derived.Deep.AppendLies
set_option linter.unusedVariables false
set_option linter.unusedSimpArgs false
namespace Go.Proofs.YtffgcphmakfikaaDoor
open Go.RowKit Go.Maps

def ckL (c : Chk) : List Value := [.int .i64 c.day, .int .i64 c.lo, .int .i64 c.hi]
def cksL : List Chk → List Value
  | [] => []
  | c :: r => ckL c ++ cksL r
theorem cksL_len : ∀ cs : List Chk, (cksL cs).length = cs.length * 3
  | [] => rfl
  | c :: r => by simp only [cksL, ckL, List.length_append, List.length_cons, List.length_nil, cksL_len r]; omega
theorem cksL_at : ∀ (cs : List Chk) (i : Nat) (c : Chk), cs[i]? = some c → (cksL cs)[i * 3]? = some (.int .i64 c.day) ∧ (cksL cs)[i * 3 + 1]? = some (.int .i64 c.lo) ∧ (cksL cs)[i * 3 + 2]? = some (.int .i64 c.hi)
  | [], i, c, h => by simp at h
  | x :: r, 0, c, h => by
    obtain rfl : x = c := by simpa using h
    exact ⟨rfl, rfl, rfl⟩
  | x :: r, i + 1, c, h => by
    obtain ⟨a, b, d⟩ := cksL_at r i c (by simpa using h)
    have e : ∀ k, (cksL (x :: r))[k + 3]? = (cksL r)[k]? := fun k => by
      rw [cksL, List.getElem?_append_right (by simp [ckL])]
      simp [ckL]
    rw [show (i + 1) * 3 = i * 3 + 3 by omega, show i * 3 + 3 + 1 = (i * 3 + 1) + 3 by omega, show i * 3 + 3 + 2 = (i * 3 + 2) + 3 by omega, e, e, e]
    exact ⟨a, b, d⟩
theorem cksL_get {cs : List Chk} {j : Nat} {u : Value} (h : (cksL cs)[j]? = some u) : ∃ c, cs[j / 3]? = some c ∧ (ckL c)[j % 3]? = some u := by
  have hl : j < cs.length * 3 := by rw [← cksL_len]; exact (List.getElem?_eq_some_iff.1 h).1
  have hi : j / 3 < cs.length := by omega
  refine ⟨cs[j / 3], List.getElem?_eq_getElem hi, ?_⟩
  obtain ⟨a, b, d⟩ := cksL_at cs (j / 3) _ (List.getElem?_eq_getElem hi)
  rcases (by omega : j % 3 = 0 ∨ j % 3 = 1 ∨ j % 3 = 2) with e | e | e
  · rw [show j = j / 3 * 3 by omega, a] at h; rw [e]; exact h
  · rw [show j = j / 3 * 3 + 1 by omega, b] at h; rw [e]; exact h
  · rw [show j = j / 3 * 3 + 2 by omega, d] at h; rw [e]; exact h
theorem cksL_one {cs : List Chk} : ∀ u ∈ cksL cs, u.oneCell' = true := fun u hu => by
  obtain ⟨j, hj⟩ := List.mem_iff_getElem?.1 hu
  obtain ⟨c, _, hr⟩ := cksL_get hj
  rcases (by omega : j % 3 = 0 ∨ j % 3 = 1 ∨ j % 3 = 2) with e | e | e <;> (rw [e] at hr; simp [ckL] at hr; subst hr; rfl)
theorem cksL_add (cs : List Chk) (c : Chk) : cksL (cs ++ [c]) = cksL cs ++ ckL c := by
  induction cs with
  | nil => simp [cksL]
  | cons x r ih => simp only [List.cons_append, cksL, ih, List.append_assoc]

theorem news_checks {w : World} {ad : Addr} {cs : List Chk} {c : Nat} (h : Chks w (.slice (some ad) cs.length c) cs) (hne : cs ≠ []) : ∀ j u, (cksL cs)[j]? = some u → w.cell? (ad.add j) = some u := fun j u hj => by
  obtain ⟨x, hx, hr⟩ := cksL_get hj
  obtain ⟨b, off, hA, _, _, c0, c1, c2⟩ := chk_cells h hx
  obtain rfl : ad = ⟨b, off, none⟩ := by simpa using hA
  rw [Go.WideShapes.add_plain]
  rcases (by omega : j % 3 = 0 ∨ j % 3 = 1 ∨ j % 3 = 2) with e | e | e
  · rw [e] at hr; simp [ckL] at hr; subst hr; rw [show off + j = off + j / 3 * 3 by omega]; exact c0
  · rw [e] at hr; simp [ckL] at hr; subst hr; rw [show off + j = off + j / 3 * 3 + 1 by omega]; exact c1
  · rw [e] at hr; simp [ckL] at hr; subst hr; rw [show off + j = off + j / 3 * 3 + 2 by omega]; exact c2
/-- A row of one's own that holds comparisons. -/
@[reducible] def OwnC (w : World) (base : Nat) (v : Value) (cs : List Chk) : Prop := w.ownsRow base 31 3 v cs.length (cksL cs)
theorem own_chks {w : World} {base g cap n : Nat} {cs : List Chk} (h : w.ownsRow base 31 3 (.slice (some ⟨g, 0, none⟩) n cap) n (cksL cs)) (hn : cs.length = n) : Chks w (.slice (some ⟨g, 0, none⟩) n cap) cs := by
  subst hn
  have hat := fun j hj => World.ownsRow.cellAt h j hj
  have hlt := h.lt g rfl
  rcases h.2 with ⟨h0, _⟩ | ⟨g', cap', cur, hv, hb0, hg, h1, h2, h3, h4⟩
  · cases h0
  · cases hv
    refine ⟨_, cap, rfl, h1, h2, .inr ⟨g, 0, rfl, hlt.2, fun i c hi => ?_⟩⟩
    have hil := (List.getElem?_eq_some_iff.1 hi).1
    obtain ⟨a, b, d⟩ := cksL_at cs i c hi
    simp only [Nat.zero_add]
    exact ⟨(hat _ (by omega)).trans a, (hat _ (by omega)).trans b, (hat _ (by omega)).trans d⟩
theorem OwnC.below {w w' : World} {base : Nat} {v : Value} {cs : List Chk} (h : OwnC w base v cs) (hb : Below w.heap.size w w') : OwnC w' base v cs :=
  h.kept (row := none) ⟨hb.os, hb.tape, hb.output, hb.size, fun k hk _ => hb.block k hk⟩ (by cases v.ownBlock <;> simp)
theorem Frm.grownR {w W W1 : World} {bs : List (Nat × Obj)} {row : Option Nat} (h : Frm w bs W) (hg : W.grownBy W1 row) (hM : ∀ k, row = some k → w.heap.size ≤ k) (hne : ∀ p ∈ bs, some p.1 ≠ row) : Frm w bs W1 :=
  ⟨h.b.grown hg h.b.size hM, fun p hp => (hg.block p.1 (lt_of_blk (h.h p hp)) (hne p hp)).trans (h.h p hp)⟩

theorem own_ne {row : Option Nat} {g H base N : Nat} (hat : row = some g ∨ g = H) (h : ∀ k, row = some k → base ≤ k) (h1 : base ≤ H) (h2 : N < base) : g ≠ N := by
  rcases hat with hg | hg
  · have := h g hg; omega
  · omega
theorem Tryd.infoChk : (Tryd.prog.info? 31).map (fun i => (i.zero, i.size, i.bytes)) = some (some (.agg #[.int .i64 0, .int .i64 0, .int .i64 0]), 3, 24) := by kernel_rfl

set_option maxRecDepth 100000 in
theorem run_append_empty (A : Option Addr) (c : Nat) (ty : TypeId) (w : World) : (Builtin.append_ #[24, 24] ty #[.slice none 0 0, .slice A 0 c]).run Tryd.prog w = .ok (.slice none 0 0) w := by
  cases A <;> kernel_rfl

section
variable {w : World} {ops : Array Oper} {rest : List Oper} {o : Oper} {a : Act} {Q : Exit → Act → World → Prop}
/-- append(nil, l...). -/
theorem app_all (hgd : o.guard = none) (s x : Operand) (ho : o.op = .call { callee := .builtin .append, args := #[s, x], argTypes := #[24, 24] })
    {A : Option Addr} {cs : List Chk} {c : Nat} (hs : a.eval s = .slice none 0 0) (hx : a.eval x = .slice A cs.length c) (hC : Chks w (.slice A cs.length c) cs) (h12 : cs.length ≤ 12)
    (h : ∀ v w', OwnC w' w.heap.size v cs → w.grownBy w' none → wpList Tryd.prog ops Q rest (a.put o.dst v) w') : wpList Tryd.prog ops Q (o :: rest) a w := by
  by_cases hne : cs = []
  · subst hne
    refine wpList_plain hgd fun K hK => ?_
    have hr := run_append_empty A c o.type w
    unfold Oper.wp execOp
    simp only [ho, resolve, invoke, builtin, Sem.run_bind, Sem.run_pure, Result.andThen_ok, List.map_toArray, List.map_cons, List.map_nil, hs, hx]
    simp only [List.length_nil] at hr ⊢
    rw [hr]
    exact hK _ _ (h _ _ (World.ownsRow_nil ..) (World.grownBy.refl _ _))
  · have hlen : 0 < cs.length := List.length_pos_iff.2 hne
    obtain ⟨i0, hi0, hz0, hz1, hz2⟩ := info_parts Tryd.infoChk
    obtain ⟨x0, hx0⟩ : ∃ x0, cs[0]? = some x0 := ⟨_, List.getElem?_eq_getElem hlen⟩
    obtain ⟨b, off, hA, hcap, hm, -⟩ := chk_cells hC hx0
    subst hA
    refine wpList_append_lies w hgd s x _ ho w.heap.size 31 i0 _ 3 24 Tryd.underlying24 hi0 hz0 hz1 hz2 rfl (by omega) (.slice none 0 0) 0 [] hs (World.ownsRow_nil ..) ⟨b, off, none⟩ cs.length c (cksL cs) hx (cksL_len cs) (news_checks hC hne) cksL_one hlen (by unfold maxLen; omega) (by omega) (Nat.le_refl _) _ rfl ?_
    intro g cap w1 hown hgrow hat hlt
    refine h _ w1 ?_ hgrow
    simpa only [Nat.zero_add, List.nil_append] using hown
/-- append(l, c), where l is one's own, and c lies in a block of its own. -/
theorem app_one (hgd : o.guard = none) (s x : Operand) (ho : o.op = .call { callee := .builtin .append, args := #[s, x], argTypes := #[24, 24] })
    {base N : Nat} {v : Value} {cs : List Chk} {c : Chk} (hs : a.eval s = v) (hown : OwnC w base v cs) (hx : a.eval x = .slice (some ⟨N, 0, none⟩) 1 1) (hN : w.heap[N]? = some (ckBox c)) (h12 : cs.length ≤ 12) (hbase : base ≤ w.heap.size)
    (h : ∀ g cap w', w'.ownsRow base 31 3 (.slice (some ⟨g, 0, none⟩) (cs.length + 1) cap) (cs.length + 1) (cksL (cs ++ [c])) → w.grownBy w' v.ownBlock → (v.ownBlock = some g ∨ g = w.heap.size) → g < w'.heap.size → wpList Tryd.prog ops Q rest (a.put o.dst (.slice (some ⟨g, 0, none⟩) (cs.length + 1) cap)) w') : wpList Tryd.prog ops Q (o :: rest) a w := by
  obtain ⟨i0, hi0, hz0, hz1, hz2⟩ := info_parts Tryd.infoChk
  obtain ⟨hc, _⟩ := boxCells hN
  refine wpList_append_lies w hgd s x _ ho base 31 i0 _ 3 24 Tryd.underlying24 hi0 hz0 hz1 hz2 rfl (by omega) v cs.length (cksL cs) hs hown ⟨N, 0, none⟩ 1 1 (ckL c) hx rfl (fun j u hj => ?_) (fun u hu => cksL_one (cs := [c]) u (by simpa [cksL] using hu)) (by omega) (by unfold maxLen; omega) (by omega) hbase _ rfl ?_
  · rw [Go.WideShapes.add_plain, Nat.zero_add, hc j]
    simpa [ckL] using hj
  · intro g cap w1 hown1 hgrow hat hlt
    rw [← cksL_add] at hown1
    exact h g cap w1 hown1 hgrow hat hlt
end
end Go.Proofs.YtffgcphmakfikaaDoor
