/- Texts of a field, written and read by the program. -/
import Derived.Test.YtpkmojcppdogkaaGreatDoorHel
import Derived.Test.YtpkmojcppdogkaaGreatDoorTxa
import Derived.Test.YtpkmojcppdogkaaGreatDoorCrf
import Derived.Test.YtpkmojcppdogkaaGreatDoorRwb
import Derived.Deep.RegionHeld3
import Derived.Deep.QuietTactic
import Derived.Test.YtpkmojcppdogkaaGreatDoorCfj
import Derived.Sort.QuietTacIn
import Derived.Test.YtpkmojcppdogkaaGreatDoorShelf
import Derived.Test.YtpkmojcppdogkaaGreatDoorCfl
import Derived.Test.YtpkmojcppdogkaaGreatDoorCdd
import Derived.BigRegion
set_option linter.unusedVariables false
set_option linter.unusedSimpArgs false
namespace Go.Proofs.YtpkmojcppdogkaaGreatDoor
section PartOfHer
open Go.RowKit
open Go.Maps Go.Shelf
/- Regions that draw their order, and store into what they load. -/
section
variable {l : Nat} {P : Program} {ops : Array Oper} {Q : Exit → Act → World → Prop} {S : List (Nat × (World → Prop))} {k : Nat} {listed : Array Bool} {a : Act} {w : World}
def HX (l : Nat) (P : Program) (ops : Array Oper) (Q : Exit → Act → World → Prop) (S : List (Nat × (World → Prop))) (k : Nat) (listed : Array Bool) (a : Act) (w : World) : Prop := GX.Closed ops listed → GT ops S listed w → wpHeldT P ops Q S (some l) k listed a w
theorem hx_start {id : Nat} (S : List (Nat × (World → Prop))) (hm : P.follows .mixedOrders = true) (hS : ∀ p ∈ S, p.2 w.drew) (h : HX l P ops Q S ops.size (Array.replicate ops.size false) a w.drew) : (Code.region id ops true).wpIn (Fence.wide.inRound l) 0 P Q a w := by
  refine wpIn_region_any hm ?_
  refine wpAny_of_heldT (S := S) (ro := some l) _ _ _ _ (h (fun f o ho hf => ?_) (fun p hp => .inr (hS p hp)))
  have : (Array.replicate ops.size false).getD f false = false := by
    unfold Array.getD
    split <;> simp
  rw [this] at hf
  cases hf
theorem hx_first {i : Nat} {oi : Oper} {v : Value} {Si : World → Prop} (hi : ops[i]? = some oi) (hfk : GX.firstKind oi.op = true) (hsel : Region.noSelect ops = true) (hf : Region.free .any ops listed i = true) (hr : (Region.ready .any ops listed).contains i = true)
    (hQ : ∀ c a w, Q (.panic c) (a.put oi.dst v) w → Q (.panic c) a w) (hSi : (∃ c, (i, c) ∈ S ∧ ∀ w, c w → Si w) ∨ ∀ w, Si w) (hy : GX.YieldsH P ops Si oi v a)
    (h : HX l P ops Q S k (listed.setIfInBounds i true) (a.put oi.dst v) w) : HX l P ops Q S (k + 1) listed a w := fun hc hg => by
  have hir : i ∈ Region.ready .any ops listed := by simpa using hr
  exact wpHeldT_first hi hfk hsel hQ hSi k listed a w hc (Region.free_spec hi hf) hir hy hg (h (hc.set hir) (fun p hp => (hg p hp).imp (fun ⟨f, hf, hfl⟩ => ⟨f, hf, getD_set_true hfl⟩) id))
theorem noDefx {o : Oper} (h : (match o.op with | .defer _ => false | _ => true) = true) : ∀ c, o.op ≠ .defer c := fun c hc => by rw [hc] at h; cases h
/-- It loads. -/
theorem hx_load {i : Nat} {oi : Oper} {v : Value} (c : World → Prop) (hcm : (i, c) ∈ S) (hi : ops[i]? = some oi) (hfk : GX.firstKind oi.op = true) (hsel : Region.noSelect ops = true) (hf : Region.free .any ops listed i = true) (hr : (Region.ready .any ops listed).contains i = true)
    (hQ : ∀ c a w, Q (.panic c) (a.put oi.dst v) w → Q (.panic c) a w) (hd : (match oi.op with | .defer _ => false | _ => true) = true) (hw : Region.wanted oi (yielded ops a.tmps) = true) (hy : ∀ w, c w → (execOp a.eval oi).run P w = .ok (.value v) w)
    (h : HX l P ops Q S k (listed.setIfInBounds i true) (a.put oi.dst v) w) : HX l P ops Q S (k + 1) listed a w :=
  hx_first hi hfk hsel hf hr hQ (.inl ⟨c, hcm, fun _ h => h⟩) ⟨noDefx hd, .inl ⟨hw, hy⟩⟩ h
/-- It yields its value whatever the world. -/
theorem hx_pure {i : Nat} {oi : Oper} {v : Value} (hi : ops[i]? = some oi) (hfk : GX.firstKind oi.op = true) (hsel : Region.noSelect ops = true) (hf : Region.free .any ops listed i = true) (hr : (Region.ready .any ops listed).contains i = true)
    (hQ : ∀ c a w, Q (.panic c) (a.put oi.dst v) w → Q (.panic c) a w) (hd : (match oi.op with | .defer _ => false | _ => true) = true) (hw : Region.wanted oi (yielded ops a.tmps) = true) (hy : ∀ w, (execOp a.eval oi).run P w = .ok (.value v) w)
    (h : HX l P ops Q S k (listed.setIfInBounds i true) (a.put oi.dst v) w) : HX l P ops Q S (k + 1) listed a w :=
  hx_first (Si := fun _ => True) hi hfk hsel hf hr hQ (.inr fun _ => trivial) ⟨noDefx hd, .inl ⟨hw, fun w _ => hy w⟩⟩ h
/-- Its guard says no. -/
theorem hx_skip {i : Nat} {oi : Oper} (hi : ops[i]? = some oi) (hfk : GX.firstKind oi.op = true) (hsel : Region.noSelect ops = true) (hf : Region.free .any ops listed i = true) (hr : (Region.ready .any ops listed).contains i = true)
    (hQ : ∀ c a w, Q (.panic c) (a.put oi.dst undef) w → Q (.panic c) a w) (hd : (match oi.op with | .defer _ => false | _ => true) = true) (hw : Region.wanted oi (yielded ops a.tmps) = false)
    (h : HX l P ops Q S k (listed.setIfInBounds i true) (a.put oi.dst undef) w) : HX l P ops Q S (k + 1) listed a w :=
  hx_first (Si := fun _ => True) hi hfk hsel hf hr hQ (.inr fun _ => trivial) ⟨noDefx hd, .inr ⟨hw, rfl⟩⟩ h
/-- Whichever of those that may come up comes up. -/
def AllHX (l : Nat) (P : Program) (ops : Array Oper) (Q : Exit → Act → World → Prop) (S : List (Nat × (World → Prop))) (k : Nat) (listed : Array Bool) (a : Act) (w : World) (rs : List Nat) : Prop :=
  ∀ i ∈ rs, wpOpIn (GX.FW (some l)) 0 P ops Q i (fun a' w' => GT ops S (listed.setIfInBounds i true) w' ∧ HX l P ops Q S k (listed.setIfInBounds i true) a' w') a w
theorem hx_ready {rs : List Nat} (hr : Region.ready .any ops listed = rs) (hne : rs ≠ []) (h : AllHX l P ops Q S k listed a w rs) : HX l P ops Q S (k + 1) listed a w := fun hc hg =>
  ⟨fun h0 => absurd (hr ▸ h0) hne, fun i hi => wpOpIn_mono (fun a' w' h' => ⟨h'.1, h'.2 (hc.set hi) h'.1⟩) (h i (hr ▸ hi))⟩
theorem AllHX.nil : AllHX l P ops Q S k listed a w [] := fun _ h => by cases h
theorem wpOpIn_round_of {i : Nat} {o : Oper} {K : Act → World → Prop} (hi : ops[i]? = some o) (hd : (match o.op with | .defer _ => false | _ => true) = true) (hw : Region.wanted o (yielded ops a.tmps) = true) (h : Oper.wp P o a w K Q) : wpOpIn (GX.FW (some l)) 0 P ops Q i K a w := by
  unfold wpOpIn
  simp only [hi, hw, if_true]
  refine ⟨fun _ _ => trivial, ?_⟩
  rw [Oper.semAt_eq _ _ _ (noDefx hd)]
  unfold Oper.wp at h
  generalize (execOp a.eval o).run P w = r at *
  cases r with
  | ok x w' =>
    cases x <;> simp only [Oper.upon, Oper.uponIn] at h ⊢
    case value => exact h
    case skip => exact h
    case defer => exact h
    case enter f args => first | exact CallsIn.inRound l (callsIn_wide.2 h) | exact ⟨by simp [Fence.wide], CallsIn.inRound l (callsIn_wide.2 h)⟩
    case row row args => first | exact rowsIn_wide' (l := l) h | exact ⟨by simp [Fence.wide], rowsIn_wide' (l := l) h⟩
  | halt x w' => cases x <;> simp only [Oper.upon, Oper.uponIn] at h ⊢ <;> exact h
/-- An operation that does something: what the loads want that may still come up holds behind it. -/
theorem AllHX.cons {i : Nat} {o : Oper} {rs : List Nat} (hi : ops[i]? = some o) (hd : (match o.op with | .defer _ => false | _ => true) = true) (hw : Region.wanted o (yielded ops a.tmps) = true)
    (h : ∀ K : Act → World → Prop, Hid (∀ a' w', (∀ p ∈ S, coveredB ops (listed.setIfInBounds i true) p.1 = true ∨ p.2 w') → HX l P ops Q S k (listed.setIfInBounds i true) a' w' → K a' w') → Oper.wp P o a w K Q) (hs : AllHX l P ops Q S k listed a w rs) : AllHX l P ops Q S k listed a w (i :: rs) := fun j hj => by
  rcases List.mem_cons.1 hj with rfl | hj
  · exact wpOpIn_round_of hi hd hw (h _ (Lib.hid (fun a' w' h1 h2 => ⟨fun p hp => (h1 p hp).imp coveredB_ok id, h2⟩)))
  · exact hs j hj
theorem hx_done (hr : Region.ready .any ops listed = []) (h : Q .normal a w) : HX l P ops Q S k listed a w := fun _ _ => by
  cases k with
  | zero => exact ⟨hr, h⟩
  | succ k => exact ⟨fun _ => h, by rw [hr]; simp⟩
end

end PartOfHer

section PartOfTrp
open Go.RowKit
open Go.Maps
theorem ba_app (a b : List UInt8) : (⟨a.toArray⟩ : ByteArray) ++ ⟨b.toArray⟩ = ⟨(a ++ b).toArray⟩ := by congr 1
theorem tail_str (x a d : List UInt8) : (⟨x.toArray⟩ : ByteArray) ++ ⟨#[10, 101, 110, 100, 32]⟩ ++ ⟨a.toArray⟩ ++ ⟨d.toArray⟩ ++ ⟨#[10]⟩ = ⟨(x ++ ([10, 101, 110, 100, 32] ++ a ++ d ++ [10])).toArray⟩ := by
  simp only [ba_app, List.append_assoc]
/-- A field's text but its last line, value by value. -/
def flL (wd : Int) (zs : List Int) : Nat → List UInt8
  | 0 => []
  | n + 1 => flL wd zs n ++ (if (n : Int) % wd = 0 then [10] else [32]) ++ Lib.decDigits (ev zs n).toNat
def headL (wd : Int) (zs : List Int) : List UInt8 := [99, 104, 97, 114, 116, 32] ++ Lib.decDigits wd.toNat ++ [32] ++ Lib.decDigits ((zs.length : Int) / wd).toNat
def tailR (s : Int) : List UInt8 := [10, 101, 110, 100, 32] ++ Lib.decDigits (s % 97 / 10).toNat ++ Lib.decDigits (s % 97 % 10).toNat ++ [10]
def textR (wd : Int) (zs : List Int) : List UInt8 := headL wd zs ++ flL wd zs zs.length ++ tailR (sumN wd zs zs.length)
theorem flL_len {wd : Int} {zs : List Int} (hv : ∀ z ∈ zs, 0 ≤ z ∧ z ≤ 99999) : ∀ n : Nat, n ≤ zs.length → (flL wd zs n).length ≤ 22 * n
  | 0, _ => by simp [flL]
  | n + 1, h => by
    have h1 := flL_len (wd := wd) hv n (by omega)
    have hz := hv _ (List.mem_of_getElem? (ev_is (vs := zs) (p := n) (by omega)))
    have h2 := dec_len (ev zs n).toNat (by omega)
    simp only [flL, List.length_append]
    split <;> simp <;> omega
set_option maxHeartbeats 8000000 in
set_option maxRecDepth 100000 in
theorem rPrint_any (wd : Int) (A : Option Addr) (c : Nat) (zs : List Int) (w : World) (hz : Ints w (.slice A zs.length c) zs) (hf : fieldB wd zs = true) :
    Calls Tryz.prog 41 #[.agg #[.int .i64 wd, .slice A zs.length c]] w fun e w' => e = .returned (str (textR wd zs)) ∧ Below w.heap.size w w' := by
  obtain ⟨hv0, hw1, hw2, hl1, hl2⟩ := fieldB_all hf
  have hv : ∀ z ∈ zs, 0 ≤ z ∧ z ≤ 99999 := fun z h => betw_iff.1 (hv0 z h)
  obtain ⟨b, off, rfl, hc1, hc2⟩ := hz.at0 (by omega)
  unfold maxLen at hc2
  have HZ0 := Lib.hid hz
  have HV := Lib.hid hv
  have HBD := Lib.hid (fun n h => sumN_bd (wd := wd) ⟨by omega, by omega⟩ hv (by omega) n h)
  have HFL := Lib.hid (fun n h => flL_len (wd := wd) hv n h)
  have r0 : 0 ≤ (zs.length : Int) / wd := Int.ediv_nonneg (by omega) (by omega)
  have r1 : (zs.length : Int) / wd ≤ zs.length := Int.ediv_le_self _ (by omega)
  have t2 : (zs.length : Int).tdiv wd = (zs.length : Int) / wd := Int.tdiv_eq_ediv_of_nonneg (by omega)
  have t3 : IntKind.i64.wrap ((zs.length : Int) / wd) = (zs.length : Int) / wd := IntWalk.i64_in _ (by omega)
  have t5 : (wd == 0) = false := beq_eq_false_iff_ne.2 (by omega)
  have t6 : ¬ wd = 0 := by omega
  have hd1 := dec_len wd.toNat (by omega)
  have hd2 := dec_len ((zs.length : Int) / wd).toNat (by omega)
  have HD1 : Hid (∀ W, Calls Tryz.prog 81 #[.int .i64 (wd)] W fun e w' => e = .returned (str (Lib.decDigits wd.toNat)) ∧ Below W.heap.size W w') := Lib.hid (fun W => by
    have := rDec_pos wd.toNat W (by omega)
    rwa [Int.toNat_of_nonneg (by omega)] at this)
  have HD2 : Hid (∀ W, Calls Tryz.prog 81 #[.int .i64 ((zs.length : Int) / wd)] W fun e w' => e = .returned (str (Lib.decDigits ((zs.length : Int) / wd).toNat)) ∧ Below W.heap.size W w') := Lib.hid (fun W => by
    have := rDec_pos ((zs.length : Int) / wd).toNat W (by omega)
    rwa [Int.toNat_of_nonneg r0] at this)
  have ht1 : ¬ 9223372036854775807 < 6 + (Lib.decDigits wd.toNat).length := by omega
  have ht2 : ¬ 9223372036854775807 < 6 + (Lib.decDigits wd.toNat).length + 1 := by omega
  have ht3 : ¬ 9223372036854775807 < 6 + (Lib.decDigits wd.toNat).length + 1 + (Lib.decDigits ((zs.length : Int) / wd).toNat).length := by omega
  have HH := Lib.hid (show headL wd zs = [99, 104, 97, 114, 116, 32] ++ Lib.decDigits wd.toNat ++ [32] ++ Lib.decDigits ((zs.length : Int) / wd).toNat from rfl)
  clear hz hv hv0 hf
  have HR := Lib.hid ((Frm.nil w).add (.cells #[.int .i64 wd, .slice (some ⟨b, off, none⟩) zs.length c] 27) rfl)
  have x0 := HR.out.cells (List.mem_cons_self ..)
  go_enter Tryz.func41, Tryz.ntmps41
  go_upto_region 1 with fail
  go_cut [3] (fun s3 wx => s3 = str (headL wd zs) ∧ Frm w [(w.heap.size, (.cells #[.int .i64 wd, .slice (some ⟨b, off, none⟩) zs.length c] 27))] wx)
  case first =>
    have HRq := Lib.hid (RW.start HR.out)
    clear HR x0
    have HR := HRq
    clear HRq

    refine hw_start [(1, fun w' : World => ∀ o, w'.cell? ⟨w.heap.size, o, none⟩ = #[Value.int .i64 wd, .slice (some ⟨b, off, none⟩) zs.length c][o]?), (6, fun w' : World => ∀ o, w'.cell? ⟨w.heap.size, o, none⟩ = #[Value.int .i64 wd, .slice (some ⟨b, off, none⟩) zs.length c][o]?), (9, fun w' : World => ∀ o, w'.cell? ⟨w.heap.size, o, none⟩ = #[Value.int .i64 wd, .slice (some ⟨b, off, none⟩) zs.length c][o]?)] (by kernel_rfl) (List.forall_mem_cons.2 ⟨HR.out.drew.frm.cells (List.mem_cons_self ..), List.forall_mem_cons.2 ⟨HR.out.drew.frm.cells (List.mem_cons_self ..), List.forall_mem_cons.2 ⟨HR.out.drew.frm.cells (List.mem_cons_self ..), (by simp)⟩⟩⟩) ?_
    refine (fun (W1 : World) (hRn : RW w _ [(w.heap.size, (.cells #[.int .i64 wd, .slice (some ⟨b, off, none⟩) zs.length c] 27))] [] W1) (hzW1 : Hid (W1.heap.size = (w.alloc (.cells #[.int .i64 wd, .slice (some ⟨b, off, none⟩) zs.length c] 27)).heap.size)) => (?_ : HW _ _ _ _ _ _ _ W1)) _ HR.out.drew (Lib.hid rfl)
    clear HR
    have HR := Lib.hid hRn
    clear hRn
    refine hw_pure (i := 0) (oi := ⟨some 6, _, _, _, _, _⟩) (v := ?v2) rfl (by kernel_rfl) (by kernel_rfl) (by kernel_rfl) (by kernel_rfl) (fun _ _ _ h => h) rfl (by kernel_rfl) ?hv2 ?rv2
    case hv2 => (intro w; go_simp) <;> (with_reducible rfl)
    try simp only [Act.put, List.setIfInBounds_toArray, List.set_cons_zero, List.set_cons_succ]
    refine hw_load (i := 1) (oi := ⟨some 7, _, _, _, _, _⟩) (v := ?v3) _ (List.mem_cons_self ..) rfl (by kernel_rfl) (by kernel_rfl) (by kernel_rfl) (by kernel_rfl) (fun _ _ _ h => h) rfl (by kernel_rfl) ?hv3 ?rv3
    case hv3 => (intro w hSw; (try dsimp only at hSw); go_simp) <;> (with_reducible rfl)
    try simp only [Act.put, List.setIfInBounds_toArray, List.set_cons_zero, List.set_cons_succ]
    refine hw_pure (i := 5) (oi := ⟨some 11, _, _, _, _, _⟩) (v := ?v4) rfl (by kernel_rfl) (by kernel_rfl) (by kernel_rfl) (by kernel_rfl) (fun _ _ _ h => h) rfl (by kernel_rfl) ?hv4 ?rv4
    case hv4 => (intro w; go_simp) <;> (with_reducible rfl)
    try simp only [Act.put, List.setIfInBounds_toArray, List.set_cons_zero, List.set_cons_succ]
    refine hw_load (i := 6) (oi := ⟨some 12, _, _, _, _, _⟩) (v := ?v5) _ (List.mem_cons_of_mem _ (List.mem_cons_self ..)) rfl (by kernel_rfl) (by kernel_rfl) (by kernel_rfl) (by kernel_rfl) (fun _ _ _ h => h) rfl (by kernel_rfl) ?hv5 ?rv5
    case hv5 => (intro w hSw; (try dsimp only at hSw); go_simp) <;> (with_reducible rfl)
    try simp only [Act.put, List.setIfInBounds_toArray, List.set_cons_zero, List.set_cons_succ]
    refine hw_pure (i := 7) (oi := ⟨some 13, _, _, _, _, _⟩) (v := ?v6) rfl (by kernel_rfl) (by kernel_rfl) (by kernel_rfl) (by kernel_rfl) (fun _ _ _ h => h) rfl (by kernel_rfl) ?hv6 ?rv6
    case hv6 => (intro w; go_simp) <;> (with_reducible rfl)
    try simp only [Act.put, List.setIfInBounds_toArray, List.set_cons_zero, List.set_cons_succ]
    refine hw_pure (i := 8) (oi := ⟨some 14, _, _, _, _, _⟩) (v := ?v7) rfl (by kernel_rfl) (by kernel_rfl) (by kernel_rfl) (by kernel_rfl) (fun _ _ _ h => h) rfl (by kernel_rfl) ?hv7 ?rv7
    case hv7 => (intro w; go_simp) <;> (with_reducible rfl)
    try simp only [Act.put, List.setIfInBounds_toArray, List.set_cons_zero, List.set_cons_succ]
    refine hw_load (i := 9) (oi := ⟨some 15, _, _, _, _, _⟩) (v := ?v8) _ (List.mem_cons_of_mem _ (List.mem_cons_of_mem _ (List.mem_cons_self ..))) rfl (by kernel_rfl) (by kernel_rfl) (by kernel_rfl) (by kernel_rfl) (fun _ _ _ h => h) rfl (by kernel_rfl) ?hv8 ?rv8
    case hv8 => (intro w hSw; (try dsimp only at hSw); go_simp) <;> (with_reducible rfl)
    try simp only [Act.put, List.setIfInBounds_toArray, List.set_cons_zero, List.set_cons_succ]
    refine hw_pure (i := 10) (oi := ⟨some 16, _, _, _, _, _⟩) (v := ?v9) rfl (by kernel_rfl) (by kernel_rfl) (by kernel_rfl) (by kernel_rfl) (fun _ _ _ h => h) rfl (by kernel_rfl) ?hv9 ?rv9
    case hv9 => (intro w; go_simp) <;> (with_reducible rfl)
    try simp only [Act.put, List.setIfInBounds_toArray, List.set_cons_zero, List.set_cons_succ]
    refine hw_ready (rs := [2]) (by kernel_rfl) (by simp) ?_
    refine AllHW.cons (i := 2) (o := ⟨some 8, _, _, _, _, _⟩) rfl rfl (by kernel_rfl) (fun K hK => ?s10) ?ms10
    case s10 =>
      (try go_simp)
      go_at_call 81
      refine (HD1.out _).mono ?_
      rintro e W11 ⟨rfl, hbd1⟩
      have hRn := HR.out.below hbd1
      clear HR hbd1
      have HR := Lib.hid hRn
      clear hRn
      (try go_wp2_with fail)
      refine hK.out _ _ (List.forall_mem_cons.2 ⟨.inl (by kernel_rfl), List.forall_mem_cons.2 ⟨.inr (HR.out.frm.cells (List.mem_cons_self ..)), List.forall_mem_cons.2 ⟨.inr (HR.out.frm.cells (List.mem_cons_self ..)), (by simp)⟩⟩⟩) ?_
      refine hw_pure (i := 3) (oi := ⟨some 9, _, _, _, _, _⟩) (v := ?v12) rfl (by kernel_rfl) (by kernel_rfl) (by kernel_rfl) (by kernel_rfl) (fun _ _ _ h => h) rfl (by kernel_rfl) ?hv12 ?rv12
      case hv12 => (intro w; go_simp) <;> (with_reducible rfl)
      try simp only [Act.put, List.setIfInBounds_toArray, List.set_cons_zero, List.set_cons_succ]
      refine hw_pure (i := 4) (oi := ⟨some 10, _, _, _, _, _⟩) (v := ?v13) rfl (by kernel_rfl) (by kernel_rfl) (by kernel_rfl) (by kernel_rfl) (fun _ _ _ h => h) rfl (by kernel_rfl) ?hv13 ?rv13
      case hv13 => (intro w; go_simp) <;> (with_reducible rfl)
      try simp only [Act.put, List.setIfInBounds_toArray, List.set_cons_zero, List.set_cons_succ]
      refine hw_ready (rs := [11]) (by kernel_rfl) (by simp) ?_
      refine AllHW.cons (i := 11) (o := ⟨some 17, _, _, _, _, _⟩) rfl rfl (by kernel_rfl) (fun K hK => ?s14) ?ms14
      case s14 =>
        (try go_simp)
        go_at_call 81
        refine (HD2.out _).mono ?_
        rintro e W15 ⟨rfl, hbd1⟩
        have hRn := HR.out.below hbd1
        clear HR hbd1
        have HR := Lib.hid hRn
        clear hRn
        (try go_wp2_with fail)
        refine hK.out _ _ (List.forall_mem_cons.2 ⟨.inl (by kernel_rfl), List.forall_mem_cons.2 ⟨.inl (by kernel_rfl), List.forall_mem_cons.2 ⟨.inl (by kernel_rfl), (by simp)⟩⟩⟩) ?_
        refine hw_pure (i := 12) (oi := ⟨some 18, _, _, _, _, _⟩) (v := ?v16) rfl (by kernel_rfl) (by kernel_rfl) (by kernel_rfl) (by kernel_rfl) (fun _ _ _ h => h) rfl (by kernel_rfl) ?hv16 ?rv16
        case hv16 => (intro w; go_simp) <;> (with_reducible rfl)
        try simp only [Act.put, List.setIfInBounds_toArray, List.set_cons_zero, List.set_cons_succ]
        refine hw_pure (i := 13) (oi := ⟨some 3, _, _, _, _, _⟩) (v := ?v17) rfl (by kernel_rfl) (by kernel_rfl) (by kernel_rfl) (by kernel_rfl) (fun _ _ _ h => h) rfl (by kernel_rfl) ?hv17 ?rv17
        case hv17 => (intro w; go_simp) <;> (with_reducible rfl)
        try simp only [Act.put, List.setIfInBounds_toArray, List.set_cons_zero, List.set_cons_succ]
        refine hw_done (by kernel_rfl) ?_
        go_wp2_with fail
        go_meet
        exact ⟨by rw [HH.out]; simp only [ba_app], HR.out.frm⟩
      exact AllHW.nil
    exact AllHW.nil
  case rest =>
    obtain ⟨rfl, hF⟩ := hcut
    have hhl : (headL wd zs).length ≤ 60 := by rw [HH.out]; simp only [List.length_append, List.length_cons, List.length_nil]; omega
    clear HR x0 t2 t3 HD1 HD2 HH ht1 ht2 ht3
    have HTX := Lib.hid (show textR wd zs = headL wd zs ++ flL wd zs zs.length ++ tailR (sumN wd zs zs.length) from rfl)
    generalize headL wd zs = hd at *
    have HR := Lib.hid hF
    clear hF
    have x0 := HR.out.cells (List.mem_cons_self ..)
    go_wp2_with fail
    go_loopw [3, 4, 5] (fun s m i wr => ∃ n : Nat, n ≤ zs.length ∧ i = .int .i64 (n : Int) ∧ s = str (hd ++ flL wd zs n) ∧ m = .int .i64 (sumN wd zs n) ∧ Frm w [(w.heap.size, (.cells #[.int .i64 wd, .slice (some ⟨b, off, none⟩) zs.length c] 27))] wr) (fun _ _ i _ => zs.length - (intOf i).toNat)
    case atStart => exact ⟨0, Nat.zero_le _, rfl, by simp [flL], rfl, (by (repeat (with_reducible first | exact HR.out | apply Frm.drew | apply Frm.alloc | apply Frm.drewN)))⟩
    case round =>
      obtain ⟨n, hn, rfl, rfl, rfl, hF⟩ := hrel
      clear HR x0
      have HR := Lib.hid hF
      clear hF
      have x0 := HR.out.cells (List.mem_cons_self ..)
      have hb := HBD.out n hn
      have hfl := HFL.out n hn
      by_cases hnl : n < zs.length
      · have hx := ev_is (vs := zs) (p := n) hnl
        have c0 := int_at HZ0.out HR.out.b hx
        have HC0 := Lib.hid (fun (W : World) (h : Below w.heap.size w W) => int_at HZ0.out h hx)
        have hz := HV.out _ (List.mem_of_getElem? hx)
        have HS := Lib.hid (show sumN wd zs (n + 1) = sumN wd zs n + ev zs n * (1 + (n : Int) / wd) from rfl)
        have HFS := Lib.hid (show flL wd zs (n + 1) = flL wd zs n ++ (if (n : Int) % wd = 0 then [10] else [32]) ++ Lib.decDigits (ev zs n).toNat from rfl)
        have HDZ : Hid (∀ W, Calls Tryz.prog 81 #[.int .i64 (ev zs n)] W fun e w' => e = .returned (str (Lib.decDigits (ev zs n).toNat)) ∧ Below W.heap.size W w') := Lib.hid (fun W => by
          have := rDec_pos (ev zs n).toNat W (by omega)
          rwa [Int.toNat_of_nonneg hz.1] at this)
        have hdz := dec_len (ev zs n).toNat (by omega)
        generalize ev zs n = z at *
        generalize sumN wd zs n = sm at *
        have q0 : 0 ≤ (n : Int) / wd := Int.ediv_nonneg (by omega) (by omega)
        have q1 : (n : Int) / wd ≤ n := Int.ediv_le_self _ (by omega)
        have m0 : 0 ≤ (n : Int) % wd := Int.emod_nonneg _ (by omega)
        have m9 : (n : Int) % wd < wd := Int.emod_lt_of_pos _ (by omega)
        have m1 : 0 ≤ z * (1 + (n : Int) / wd) := Int.mul_nonneg hz.1 (by omega)
        have m2 : z * (1 + (n : Int) / wd) ≤ 99999 * 1001 := Int.mul_le_mul hz.2 (by omega) (by omega) (by omega)
        have t2 : (n : Int).tdiv wd = (n : Int) / wd := Int.tdiv_eq_ediv_of_nonneg (by omega)
        have t1 : (n : Int).tmod wd = (n : Int) % wd := Int.tmod_eq_emod_of_nonneg (by omega)
        obtain ⟨q, hq⟩ : ∃ q, (n : Int) / wd = q := ⟨_, rfl⟩
        rw [hq] at q0 q1 m1 m2 HS t2
        have t3 : IntKind.i64.wrap q = q := IntWalk.i64_in _ (by omega)
        have t4 : IntKind.i64.wrap (q + 1) = 1 + q := by rw [show q + 1 = 1 + q by omega]; exact IntWalk.i64_in _ (by omega)
        have t7 : IntKind.i64.wrap (z * (1 + q)) = z * (1 + q) := IntWalk.i64_in _ (by omega)
        have t8 : IntKind.i64.wrap (sm + z * (1 + q)) = sm + z * (1 + q) := IntWalk.i64_in _ (by omega)
        clear hq hx
        by_cases hm : (n : Int) % wd = 0
        all_goals
          first
            | (rw [if_pos hm] at HFS; rw [hm] at t1)
            | rw [if_neg hm] at HFS
          generalize flL wd zs n = fl at *
          have HM := Lib.hid hm
          go_upto_region 9 with fail
          go_upto_region 10 with (go_at_call 81; with_reducible refine (HDZ.out _).mono ?_; rintro e wa ⟨rfl, hba⟩; have HRq := Lib.hid (Frm.below (w := w) (bs := [(w.heap.size, (.cells #[.int .i64 wd, .slice (some ⟨b, off, none⟩) zs.length c] 27))]) (by (repeat (with_reducible first | exact HR.out | apply Frm.drew | apply Frm.alloc | apply Frm.drewN))) hba); clear HR x0; have HR := HRq; clear HRq hba; have x0 := HR.out.cells (List.mem_cons_self ..))
          have c0 := HC0.out _ HR.out.b
          go_quiet (fail)
          go_wp2_with fail
          go_roundw
          case rel => exact ⟨n + 1, by omega, by go_num, by rw [HFS.out]; simp only [ba_app, List.append_assoc], by rw [HS.out], by first | exact HR.out | exact HR.out.drew | exact HR.out.drewN _⟩
          case measure => simp [intOf]; omega
      · obtain rfl : n = zs.length := by omega
        have HTL := Lib.hid (show tailR (sumN wd zs zs.length) = [10, 101, 110, 100, 32] ++ Lib.decDigits (sumN wd zs zs.length % 97 / 10).toNat ++ Lib.decDigits (sumN wd zs zs.length % 97 % 10).toNat ++ [10] from rfl)
        generalize sumN wd zs zs.length = sm at *
        generalize flL wd zs zs.length = fl at *
        have t1 : sm.tmod 97 = sm % 97 := Int.tmod_eq_emod_of_nonneg (by omega)
        have t2 : (sm % 97).tdiv 10 = sm % 97 / 10 := Int.tdiv_eq_ediv_of_nonneg (by omega)
        have t3 : (sm % 97).tmod 10 = sm % 97 % 10 := Int.tmod_eq_emod_of_nonneg (by omega)
        have t4 : IntKind.i64.wrap (sm % 97 / 10) = sm % 97 / 10 := IntWalk.i64_in _ (by omega)
        have t7 : IntKind.i64.wrap (sm % 97) = sm % 97 := IntWalk.i64_in _ (by omega)
        have t8 : IntKind.i64.wrap (sm % 97 % 10) = sm % 97 % 10 := IntWalk.i64_in _ (by omega)
        have HE1 : Hid (∀ W, Calls Tryz.prog 81 #[.int .i64 (sm % 97 / 10)] W fun e w' => e = .returned (str (Lib.decDigits (sm % 97 / 10).toNat)) ∧ Below W.heap.size W w') := Lib.hid (fun W => by
          have := rDec_pos (sm % 97 / 10).toNat W (by omega)
          rwa [Int.toNat_of_nonneg (by omega)] at this)
        have HE2 : Hid (∀ W, Calls Tryz.prog 81 #[.int .i64 (sm % 97 % 10)] W fun e w' => e = .returned (str (Lib.decDigits (sm % 97 % 10).toNat)) ∧ Below W.heap.size W w') := Lib.hid (fun W => by
          have := rDec_pos (sm % 97 % 10).toNat W (by omega)
          rwa [Int.toNat_of_nonneg (by omega)] at this)
        have he1 := dec_len (sm % 97 / 10).toNat (by omega)
        have he2 := dec_len (sm % 97 % 10).toNat (by omega)
        go_wp2_with (first | (go_at_call 81; with_reducible refine (HE1.out _).mono ?_; rintro e wa ⟨rfl, hba⟩; have HRq := Lib.hid (Frm.below (w := w) (bs := [(w.heap.size, (.cells #[.int .i64 wd, .slice (some ⟨b, off, none⟩) zs.length c] 27))]) (by (repeat (with_reducible first | exact HR.out | apply Frm.drew | apply Frm.alloc | apply Frm.drewN))) hba); clear HR x0; have HR := HRq; clear HRq hba; have x0 := HR.out.cells (List.mem_cons_self ..)) | (go_at_call 81; with_reducible refine (HE2.out _).mono ?_; rintro e wa ⟨rfl, hba⟩; have HRq := Lib.hid (Frm.below (w := w) (bs := [(w.heap.size, (.cells #[.int .i64 wd, .slice (some ⟨b, off, none⟩) zs.length c] 27))]) (by (repeat (with_reducible first | exact HR.out | apply Frm.drew | apply Frm.alloc | apply Frm.drewN))) hba); clear HR x0; have HR := HRq; clear HRq hba; have x0 := HR.out.cells (List.mem_cons_self ..)))
        go_ret
        exact ⟨by rw [HTX.out, HTL.out]; exact congrArg (fun x => Ending.returned (.string x)) (tail_str _ _ _), HR.out.b⟩

end PartOfTrp

section PartOfPrd
open Go.RowKit
open Go.Maps
theorem spl_not (b : UInt8) : ∀ (l : List UInt8), ∀ x ∈ spl b l, b ∉ x
  | [], x, hx => by simp [spl] at hx; subst hx; simp
  | c :: l, x, hx => by
    have ih := spl_not b l
    rw [spl_cons] at hx
    split at hx
    · rcases List.mem_cons.1 hx with rfl | hx
      · simp
      · exact ih x hx
    · next hc =>
      split at hx
      · simp at hx; subst hx; simp; exact fun e => hc e.symm
      · next w ws hs =>
        rw [hs] at ih
        rcases List.mem_cons.1 hx with rfl | hx
        · simp only [List.mem_cons, not_or]
          exact ⟨fun e => hc e.symm, ih w (List.mem_cons_self ..)⟩
        · exact ih x (List.mem_cons_of_mem _ hx)
theorem join_one' (x : List UInt8) (b : UInt8) : Lib.join [x] [b] = x := by simp [Lib.join, List.intercalate]
theorem join_cons' (x y : List UInt8) (r : List (List UInt8)) (b : UInt8) : Lib.join (x :: y :: r) [b] = x ++ b :: Lib.join (y :: r) [b] := by simp [Lib.join, List.intercalate, List.intersperse]
theorem cut_join0 : Lib.cut (Lib.join ([] : List (List UInt8)) [10]) [10] = ([], [], false) := cut_no 10 [] (by simp)
theorem cut_join1 {x : List UInt8} (h : 10 ∉ x) : Lib.cut (Lib.join [x] [10]) [10] = (x, [], false) := by rw [join_one']; exact cut_no 10 x h
theorem cut_join2 {x y : List UInt8} {r : List (List UInt8)} (h : 10 ∉ x) : Lib.cut (Lib.join (x :: y :: r) [10]) [10] = (x, Lib.join (y :: r) [10], true) := by rw [join_cons']; exact cut_at 10 x _ h
theorem pre_yes (s : List UInt8) : Lib.hasPrefix (chartW ++ s) [99, 104, 97, 114, 116, 32] = true ∧ Lib.trimPrefix (chartW ++ s) [99, 104, 97, 114, 116, 32] = s := by
  have h : Lib.hasPrefix (chartW ++ s) [99, 104, 97, 114, 116, 32] = true := by
    unfold Lib.hasPrefix chartW
    exact List.isPrefixOf_iff_prefix.2 (List.prefix_append _ _)
  refine ⟨h, ?_⟩
  unfold Lib.trimPrefix
  rw [h]
  rfl
theorem pre_of {l : List UInt8} (h : Lib.hasPrefix l [99, 104, 97, 114, 116, 32] = true) : ∃ s, l = chartW ++ s := by
  obtain ⟨s, hs⟩ := List.isPrefixOf_iff_prefix.1 h
  exact ⟨s, hs.symm⟩
theorem pre_no {l : List UInt8} (h : Lib.hasPrefix l [99, 104, 97, 114, 116, 32] = false) (s : List UInt8) : l ≠ chartW ++ s := fun e => by
  rw [e, (pre_yes s).1] at h
  cases h
theorem head_words {ls : List (List UInt8)} {wd rw : Nat} {s : List UInt8} (h : GoodL ls wd rw) (hs : ls.getD 0 [] = chartW ++ s) : ∃ a b, wdsF s = [a, b] ∧ goodN a ∧ goodN b ∧ decV a = wd ∧ decV b = rw := by
  obtain ⟨a, b, e, ga, gb, ea, eb⟩ := h.head
  rw [hs] at e
  have e2 := List.append_cancel_left e
  refine ⟨a, b, ?_, ga, gb, ea, eb⟩
  rw [e2, ← join_two, wds_join]
  intro w hw
  simp at hw
  rcases hw with rfl | rfl
  · exact ga
  · exact gb
theorem wds_len (l : List UInt8) : (wdsF l).length ≤ l.length + 1 := by
  unfold wdsF
  split
  · simp
  · exact spl_len 32 l
/-- The bytes of some lines, with a line feed each. -/
def tot : List (List UInt8) → Nat
  | [] => 0
  | x :: r => x.length + 1 + tot r
theorem tot_app : ∀ a b, tot (a ++ b) = tot a + tot b
  | [], b => by simp [tot]
  | x :: a, b => by rw [List.cons_append, tot, tot, tot_app a b]; omega
theorem join_tot {b : UInt8} : ∀ ls : List (List UInt8), ls ≠ [] → (Lib.join ls [b]).length + 1 = tot ls
  | [], h => absurd rfl h
  | [x], _ => by rw [join_one']; simp [tot]
  | x :: y :: r, _ => by
    have := join_tot (b := b) (y :: r) (by simp)
    rw [join_cons', List.length_append, List.length_cons, tot]
    omega
theorem tot_take (ls : List (List UInt8)) (n : Nat) : tot (ls.take n) + tot (ls.drop n) = tot ls := by
  rw [← tot_app, List.take_append_drop]
theorem tot_mem {ls : List (List UInt8)} {x : List UInt8} (h : x ∈ ls) : x.length + 1 ≤ tot ls := by
  obtain ⟨a, b, rfl⟩ := List.append_of_mem h
  rw [tot_app, tot]
  omega
theorem join_ge {b : UInt8} (ls : List (List UInt8)) (x : List UInt8) (h : x ∈ ls) : x.length ≤ (Lib.join ls [b]).length := by
  have h1 := tot_mem h
  have h2 := join_tot (b := b) ls (fun e => by rw [e] at h; cases h)
  omega
theorem join_drop {b : UInt8} (ls : List (List UInt8)) (n : Nat) : (Lib.join (ls.drop n) [b]).length ≤ (Lib.join ls [b]).length := by
  by_cases h : ls.drop n = []
  · rw [h]; simp [Lib.join, List.intercalate]
  · have h1 := join_tot (b := b) _ h
    have h2 := join_tot (b := b) ls (fun e => by rw [e] at h; simp at h)
    have := tot_take ls n
    omega
theorem vals_tot (ls : List (List UInt8)) : ∀ n, n + 1 ≤ ls.length → (valsN ls n).length ≤ tot ((ls.drop 1).take n)
  | 0, _ => by simp [valsN]
  | n + 1, h => by
    have ih := vals_tot ls n (by omega)
    have e : rowL ls n = ls[n + 1] := by simp [rowL, show n + 1 < ls.length by omega]
    have e2 : (ls.drop 1).take (n + 1) = (ls.drop 1).take n ++ [rowL ls n] := by
      rw [List.take_add_one, List.getElem?_drop, Nat.add_comm 1 n, List.getElem?_eq_getElem (by omega), e]
      rfl
    rw [e2, tot_app, valsN, List.length_append, valsF_len]
    have := wds_len (rowL ls n)
    simp only [tot]
    omega
theorem vals_size (ls : List (List UInt8)) (n : Nat) (h : n + 1 ≤ ls.length) : (valsN ls n).length ≤ (Lib.join ls [10]).length + 1 := by
  have h1 := vals_tot ls n h
  have h2 := tot_take (ls.drop 1) n
  have h3 := tot_take ls 1
  have h4 := join_tot (b := 10) ls (fun e => by rw [e] at h; simp at h)
  omega
theorem row_drop {l0 x : List UInt8} {lr t : List (List UInt8)} {n : Nat} (h : lr.drop n = x :: t) : rowL (l0 :: lr) n = x := by
  have e := congrArg (fun l => l[0]?) h
  simp at e
  simp [rowL, e]
theorem endL_join (wd : Int) (zs : List Int) : Lib.join [endW wd zs, []] [10] = endL wd zs := by rw [join_cons', join_one']; rfl
theorem good_end {l0 : List UInt8} {lr : List (List UInt8)} {wd rw : Nat} (h : GoodL (l0 :: lr) wd rw) : lr.drop rw = [endW wd (valsN (l0 :: lr) rw), []] := by
  have hl : lr.length = rw + 2 := by have := h.len; simp at this; omega
  have e1 := h.last
  have e2 := h.nil
  apply List.ext_getElem?
  intro i
  rw [List.getElem?_drop]
  match i with
  | 0 =>
    simp only [Nat.add_zero]
    rw [List.getElem?_eq_getElem (by omega)]
    simp [show rw < lr.length by omega] at e1
    rw [e1]; rfl
  | 1 =>
    rw [List.getElem?_eq_getElem (by omega)]
    simp [show rw + 1 < lr.length by omega] at e2
    rw [e2]; rfl
  | i + 2 =>
    rw [List.getElem?_eq_none (by omega)]
    simp
theorem end_good {l0 : List UInt8} {lr : List (List UInt8)} {wd rw : Nat} (hh : ∃ a b, (l0 :: lr).getD 0 [] = chartW ++ (a ++ [32] ++ b) ∧ goodN a ∧ goodN b ∧ decV a = wd ∧ decV b = rw) (hr : ∀ r, r < rw → rowOk wd (rowL (l0 :: lr) r)) (hno : ∀ x ∈ l0 :: lr, 10 ∉ x) (he : Lib.join (lr.drop rw) [10] = endL wd (valsN (l0 :: lr) rw)) : GoodL (l0 :: lr) wd rw := by
  have hne : lr.drop rw ≠ [] := fun e => by
    rw [e] at he
    have := congrArg List.length he
    simp [endL, Lib.join, List.intercalate] at this
  have e1 : lr.drop rw = [endW wd (valsN (l0 :: lr) rw), []] := by
    have h1 := join_spl 10 (lr.drop rw) hne (fun x hx => hno x (List.mem_cons_of_mem _ (List.mem_of_mem_drop hx)))
    rw [he, endL_eq, spl_app 10 _ [] (endW_feed _ _)] at h1
    exact h1.symm
  have hl : lr.length = rw + 2 := by have := congrArg List.length e1; simp at this; omega
  refine ⟨by simp [hl], hh, hr, ?_, ?_⟩
  · have := congrArg (fun l => l[0]?) e1
    simp [List.getElem?_drop] at this
    simp [this]
  · have := congrArg (fun l => l[1]?) e1
    simp [List.getElem?_drop] at this
    simp [this]
/-- A list of numbers in a block that is new. -/
def IntsF (base : Nat) (w : World) (E : Option Addr) (ec : Nat) (zs : List Int) : Prop := Ints w (.slice E zs.length ec) zs ∧ ∀ b o, E = some ⟨b, o, none⟩ → zs ≠ [] → base ≤ b
/-- What read returns: the field whose text it is, or that there is none. -/
def RdPost2 (w : World) (ls : List (List UInt8)) (e : Ending) (w' : World) : Prop :=
  Below w.heap.size w w' ∧ ((∃ (wd rw : Nat) (zs : List Int) (E : Option Addr) (ec : Nat), GoodL ls wd rw ∧ zs = valsN ls rw ∧ e = .returned (.tuple #[.agg #[.int .i64 (wd : Int), .slice E zs.length ec], .bool true]) ∧ IntsF w.heap.size w' E ec zs) ∨ ((∀ wd rw, ¬ GoodL ls wd rw) ∧ ∃ (a : Int) (E : Option Addr) (n ec : Nat), e = .returned (.tuple #[.agg #[.int .i64 a, .slice E n ec], .bool false])))
set_option maxHeartbeats 16000000 in
set_option maxRecDepth 100000 in
theorem read_any (T : List UInt8) (w : World) (m : Int) (hm : MxL w m) (ht : Tab w) (hl : T.length ≤ 400) :
    Calls Tryz.prog 80 #[str T] w fun e w' => RdPost2 w (spl 10 T) e w' := by
  have HM := Lib.hid hm
  have HT := Lib.hid ht
  have HNO := Lib.hid (spl_not 10 T)
  have HJT := Lib.hid (spl_join 10 T).symm
  have HXL0 : Hid (∀ x ∈ spl 10 T, x.length ≤ 400) := Lib.hid (fun x hx => by
    have := join_ge (b := 10) (spl 10 T) x hx
    rw [spl_join] at this
    omega)
  have HJL0 : Hid (∀ n q, (spl 10 T).drop n = q → (Lib.join q [10]).length ≤ 400) := Lib.hid (fun n q hq => by
    have := join_drop (b := 10) (spl 10 T) n
    rw [spl_join, hq] at this
    omega)
  have HSZ : Hid (∀ n, n + 1 ≤ (spl 10 T).length → (valsN (spl 10 T) n).length ≤ 401) := Lib.hid (fun n hn => by
    have := vals_size (spl 10 T) n hn
    rw [spl_join] at this
    omega)
  cases hls : spl 10 T with
  | nil => exact absurd hls (spl_ne _ _)
  | cons l0 lr =>
    rw [hls] at HNO HJT HXL0 HJL0 HSZ
    have HXL := HXL0
    have HJL : Hid (∀ n q, lr.drop n = q → (Lib.join q [10]).length ≤ 400) := Lib.hid (fun n q hq => HJL0.out (n + 1) q hq)
    have h10 : 10 ∉ l0 := HNO.out l0 (List.mem_cons_self ..)
    have hx0 : l0.length ≤ 400 := HXL.out l0 (List.mem_cons_self ..)
    obtain ⟨bb, hcut⟩ : ∃ bb, Lib.cut T [10] = (l0, Lib.join lr [10], bb) := by
      rw [HJT.out]
      cases lr with
      | nil => exact ⟨_, cut_join1 h10⟩
      | cons y r => exact ⟨_, cut_join2 h10⟩
    have HCUT := Lib.hid hcut
    clear hm ht hls hcut HXL0 HJL0 HJT
    have HR := Lib.hid ((RW.start (Frm.nil w)).nil 3 1 |>.add (.cells #[.int .i64 0, .slice none 0 0] 27) rfl)
    have x0 := HR.out.frm.cells (List.mem_cons_self ..); have f0 := HR.out.frm.free (List.mem_cons_self ..); have k0 := HR.out.frm.lt (List.mem_cons_self ..)
    cases hp : Lib.hasPrefix l0 [99, 104, 97, 114, 116, 32]
    · have HPX : Hid (Lib.trimPrefix l0 [99, 104, 97, 114, 116, 32] = l0 ∧ Lib.hasPrefix l0 [99, 104, 97, 114, 116, 32] = false) := Lib.hid ⟨by unfold Lib.trimPrefix; rw [hp]; rfl, hp⟩
      have HNP : Hid (∀ s, l0 ≠ chartW ++ s) := Lib.hid (pre_no hp)
      clear hp
      have HSP : Hid (∀ W, MxL W m → Calls Tryz.prog 114 #[str l0] W fun e w' => ∃ v bb, e = .returned (.tuple #[v, .bool bb]) ∧ Below W.heap.size W w') := Lib.hid (fun W hm => (split_any l0 W m hm (by omega)).mono fun e w' ⟨hb, h⟩ => by
        rcases h with ⟨_, E, ec, he, _⟩ | ⟨_, he⟩
        · exact ⟨_, _, he, hb⟩
        · exact ⟨_, _, he, hb⟩)
      go_enter Tryz.func80, Tryz.ntmps80
      go_wp2_with (first | (go_at_call 112; refine (Tryz.strings_Cut _ _ m _ (by show (T).length < 4294967281; omega) (HM.out.below HR.out.frm.b).2).mono ?_; rintro e wc ⟨rfl, nq, rfl⟩; simp only [HCUT.out]; have HRq := Lib.hid (HR.out.drewN nq); clear HR x0 f0 k0; have HR := HRq; clear HRq; have x0 := HR.out.frm.cells (List.mem_cons_self ..); have f0 := HR.out.frm.free (List.mem_cons_self ..); have k0 := HR.out.frm.lt (List.mem_cons_self ..)) | (go_at_call 113; refine (Tryz.strings_CutPrefix _ _ _).mono ?_; rintro e wp ⟨rfl, rfl⟩; simp only [HPX.out.1, HPX.out.2]) | (go_at_call 114; refine (HSP.out _ (HM.out.below HR.out.frm.b)).mono ?_; rintro e ws ⟨v0, bb0, rfl, hbs⟩; have HRq := Lib.hid (HR.out.below hbs); clear HR x0 f0 k0; have HR := HRq; clear HRq; have x0 := HR.out.frm.cells (List.mem_cons_self ..); have f0 := HR.out.frm.free (List.mem_cons_self ..); have k0 := HR.out.frm.lt (List.mem_cons_self ..); clear hbs))
      have HZ9 := Lib.hid (show ∀ wd' rw', ¬ GoodL (l0 :: lr) wd' rw' from fun wd' rw' hg => by
        obtain ⟨a, b, e0, _⟩ := hg.head
        exact HNP.out _ e0)
      have hF9 := Frm.put (Frm.put (Frm.less (bs' := [(w.heap.size, (.cells #[.int .i64 0, .slice none 0 0] 27))]) HR.out.frm (by simp)) (Nat.le_refl _) (by simp) 0 (.int .i64 0)) (Nat.le_refl _) (by simp) 1 (.slice none 0 0)
      have u9 := hF9.cells (List.mem_cons_self ..)
      refine bodyPost_ret (v := .tuple #[.agg #[.int .i64 0, .slice none 0 0], .bool false]) (by simp [results, Tryz.results80, go_sem, u9]) rfl ?_
      exact ⟨hF9.b, .inr ⟨HZ9.out, 0, none, 0, 0, rfl⟩⟩
    · obtain ⟨s, hs⟩ := pre_of hp
      have HL0 := Lib.hid (show (l0 :: lr).getD 0 [] = chartW ++ s from hs)
      have HPX : Hid (Lib.trimPrefix l0 [99, 104, 97, 114, 116, 32] = s ∧ Lib.hasPrefix l0 [99, 104, 97, 114, 116, 32] = true) := Lib.hid ⟨by rw [hs]; exact (pre_yes s).2, hp⟩
      have hsl : s.length ≤ 400 := by
        have := congrArg List.length hs
        rw [List.length_append] at this
        omega
      clear hp hs
      by_cases hg : ∀ z ∈ wdsF s, goodN z
      rotate_left
      · have HSP : Hid (∀ W, MxL W m → Calls Tryz.prog 114 #[str s] W fun e w' => e = .returned (.tuple #[.slice none 0 0, .bool false]) ∧ Below W.heap.size W w') := Lib.hid (fun W hm => (split_any s W m hm (by omega)).mono fun e w' ⟨hb, h⟩ => by
          rcases h with ⟨hy, _⟩ | ⟨_, he⟩
          · exact absurd hy hg
          · exact ⟨he, hb⟩)
        have HG := Lib.hid hg
        clear hg
        go_enter Tryz.func80, Tryz.ntmps80
        go_wp2_with (first | (go_at_call 112; refine (Tryz.strings_Cut _ _ m _ (by show (T).length < 4294967281; omega) (HM.out.below HR.out.frm.b).2).mono ?_; rintro e wc ⟨rfl, nq, rfl⟩; simp only [HCUT.out]; have HRq := Lib.hid (HR.out.drewN nq); clear HR x0 f0 k0; have HR := HRq; clear HRq; have x0 := HR.out.frm.cells (List.mem_cons_self ..); have f0 := HR.out.frm.free (List.mem_cons_self ..); have k0 := HR.out.frm.lt (List.mem_cons_self ..)) | (go_at_call 113; refine (Tryz.strings_CutPrefix _ _ _).mono ?_; rintro e wp ⟨rfl, rfl⟩; simp only [HPX.out.1, HPX.out.2]) | (go_at_call 114; refine (HSP.out _ (HM.out.below HR.out.frm.b)).mono ?_; rintro e ws ⟨rfl, hbs⟩; have HRq := Lib.hid (HR.out.below hbs); clear HR x0 f0 k0; have HR := HRq; clear HRq; have x0 := HR.out.frm.cells (List.mem_cons_self ..); have f0 := HR.out.frm.free (List.mem_cons_self ..); have k0 := HR.out.frm.lt (List.mem_cons_self ..); clear hbs))
        have HZ9 := Lib.hid (show ∀ wd' rw', ¬ GoodL (l0 :: lr) wd' rw' from fun wd' rw' hg => by
          obtain ⟨a, b, ew, ga, gb, -, -⟩ := head_words hg HL0.out
          exact HG.out (by rw [ew]; intro z hz; simp at hz; rcases hz with rfl | rfl <;> assumption))
        have hF9 := Frm.put (Frm.put (Frm.less (bs' := [(w.heap.size, (.cells #[.int .i64 0, .slice none 0 0] 27))]) HR.out.frm (by simp)) (Nat.le_refl _) (by simp) 0 (.int .i64 0)) (Nat.le_refl _) (by simp) 1 (.slice none 0 0)
        have u9 := hF9.cells (List.mem_cons_self ..)
        refine bodyPost_ret (v := .tuple #[.agg #[.int .i64 0, .slice none 0 0], .bool false]) (by simp [results, Tryz.results80, go_sem, u9]) rfl ?_
        exact ⟨hF9.b, .inr ⟨HZ9.out, 0, none, 0, 0, rfl⟩⟩
      by_cases h2 : (wdsF s).length = 2
      rotate_left
      · have HSP : Hid (∀ W, MxL W m → Calls Tryz.prog 114 #[str s] W fun e w' => ∃ E ec, e = .returned (.tuple #[.slice E (wdsF s).length ec, .bool true]) ∧ Below W.heap.size W w') := Lib.hid (fun W hm => (split_any s W m hm (by omega)).mono fun e w' ⟨hb, h⟩ => by
          rcases h with ⟨_, E, ec, he, _⟩ | ⟨⟨x, hx, hbx⟩, _⟩
          · exact ⟨E, ec, he, hb⟩
          · exact absurd (hg x hx) hbx)
        have hwl : (wdsF s).length ≤ 401 := Nat.le_trans (wds_len s) (by omega)
        have H2 := Lib.hid h2
        generalize hwn : (wdsF s).length = wn at *
        have hwn1 : ((wn : Int) != 2) = true := by simp; omega
        have hwn2 : ((wn : Int) == 2) = false := by simp; omega
        have HWN := Lib.hid hwn
        clear hg h2 hwn
        go_enter Tryz.func80, Tryz.ntmps80
        go_wp2_with (first | (go_at_call 112; refine (Tryz.strings_Cut _ _ m _ (by show (T).length < 4294967281; omega) (HM.out.below HR.out.frm.b).2).mono ?_; rintro e wc ⟨rfl, nq, rfl⟩; simp only [HCUT.out]; have HRq := Lib.hid (HR.out.drewN nq); clear HR x0 f0 k0; have HR := HRq; clear HRq; have x0 := HR.out.frm.cells (List.mem_cons_self ..); have f0 := HR.out.frm.free (List.mem_cons_self ..); have k0 := HR.out.frm.lt (List.mem_cons_self ..)) | (go_at_call 113; refine (Tryz.strings_CutPrefix _ _ _).mono ?_; rintro e wp ⟨rfl, rfl⟩; simp only [HPX.out.1, HPX.out.2]) | (go_at_call 114; refine (HSP.out _ (HM.out.below HR.out.frm.b)).mono ?_; rintro e ws ⟨E5, ec5, rfl, hbs⟩; have HRq := Lib.hid (HR.out.below hbs); clear HR x0 f0 k0; have HR := HRq; clear HRq; have x0 := HR.out.frm.cells (List.mem_cons_self ..); have f0 := HR.out.frm.free (List.mem_cons_self ..); have k0 := HR.out.frm.lt (List.mem_cons_self ..); clear hbs))
        have HZ9 := Lib.hid (show ∀ wd' rw', ¬ GoodL (l0 :: lr) wd' rw' from fun wd' rw' hg => by
          obtain ⟨a, b, ew, ga, gb, -, -⟩ := head_words hg HL0.out
          exact H2.out (HWN.out.symm.trans (by rw [ew]; rfl)))
        have hF9 := Frm.put (Frm.put (Frm.less (bs' := [(w.heap.size, (.cells #[.int .i64 0, .slice none 0 0] 27))]) HR.out.frm (by simp)) (Nat.le_refl _) (by simp) 0 (.int .i64 0)) (Nat.le_refl _) (by simp) 1 (.slice none 0 0)
        have u9 := hF9.cells (List.mem_cons_self ..)
        refine bodyPost_ret (v := .tuple #[.agg #[.int .i64 0, .slice none 0 0], .bool false]) (by simp [results, Tryz.results80, go_sem, u9]) rfl ?_
        exact ⟨hF9.b, .inr ⟨HZ9.out, 0, none, 0, 0, rfl⟩⟩
      obtain ⟨a, b, hab⟩ : ∃ a b, wdsF s = [a, b] := by
        match h : wdsF s, h2 with
        | [a, b], _ => exact ⟨a, b, rfl⟩
      have ga : goodN a := hg a (by rw [hab]; simp)
      have gb : goodN b := hg b (by rw [hab]; simp)
      have HGH0 : Hid (∀ wd' rw', GoodL (l0 :: lr) wd' rw' → wd' = decV a ∧ rw' = decV b) := Lib.hid (fun wd' rw' hg => by
        obtain ⟨a', b', ew, -, -, ea, eb⟩ := head_words hg HL0.out
        rw [hab] at ew
        obtain ⟨rfl, ew2⟩ := List.cons.inj ew
        obtain ⟨rfl, -⟩ := List.cons.inj ew2
        exact ⟨ea.symm, eb.symm⟩)
      have HHD0 : Hid (∃ a' b', (l0 :: lr).getD 0 [] = chartW ++ (a' ++ [32] ++ b') ∧ goodN a' ∧ goodN b' ∧ decV a' = decV a ∧ decV b' = decV b) := Lib.hid ⟨a, b, by rw [HL0.out, ← join_two, ← hab, join_wds], ga, gb, rfl, rfl⟩
      have HSP : Hid (∀ W, MxL W m → Calls Tryz.prog 114 #[str s] W fun e w' => ∃ g4 ec4, e = .returned (.tuple #[.slice (some ⟨g4, 0, none⟩) 2 ec4, .bool true]) ∧ g4 < w'.heap.size ∧ w'.cell? ⟨g4, 0, none⟩ = some (.int .i64 (decV a : Nat)) ∧ w'.cell? ⟨g4, 1, none⟩ = some (.int .i64 (decV b : Nat)) ∧ Below W.heap.size W w') := Lib.hid (fun W hm => (split_any s W m hm (by omega)).mono fun e w' ⟨hb, h⟩ => by
        rcases h with ⟨_, E, ec, he, ho⟩ | ⟨⟨z, hz, hbz⟩, _⟩
        · rw [hab] at he ho
          obtain ⟨g, cur, rfl, hgc, hr, _, _, _⟩ := int_row ho (by rw [valsF_len]) (by simp)
          exact ⟨g, ec, he, lt_of_blk hgc, by rw [(boxCells hgc).1]; exact hr 0 _ rfl, by rw [(boxCells hgc).1]; exact hr 1 _ rfl, hb⟩
        · exact absurd (hg z hz) hbz)
      have wb := good_val ga
      have rb := good_val gb
      clear hg h2 hab ga gb
      generalize decV a = wd at *
      generalize decV b = rw at *
      have HGH := HGH0
      have HHD := HHD0
      clear HGH0 HHD0
      go_enter Tryz.func80, Tryz.ntmps80
      go_wp2_with (first | (go_at_call 112; refine (Tryz.strings_Cut _ _ m _ (by show (T).length < 4294967281; omega) (HM.out.below HR.out.frm.b).2).mono ?_; rintro e wc ⟨rfl, nq, rfl⟩; simp only [HCUT.out]; have HRq := Lib.hid (HR.out.drewN nq); clear HR x0 f0 k0; have HR := HRq; clear HRq; have x0 := HR.out.frm.cells (List.mem_cons_self ..); have f0 := HR.out.frm.free (List.mem_cons_self ..); have k0 := HR.out.frm.lt (List.mem_cons_self ..)) | (go_at_call 113; refine (Tryz.strings_CutPrefix _ _ _).mono ?_; rintro e wp ⟨rfl, rfl⟩; simp only [HPX.out.1, HPX.out.2]) | (go_at_call 114; refine (HSP.out _ (HM.out.below HR.out.frm.b)).mono ?_; rintro e ws ⟨g4, ec4, rfl, hg4, ca, cb, hbs⟩; have HRq := Lib.hid (HR.out.below hbs); clear HR x0 f0 k0; have HR := HRq; clear HRq; have x0 := HR.out.frm.cells (List.mem_cons_self ..); have f0 := HR.out.frm.free (List.mem_cons_self ..); have k0 := HR.out.frm.lt (List.mem_cons_self ..); clear hbs))
      have HRq := Lib.hid (HR.out.add (.cells #[.int .i64 (wd : Int), .slice none 0 0] 27) rfl)
      have hF1 : w.heap.size < ws.heap.size := HR.out.frm.lt (List.mem_cons_self ..)
      clear HR x0 f0 k0 ca cb hg4
      have HR := HRq
      clear HRq
      generalize ws.heap.size = F0 at *
      rcases Nat.eq_zero_or_pos wd with w0 | w1
      · have HWZ := Lib.hid w0
        clear w0
        go_loopw [5, 52] (fun lf i wr => ∃ n, n ≤ rw ∧ n ≤ lr.length ∧ i = .int .i64 (n : Int) ∧ lf = str (Lib.join (lr.drop n) [10]) ∧ (∀ r, r < n → rowOk wd (rowL (l0 :: lr) r)) ∧ RW w w.heap.size [(F0, (.cells #[.int .i64 (wd : Int), .slice none 0 0] 27)), (w.heap.size, (.cells #[.int .i64 0, .slice none 0 0] 27))] [] wr) (fun _ i _ => rw - (intOf i).toNat)
        case atStart => exact ⟨0, Nat.zero_le _, Nat.zero_le _, rfl, rfl, fun r h => absurd h (Nat.not_lt_zero _), HR.out.noRows⟩
        case round =>
          obtain ⟨n, hn, hnl, rfl, rfl, hall, hF⟩ := hrel
          clear HR
          have HR := Lib.hid hF
          have HA := Lib.hid hall
          clear hF hall
          have x0 := HR.out.frm.cells (List.mem_cons_self ..); have f0 := HR.out.frm.free (List.mem_cons_self ..); have k0 := HR.out.frm.lt (List.mem_cons_self ..); have x1 := HR.out.frm.cells (List.mem_cons_of_mem _ (List.mem_cons_self ..)); have f1 := HR.out.frm.free (List.mem_cons_of_mem _ (List.mem_cons_self ..)); have k1 := HR.out.frm.lt (List.mem_cons_of_mem _ (List.mem_cons_self ..))
          have hwz := HR.out.frm.size
          by_cases hlt : n < rw
          · have hlt2 : (n : Int) < (rw : Int) := by omega
            rcases hdrop : lr.drop n with _ | ⟨x, _ | ⟨y, r⟩⟩
            · have HC : Hid (Lib.cut (Lib.join ([] : List (List UInt8)) [10]) [10] = ([], [], false)) := Lib.hid cut_join0
              have hdl : lr.length ≤ n := by have := congrArg List.length hdrop; simp at this; omega
              have hcl : (Lib.join ([] : List (List UInt8)) [10]).length ≤ 400 := by simp [Lib.join, List.intercalate]
              have HSP : Hid (∀ W, MxL W m → Calls Tryz.prog 114 #[str ([] : List UInt8)] W fun e w' => ∃ v bb, e = .returned (.tuple #[v, .bool bb]) ∧ Below W.heap.size W w') := Lib.hid (fun W hm => (split_any ([] : List UInt8) W m hm (by simp)).mono fun e w' ⟨hb, h⟩ => by
                rcases h with ⟨_, E, ec, he, _⟩ | ⟨_, he⟩
                · exact ⟨_, _, he, hb⟩
                · exact ⟨_, _, he, hb⟩)
              go_wp2_with (first | (go_at_call 112; refine (Tryz.strings_Cut _ _ m _ (by show (Lib.join ([] : List (List UInt8)) [10]).length < 4294967281; omega) (HM.out.below HR.out.frm.b).2).mono ?_; rintro e wc ⟨rfl, nq, rfl⟩; simp only [HC.out]; have HRq := Lib.hid (HR.out.drewN nq); clear HR x0 f0 k0 x1 f1 k1; have HR := HRq; clear HRq; have x0 := HR.out.frm.cells (List.mem_cons_self ..); have f0 := HR.out.frm.free (List.mem_cons_self ..); have k0 := HR.out.frm.lt (List.mem_cons_self ..); have x1 := HR.out.frm.cells (List.mem_cons_of_mem _ (List.mem_cons_self ..)); have f1 := HR.out.frm.free (List.mem_cons_of_mem _ (List.mem_cons_self ..)); have k1 := HR.out.frm.lt (List.mem_cons_of_mem _ (List.mem_cons_self ..))) | (go_at_call 114; refine (HSP.out _ (HM.out.below HR.out.frm.b)).mono ?_; rintro e ws ⟨v0, bb0, rfl, hbs⟩; have HRq := Lib.hid (HR.out.below hbs); clear HR x0 f0 k0 x1 f1 k1; have HR := HRq; clear HRq; have x0 := HR.out.frm.cells (List.mem_cons_self ..); have f0 := HR.out.frm.free (List.mem_cons_self ..); have k0 := HR.out.frm.lt (List.mem_cons_self ..); have x1 := HR.out.frm.cells (List.mem_cons_of_mem _ (List.mem_cons_self ..)); have f1 := HR.out.frm.free (List.mem_cons_of_mem _ (List.mem_cons_self ..)); have k1 := HR.out.frm.lt (List.mem_cons_of_mem _ (List.mem_cons_self ..)); clear hbs))
              have HZ9 := Lib.hid (show ∀ wd' rw', ¬ GoodL (l0 :: lr) wd' rw' from fun wd' rw' hg => by
                obtain ⟨hw', hr'⟩ := HGH.out wd' rw' hg
                subst hw' hr'
                have := hg.len
                simp at this
                omega)
              have hF9 := Frm.put (Frm.put (Frm.less (bs' := [(w.heap.size, (.cells #[.int .i64 0, .slice none 0 0] 27))]) HR.out.frm (by simp)) (Nat.le_refl _) (by simp) 0 (.int .i64 0)) (Nat.le_refl _) (by simp) 1 (.slice none 0 0)
              have u9 := hF9.cells (List.mem_cons_self ..)
              refine bodyPost_ret (v := .tuple #[.agg #[.int .i64 0, .slice none 0 0], .bool false]) (by simp [results, Tryz.results80, go_sem, u9]) rfl ?_
              exact ⟨hF9.b, .inr ⟨HZ9.out, 0, none, 0, 0, rfl⟩⟩
            · have hx10 : 10 ∉ x := HNO.out x (List.mem_cons_of_mem _ (List.mem_of_mem_drop (by rw [hdrop]; simp)))
              have HC : Hid (Lib.cut (Lib.join [x] [10]) [10] = (x, [], false)) := Lib.hid (cut_join1 hx10)
              have hdl : lr.length = n + 1 := by have := congrArg List.length hdrop; simp at this; omega
              have hcl : (Lib.join [x] [10]).length ≤ 400 := HJL.out n [x] hdrop
              have hxl : x.length ≤ 400 := HXL.out x (List.mem_cons_of_mem _ (List.mem_of_mem_drop (by rw [hdrop]; simp)))
              have HSP : Hid (∀ W, MxL W m → Calls Tryz.prog 114 #[str x] W fun e w' => ∃ v bb, e = .returned (.tuple #[v, .bool bb]) ∧ Below W.heap.size W w') := Lib.hid (fun W hm => (split_any x W m hm (by omega)).mono fun e w' ⟨hb, h⟩ => by
                rcases h with ⟨_, E, ec, he, _⟩ | ⟨_, he⟩
                · exact ⟨_, _, he, hb⟩
                · exact ⟨_, _, he, hb⟩)
              go_wp2_with (first | (go_at_call 112; refine (Tryz.strings_Cut _ _ m _ (by show (Lib.join [x] [10]).length < 4294967281; omega) (HM.out.below HR.out.frm.b).2).mono ?_; rintro e wc ⟨rfl, nq, rfl⟩; simp only [HC.out]; have HRq := Lib.hid (HR.out.drewN nq); clear HR x0 f0 k0 x1 f1 k1; have HR := HRq; clear HRq; have x0 := HR.out.frm.cells (List.mem_cons_self ..); have f0 := HR.out.frm.free (List.mem_cons_self ..); have k0 := HR.out.frm.lt (List.mem_cons_self ..); have x1 := HR.out.frm.cells (List.mem_cons_of_mem _ (List.mem_cons_self ..)); have f1 := HR.out.frm.free (List.mem_cons_of_mem _ (List.mem_cons_self ..)); have k1 := HR.out.frm.lt (List.mem_cons_of_mem _ (List.mem_cons_self ..))) | (go_at_call 114; refine (HSP.out _ (HM.out.below HR.out.frm.b)).mono ?_; rintro e ws ⟨v0, bb0, rfl, hbs⟩; have HRq := Lib.hid (HR.out.below hbs); clear HR x0 f0 k0 x1 f1 k1; have HR := HRq; clear HRq; have x0 := HR.out.frm.cells (List.mem_cons_self ..); have f0 := HR.out.frm.free (List.mem_cons_self ..); have k0 := HR.out.frm.lt (List.mem_cons_self ..); have x1 := HR.out.frm.cells (List.mem_cons_of_mem _ (List.mem_cons_self ..)); have f1 := HR.out.frm.free (List.mem_cons_of_mem _ (List.mem_cons_self ..)); have k1 := HR.out.frm.lt (List.mem_cons_of_mem _ (List.mem_cons_self ..)); clear hbs))
              have HZ9 := Lib.hid (show ∀ wd' rw', ¬ GoodL (l0 :: lr) wd' rw' from fun wd' rw' hg => by
                obtain ⟨hw', hr'⟩ := HGH.out wd' rw' hg
                subst hw' hr'
                have := hg.len
                simp at this
                omega)
              have hF9 := Frm.put (Frm.put (Frm.less (bs' := [(w.heap.size, (.cells #[.int .i64 0, .slice none 0 0] 27))]) HR.out.frm (by simp)) (Nat.le_refl _) (by simp) 0 (.int .i64 0)) (Nat.le_refl _) (by simp) 1 (.slice none 0 0)
              have u9 := hF9.cells (List.mem_cons_self ..)
              refine bodyPost_ret (v := .tuple #[.agg #[.int .i64 0, .slice none 0 0], .bool false]) (by simp [results, Tryz.results80, go_sem, u9]) rfl ?_
              exact ⟨hF9.b, .inr ⟨HZ9.out, 0, none, 0, 0, rfl⟩⟩
            · have hx10 : 10 ∉ x := HNO.out x (List.mem_cons_of_mem _ (List.mem_of_mem_drop (by rw [hdrop]; simp)))
              have HC : Hid (Lib.cut (Lib.join (x :: y :: r) [10]) [10] = (x, Lib.join (y :: r) [10], true)) := Lib.hid (cut_join2 hx10)
              have hcl : (Lib.join (x :: y :: r) [10]).length ≤ 400 := HJL.out n _ hdrop
              have hxl : x.length ≤ 400 := HXL.out x (List.mem_cons_of_mem _ (List.mem_of_mem_drop (by rw [hdrop]; simp)))
              have hdl : n + 2 ≤ lr.length := by have := congrArg List.length hdrop; simp at this; omega
              have HD2 : Hid (lr.drop (n + 1) = y :: r) := Lib.hid (by rw [← List.drop_drop, hdrop]; rfl)
              have HRX : Hid (rowL (l0 :: lr) n = x) := Lib.hid (row_drop hdrop)
              clear hdrop
              by_cases hx0 : x = []
              · subst hx0
                have HSP : Hid (∀ W, MxL W m → Calls Tryz.prog 114 #[str []] W fun e w' => e = .returned (.tuple #[.slice none 0 0, .bool true]) ∧ Below W.heap.size W w') := Lib.hid (fun W _ => split_nil W)
                have hwz1 : ((0 : Int) != (wd : Int)) = false := by have := HWZ.out; simp; omega
                have hwz2 : ((0 : Int) == (wd : Int)) = true := by have := HWZ.out; simp; omega
                go_wp2_with (first | (go_at_call 112; refine (Tryz.strings_Cut _ _ m _ (by show (Lib.join ([] :: y :: r) [10]).length < 4294967281; omega) (HM.out.below HR.out.frm.b).2).mono ?_; rintro e wc ⟨rfl, nq, rfl⟩; simp only [HC.out]; have HRq := Lib.hid (HR.out.drewN nq); clear HR x0 f0 k0 x1 f1 k1; have HR := HRq; clear HRq; have x0 := HR.out.frm.cells (List.mem_cons_self ..); have f0 := HR.out.frm.free (List.mem_cons_self ..); have k0 := HR.out.frm.lt (List.mem_cons_self ..); have x1 := HR.out.frm.cells (List.mem_cons_of_mem _ (List.mem_cons_self ..)); have f1 := HR.out.frm.free (List.mem_cons_of_mem _ (List.mem_cons_self ..)); have k1 := HR.out.frm.lt (List.mem_cons_of_mem _ (List.mem_cons_self ..))) | (go_at_call 114; refine (HSP.out _ (HM.out.below HR.out.frm.b)).mono ?_; rintro e ws ⟨rfl, hbs⟩; have HRq := Lib.hid (HR.out.below hbs); clear HR x0 f0 k0 x1 f1 k1; have HR := HRq; clear HRq; have x0 := HR.out.frm.cells (List.mem_cons_self ..); have f0 := HR.out.frm.free (List.mem_cons_self ..); have k0 := HR.out.frm.lt (List.mem_cons_self ..); have x1 := HR.out.frm.cells (List.mem_cons_of_mem _ (List.mem_cons_self ..)); have f1 := HR.out.frm.free (List.mem_cons_of_mem _ (List.mem_cons_self ..)); have k1 := HR.out.frm.lt (List.mem_cons_of_mem _ (List.mem_cons_self ..)); clear hbs) | (at_builtin; go_must (refine lapp_nil (by rfl) _ _ (by rfl) (by rfl) (by rfl) ?_)))
                go_roundw
                case rel => exact ⟨n + 1, by omega, by omega, by go_num, by rw [HD2.out], fun q hq => by
                  rcases Nat.lt_or_ge q n with h | h
                  · exact HA.out q h
                  · obtain rfl : q = n := by omega
                    rw [HRX.out]; exact ⟨HWZ.out.symm, fun x hx => by simp [wdsF] at hx⟩, RW.put HR.out (by omega) (by simp <;> omega) 1 (.slice none 0 0)⟩
                case measure => simp [intOf]; omega
              · have hw0 : ¬ (wdsF x).length = 0 := by unfold wdsF; rw [if_neg hx0]; exact fun h => spl_ne 32 x (List.length_eq_zero_iff.1 h)
                by_cases hg : ∀ z ∈ wdsF x, goodN z
                · have HSP : Hid (∀ W, MxL W m → Calls Tryz.prog 114 #[str x] W fun e w' => ∃ E ec, e = .returned (.tuple #[.slice E (wdsF x).length ec, .bool true]) ∧ Below W.heap.size W w') := Lib.hid (fun W hm => (split_any x W m hm (by omega)).mono fun e w' ⟨hb, h⟩ => by
                    rcases h with ⟨_, E, ec, he, _⟩ | ⟨⟨x, hx, hbx⟩, _⟩
                    · exact ⟨E, ec, he, hb⟩
                    · exact absurd (hg x hx) hbx)
                  have HW0 := Lib.hid hw0
                  have hwl : (wdsF x).length ≤ 401 := Nat.le_trans (wds_len x) (by omega)
                  obtain ⟨wn, hwn⟩ : ∃ wn, (wdsF x).length = wn := ⟨_, rfl⟩
                  rw [hwn] at HSP hwl hw0
                  have hwn1 : ((wn : Int) != (wd : Int)) = true := by have := HWZ.out; simp; omega
                  have hwn2 : ((wn : Int) == (wd : Int)) = false := by have := HWZ.out; simp; omega
                  clear hg hwn hw0
                  go_wp2_with (first | (go_at_call 112; refine (Tryz.strings_Cut _ _ m _ (by show (Lib.join (x :: y :: r) [10]).length < 4294967281; omega) (HM.out.below HR.out.frm.b).2).mono ?_; rintro e wc ⟨rfl, nq, rfl⟩; simp only [HC.out]; have HRq := Lib.hid (HR.out.drewN nq); clear HR x0 f0 k0 x1 f1 k1; have HR := HRq; clear HRq; have x0 := HR.out.frm.cells (List.mem_cons_self ..); have f0 := HR.out.frm.free (List.mem_cons_self ..); have k0 := HR.out.frm.lt (List.mem_cons_self ..); have x1 := HR.out.frm.cells (List.mem_cons_of_mem _ (List.mem_cons_self ..)); have f1 := HR.out.frm.free (List.mem_cons_of_mem _ (List.mem_cons_self ..)); have k1 := HR.out.frm.lt (List.mem_cons_of_mem _ (List.mem_cons_self ..))) | (go_at_call 114; refine (HSP.out _ (HM.out.below HR.out.frm.b)).mono ?_; rintro e ws ⟨E5, ec5, rfl, hbs⟩; have HRq := Lib.hid (HR.out.below hbs); clear HR x0 f0 k0 x1 f1 k1; have HR := HRq; clear HRq; have x0 := HR.out.frm.cells (List.mem_cons_self ..); have f0 := HR.out.frm.free (List.mem_cons_self ..); have k0 := HR.out.frm.lt (List.mem_cons_self ..); have x1 := HR.out.frm.cells (List.mem_cons_of_mem _ (List.mem_cons_self ..)); have f1 := HR.out.frm.free (List.mem_cons_of_mem _ (List.mem_cons_self ..)); have k1 := HR.out.frm.lt (List.mem_cons_of_mem _ (List.mem_cons_self ..)); clear hbs))
                  have HZ9 := Lib.hid (show ∀ wd' rw', ¬ GoodL (l0 :: lr) wd' rw' from fun wd' rw' hg => by
                    obtain ⟨hw', hr'⟩ := HGH.out wd' rw' hg
                    subst hw' hr'
                    have := (hg.rows n (by omega)).1
                    rw [HRX.out] at this
                    exact HW0.out (this.trans HWZ.out))
                  have hF9 := Frm.put (Frm.put (Frm.less (bs' := [(w.heap.size, (.cells #[.int .i64 0, .slice none 0 0] 27))]) HR.out.frm (by simp)) (Nat.le_refl _) (by simp) 0 (.int .i64 0)) (Nat.le_refl _) (by simp) 1 (.slice none 0 0)
                  have u9 := hF9.cells (List.mem_cons_self ..)
                  refine bodyPost_ret (v := .tuple #[.agg #[.int .i64 0, .slice none 0 0], .bool false]) (by simp [results, Tryz.results80, go_sem, u9]) rfl ?_
                  exact ⟨hF9.b, .inr ⟨HZ9.out, 0, none, 0, 0, rfl⟩⟩
                · have HSP : Hid (∀ W, MxL W m → Calls Tryz.prog 114 #[str x] W fun e w' => e = .returned (.tuple #[.slice none 0 0, .bool false]) ∧ Below W.heap.size W w') := Lib.hid (fun W hm => (split_any x W m hm (by omega)).mono fun e w' ⟨hb, h⟩ => by
                    rcases h with ⟨hy, _⟩ | ⟨_, he⟩
                    · exact absurd hy hg
                    · exact ⟨he, hb⟩)
                  have HG := Lib.hid hg
                  clear hg
                  go_wp2_with (first | (go_at_call 112; refine (Tryz.strings_Cut _ _ m _ (by show (Lib.join (x :: y :: r) [10]).length < 4294967281; omega) (HM.out.below HR.out.frm.b).2).mono ?_; rintro e wc ⟨rfl, nq, rfl⟩; simp only [HC.out]; have HRq := Lib.hid (HR.out.drewN nq); clear HR x0 f0 k0 x1 f1 k1; have HR := HRq; clear HRq; have x0 := HR.out.frm.cells (List.mem_cons_self ..); have f0 := HR.out.frm.free (List.mem_cons_self ..); have k0 := HR.out.frm.lt (List.mem_cons_self ..); have x1 := HR.out.frm.cells (List.mem_cons_of_mem _ (List.mem_cons_self ..)); have f1 := HR.out.frm.free (List.mem_cons_of_mem _ (List.mem_cons_self ..)); have k1 := HR.out.frm.lt (List.mem_cons_of_mem _ (List.mem_cons_self ..))) | (go_at_call 114; refine (HSP.out _ (HM.out.below HR.out.frm.b)).mono ?_; rintro e ws ⟨rfl, hbs⟩; have HRq := Lib.hid (HR.out.below hbs); clear HR x0 f0 k0 x1 f1 k1; have HR := HRq; clear HRq; have x0 := HR.out.frm.cells (List.mem_cons_self ..); have f0 := HR.out.frm.free (List.mem_cons_self ..); have k0 := HR.out.frm.lt (List.mem_cons_self ..); have x1 := HR.out.frm.cells (List.mem_cons_of_mem _ (List.mem_cons_self ..)); have f1 := HR.out.frm.free (List.mem_cons_of_mem _ (List.mem_cons_self ..)); have k1 := HR.out.frm.lt (List.mem_cons_of_mem _ (List.mem_cons_self ..)); clear hbs))
                  have HZ9 := Lib.hid (show ∀ wd' rw', ¬ GoodL (l0 :: lr) wd' rw' from fun wd' rw' hg => by
                    obtain ⟨hw', hr'⟩ := HGH.out wd' rw' hg
                    subst hw' hr'
                    have := (hg.rows n (by omega)).2
                    rw [HRX.out] at this
                    exact HG.out this)
                  have hF9 := Frm.put (Frm.put (Frm.less (bs' := [(w.heap.size, (.cells #[.int .i64 0, .slice none 0 0] 27))]) HR.out.frm (by simp)) (Nat.le_refl _) (by simp) 0 (.int .i64 0)) (Nat.le_refl _) (by simp) 1 (.slice none 0 0)
                  have u9 := hF9.cells (List.mem_cons_self ..)
                  refine bodyPost_ret (v := .tuple #[.agg #[.int .i64 0, .slice none 0 0], .bool false]) (by simp [results, Tryz.results80, go_sem, u9]) rfl ?_
                  exact ⟨hF9.b, .inr ⟨HZ9.out, 0, none, 0, 0, rfl⟩⟩
          · obtain rfl : n = rw := by omega
            obtain ⟨left, hlf⟩ : ∃ left, Lib.join (lr.drop n) [10] = left := ⟨_, rfl⟩
            have hlfl : left.length ≤ 400 := by rw [← hlf]; exact HJL.out n _ rfl
            have hnn2 : ¬ (n : Int) < (n : Int) := by omega
            rw [hlf]
            have HLF := Lib.hid hlf.symm
            clear hlf
            have HZS : Hid (valsN (l0 :: lr) n = []) := Lib.hid (List.length_eq_zero_iff.1 ((valsN_ok n HA.out).1.trans (by rw [HWZ.out, Nat.mul_zero])))
            have INTS : Hid (∀ V : World, IntsF w.heap.size V none 0 []) := Lib.hid (fun V => ⟨⟨none, 0, rfl, Nat.le_refl _, by unfold maxLen; omega, .inl rfl⟩, fun _ _ _ h => absurd rfl h⟩)
            have HEN : Hid (∀ V, Tab V → Calls Tryz.prog 111 #[.agg #[.int .i64 (wd : Int), .slice none 0 0]] V fun e w' => e = .returned (str (endL (wd : Int) [])) ∧ Below V.heap.size V w') := Lib.hid (fun V hT => ending_any (wd : Int) none 0 [] V (INTS.out V).1 (by omega) (fun h => absurd rfl h) (by simp) (by simp) hT)
            have FIN : Hid (∀ W9 : World, Below w.heap.size w W9 → IntsF w.heap.size W9 none 0 ([] : List Int) → RdPost2 w (l0 :: lr) (.returned (.tuple #[.agg #[.int .i64 (wd : Int), .slice none 0 0], .bool (left == endL (wd : Int) ([] : List Int))])) W9) := Lib.hid (fun W9 hb hi => by
              refine ⟨hb, ?_⟩
              cases hq : (left == endL (wd : Int) ([] : List Int))
              · refine .inr ⟨fun wd' rw' hg => ?_, _, _, _, _, rfl⟩
                obtain ⟨hw', hr'⟩ := HGH.out wd' rw' hg
                subst hw' hr'
                have := good_end hg
                rw [HLF.out, this, HZS.out, endL_join] at hq
                simp at hq
              · refine .inl ⟨wd, n, ([] : List Int), _, _, end_good HHD.out HA.out HNO.out (by rw [← HLF.out, HZS.out]; simpa using hq), HZS.out.symm, rfl, hi⟩)
            generalize endL (wd : Int) ([] : List Int) = en at *
            go_wp2_with fail
            refine hw_start [(0, fun w' : World => ∀ o, w'.cell? ⟨F0, o, none⟩ = #[Value.int .i64 (wd : Int), .slice none 0 0][o]?), (2, fun w' : World => ∀ o, w'.cell? ⟨F0, o, none⟩ = #[Value.int .i64 (wd : Int), .slice none 0 0][o]?)] (by kernel_rfl) (List.forall_mem_cons.2 ⟨HR.out.drew.frm.cells (List.mem_cons_self ..), List.forall_mem_cons.2 ⟨HR.out.drew.frm.cells (List.mem_cons_self ..), (by simp)⟩⟩) ?_
            refine (fun (W101 : World) (hRn : RW w _ [(F0, (.cells #[.int .i64 (wd : Int), .slice none 0 0] 27)), (w.heap.size, (.cells #[.int .i64 0, .slice none 0 0] 27))] [] W101) (hzW101 : Hid (W101.heap.size = wr.heap.size)) => (?_ : HW _ _ _ _ _ _ _ W101)) _ HR.out.drew (Lib.hid rfl)
            clear HR
            have HR := Lib.hid hRn
            clear hRn
            refine hw_load (i := 0) (oi := ⟨some 86, _, _, _, _, _⟩) (v := ?v102) _ (List.mem_cons_self ..) rfl (by kernel_rfl) (by kernel_rfl) (by kernel_rfl) (by kernel_rfl) (fun _ _ _ h => h) rfl (by kernel_rfl) ?hv102 ?rv102
            case hv102 => (intro w hSw; (try dsimp only at hSw); go_simp) <;> (with_reducible rfl)
            try simp only [Act.put, List.setIfInBounds_toArray, List.set_cons_zero, List.set_cons_succ]
            refine hw_pure (i := 1) (oi := ⟨some 87, _, _, _, _, _⟩) (v := ?v103) rfl (by kernel_rfl) (by kernel_rfl) (by kernel_rfl) (by kernel_rfl) (fun _ _ _ h => h) rfl (by kernel_rfl) ?hv103 ?rv103
            case hv103 => (intro w; go_simp) <;> (with_reducible rfl)
            try simp only [Act.put, List.setIfInBounds_toArray, List.set_cons_zero, List.set_cons_succ]
            refine hw_load (i := 2) (oi := ⟨some 88, _, _, _, _, _⟩) (v := ?v104) _ (List.mem_cons_of_mem _ (List.mem_cons_self ..)) rfl (by kernel_rfl) (by kernel_rfl) (by kernel_rfl) (by kernel_rfl) (fun _ _ _ h => h) rfl (by kernel_rfl) ?hv104 ?rv104
            case hv104 => (intro w hSw; (try dsimp only at hSw); go_simp) <;> (with_reducible rfl)
            try simp only [Act.put, List.setIfInBounds_toArray, List.set_cons_zero, List.set_cons_succ]
            refine hw_ready (rs := [3]) (by kernel_rfl) (by simp) ?_
            refine AllHW.cons (i := 3) (o := ⟨some 89, _, _, _, _, _⟩) rfl rfl (by kernel_rfl) (fun K hK => ?s105) ?ms105
            case s105 =>
              (try go_simp)
              go_at_call 111
              refine (HEN.out _ (HT.out.below HR.out.frm.b)).mono ?_
              rintro e W106 ⟨rfl, hbd1⟩
              have hRn := HR.out.below hbd1
              clear HR hbd1
              have HR := Lib.hid hRn
              clear hRn
              (try dsimp only)
              refine hK.out _ _ (List.forall_mem_cons.2 ⟨.inr (HR.out.frm.cells (List.mem_cons_self ..)), List.forall_mem_cons.2 ⟨.inl (by kernel_rfl), (by simp)⟩⟩) ?_
              refine hw_pure (i := 4) (oi := ⟨some 90, _, _, _, _, _⟩) (v := ?v107) rfl (by kernel_rfl) (by kernel_rfl) (by kernel_rfl) (by kernel_rfl) (fun _ _ _ h => h) rfl (by kernel_rfl) ?hv107 ?rv107
              case hv107 => (intro w; go_simp) <;> (with_reducible rfl)
              try simp only [Act.put, List.setIfInBounds_toArray, List.set_cons_zero, List.set_cons_succ]
              refine hw_ready (rs := [5]) (by kernel_rfl) (by simp) ?_
              refine AllHW.cons (i := 5) (o := ⟨none, _, _, _, _, _⟩) rfl rfl (by kernel_rfl) (fun K hK => ?s108) ?ms108
              case s108 =>
                have u0 := (boxCells (HR.out.frm.h _ (List.mem_cons_of_mem _ (List.mem_cons_self ..)))).1
                have f0 := (boxCells (HR.out.frm.h _ (List.mem_cons_of_mem _ (List.mem_cons_self ..)))).2
                have l0 := lt_of_blk (HR.out.frm.h _ (List.mem_cons_of_mem _ (List.mem_cons_self ..)))
                (try go_simp)
                clear u0 f0 l0
                refine (fun (W109 : World) (hRn : RW w _ [(w.heap.size, (.cells #[.int .i64 (wd : Int), .slice none 0 0] 27)), (F0, (.cells #[.int .i64 (wd : Int), .slice none 0 0] 27))] [] W109) (hzW109 : Hid (W109.heap.size = W106.heap.size)) => hK.out _ W109 (List.forall_mem_cons.2 ⟨.inl (by kernel_rfl), List.forall_mem_cons.2 ⟨.inl (by kernel_rfl), (by simp)⟩⟩) ?_) _ ((RW.put (RW.put (RW.less (bs' := [(w.heap.size, (.cells #[.int .i64 0, .slice none 0 0] 27)), (F0, (.cells #[.int .i64 (wd : Int), .slice none 0 0] 27))]) HR.out (by simp only [List.forall_mem_cons, List.forall_mem_nil, and_true]; exact ⟨(List.mem_cons_of_mem _ (List.mem_cons_self ..)), (List.mem_cons_self ..), by simp⟩)) (by omega) (by simp <;> omega) 0 (.int .i64 (wd : Int))) (by omega) (by simp <;> omega) 1 (.slice none 0 0))) (Lib.hid (by simp))
                clear HR
                have HR := Lib.hid hRn
                clear hRn
                refine hw_pure (i := 6) (oi := ⟨some 3, _, _, _, _, _⟩) (v := ?v110) rfl (by kernel_rfl) (by kernel_rfl) (by kernel_rfl) (by kernel_rfl) (fun _ _ _ h => h) rfl (by kernel_rfl) ?hv110 ?rv110
                case hv110 => (intro w; go_simp) <;> (with_reducible rfl)
                try simp only [Act.put, List.setIfInBounds_toArray, List.set_cons_zero, List.set_cons_succ]
                refine hw_done (by kernel_rfl) ?_
                go_wp2_with fail
                have u9 := HR.out.frm.cells (List.mem_cons_self ..)
                refine bodyPost_ret (v := .tuple #[.agg #[Value.int .i64 (wd : Int), .slice none 0 0], .bool (left == en)]) (by simp [results, Tryz.results80, go_sem, u9]) rfl ?_
                exact FIN.out _ HR.out.frm.b (INTS.out _)
              exact AllHW.nil
            exact AllHW.nil
      · go_loopw [5, 52] (fun lf i wr => ∃ n E ec, n ≤ rw ∧ n ≤ lr.length ∧ i = .int .i64 (n : Int) ∧ lf = str (Lib.join (lr.drop n) [10]) ∧ (∀ r, r < n → rowOk wd (rowL (l0 :: lr) r)) ∧ RW w w.heap.size [(F0, (.cells #[.int .i64 (wd : Int), .slice E (n * wd) ec] 27)), (w.heap.size, (.cells #[.int .i64 0, .slice none 0 0] 27))] [rwI (.slice E (n * wd) ec) (n * wd) (valsN (l0 :: lr) n)] wr) (fun _ i _ => rw - (intOf i).toNat)
        case atStart => exact ⟨0, none, 0, Nat.zero_le _, Nat.zero_le _, rfl, rfl, fun r h => absurd h (Nat.not_lt_zero _), by simp only [Nat.zero_mul, valsN]; exact HR.out⟩
        case round =>
          obtain ⟨n, E, ec, hn, hnl, rfl, rfl, hall, hF⟩ := hrel
          clear HR
          have HR := Lib.hid hF
          have HA := Lib.hid hall
          clear hF hall
          have x0 := HR.out.frm.cells (List.mem_cons_self ..); have f0 := HR.out.frm.free (List.mem_cons_self ..); have k0 := HR.out.frm.lt (List.mem_cons_self ..); have x1 := HR.out.frm.cells (List.mem_cons_of_mem _ (List.mem_cons_self ..)); have f1 := HR.out.frm.free (List.mem_cons_of_mem _ (List.mem_cons_self ..)); have k1 := HR.out.frm.lt (List.mem_cons_of_mem _ (List.mem_cons_self ..))
          have hwz := HR.out.frm.size
          by_cases hlt : n < rw
          · have hlt2 : (n : Int) < (rw : Int) := by omega
            rcases hdrop : lr.drop n with _ | ⟨x, _ | ⟨y, r⟩⟩
            · have HC : Hid (Lib.cut (Lib.join ([] : List (List UInt8)) [10]) [10] = ([], [], false)) := Lib.hid cut_join0
              have hdl : lr.length ≤ n := by have := congrArg List.length hdrop; simp at this; omega
              have hcl : (Lib.join ([] : List (List UInt8)) [10]).length ≤ 400 := by simp [Lib.join, List.intercalate]
              have HSP : Hid (∀ W, MxL W m → Calls Tryz.prog 114 #[str ([] : List UInt8)] W fun e w' => ∃ v bb, e = .returned (.tuple #[v, .bool bb]) ∧ Below W.heap.size W w') := Lib.hid (fun W hm => (split_any ([] : List UInt8) W m hm (by simp)).mono fun e w' ⟨hb, h⟩ => by
                rcases h with ⟨_, E, ec, he, _⟩ | ⟨_, he⟩
                · exact ⟨_, _, he, hb⟩
                · exact ⟨_, _, he, hb⟩)
              go_wp2_with (first | (go_at_call 112; refine (Tryz.strings_Cut _ _ m _ (by show (Lib.join ([] : List (List UInt8)) [10]).length < 4294967281; omega) (HM.out.below HR.out.frm.b).2).mono ?_; rintro e wc ⟨rfl, nq, rfl⟩; simp only [HC.out]; have HRq := Lib.hid (HR.out.drewN nq); clear HR x0 f0 k0 x1 f1 k1; have HR := HRq; clear HRq; have x0 := HR.out.frm.cells (List.mem_cons_self ..); have f0 := HR.out.frm.free (List.mem_cons_self ..); have k0 := HR.out.frm.lt (List.mem_cons_self ..); have x1 := HR.out.frm.cells (List.mem_cons_of_mem _ (List.mem_cons_self ..)); have f1 := HR.out.frm.free (List.mem_cons_of_mem _ (List.mem_cons_self ..)); have k1 := HR.out.frm.lt (List.mem_cons_of_mem _ (List.mem_cons_self ..))) | (go_at_call 114; refine (HSP.out _ (HM.out.below HR.out.frm.b)).mono ?_; rintro e ws ⟨v0, bb0, rfl, hbs⟩; have HRq := Lib.hid (HR.out.below hbs); clear HR x0 f0 k0 x1 f1 k1; have HR := HRq; clear HRq; have x0 := HR.out.frm.cells (List.mem_cons_self ..); have f0 := HR.out.frm.free (List.mem_cons_self ..); have k0 := HR.out.frm.lt (List.mem_cons_self ..); have x1 := HR.out.frm.cells (List.mem_cons_of_mem _ (List.mem_cons_self ..)); have f1 := HR.out.frm.free (List.mem_cons_of_mem _ (List.mem_cons_self ..)); have k1 := HR.out.frm.lt (List.mem_cons_of_mem _ (List.mem_cons_self ..)); clear hbs))
              have HZ9 := Lib.hid (show ∀ wd' rw', ¬ GoodL (l0 :: lr) wd' rw' from fun wd' rw' hg => by
                obtain ⟨hw', hr'⟩ := HGH.out wd' rw' hg
                subst hw' hr'
                have := hg.len
                simp at this
                omega)
              have hF9 := Frm.put (Frm.put (Frm.less (bs' := [(w.heap.size, (.cells #[.int .i64 0, .slice none 0 0] 27))]) HR.out.frm (by simp)) (Nat.le_refl _) (by simp) 0 (.int .i64 0)) (Nat.le_refl _) (by simp) 1 (.slice none 0 0)
              have u9 := hF9.cells (List.mem_cons_self ..)
              refine bodyPost_ret (v := .tuple #[.agg #[.int .i64 0, .slice none 0 0], .bool false]) (by simp [results, Tryz.results80, go_sem, u9]) rfl ?_
              exact ⟨hF9.b, .inr ⟨HZ9.out, 0, none, 0, 0, rfl⟩⟩
            · have hx10 : 10 ∉ x := HNO.out x (List.mem_cons_of_mem _ (List.mem_of_mem_drop (by rw [hdrop]; simp)))
              have HC : Hid (Lib.cut (Lib.join [x] [10]) [10] = (x, [], false)) := Lib.hid (cut_join1 hx10)
              have hdl : lr.length = n + 1 := by have := congrArg List.length hdrop; simp at this; omega
              have hcl : (Lib.join [x] [10]).length ≤ 400 := HJL.out n [x] hdrop
              have hxl : x.length ≤ 400 := HXL.out x (List.mem_cons_of_mem _ (List.mem_of_mem_drop (by rw [hdrop]; simp)))
              have HSP : Hid (∀ W, MxL W m → Calls Tryz.prog 114 #[str x] W fun e w' => ∃ v bb, e = .returned (.tuple #[v, .bool bb]) ∧ Below W.heap.size W w') := Lib.hid (fun W hm => (split_any x W m hm (by omega)).mono fun e w' ⟨hb, h⟩ => by
                rcases h with ⟨_, E, ec, he, _⟩ | ⟨_, he⟩
                · exact ⟨_, _, he, hb⟩
                · exact ⟨_, _, he, hb⟩)
              go_wp2_with (first | (go_at_call 112; refine (Tryz.strings_Cut _ _ m _ (by show (Lib.join [x] [10]).length < 4294967281; omega) (HM.out.below HR.out.frm.b).2).mono ?_; rintro e wc ⟨rfl, nq, rfl⟩; simp only [HC.out]; have HRq := Lib.hid (HR.out.drewN nq); clear HR x0 f0 k0 x1 f1 k1; have HR := HRq; clear HRq; have x0 := HR.out.frm.cells (List.mem_cons_self ..); have f0 := HR.out.frm.free (List.mem_cons_self ..); have k0 := HR.out.frm.lt (List.mem_cons_self ..); have x1 := HR.out.frm.cells (List.mem_cons_of_mem _ (List.mem_cons_self ..)); have f1 := HR.out.frm.free (List.mem_cons_of_mem _ (List.mem_cons_self ..)); have k1 := HR.out.frm.lt (List.mem_cons_of_mem _ (List.mem_cons_self ..))) | (go_at_call 114; refine (HSP.out _ (HM.out.below HR.out.frm.b)).mono ?_; rintro e ws ⟨v0, bb0, rfl, hbs⟩; have HRq := Lib.hid (HR.out.below hbs); clear HR x0 f0 k0 x1 f1 k1; have HR := HRq; clear HRq; have x0 := HR.out.frm.cells (List.mem_cons_self ..); have f0 := HR.out.frm.free (List.mem_cons_self ..); have k0 := HR.out.frm.lt (List.mem_cons_self ..); have x1 := HR.out.frm.cells (List.mem_cons_of_mem _ (List.mem_cons_self ..)); have f1 := HR.out.frm.free (List.mem_cons_of_mem _ (List.mem_cons_self ..)); have k1 := HR.out.frm.lt (List.mem_cons_of_mem _ (List.mem_cons_self ..)); clear hbs))
              have HZ9 := Lib.hid (show ∀ wd' rw', ¬ GoodL (l0 :: lr) wd' rw' from fun wd' rw' hg => by
                obtain ⟨hw', hr'⟩ := HGH.out wd' rw' hg
                subst hw' hr'
                have := hg.len
                simp at this
                omega)
              have hF9 := Frm.put (Frm.put (Frm.less (bs' := [(w.heap.size, (.cells #[.int .i64 0, .slice none 0 0] 27))]) HR.out.frm (by simp)) (Nat.le_refl _) (by simp) 0 (.int .i64 0)) (Nat.le_refl _) (by simp) 1 (.slice none 0 0)
              have u9 := hF9.cells (List.mem_cons_self ..)
              refine bodyPost_ret (v := .tuple #[.agg #[.int .i64 0, .slice none 0 0], .bool false]) (by simp [results, Tryz.results80, go_sem, u9]) rfl ?_
              exact ⟨hF9.b, .inr ⟨HZ9.out, 0, none, 0, 0, rfl⟩⟩
            · have hx10 : 10 ∉ x := HNO.out x (List.mem_cons_of_mem _ (List.mem_of_mem_drop (by rw [hdrop]; simp)))
              have HC : Hid (Lib.cut (Lib.join (x :: y :: r) [10]) [10] = (x, Lib.join (y :: r) [10], true)) := Lib.hid (cut_join2 hx10)
              have hcl : (Lib.join (x :: y :: r) [10]).length ≤ 400 := HJL.out n _ hdrop
              have hxl : x.length ≤ 400 := HXL.out x (List.mem_cons_of_mem _ (List.mem_of_mem_drop (by rw [hdrop]; simp)))
              have hdl : n + 2 ≤ lr.length := by have := congrArg List.length hdrop; simp at this; omega
              have HD2 : Hid (lr.drop (n + 1) = y :: r) := Lib.hid (by rw [← List.drop_drop, hdrop]; rfl)
              have HRX : Hid (rowL (l0 :: lr) n = x) := Lib.hid (row_drop hdrop)
              clear hdrop
              by_cases hg : ∀ z ∈ wdsF x, goodN z
              rotate_left
              · have HSP : Hid (∀ W, MxL W m → Calls Tryz.prog 114 #[str x] W fun e w' => e = .returned (.tuple #[.slice none 0 0, .bool false]) ∧ Below W.heap.size W w') := Lib.hid (fun W hm => (split_any x W m hm (by omega)).mono fun e w' ⟨hb, h⟩ => by
                  rcases h with ⟨hy, _⟩ | ⟨_, he⟩
                  · exact absurd hy hg
                  · exact ⟨he, hb⟩)
                have HG := Lib.hid hg
                clear hg
                go_wp2_with (first | (go_at_call 112; refine (Tryz.strings_Cut _ _ m _ (by show (Lib.join (x :: y :: r) [10]).length < 4294967281; omega) (HM.out.below HR.out.frm.b).2).mono ?_; rintro e wc ⟨rfl, nq, rfl⟩; simp only [HC.out]; have HRq := Lib.hid (HR.out.drewN nq); clear HR x0 f0 k0 x1 f1 k1; have HR := HRq; clear HRq; have x0 := HR.out.frm.cells (List.mem_cons_self ..); have f0 := HR.out.frm.free (List.mem_cons_self ..); have k0 := HR.out.frm.lt (List.mem_cons_self ..); have x1 := HR.out.frm.cells (List.mem_cons_of_mem _ (List.mem_cons_self ..)); have f1 := HR.out.frm.free (List.mem_cons_of_mem _ (List.mem_cons_self ..)); have k1 := HR.out.frm.lt (List.mem_cons_of_mem _ (List.mem_cons_self ..))) | (go_at_call 114; refine (HSP.out _ (HM.out.below HR.out.frm.b)).mono ?_; rintro e ws ⟨rfl, hbs⟩; have HRq := Lib.hid (HR.out.below hbs); clear HR x0 f0 k0 x1 f1 k1; have HR := HRq; clear HRq; have x0 := HR.out.frm.cells (List.mem_cons_self ..); have f0 := HR.out.frm.free (List.mem_cons_self ..); have k0 := HR.out.frm.lt (List.mem_cons_self ..); have x1 := HR.out.frm.cells (List.mem_cons_of_mem _ (List.mem_cons_self ..)); have f1 := HR.out.frm.free (List.mem_cons_of_mem _ (List.mem_cons_self ..)); have k1 := HR.out.frm.lt (List.mem_cons_of_mem _ (List.mem_cons_self ..)); clear hbs))
                have HZ9 := Lib.hid (show ∀ wd' rw', ¬ GoodL (l0 :: lr) wd' rw' from fun wd' rw' hg => by
                  obtain ⟨hw', hr'⟩ := HGH.out wd' rw' hg
                  subst hw' hr'
                  have := (hg.rows n (by omega)).2
                  rw [HRX.out] at this
                  exact HG.out this)
                have hF9 := Frm.put (Frm.put (Frm.less (bs' := [(w.heap.size, (.cells #[.int .i64 0, .slice none 0 0] 27))]) HR.out.frm (by simp)) (Nat.le_refl _) (by simp) 0 (.int .i64 0)) (Nat.le_refl _) (by simp) 1 (.slice none 0 0)
                have u9 := hF9.cells (List.mem_cons_self ..)
                refine bodyPost_ret (v := .tuple #[.agg #[.int .i64 0, .slice none 0 0], .bool false]) (by simp [results, Tryz.results80, go_sem, u9]) rfl ?_
                exact ⟨hF9.b, .inr ⟨HZ9.out, 0, none, 0, 0, rfl⟩⟩
              by_cases hw : (wdsF x).length = wd
              rotate_left
              · have HSP : Hid (∀ W, MxL W m → Calls Tryz.prog 114 #[str x] W fun e w' => ∃ E ec, e = .returned (.tuple #[.slice E (wdsF x).length ec, .bool true]) ∧ Below W.heap.size W w') := Lib.hid (fun W hm => (split_any x W m hm (by omega)).mono fun e w' ⟨hb, h⟩ => by
                  rcases h with ⟨_, E, ec, he, _⟩ | ⟨⟨x, hx, hbx⟩, _⟩
                  · exact ⟨E, ec, he, hb⟩
                  · exact absurd (hg x hx) hbx)
                have hwl : (wdsF x).length ≤ 401 := Nat.le_trans (wds_len x) (by omega)
                have HW0 := Lib.hid hw
                clear hg
                obtain ⟨wn, hwn⟩ : ∃ wn, (wdsF x).length = wn := ⟨_, rfl⟩
                rw [hwn] at HSP hwl hw
                have hwn1 : ((wn : Int) != (wd : Int)) = true := by simp; omega
                have hwn2 : ((wn : Int) == (wd : Int)) = false := by simp; omega
                clear hwn hw
                go_wp2_with (first | (go_at_call 112; refine (Tryz.strings_Cut _ _ m _ (by show (Lib.join (x :: y :: r) [10]).length < 4294967281; omega) (HM.out.below HR.out.frm.b).2).mono ?_; rintro e wc ⟨rfl, nq, rfl⟩; simp only [HC.out]; have HRq := Lib.hid (HR.out.drewN nq); clear HR x0 f0 k0 x1 f1 k1; have HR := HRq; clear HRq; have x0 := HR.out.frm.cells (List.mem_cons_self ..); have f0 := HR.out.frm.free (List.mem_cons_self ..); have k0 := HR.out.frm.lt (List.mem_cons_self ..); have x1 := HR.out.frm.cells (List.mem_cons_of_mem _ (List.mem_cons_self ..)); have f1 := HR.out.frm.free (List.mem_cons_of_mem _ (List.mem_cons_self ..)); have k1 := HR.out.frm.lt (List.mem_cons_of_mem _ (List.mem_cons_self ..))) | (go_at_call 114; refine (HSP.out _ (HM.out.below HR.out.frm.b)).mono ?_; rintro e ws ⟨E5, ec5, rfl, hbs⟩; have HRq := Lib.hid (HR.out.below hbs); clear HR x0 f0 k0 x1 f1 k1; have HR := HRq; clear HRq; have x0 := HR.out.frm.cells (List.mem_cons_self ..); have f0 := HR.out.frm.free (List.mem_cons_self ..); have k0 := HR.out.frm.lt (List.mem_cons_self ..); have x1 := HR.out.frm.cells (List.mem_cons_of_mem _ (List.mem_cons_self ..)); have f1 := HR.out.frm.free (List.mem_cons_of_mem _ (List.mem_cons_self ..)); have k1 := HR.out.frm.lt (List.mem_cons_of_mem _ (List.mem_cons_self ..)); clear hbs))
                have HZ9 := Lib.hid (show ∀ wd' rw', ¬ GoodL (l0 :: lr) wd' rw' from fun wd' rw' hg => by
                  obtain ⟨hw', hr'⟩ := HGH.out wd' rw' hg
                  subst hw' hr'
                  have := (hg.rows n (by omega)).1
                  rw [HRX.out] at this
                  exact HW0.out this)
                have hF9 := Frm.put (Frm.put (Frm.less (bs' := [(w.heap.size, (.cells #[.int .i64 0, .slice none 0 0] 27))]) HR.out.frm (by simp)) (Nat.le_refl _) (by simp) 0 (.int .i64 0)) (Nat.le_refl _) (by simp) 1 (.slice none 0 0)
                have u9 := hF9.cells (List.mem_cons_self ..)
                refine bodyPost_ret (v := .tuple #[.agg #[.int .i64 0, .slice none 0 0], .bool false]) (by simp [results, Tryz.results80, go_sem, u9]) rfl ?_
                exact ⟨hF9.b, .inr ⟨HZ9.out, 0, none, 0, 0, rfl⟩⟩
              · have HSP : Hid (∀ W, MxL W m → Calls Tryz.prog 114 #[str x] W fun e w' => ∃ g5 ec5, e = .returned (.tuple #[.slice (some ⟨g5, 0, none⟩) wd ec5, .bool true]) ∧ (∀ (j : Nat) z, (valsF (wdsF x))[j]? = some z → w'.cell? ⟨g5, 0 + j, none⟩ = some (.int .i64 z)) ∧ Below W.heap.size W w') := Lib.hid (fun W hm => (split_any x W m hm (by omega)).mono fun e w' ⟨hb, h⟩ => by
                  rcases h with ⟨_, E, ec, he, ho⟩ | ⟨⟨z, hz, hbz⟩, _⟩
                  · rw [hw] at he ho
                    obtain ⟨g, cur, rfl, hgc, hr, _, _, _⟩ := int_row ho (by rw [valsF_len, hw]) w1
                    exact ⟨g, ec, he, fun j z hj => by rw [Nat.zero_add, (boxCells hgc).1]; exact hr j z hj, hb⟩
                  · exact absurd (hg z hz) hbz)
                have HOK : Hid (rowOk wd (rowL (l0 :: lr) n)) := Lib.hid (by rw [HRX.out]; exact ⟨hw, hg⟩)
                have HVN : Hid (valsN (l0 :: lr) (n + 1) = valsN (l0 :: lr) n ++ valsF (wdsF x)) := Lib.hid (by rw [valsN, HRX.out])
                have hTl : (valsF (wdsF x)).length = wd := by rw [valsF_len, hw]
                have hvl : (valsN (l0 :: lr) n).length = n * wd := (valsN_ok n HA.out).1
                have hb2 : n * wd + wd ≤ 401 := by
                  have h1 := HSZ.out (n + 1) (by simp; omega)
                  rw [HVN.out, List.length_append, hTl, hvl] at h1
                  exact h1
                have HHL := Lib.hid hTl
                have HVL := Lib.hid hvl
                have hwz1 : ((wd : Int) != (wd : Int)) = false := by simp
                have hwz2 : ((wd : Int) == (wd : Int)) = true := by simp
                clear hg hw hTl hvl
                obtain ⟨tv, htv⟩ : ∃ tv, valsF (wdsF x) = tv := ⟨_, rfl⟩
                obtain ⟨nw, hnw⟩ : ∃ nw, n * wd = nw := ⟨_, rfl⟩
                rw [htv] at HSP HVN HHL
                rw [hnw] at HR HVL hb2
                clear x0 f0 k0 x1 f1 k1
                have x0 := HR.out.frm.cells (List.mem_cons_self ..); have f0 := HR.out.frm.free (List.mem_cons_self ..); have k0 := HR.out.frm.lt (List.mem_cons_self ..); have x1 := HR.out.frm.cells (List.mem_cons_of_mem _ (List.mem_cons_self ..)); have f1 := HR.out.frm.free (List.mem_cons_of_mem _ (List.mem_cons_self ..)); have k1 := HR.out.frm.lt (List.mem_cons_of_mem _ (List.mem_cons_self ..))
                go_wp2_with (first | (go_at_call 112; refine (Tryz.strings_Cut _ _ m _ (by show (Lib.join (x :: y :: r) [10]).length < 4294967281; omega) (HM.out.below HR.out.frm.b).2).mono ?_; rintro e wc ⟨rfl, nq, rfl⟩; simp only [HC.out]; have HRq := Lib.hid (HR.out.drewN nq); clear HR x0 f0 k0 x1 f1 k1; have HR := HRq; clear HRq; have x0 := HR.out.frm.cells (List.mem_cons_self ..); have f0 := HR.out.frm.free (List.mem_cons_self ..); have k0 := HR.out.frm.lt (List.mem_cons_self ..); have x1 := HR.out.frm.cells (List.mem_cons_of_mem _ (List.mem_cons_self ..)); have f1 := HR.out.frm.free (List.mem_cons_of_mem _ (List.mem_cons_self ..)); have k1 := HR.out.frm.lt (List.mem_cons_of_mem _ (List.mem_cons_self ..))) | (go_at_call 114; refine (HSP.out _ (HM.out.below HR.out.frm.b)).mono ?_; rintro e ws ⟨g5, ec5, rfl, hcs, hbs⟩; have HRq := Lib.hid (HR.out.below hbs); clear HR x0 f0 k0 x1 f1 k1; have HR := HRq; clear HRq; have x0 := HR.out.frm.cells (List.mem_cons_self ..); have f0 := HR.out.frm.free (List.mem_cons_self ..); have k0 := HR.out.frm.lt (List.mem_cons_self ..); have x1 := HR.out.frm.cells (List.mem_cons_of_mem _ (List.mem_cons_self ..)); have f1 := HR.out.frm.free (List.mem_cons_of_mem _ (List.mem_cons_self ..)); have k1 := HR.out.frm.lt (List.mem_cons_of_mem _ (List.mem_cons_self ..)); have HCS := Lib.hid hcs; clear hcs; clear hbs) | (at_builtin; go_must (refine RW.lapp_ints (T := tv) (by rfl) _ _ (by rfl) HR.out HVL.out (by rfl) (by rfl) HHL.out w1 HCS.out (by omega) ?_); intro g7 cap7 wb hRn; have HRq := Lib.hid hRn; clear HR x0 f0 k0 x1 f1 k1 hRn; have HR := HRq; clear HRq; have x0 := HR.out.frm.cells (List.mem_cons_self ..); have f0 := HR.out.frm.free (List.mem_cons_self ..); have k0 := HR.out.frm.lt (List.mem_cons_self ..); have x1 := HR.out.frm.cells (List.mem_cons_of_mem _ (List.mem_cons_self ..)); have f1 := HR.out.frm.free (List.mem_cons_of_mem _ (List.mem_cons_self ..)); have k1 := HR.out.frm.lt (List.mem_cons_of_mem _ (List.mem_cons_self ..))))
                go_roundw
                case rel => exact ⟨n + 1, some ⟨g7, 0, none⟩, cap7, by omega, by omega, by go_num, by rw [HD2.out], fun q hq => by
                  rcases Nat.lt_or_ge q n with h | h
                  · exact HA.out q h
                  · obtain rfl : q = n := by omega
                    exact HOK.out, by
                  rw [Nat.add_mul, Nat.one_mul, hnw, HVN.out]
                  exact RW.put HR.out (by omega) (by simp <;> omega) 1 (.slice (some ⟨g7, 0, none⟩) (nw + wd) cap7)⟩
                case measure => simp [intOf]; omega
          · obtain rfl : n = rw := by omega
            obtain ⟨left, hlf⟩ : ∃ left, Lib.join (lr.drop n) [10] = left := ⟨_, rfl⟩
            have hlfl : left.length ≤ 400 := by rw [← hlf]; exact HJL.out n _ rfl
            have hnn2 : ¬ (n : Int) < (n : Int) := by omega
            rw [hlf]
            have HLF := Lib.hid hlf.symm
            clear hlf
            obtain ⟨zs, hzs⟩ : ∃ zs, valsN (l0 :: lr) n = zs := ⟨_, rfl⟩
            have HZS := Lib.hid hzs
            obtain ⟨hvl, hvb, -⟩ := valsN_ok n HA.out
            have hv9 := HSZ.out n (by simp; omega)
            rw [hzs] at hvl hvb hv9 HR
            rw [← hvl] at HR
            have HVB := Lib.hid hvb
            clear hzs hvb hvl x0 f0 k0 x1 f1 k1
            have FIN : Hid (∀ W9 : World, Below w.heap.size w W9 → IntsF w.heap.size W9 E ec zs → RdPost2 w (l0 :: lr) (.returned (.tuple #[.agg #[.int .i64 (wd : Int), .slice E zs.length ec], .bool (left == endL (wd : Int) zs)])) W9) := Lib.hid (fun W9 hb hi => by
              refine ⟨hb, ?_⟩
              cases hq : (left == endL (wd : Int) zs)
              · refine .inr ⟨fun wd' rw' hg => ?_, _, _, _, _, rfl⟩
                obtain ⟨hw', hr'⟩ := HGH.out wd' rw' hg
                subst hw' hr'
                have := good_end hg
                rw [HLF.out, this, HZS.out, endL_join] at hq
                simp at hq
              · refine .inl ⟨wd, n, zs, _, _, end_good HHD.out HA.out HNO.out (by rw [← HLF.out, HZS.out]; simpa using hq), HZS.out.symm, rfl, hi⟩)
            rcases Nat.eq_zero_or_pos zs.length with hz0 | hz0
            · have hzn : zs = [] := List.length_eq_zero_iff.1 hz0
              have hec : ec ≤ maxLen := own_cap (HR.out.own _ (List.mem_cons_self ..))
              have INTS : Hid (∀ V : World, IntsF w.heap.size V E ec zs) := Lib.hid (fun V => ⟨⟨E, ec, rfl, by omega, hec, .inl hzn⟩, fun _ _ _ h => absurd hzn h⟩)
              have HEN : Hid (∀ V, Tab V → Calls Tryz.prog 111 #[.agg #[.int .i64 (wd : Int), .slice E zs.length ec]] V fun e w' => e = .returned (str (endL (wd : Int) zs)) ∧ Below V.heap.size V w') := Lib.hid (fun V hT => ending_any (wd : Int) E ec zs V (INTS.out V).1 (by omega) (fun _ => by omega) HVB.out (by omega) hT)
              have HRq := Lib.hid HR.out.noRows
              clear HR
              have HR := HRq
              clear HRq hzn hz0
              generalize endL (wd : Int) zs = en at *
              go_wp2_with fail
              refine hw_start [(0, fun w' : World => ∀ o, w'.cell? ⟨F0, o, none⟩ = #[Value.int .i64 (wd : Int), .slice E zs.length ec][o]?), (2, fun w' : World => ∀ o, w'.cell? ⟨F0, o, none⟩ = #[Value.int .i64 (wd : Int), .slice E zs.length ec][o]?)] (by kernel_rfl) (List.forall_mem_cons.2 ⟨HR.out.drew.frm.cells (List.mem_cons_self ..), List.forall_mem_cons.2 ⟨HR.out.drew.frm.cells (List.mem_cons_self ..), (by simp)⟩⟩) ?_
              refine (fun (W211 : World) (hRn : RW w _ [(F0, (.cells #[.int .i64 (wd : Int), .slice E zs.length ec] 27)), (w.heap.size, (.cells #[.int .i64 0, .slice none 0 0] 27))] [] W211) (hzW211 : Hid (W211.heap.size = wr.heap.size)) => (?_ : HW _ _ _ _ _ _ _ W211)) _ HR.out.drew (Lib.hid rfl)
              clear HR
              have HR := Lib.hid hRn
              clear hRn
              refine hw_load (i := 0) (oi := ⟨some 86, _, _, _, _, _⟩) (v := ?v212) _ (List.mem_cons_self ..) rfl (by kernel_rfl) (by kernel_rfl) (by kernel_rfl) (by kernel_rfl) (fun _ _ _ h => h) rfl (by kernel_rfl) ?hv212 ?rv212
              case hv212 => (intro w hSw; (try dsimp only at hSw); go_simp) <;> (with_reducible rfl)
              try simp only [Act.put, List.setIfInBounds_toArray, List.set_cons_zero, List.set_cons_succ]
              refine hw_pure (i := 1) (oi := ⟨some 87, _, _, _, _, _⟩) (v := ?v213) rfl (by kernel_rfl) (by kernel_rfl) (by kernel_rfl) (by kernel_rfl) (fun _ _ _ h => h) rfl (by kernel_rfl) ?hv213 ?rv213
              case hv213 => (intro w; go_simp) <;> (with_reducible rfl)
              try simp only [Act.put, List.setIfInBounds_toArray, List.set_cons_zero, List.set_cons_succ]
              refine hw_load (i := 2) (oi := ⟨some 88, _, _, _, _, _⟩) (v := ?v214) _ (List.mem_cons_of_mem _ (List.mem_cons_self ..)) rfl (by kernel_rfl) (by kernel_rfl) (by kernel_rfl) (by kernel_rfl) (fun _ _ _ h => h) rfl (by kernel_rfl) ?hv214 ?rv214
              case hv214 => (intro w hSw; (try dsimp only at hSw); go_simp) <;> (with_reducible rfl)
              try simp only [Act.put, List.setIfInBounds_toArray, List.set_cons_zero, List.set_cons_succ]
              refine hw_ready (rs := [3]) (by kernel_rfl) (by simp) ?_
              refine AllHW.cons (i := 3) (o := ⟨some 89, _, _, _, _, _⟩) rfl rfl (by kernel_rfl) (fun K hK => ?s215) ?ms215
              case s215 =>
                (try go_simp)
                go_at_call 111
                refine (HEN.out _ (HT.out.below HR.out.frm.b)).mono ?_
                rintro e W216 ⟨rfl, hbd1⟩
                have hRn := HR.out.below hbd1
                clear HR hbd1
                have HR := Lib.hid hRn
                clear hRn
                (try dsimp only)
                refine hK.out _ _ (List.forall_mem_cons.2 ⟨.inr (HR.out.frm.cells (List.mem_cons_self ..)), List.forall_mem_cons.2 ⟨.inl (by kernel_rfl), (by simp)⟩⟩) ?_
                refine hw_pure (i := 4) (oi := ⟨some 90, _, _, _, _, _⟩) (v := ?v217) rfl (by kernel_rfl) (by kernel_rfl) (by kernel_rfl) (by kernel_rfl) (fun _ _ _ h => h) rfl (by kernel_rfl) ?hv217 ?rv217
                case hv217 => (intro w; go_simp) <;> (with_reducible rfl)
                try simp only [Act.put, List.setIfInBounds_toArray, List.set_cons_zero, List.set_cons_succ]
                refine hw_ready (rs := [5]) (by kernel_rfl) (by simp) ?_
                refine AllHW.cons (i := 5) (o := ⟨none, _, _, _, _, _⟩) rfl rfl (by kernel_rfl) (fun K hK => ?s218) ?ms218
                case s218 =>
                  have u0 := (boxCells (HR.out.frm.h _ (List.mem_cons_of_mem _ (List.mem_cons_self ..)))).1
                  have f0 := (boxCells (HR.out.frm.h _ (List.mem_cons_of_mem _ (List.mem_cons_self ..)))).2
                  have l0 := lt_of_blk (HR.out.frm.h _ (List.mem_cons_of_mem _ (List.mem_cons_self ..)))
                  (try go_simp)
                  clear u0 f0 l0
                  refine (fun (W219 : World) (hRn : RW w _ [(w.heap.size, (.cells #[.int .i64 (wd : Int), .slice E zs.length ec] 27)), (F0, (.cells #[.int .i64 (wd : Int), .slice E zs.length ec] 27))] [] W219) (hzW219 : Hid (W219.heap.size = W216.heap.size)) => hK.out _ W219 (List.forall_mem_cons.2 ⟨.inl (by kernel_rfl), List.forall_mem_cons.2 ⟨.inl (by kernel_rfl), (by simp)⟩⟩) ?_) _ ((RW.put (RW.put (RW.less (bs' := [(w.heap.size, (.cells #[.int .i64 0, .slice none 0 0] 27)), (F0, (.cells #[.int .i64 (wd : Int), .slice E zs.length ec] 27))]) HR.out (by simp only [List.forall_mem_cons, List.forall_mem_nil, and_true]; exact ⟨(List.mem_cons_of_mem _ (List.mem_cons_self ..)), (List.mem_cons_self ..), by simp⟩)) (by omega) (by simp <;> omega) 0 (.int .i64 (wd : Int))) (by omega) (by simp <;> omega) 1 (.slice E zs.length ec))) (Lib.hid (by simp))
                  clear HR
                  have HR := Lib.hid hRn
                  clear hRn
                  refine hw_pure (i := 6) (oi := ⟨some 3, _, _, _, _, _⟩) (v := ?v220) rfl (by kernel_rfl) (by kernel_rfl) (by kernel_rfl) (by kernel_rfl) (fun _ _ _ h => h) rfl (by kernel_rfl) ?hv220 ?rv220
                  case hv220 => (intro w; go_simp) <;> (with_reducible rfl)
                  try simp only [Act.put, List.setIfInBounds_toArray, List.set_cons_zero, List.set_cons_succ]
                  refine hw_done (by kernel_rfl) ?_
                  go_wp2_with fail
                  have u9 := HR.out.frm.cells (List.mem_cons_self ..)
                  refine bodyPost_ret (v := .tuple #[.agg #[Value.int .i64 (wd : Int), .slice E zs.length ec], .bool (left == en)]) (by simp [results, Tryz.results80, go_sem, u9]) rfl ?_
                  exact FIN.out _ HR.out.frm.b (INTS.out _)
                exact AllHW.nil
              exact AllHW.nil
            · obtain ⟨g8, cur8, rfl, hri, hg8, hc8, hm8, hRn⟩ := RW.row_int HR.out rfl hz0
              have INTS : Hid (∀ V : World, V.heap[g8]? = some (.cells cur8 3) → IntsF w.heap.size V (some ⟨g8, 0, none⟩) ec zs) := Lib.hid (fun V h => ⟨row_ints h hri rfl hc8 hm8, fun b o e _ => by cases e; exact hg8⟩)
              have HEN : Hid (∀ V, V.heap[g8]? = some (.cells cur8 3) → Tab V → Calls Tryz.prog 111 #[.agg #[.int .i64 (wd : Int), .slice (some ⟨g8, 0, none⟩) zs.length ec]] V fun e w' => e = .returned (str (endL (wd : Int) zs)) ∧ Below V.heap.size V w') := Lib.hid (fun V h hT => ending_any (wd : Int) (some ⟨g8, 0, none⟩) ec zs V (INTS.out V h).1 (by omega) (fun _ => by omega) HVB.out (by omega) hT)
              have hgw : g8 ≠ w.heap.size ∧ g8 ≠ F0 := ⟨fun e => by
                have q1 := hRn.frm.h (g8, _) (List.mem_cons_self ..)
                have q2 := hRn.frm.h (w.heap.size, _) (List.mem_cons_of_mem _ (List.mem_cons_of_mem _ (List.mem_cons_self ..)))
                rw [e] at q1
                have := q1.symm.trans q2
                simp at this, fun e => by
                have q1 := hRn.frm.h (g8, _) (List.mem_cons_self ..)
                have q2 := hRn.frm.h (F0, _) (List.mem_cons_of_mem _ (List.mem_cons_self ..))
                rw [e] at q1
                have := q1.symm.trans q2
                simp at this⟩
              have HRq := Lib.hid (RW.less (bs' := [(F0, (.cells #[.int .i64 (wd : Int), .slice (some ⟨g8, 0, none⟩) zs.length ec] 27)), (w.heap.size, (.cells #[.int .i64 0, .slice none 0 0] 27)), (g8, (.cells cur8 3))]) hRn (by simp))
              clear HR hRn
              have HR := HRq
              clear HRq
              generalize endL (wd : Int) zs = en at *
              go_wp2_with fail
              refine hw_start [(0, fun w' : World => ∀ o, w'.cell? ⟨F0, o, none⟩ = #[Value.int .i64 (wd : Int), .slice (some ⟨g8, 0, none⟩) zs.length ec][o]?), (2, fun w' : World => ∀ o, w'.cell? ⟨F0, o, none⟩ = #[Value.int .i64 (wd : Int), .slice (some ⟨g8, 0, none⟩) zs.length ec][o]?)] (by kernel_rfl) (List.forall_mem_cons.2 ⟨HR.out.drew.frm.cells (List.mem_cons_self ..), List.forall_mem_cons.2 ⟨HR.out.drew.frm.cells (List.mem_cons_self ..), (by simp)⟩⟩) ?_
              refine (fun (W321 : World) (hRn : RW w _ [(F0, (.cells #[.int .i64 (wd : Int), .slice (some ⟨g8, 0, none⟩) zs.length ec] 27)), (w.heap.size, (.cells #[.int .i64 0, .slice none 0 0] 27)), (g8, (.cells cur8 3))] [] W321) (hzW321 : Hid (W321.heap.size = wr.heap.size)) => (?_ : HW _ _ _ _ _ _ _ W321)) _ HR.out.drew (Lib.hid rfl)
              clear HR
              have HR := Lib.hid hRn
              clear hRn
              refine hw_load (i := 0) (oi := ⟨some 86, _, _, _, _, _⟩) (v := ?v322) _ (List.mem_cons_self ..) rfl (by kernel_rfl) (by kernel_rfl) (by kernel_rfl) (by kernel_rfl) (fun _ _ _ h => h) rfl (by kernel_rfl) ?hv322 ?rv322
              case hv322 => (intro w hSw; (try dsimp only at hSw); go_simp) <;> (with_reducible rfl)
              try simp only [Act.put, List.setIfInBounds_toArray, List.set_cons_zero, List.set_cons_succ]
              refine hw_pure (i := 1) (oi := ⟨some 87, _, _, _, _, _⟩) (v := ?v323) rfl (by kernel_rfl) (by kernel_rfl) (by kernel_rfl) (by kernel_rfl) (fun _ _ _ h => h) rfl (by kernel_rfl) ?hv323 ?rv323
              case hv323 => (intro w; go_simp) <;> (with_reducible rfl)
              try simp only [Act.put, List.setIfInBounds_toArray, List.set_cons_zero, List.set_cons_succ]
              refine hw_load (i := 2) (oi := ⟨some 88, _, _, _, _, _⟩) (v := ?v324) _ (List.mem_cons_of_mem _ (List.mem_cons_self ..)) rfl (by kernel_rfl) (by kernel_rfl) (by kernel_rfl) (by kernel_rfl) (fun _ _ _ h => h) rfl (by kernel_rfl) ?hv324 ?rv324
              case hv324 => (intro w hSw; (try dsimp only at hSw); go_simp) <;> (with_reducible rfl)
              try simp only [Act.put, List.setIfInBounds_toArray, List.set_cons_zero, List.set_cons_succ]
              refine hw_ready (rs := [3]) (by kernel_rfl) (by simp) ?_
              refine AllHW.cons (i := 3) (o := ⟨some 89, _, _, _, _, _⟩) rfl rfl (by kernel_rfl) (fun K hK => ?s325) ?ms325
              case s325 =>
                (try go_simp)
                go_at_call 111
                refine (HEN.out _ (HR.out.frm.h _ (List.mem_cons_of_mem _ (List.mem_cons_of_mem _ (List.mem_cons_self ..)))) (HT.out.below HR.out.frm.b)).mono ?_
                rintro e W326 ⟨rfl, hbd1⟩
                have hRn := HR.out.below hbd1
                clear HR hbd1
                have HR := Lib.hid hRn
                clear hRn
                (try dsimp only)
                refine hK.out _ _ (List.forall_mem_cons.2 ⟨.inr (HR.out.frm.cells (List.mem_cons_self ..)), List.forall_mem_cons.2 ⟨.inl (by kernel_rfl), (by simp)⟩⟩) ?_
                refine hw_pure (i := 4) (oi := ⟨some 90, _, _, _, _, _⟩) (v := ?v327) rfl (by kernel_rfl) (by kernel_rfl) (by kernel_rfl) (by kernel_rfl) (fun _ _ _ h => h) rfl (by kernel_rfl) ?hv327 ?rv327
                case hv327 => (intro w; go_simp) <;> (with_reducible rfl)
                try simp only [Act.put, List.setIfInBounds_toArray, List.set_cons_zero, List.set_cons_succ]
                refine hw_ready (rs := [5]) (by kernel_rfl) (by simp) ?_
                refine AllHW.cons (i := 5) (o := ⟨none, _, _, _, _, _⟩) rfl rfl (by kernel_rfl) (fun K hK => ?s328) ?ms328
                case s328 =>
                  have u0 := (boxCells (HR.out.frm.h _ (List.mem_cons_of_mem _ (List.mem_cons_self ..)))).1
                  have f0 := (boxCells (HR.out.frm.h _ (List.mem_cons_of_mem _ (List.mem_cons_self ..)))).2
                  have l0 := lt_of_blk (HR.out.frm.h _ (List.mem_cons_of_mem _ (List.mem_cons_self ..)))
                  (try go_simp)
                  clear u0 f0 l0
                  refine (fun (W329 : World) (hRn : RW w _ [(w.heap.size, (.cells #[.int .i64 (wd : Int), .slice (some ⟨g8, 0, none⟩) zs.length ec] 27)), (F0, (.cells #[.int .i64 (wd : Int), .slice (some ⟨g8, 0, none⟩) zs.length ec] 27)), (g8, (.cells cur8 3))] [] W329) (hzW329 : Hid (W329.heap.size = W326.heap.size)) => hK.out _ W329 (List.forall_mem_cons.2 ⟨.inl (by kernel_rfl), List.forall_mem_cons.2 ⟨.inl (by kernel_rfl), (by simp)⟩⟩) ?_) _ ((RW.put (RW.put (RW.less (bs' := [(w.heap.size, (.cells #[.int .i64 0, .slice none 0 0] 27)), (F0, (.cells #[.int .i64 (wd : Int), .slice (some ⟨g8, 0, none⟩) zs.length ec] 27)), (g8, (.cells cur8 3))]) HR.out (by simp only [List.forall_mem_cons, List.forall_mem_nil, and_true]; exact ⟨(List.mem_cons_of_mem _ (List.mem_cons_self ..)), (List.mem_cons_self ..), (List.mem_cons_of_mem _ (List.mem_cons_of_mem _ (List.mem_cons_self ..))), by simp⟩)) (by omega) (by simp <;> omega) 0 (.int .i64 (wd : Int))) (by omega) (by simp <;> omega) 1 (.slice (some ⟨g8, 0, none⟩) zs.length ec))) (Lib.hid (by simp))
                  clear HR
                  have HR := Lib.hid hRn
                  clear hRn
                  refine hw_pure (i := 6) (oi := ⟨some 3, _, _, _, _, _⟩) (v := ?v330) rfl (by kernel_rfl) (by kernel_rfl) (by kernel_rfl) (by kernel_rfl) (fun _ _ _ h => h) rfl (by kernel_rfl) ?hv330 ?rv330
                  case hv330 => (intro w; go_simp) <;> (with_reducible rfl)
                  try simp only [Act.put, List.setIfInBounds_toArray, List.set_cons_zero, List.set_cons_succ]
                  refine hw_done (by kernel_rfl) ?_
                  go_wp2_with fail
                  have u9 := HR.out.frm.cells (List.mem_cons_self ..)
                  refine bodyPost_ret (v := .tuple #[.agg #[Value.int .i64 (wd : Int), .slice (some ⟨g8, 0, none⟩) zs.length ec], .bool (left == en)]) (by simp [results, Tryz.results80, go_sem, u9]) rfl ?_
                  exact FIN.out _ HR.out.frm.b (INTS.out _ (HR.out.frm.h _ (List.mem_cons_of_mem _ (List.mem_cons_of_mem _ (List.mem_cons_self ..)))))
                exact AllHW.nil
              exact AllHW.nil

end PartOfPrd

section PartOfPch
open Go.RowKit
open Go.Maps Go.Shelf
attribute [local go_sem] Oper.semAt_some
/-- The rows of a field. -/
def RwT (rw : Nat) : Type := { r : Nat // r < rw }
def RwT.mk {rw : Nat} (r : Nat) (h : r < rw) : RwT rw := ⟨r, h⟩
def RwT.r {rw : Nat} (x : RwT rw) : Nat := x.1
def RwT.ns {rw : Nat} (l : List (RwT rw)) : List Nat := l.map RwT.r
/-- Two blocks that stay. -/
def KpB (G P : Nat) (A B : World) : Prop := A.heap.size ≤ B.heap.size ∧ B.heap[G]? = A.heap[G]? ∧ B.heap[P]? = A.heap[P]?
theorem KpB.refl (G P : Nat) (A : World) : KpB G P A A := ⟨Nat.le_refl _, rfl, rfl⟩
theorem KpB.trans {G P : Nat} {A B C : World} (h : KpB G P A B) (k : KpB G P B C) : KpB G P A C := ⟨Nat.le_trans h.1 k.1, k.2.1.trans h.2.1, k.2.2.trans h.2.2⟩
theorem KpB.of {G P : Nat} {A B : World} (h : Below A.heap.size A B) (hG : G < A.heap.size) (hP : P < A.heap.size) : KpB G P A B := ⟨h.size, h.block G hG, h.block P hP⟩
set_option maxHeartbeats 1600000 in
set_option maxRecDepth 100000 in
theorem ck1_in (n : Nat) (hn : 1 ≤ n) (W0 wd rw N b off c : Nat) (h1 : 1 ≤ wd) (hN : N = rw * wd) (hN2 : N ≤ 100) (hc1 : N ≤ c) (hc2 : c ≤ 9223372036854775807) (l G P : Nat) (hG : G < W0) (hP : P < W0)
    (J Jx : List (RwT rw) → World → Prop) (W : World) (hW0 : W0 ≤ W.heap.size) (hJ : AbidesFrom W.heap.size J)
    (hY : ∀ pre x W, J pre W → pre.length < 1000 → YieldAt Fence.wide (n - 1) Tryz.prog l #[.slice (some ⟨b, off + x.r * wd, none⟩) wd wd] W fun e W' =>
      (e = .returned (.bool true) ∧ J (pre ++ [x]) W' ∧ KpB G P W W') ∨ (e = .returned (.bool false) ∧ Jx (pre ++ [x]) W'))
    (hg : W.heap[G]? = some (.cells #[.slice (some ⟨b, off, none⟩) N c] 25)) (hpb : W.heap[P]? = some (.cells #[.int .i64 (wd : Int)] 3)) (h0 : J [] W) :
    CallsIn Fence.wide n Tryz.prog 144 #[.func (.yield l) #[] #[], .pointer (some ⟨G, 0, none⟩), .pointer (some ⟨P, 0, none⟩)] W fun e W' => (∃ v, e = .returned v) ∧
      ((∃ ys, RwT.ns ys = List.range rw ∧ J ys W') ∨ (∃ pre, True ∧ Jx pre W')) := by
  have HGB := Lib.hid hg
  have HPB := Lib.hid hpb
  have HN := Lib.hid hN
  have g1 := (boxCells hg).1
  have p1 := (boxCells hpb).1
  have hrw : rw ≤ 100 := Nat.le_trans (Nat.le_mul_of_pos_right rw h1) (by omega)
  have hwd : 1 ≤ rw → wd ≤ N := fun h => by rw [hN]; exact Nat.le_mul_of_pos_left wd h
  clear hg hpb hN
  refine callsIn_of_wp Tryz.func144 rfl trivial ?_ rfl
  simp only [Tryz.ntmps144, List.size_toArray, List.length_cons, List.length_nil, Nat.reduceAdd, Nat.reduceSub, Array.replicate_succ, Array.replicate_zero, List.push_toArray, List.append_toArray, List.nil_append, List.cons_append]
  gi_wp2
  clear g1 p1
  gi_loopw [4] (fun i wr => ∃ (r : Nat) (pre : List (RwT rw)), r ≤ rw ∧ i = .int .i64 ((r * wd : Nat) : Int) ∧ J pre wr ∧ RwT.ns pre = List.range r ∧ KpB G P W wr) (fun i _ => N - (intOf i).toNat)
  case atStart => exact ⟨0, [], Nat.zero_le _, by simp, h0, rfl, KpB.refl _ _ _⟩
  case round =>
    obtain ⟨r, pre, hr, rfl, hJ0, hL, hb⟩ := hrel
    have HJ0 := Lib.hid hJ0
    have HL := Lib.hid hL
    have HB := Lib.hid hb
    have hwz := hb.1
    have g1 := (boxCells (hb.2.1.trans HGB.out)).1
    have p1 := (boxCells (hb.2.2.trans HPB.out)).1
    have hpl : pre.length = r := by
      have := congrArg List.length hL
      simpa [RwT.ns] using this
    clear hJ0 hL hb
    obtain ⟨q, hq⟩ : ∃ q, r * wd = q := ⟨_, rfl⟩
    have HQ := Lib.hid hq
    by_cases hrl : r < rw
    · have hqN : q + wd ≤ N := by
        rw [HN.out, ← hq]
        have := Nat.mul_le_mul_right wd (show r + 1 ≤ rw by omega)
        rw [Nat.add_mul, Nat.one_mul] at this
        exact this
      have hq1 : (q : Int) < (N : Int) := by omega
      rw [hq]
      have m1 : min (wd : Int) ((N : Int) - (q : Int)) = wd := by omega
      have m2 : min (wd : Int) ((N - q : Nat) : Int) = wd := by omega
      have e1 : IntKind.i64.wrap ((q : Int) + wd) = (q : Int) + wd := IntWalk.i64_in _ (by omega)
      have hqN1 : q ≤ N := by omega
      have hcq : ¬ c = q := by omega
      clear hq
      gi_wp2
      gi_quiet_th (fail)
      have HJ1 := Lib.hid (hJ _ wr (wr.drewN nq) none HJ0.out (grownBy_of_below ((Frm.nil wr).drewN nq).b) (by simp))
      have hy0 := hY pre (RwT.mk r hrl) (wr.drewN nq) HJ1.out (by omega)
      dsimp only [RwT.r, RwT.mk] at hy0
      rw [HQ.out] at hy0
      obtain ⟨fn, tmps, assign, body, hy, hR⟩ := hy0
      have HR := Lib.hid hR
      clear hR hJ hY
      gi_wp2
      refine HR.out.mono ?_
      rintro e W3 (⟨rfl, hJ3, hk3⟩ | ⟨rfl, hJx3⟩)
      · have HJ3 := Lib.hid hJ3
        have HK3 := Lib.hid hk3
        have HKA : Hid (KpB G P W W3) := Lib.hid ((HB.out.trans ⟨Nat.le_refl _, rfl, rfl⟩).trans hk3)
        have g1 := (boxCells (HKA.out.2.1.trans HGB.out)).1
        have p1 := (boxCells (HKA.out.2.2.trans HPB.out)).1
        clear hJ3 hk3
        gi_wp2
        go_roundw
        case rel => exact ⟨r + 1, pre ++ [RwT.mk r hrl], by omega, by rw [Nat.add_mul, Nat.one_mul, HQ.out]; go_num, HJ3.out, by
          have e : RwT.ns (pre ++ [RwT.mk r hrl]) = RwT.ns pre ++ [r] := List.map_append
          rw [e, HL.out, List.range_succ], HKA.out⟩
        case measure => simp [intOf]; omega
      · have HJx3 := Lib.hid hJx3
        clear hJx3
        gi_wp2
        refine bodyPost_ret (results_none rfl _ _ _) rfl ?_
        exact ⟨⟨_, rfl⟩, .inr ⟨_, trivial, HJx3.out⟩⟩
    · have hrr : r = rw := by omega
      have hqN : q = N := by rw [HN.out, ← hq, hrr]
      rw [hq, hqN]
      have HL2 : Hid (RwT.ns pre = List.range rw) := Lib.hid (by rw [HL.out, hrr])
      clear hq HQ HL hJ hY
      gi_wp2
      go_end0
      exact ⟨⟨_, rfl⟩, .inl ⟨pre, HL2.out, HJ0.out⟩⟩

end PartOfPch

section PartOfPwr
open Go.RowKit
open Go.Maps Go.Shelf
attribute [local go_sem] Oper.semAt_some
set_option maxHeartbeats 1000000 in
theorem chunk_any (A : Option Addr) (N c : Nat) (wd : Int) (w : World) (h1 : 1 ≤ wd) :
    Calls Tryz.prog 110 #[.slice A N c, .int .i64 wd] w fun e w' => ∃ B D, e = .returned (Value.func (.func 144) #[] #[.pointer (some ⟨B, 0, none⟩), .pointer (some ⟨D, 0, none⟩)]) ∧ w.heap.size ≤ B ∧ w.heap.size ≤ D ∧ w'.heap[B]? = some (.cells #[.slice A N c] 25) ∧ w'.heap[D]? = some (.cells #[.int .i64 wd] 3) ∧ Below w.heap.size w w' := by
  have hw : ¬ wd < 1 := by omega
  go_enter Tryz.func110, Tryz.ntmps110
  go_wp2
  go_ret
  exact ⟨_, _, rfl, Nat.le_refl _, by simp, blk_alloc (heap_new _ _ rfl) _, heap_new _ _ (by simp), ((Below.refl _ _).alloc (Nat.le_refl _) _).alloc (by simp) _⟩
/-- The rows of a list of their numbers, with line feeds. -/
def rowsQ (wd : Nat) (zs : List Int) {rw : Nat} (l : List (RwT rw)) : List UInt8 := (RwT.ns l).flatMap fun r => lineF (rowOf wd zs r) ++ [10]
theorem rowsQ_snoc (wd : Nat) (zs : List Int) {rw : Nat} (l : List (RwT rw)) (x : RwT rw) : rowsQ wd zs (l ++ [x]) = rowsQ wd zs l ++ (lineF (rowOf wd zs x.r) ++ [10]) := by simp [rowsQ, RwT.ns]
theorem rowsQ_all (wd : Nat) (zs : List Int) : ∀ n : Nat, (List.range n).flatMap (fun r => lineF (rowOf wd zs r) ++ [10]) = rowsT wd zs n
  | 0 => rfl
  | n + 1 => by rw [List.range_succ, List.flatMap_append, rowsQ_all wd zs n]; simp [rowsT]
theorem itos_len {zs : List Int} (h : ∀ z ∈ zs, 0 ≤ z ∧ z ≤ 99999) : ∀ x ∈ itosL zs, x.length ≤ 21 := fun x hx => by
  have := (itos_good h x hx).2
  omega
theorem line_len {zs : List Int} (h : ∀ z ∈ zs, 0 ≤ z ∧ z ≤ 99999) : (lineF zs).length ≤ zs.length * 22 := by
  have := join_len (itosL zs) (itos_len h)
  rw [itosL_len] at this
  exact this
theorem rowsQ_len (wd : Nat) (zs : List Int) (h : ∀ z ∈ zs, 0 ≤ z ∧ z ≤ 99999) {rw : Nat} : ∀ l : List (RwT rw), (rowsQ wd zs l).length ≤ l.length * (wd * 22 + 1)
  | [] => by simp [rowsQ, RwT.ns]
  | x :: l => by
    have e : rowsQ wd zs (x :: l) = (lineF (rowOf wd zs x.r) ++ [10]) ++ rowsQ wd zs l := by simp [rowsQ, RwT.ns]
    have h1 := line_len (zs := rowOf wd zs x.r) (fun z hz => h z (rowOf_mem hz))
    have h2 : (rowOf wd zs x.r).length ≤ wd := by simp [rowOf]; omega
    have h3 := rowsQ_len wd zs h l
    rw [e, List.length_append, List.length_append, List.length_singleton, List.length_cons, Nat.add_mul, Nat.one_mul]
    omega
theorem ints_two {W : World} {K : Nat} {a b : Int} (h : W.heap[K]? = some (.cells #[.int .i64 a, .int .i64 b] 3)) : Ints W (.slice (some ⟨K, 0, none⟩) ([a, b] : List Int).length 2) [a, b] := by
  refine ⟨_, 2, rfl, by simp, by unfold maxLen; omega, .inr ⟨K, 0, rfl, lt_of_blk h, fun i z hi => ?_⟩⟩
  rw [Nat.zero_add, (boxCells h).1 i]
  match i, hi with
  | 0, hi => simp at hi; simp [hi]
  | 1, hi => simp at hi; simp [hi]
theorem ints_part {W : World} {b off c : Nat} {zs : List Int} (h : Ints W (.slice (some ⟨b, off, none⟩) zs.length c) zs) {wd r rw : Nat} (hl : zs.length = rw * wd) (hr : r < rw) (hw : wd ≤ 1000) : Ints W (.slice (some ⟨b, off + r * wd, none⟩) (rowOf wd zs r).length wd) (rowOf wd zs r) := by
  have hlen := rowOf_len hl hr
  refine ⟨_, wd, rfl, by rw [hlen]; exact Nat.le_refl _, by unfold maxLen; omega, ?_⟩
  by_cases h0 : wd = 0
  · exact .inl (List.length_eq_zero_iff.1 (by rw [hlen, h0]))
  · obtain ⟨A, cap, hv, _, _, hx⟩ := h
    obtain ⟨rfl, -, rfl⟩ : some ⟨b, off, none⟩ = A ∧ zs.length = zs.length ∧ c = cap := by simpa using hv
    have hne : zs ≠ [] := fun e => by
      have := Nat.le_mul_of_pos_left wd (show 0 < rw by omega)
      rw [e] at hl; simp at hl; omega
    rcases hx with rfl | ⟨b', off', hA, hlt, hc⟩
    · exact absurd rfl hne
    · obtain ⟨rfl, rfl⟩ : b = b' ∧ off = off' := by simpa using hA
      refine .inr ⟨b, off + r * wd, rfl, hlt, fun i z hi => ?_⟩
      have hiw : i < wd := by have := (List.getElem?_eq_some_iff.1 hi).1; omega
      rw [rowOf_at hiw] at hi
      rw [Nat.add_assoc]
      exact hc _ z hi
set_option maxHeartbeats 8000000 in
set_option maxRecDepth 100000 in
theorem written_any (wd rw : Nat) (b off c : Nat) (zs : List Int) (w : World) (hz : Ints w (.slice (some ⟨b, off, none⟩) zs.length c) zs) (hl : zs.length = rw * wd) (w1 : 1 ≤ wd) (w2 : wd ≤ 6) (r1 : 1 ≤ rw) (r2 : rw ≤ 5) (hv : ∀ z ∈ zs, 0 ≤ z ∧ z ≤ 99999) (ht : Tab w) :
    Calls Tryz.prog 79 #[.agg #[.int .i64 (wd : Int), .slice (some ⟨b, off, none⟩) zs.length c]] w fun e w' => e = .returned (str (textP wd rw zs)) ∧ Below w.heap.size w w' := by
  have HZ := Lib.hid hz
  have HV := Lib.hid hv
  have HT := Lib.hid ht
  have HL := Lib.hid hl
  have hN : zs.length ≤ 30 := by rw [hl]; exact Nat.le_trans (Nat.mul_le_mul r2 w2) (by omega)
  have hN1 : 1 ≤ zs.length := by rw [hl]; exact Nat.le_trans (by omega) (Nat.mul_le_mul r1 w1)
  obtain ⟨b', off', hbo, hc1, hc2⟩ := hz.at0 hN1
  unfold maxLen at hc2
  have q1 : (zs.length : Int) / (wd : Int) = (rw : Int) := by
    rw [hl, Int.natCast_mul]
    exact Int.mul_ediv_cancel _ (by omega)
  have t2 : (zs.length : Int).tdiv (wd : Int) = (rw : Int) := by rw [Int.tdiv_eq_ediv_of_nonneg (by omega), q1]
  have t3 : IntKind.i64.wrap (rw : Int) = (rw : Int) := IntWalk.i64_in _ (by omega)
  have t5 : ((wd : Int) == 0) = false := beq_eq_false_iff_ne.2 (by omega)
  have t6 : ¬ (wd : Int) = 0 := by omega
  have t7 : ¬ wd = 0 := by omega
  have HD1 : Hid (∀ (W : World) (K : Nat), W.heap[K]? = some (.cells #[.int .i64 (wd : Int), .int .i64 (rw : Int)] 3) → Tab W → Calls Tryz.prog 109 #[.slice (some ⟨K, 0, none⟩) 2 2] W fun e w' => e = .returned (str (lineF [(wd : Int), (rw : Int)])) ∧ Below W.heap.size W w') := Lib.hid (fun W K h hT => joined_any _ 2 [(wd : Int), (rw : Int)] W (ints_two h) (by simp) (by simp) (fun z hz => by simp at hz; omega) hT)
  have hln := line_len (zs := [(wd : Int), (rw : Int)]) (fun z hz => by simp at hz; omega)
  simp only [List.length_cons, List.length_nil] at hln
  have ht1 : ¬ 9223372036854775807 < 6 + (lineF [(wd : Int), (rw : Int)]).length := by omega
  have ht2 : ¬ 9223372036854775807 < 6 + (lineF [(wd : Int), (rw : Int)]).length + 1 := by omega
  have HH := Lib.hid (show headF wd rw ++ [10] = [99, 104, 97, 114, 116, 32] ++ lineF [(wd : Int), (rw : Int)] ++ [10] from rfl)
  have hhl : (headF wd rw ++ [10]).length ≤ 60 := by rw [HH.out]; simp only [List.length_append, List.length_cons, List.length_nil]; omega
  clear hz hv ht hl hbo q1
  have HR := Lib.hid ((Frm.nil w).add (.cells #[.int .i64 (wd : Int), .slice (some ⟨b, off, none⟩) zs.length c] 27) rfl)
  have x0 := HR.out.cells (List.mem_cons_self ..)
  refine (callsIn_wide (n := 10)).1 ?_
  refine callsIn_of_wp_marks Tryz.func79 rfl trivial ?_ rfl
  simp only [Tryz.ntmps79, List.size_toArray, List.length_cons, List.length_nil, Nat.reduceAdd, Nat.reduceSub, Array.replicate_succ, Array.replicate_zero, List.push_toArray, List.append_toArray, List.nil_append, List.cons_append]
  refine wpIn_wide.2 ?_
  go_upto_region 1 with fail
  go_cut [3] from 5 to 16 (fun s3 wx => ∃ T, s3 = .pointer (some ⟨T, 0, none⟩) ∧ w.heap.size < T ∧ Frm w [(T, (.cells #[str (headF wd rw ++ [10])] 9)), (w.heap.size, (.cells #[.int .i64 (wd : Int), .slice (some ⟨b, off, none⟩) zs.length c] 27))] wx)
  case first =>
    have HRq := Lib.hid (RW.start HR.out)
    clear HR x0
    have HR := HRq
    clear HRq
    refine wp_region_noPanic ?_
    refine hw_start [(1, fun w' : World => ∀ o, w'.cell? ⟨w.heap.size, o, none⟩ = #[Value.int .i64 (wd : Int), .slice (some ⟨b, off, none⟩) zs.length c][o]?), (3, fun w' : World => ∀ o, w'.cell? ⟨w.heap.size, o, none⟩ = #[Value.int .i64 (wd : Int), .slice (some ⟨b, off, none⟩) zs.length c][o]?), (6, fun w' : World => ∀ o, w'.cell? ⟨w.heap.size, o, none⟩ = #[Value.int .i64 (wd : Int), .slice (some ⟨b, off, none⟩) zs.length c][o]?)] (by kernel_rfl) (List.forall_mem_cons.2 ⟨HR.out.drew.frm.cells (List.mem_cons_self ..), List.forall_mem_cons.2 ⟨HR.out.drew.frm.cells (List.mem_cons_self ..), List.forall_mem_cons.2 ⟨HR.out.drew.frm.cells (List.mem_cons_self ..), (by simp)⟩⟩⟩) ?_
    refine (fun (W1 : World) (hRn : RW w _ [(w.heap.size, (.cells #[.int .i64 (wd : Int), .slice (some ⟨b, off, none⟩) zs.length c] 27))] [] W1) (hzW1 : Hid (W1.heap.size = (w.alloc (.cells #[.int .i64 (wd : Int), .slice (some ⟨b, off, none⟩) zs.length c] 27)).heap.size)) => (?_ : HW _ _ _ _ _ _ _ W1)) _ HR.out.drew (Lib.hid rfl)
    clear HR
    have HR := Lib.hid hRn
    clear hRn
    replace hzW1 : Hid (W1.heap.size = w.heap.size + 1) := Lib.hid (by have := hzW1.out; simpa using this)
    refine hw_pure (i := 0) (oi := ⟨some 5, _, _, _, _, _⟩) (v := ?v2) rfl (by kernel_rfl) (by kernel_rfl) (by kernel_rfl) (by kernel_rfl) (fun _ _ _ h => h) rfl (by kernel_rfl) ?hv2 ?rv2
    case hv2 => (intro w; go_simp) <;> (with_reducible rfl)
    try simp only [Act.put, List.setIfInBounds_toArray, List.set_cons_zero, List.set_cons_succ]
    refine hw_load (i := 1) (oi := ⟨some 6, _, _, _, _, _⟩) (v := ?v3) _ (List.mem_cons_self ..) rfl (by kernel_rfl) (by kernel_rfl) (by kernel_rfl) (by kernel_rfl) (fun _ _ _ h => h) rfl (by kernel_rfl) ?hv3 ?rv3
    case hv3 => (intro w hSw; (try dsimp only at hSw); go_simp) <;> (with_reducible rfl)
    try simp only [Act.put, List.setIfInBounds_toArray, List.set_cons_zero, List.set_cons_succ]
    refine hw_pure (i := 2) (oi := ⟨some 7, _, _, _, _, _⟩) (v := ?v4) rfl (by kernel_rfl) (by kernel_rfl) (by kernel_rfl) (by kernel_rfl) (fun _ _ _ h => h) rfl (by kernel_rfl) ?hv4 ?rv4
    case hv4 => (intro w; go_simp) <;> (with_reducible rfl)
    try simp only [Act.put, List.setIfInBounds_toArray, List.set_cons_zero, List.set_cons_succ]
    refine hw_load (i := 3) (oi := ⟨some 8, _, _, _, _, _⟩) (v := ?v5) _ (List.mem_cons_of_mem _ (List.mem_cons_self ..)) rfl (by kernel_rfl) (by kernel_rfl) (by kernel_rfl) (by kernel_rfl) (fun _ _ _ h => h) rfl (by kernel_rfl) ?hv5 ?rv5
    case hv5 => (intro w hSw; (try dsimp only at hSw); go_simp) <;> (with_reducible rfl)
    try simp only [Act.put, List.setIfInBounds_toArray, List.set_cons_zero, List.set_cons_succ]
    refine hw_pure (i := 4) (oi := ⟨some 9, _, _, _, _, _⟩) (v := ?v6) rfl (by kernel_rfl) (by kernel_rfl) (by kernel_rfl) (by kernel_rfl) (fun _ _ _ h => h) rfl (by kernel_rfl) ?hv6 ?rv6
    case hv6 => (intro w; go_simp) <;> (with_reducible rfl)
    try simp only [Act.put, List.setIfInBounds_toArray, List.set_cons_zero, List.set_cons_succ]
    refine hw_pure (i := 5) (oi := ⟨some 10, _, _, _, _, _⟩) (v := ?v7) rfl (by kernel_rfl) (by kernel_rfl) (by kernel_rfl) (by kernel_rfl) (fun _ _ _ h => h) rfl (by kernel_rfl) ?hv7 ?rv7
    case hv7 => (intro w; go_simp) <;> (with_reducible rfl)
    try simp only [Act.put, List.setIfInBounds_toArray, List.set_cons_zero, List.set_cons_succ]
    refine hw_load (i := 6) (oi := ⟨some 11, _, _, _, _, _⟩) (v := ?v8) _ (List.mem_cons_of_mem _ (List.mem_cons_of_mem _ (List.mem_cons_self ..))) rfl (by kernel_rfl) (by kernel_rfl) (by kernel_rfl) (by kernel_rfl) (fun _ _ _ h => h) rfl (by kernel_rfl) ?hv8 ?rv8
    case hv8 => (intro w hSw; (try dsimp only at hSw); go_simp) <;> (with_reducible rfl)
    try simp only [Act.put, List.setIfInBounds_toArray, List.set_cons_zero, List.set_cons_succ]
    refine hw_pure (i := 7) (oi := ⟨some 12, _, _, _, _, _⟩) (v := ?v9) rfl (by kernel_rfl) (by kernel_rfl) (by kernel_rfl) (by kernel_rfl) (fun _ _ _ h => h) rfl (by kernel_rfl) ?hv9 ?rv9
    case hv9 => (intro w; go_simp) <;> (with_reducible rfl)
    try simp only [Act.put, List.setIfInBounds_toArray, List.set_cons_zero, List.set_cons_succ]
    refine hw_ready (rs := [8, 12]) (by kernel_rfl) (by simp) ?_
    refine AllHW.cons (i := 8) (o := ⟨some 13, _, _, _, _, _⟩) rfl rfl (by kernel_rfl) (fun K hK => ?s10) ?ms10
    case s10 =>
      (try go_simp)
      refine (fun (W11 : World) (hRn : RW w _ [(W1.heap.size, (.cells #[.int .i64 (wd : Int), .int .i64 (rw : Int)] 3)), (w.heap.size, (.cells #[.int .i64 (wd : Int), .slice (some ⟨b, off, none⟩) zs.length c] 27))] [] W11) (hzW11 : Hid (W11.heap.size = W1.heap.size + 1)) => hK.out _ W11 (List.forall_mem_cons.2 ⟨.inl (by kernel_rfl), List.forall_mem_cons.2 ⟨.inl (by kernel_rfl), List.forall_mem_cons.2 ⟨.inl (by kernel_rfl), (by simp)⟩⟩⟩) ?_) _ (HR.out.add (.cells #[.int .i64 (wd : Int), .int .i64 (rw : Int)] 3) rfl) (Lib.hid (by simp))
      clear HR
      have HR := Lib.hid hRn
      clear hRn
      refine hw_ready (rs := [9, 12]) (by kernel_rfl) (by simp) ?_
      refine AllHW.cons (i := 9) (o := ⟨some 14, _, _, _, _, _⟩) rfl rfl (by kernel_rfl) (fun K hK => ?s12) ?ms12
      case s12 =>
        (try go_simp)
        go_at_call 109
        refine (HD1.out _ _ (HR.out.frm.h _ (List.mem_cons_self ..)) (HT.out.below HR.out.frm.b)).mono ?_
        rintro e W13 ⟨rfl, hbd1⟩
        have hRn := HR.out.below hbd1
        have hzW13 : Hid (W11.heap.size ≤ W13.heap.size) := Lib.hid hbd1.size
        clear HR hbd1
        have HR := Lib.hid hRn
        clear hRn
        (try go_wp2_with fail)
        refine hK.out _ _ (List.forall_mem_cons.2 ⟨.inl (by kernel_rfl), List.forall_mem_cons.2 ⟨.inl (by kernel_rfl), List.forall_mem_cons.2 ⟨.inl (by kernel_rfl), (by simp)⟩⟩⟩) ?_
        refine hw_pure (i := 10) (oi := ⟨some 15, _, _, _, _, _⟩) (v := ?v14) rfl (by kernel_rfl) (by kernel_rfl) (by kernel_rfl) (by kernel_rfl) (fun _ _ _ h => h) rfl (by kernel_rfl) ?hv14 ?rv14
        case hv14 => (intro w; go_simp) <;> (with_reducible rfl)
        try simp only [Act.put, List.setIfInBounds_toArray, List.set_cons_zero, List.set_cons_succ]
        refine hw_pure (i := 11) (oi := ⟨some 16, _, _, _, _, _⟩) (v := ?v15) rfl (by kernel_rfl) (by kernel_rfl) (by kernel_rfl) (by kernel_rfl) (fun _ _ _ h => h) rfl (by kernel_rfl) ?hv15 ?rv15
        case hv15 => (intro w; go_simp) <;> (with_reducible rfl)
        try simp only [Act.put, List.setIfInBounds_toArray, List.set_cons_zero, List.set_cons_succ]
        refine hw_ready (rs := [12]) (by kernel_rfl) (by simp) ?_
        refine AllHW.cons (i := 12) (o := ⟨some 3, _, _, _, _, _⟩) rfl rfl (by kernel_rfl) (fun K hK => ?s16) ?ms16
        case s16 =>
          (try go_simp)
          refine (fun (W17 : World) (hRn : RW w _ [(W13.heap.size, (.cells #[.string ⟨#[]⟩] 9)), (W1.heap.size, (.cells #[.int .i64 (wd : Int), .int .i64 (rw : Int)] 3)), (w.heap.size, (.cells #[.int .i64 (wd : Int), .slice (some ⟨b, off, none⟩) zs.length c] 27))] [] W17) (hzW17 : Hid (W17.heap.size = W13.heap.size + 1)) => hK.out _ W17 (List.forall_mem_cons.2 ⟨.inl (by kernel_rfl), List.forall_mem_cons.2 ⟨.inl (by kernel_rfl), List.forall_mem_cons.2 ⟨.inl (by kernel_rfl), (by simp)⟩⟩⟩) ?_) _ (HR.out.add (.cells #[.string ⟨#[]⟩] 9) rfl) (Lib.hid (by simp))
          clear HR
          have HR := Lib.hid hRn
          clear hRn
          refine hw_ready (rs := [13]) (by kernel_rfl) (by simp) ?_
          refine AllHW.cons (i := 13) (o := ⟨none, _, _, _, _, _⟩) rfl rfl (by kernel_rfl) (fun K hK => ?s18) ?ms18
          case s18 =>
            (try simp only [ba_app])
            have u0 := (boxCells (HR.out.frm.h _ (List.mem_cons_self ..))).1
            have f0 := (boxCells (HR.out.frm.h _ (List.mem_cons_self ..))).2
            have l0 := lt_of_blk (HR.out.frm.h _ (List.mem_cons_self ..))
            (try go_simp)
            clear u0 f0 l0
            refine (fun (W19 : World) (hRn : RW w _ [(W13.heap.size, (.cells #[str ([99, 104, 97, 114, 116, 32] ++ lineF [(wd : Int), (rw : Int)] ++ [10])] 9)), (W1.heap.size, (.cells #[.int .i64 (wd : Int), .int .i64 (rw : Int)] 3)), (w.heap.size, (.cells #[.int .i64 (wd : Int), .slice (some ⟨b, off, none⟩) zs.length c] 27))] [] W19) (hzW19 : Hid (W19.heap.size = W17.heap.size)) => hK.out _ W19 (List.forall_mem_cons.2 ⟨.inl (by kernel_rfl), List.forall_mem_cons.2 ⟨.inl (by kernel_rfl), List.forall_mem_cons.2 ⟨.inl (by kernel_rfl), (by simp)⟩⟩⟩) ?_) _ ((RW.put (RW.less (bs' := [(W13.heap.size, (.cells #[.string ⟨#[]⟩] 9)), (W1.heap.size, (.cells #[.int .i64 (wd : Int), .int .i64 (rw : Int)] 3)), (w.heap.size, (.cells #[.int .i64 (wd : Int), .slice (some ⟨b, off, none⟩) zs.length c] 27))]) HR.out (by simp only [List.forall_mem_cons, List.forall_mem_nil, and_true]; exact ⟨(List.mem_cons_self ..), (List.mem_cons_of_mem _ (List.mem_cons_self ..)), (List.mem_cons_of_mem _ (List.mem_cons_of_mem _ (List.mem_cons_self ..))), by simp⟩)) (by have := hzW1.out; have := hzW11.out; have := hzW13.out; have := hzW17.out; omega) (by have := hzW1.out; have := hzW11.out; have := hzW13.out; have := hzW17.out; simp <;> omega) 0 (str ([99, 104, 97, 114, 116, 32] ++ lineF [(wd : Int), (rw : Int)] ++ [10])))) (Lib.hid (by simp))
            clear HR
            have HR := Lib.hid hRn
            clear hRn
            refine hw_done (by kernel_rfl) ?_
            refine NoPanic.normal ?_
            go_wp2_with fail
            go_meet
            have zhzW1 := hzW1.out
            have zhzW11 := hzW11.out
            have zhzW13 := hzW13.out
            have zhzW17 := hzW17.out
            have zhzW19 := hzW19.out
            exact ⟨W13.heap.size, rfl, by omega, by rw [HH.out]; exact (RW.less (bs' := [(W13.heap.size, (.cells #[str ([99, 104, 97, 114, 116, 32] ++ lineF [(wd : Int), (rw : Int)] ++ [10])] 9)), (w.heap.size, (.cells #[.int .i64 (wd : Int), .slice (some ⟨b, off, none⟩) zs.length c] 27))]) HR.out (by simp only [List.forall_mem_cons, List.forall_mem_nil, and_true]; exact ⟨(List.mem_cons_self ..), (List.mem_cons_of_mem _ (List.mem_cons_of_mem _ (List.mem_cons_self ..))), by simp⟩)).frm⟩
          exact AllHW.nil
        exact AllHW.nil
      refine AllHW.cons (i := 12) (o := ⟨some 3, _, _, _, _, _⟩) rfl rfl (by kernel_rfl) (fun K hK => ?s20) ?ms20
      case s20 =>
        (try go_simp)
        refine (fun (W21 : World) (hRn : RW w _ [(W11.heap.size, (.cells #[.string ⟨#[]⟩] 9)), (W1.heap.size, (.cells #[.int .i64 (wd : Int), .int .i64 (rw : Int)] 3)), (w.heap.size, (.cells #[.int .i64 (wd : Int), .slice (some ⟨b, off, none⟩) zs.length c] 27))] [] W21) (hzW21 : Hid (W21.heap.size = W11.heap.size + 1)) => hK.out _ W21 (List.forall_mem_cons.2 ⟨.inl (by kernel_rfl), List.forall_mem_cons.2 ⟨.inl (by kernel_rfl), List.forall_mem_cons.2 ⟨.inl (by kernel_rfl), (by simp)⟩⟩⟩) ?_) _ (HR.out.add (.cells #[.string ⟨#[]⟩] 9) rfl) (Lib.hid (by simp))
        clear HR
        have HR := Lib.hid hRn
        clear hRn
        refine hw_ready (rs := [9]) (by kernel_rfl) (by simp) ?_
        refine AllHW.cons (i := 9) (o := ⟨some 14, _, _, _, _, _⟩) rfl rfl (by kernel_rfl) (fun K hK => ?s22) ?ms22
        case s22 =>
          (try go_simp)
          go_at_call 109
          refine (HD1.out _ _ (HR.out.frm.h _ (List.mem_cons_of_mem _ (List.mem_cons_self ..))) (HT.out.below HR.out.frm.b)).mono ?_
          rintro e W23 ⟨rfl, hbd1⟩
          have hRn := HR.out.below hbd1
          have hzW23 : Hid (W21.heap.size ≤ W23.heap.size) := Lib.hid hbd1.size
          clear HR hbd1
          have HR := Lib.hid hRn
          clear hRn
          (try go_wp2_with fail)
          refine hK.out _ _ (List.forall_mem_cons.2 ⟨.inl (by kernel_rfl), List.forall_mem_cons.2 ⟨.inl (by kernel_rfl), List.forall_mem_cons.2 ⟨.inl (by kernel_rfl), (by simp)⟩⟩⟩) ?_
          refine hw_pure (i := 10) (oi := ⟨some 15, _, _, _, _, _⟩) (v := ?v24) rfl (by kernel_rfl) (by kernel_rfl) (by kernel_rfl) (by kernel_rfl) (fun _ _ _ h => h) rfl (by kernel_rfl) ?hv24 ?rv24
          case hv24 => (intro w; go_simp) <;> (with_reducible rfl)
          try simp only [Act.put, List.setIfInBounds_toArray, List.set_cons_zero, List.set_cons_succ]
          refine hw_pure (i := 11) (oi := ⟨some 16, _, _, _, _, _⟩) (v := ?v25) rfl (by kernel_rfl) (by kernel_rfl) (by kernel_rfl) (by kernel_rfl) (fun _ _ _ h => h) rfl (by kernel_rfl) ?hv25 ?rv25
          case hv25 => (intro w; go_simp) <;> (with_reducible rfl)
          try simp only [Act.put, List.setIfInBounds_toArray, List.set_cons_zero, List.set_cons_succ]
          refine hw_ready (rs := [13]) (by kernel_rfl) (by simp) ?_
          refine AllHW.cons (i := 13) (o := ⟨none, _, _, _, _, _⟩) rfl rfl (by kernel_rfl) (fun K hK => ?s26) ?ms26
          case s26 =>
            (try simp only [ba_app])
            have u0 := (boxCells (HR.out.frm.h _ (List.mem_cons_self ..))).1
            have f0 := (boxCells (HR.out.frm.h _ (List.mem_cons_self ..))).2
            have l0 := lt_of_blk (HR.out.frm.h _ (List.mem_cons_self ..))
            (try go_simp)
            clear u0 f0 l0
            refine (fun (W27 : World) (hRn : RW w _ [(W11.heap.size, (.cells #[str ([99, 104, 97, 114, 116, 32] ++ lineF [(wd : Int), (rw : Int)] ++ [10])] 9)), (W1.heap.size, (.cells #[.int .i64 (wd : Int), .int .i64 (rw : Int)] 3)), (w.heap.size, (.cells #[.int .i64 (wd : Int), .slice (some ⟨b, off, none⟩) zs.length c] 27))] [] W27) (hzW27 : Hid (W27.heap.size = W23.heap.size)) => hK.out _ W27 (List.forall_mem_cons.2 ⟨.inl (by kernel_rfl), List.forall_mem_cons.2 ⟨.inl (by kernel_rfl), List.forall_mem_cons.2 ⟨.inl (by kernel_rfl), (by simp)⟩⟩⟩) ?_) _ ((RW.put (RW.less (bs' := [(W11.heap.size, (.cells #[.string ⟨#[]⟩] 9)), (W1.heap.size, (.cells #[.int .i64 (wd : Int), .int .i64 (rw : Int)] 3)), (w.heap.size, (.cells #[.int .i64 (wd : Int), .slice (some ⟨b, off, none⟩) zs.length c] 27))]) HR.out (by simp only [List.forall_mem_cons, List.forall_mem_nil, and_true]; exact ⟨(List.mem_cons_self ..), (List.mem_cons_of_mem _ (List.mem_cons_self ..)), (List.mem_cons_of_mem _ (List.mem_cons_of_mem _ (List.mem_cons_self ..))), by simp⟩)) (by have := hzW1.out; have := hzW11.out; have := hzW21.out; have := hzW23.out; omega) (by have := hzW1.out; have := hzW11.out; have := hzW21.out; have := hzW23.out; simp <;> omega) 0 (str ([99, 104, 97, 114, 116, 32] ++ lineF [(wd : Int), (rw : Int)] ++ [10])))) (Lib.hid (by simp))
            clear HR
            have HR := Lib.hid hRn
            clear hRn
            refine hw_done (by kernel_rfl) ?_
            refine NoPanic.normal ?_
            go_wp2_with fail
            go_meet
            have zhzW1 := hzW1.out
            have zhzW11 := hzW11.out
            have zhzW21 := hzW21.out
            have zhzW23 := hzW23.out
            have zhzW27 := hzW27.out
            exact ⟨W11.heap.size, rfl, by omega, by rw [HH.out]; exact (RW.less (bs' := [(W11.heap.size, (.cells #[str ([99, 104, 97, 114, 116, 32] ++ lineF [(wd : Int), (rw : Int)] ++ [10])] 9)), (w.heap.size, (.cells #[.int .i64 (wd : Int), .slice (some ⟨b, off, none⟩) zs.length c] 27))]) HR.out (by simp only [List.forall_mem_cons, List.forall_mem_nil, and_true]; exact ⟨(List.mem_cons_self ..), (List.mem_cons_of_mem _ (List.mem_cons_of_mem _ (List.mem_cons_self ..))), by simp⟩)).frm⟩
          exact AllHW.nil
        exact AllHW.nil
      exact AllHW.nil
    refine AllHW.cons (i := 12) (o := ⟨some 3, _, _, _, _, _⟩) rfl rfl (by kernel_rfl) (fun K hK => ?s28) ?ms28
    case s28 =>
      (try go_simp)
      refine (fun (W29 : World) (hRn : RW w _ [(W1.heap.size, (.cells #[.string ⟨#[]⟩] 9)), (w.heap.size, (.cells #[.int .i64 (wd : Int), .slice (some ⟨b, off, none⟩) zs.length c] 27))] [] W29) (hzW29 : Hid (W29.heap.size = W1.heap.size + 1)) => hK.out _ W29 (List.forall_mem_cons.2 ⟨.inr (hRn.frm.cells (List.mem_cons_of_mem _ (List.mem_cons_self ..))), List.forall_mem_cons.2 ⟨.inr (hRn.frm.cells (List.mem_cons_of_mem _ (List.mem_cons_self ..))), List.forall_mem_cons.2 ⟨.inr (hRn.frm.cells (List.mem_cons_of_mem _ (List.mem_cons_self ..))), (by simp)⟩⟩⟩) ?_) _ (HR.out.add (.cells #[.string ⟨#[]⟩] 9) rfl) (Lib.hid (by simp))
      clear HR
      have HR := Lib.hid hRn
      clear hRn
      refine hw_ready (rs := [8]) (by kernel_rfl) (by simp) ?_
      refine AllHW.cons (i := 8) (o := ⟨some 13, _, _, _, _, _⟩) rfl rfl (by kernel_rfl) (fun K hK => ?s30) ?ms30
      case s30 =>
        (try go_simp)
        refine (fun (W31 : World) (hRn : RW w _ [(W29.heap.size, (.cells #[.int .i64 (wd : Int), .int .i64 (rw : Int)] 3)), (W1.heap.size, (.cells #[.string ⟨#[]⟩] 9)), (w.heap.size, (.cells #[.int .i64 (wd : Int), .slice (some ⟨b, off, none⟩) zs.length c] 27))] [] W31) (hzW31 : Hid (W31.heap.size = W29.heap.size + 1)) => hK.out _ W31 (List.forall_mem_cons.2 ⟨.inl (by kernel_rfl), List.forall_mem_cons.2 ⟨.inl (by kernel_rfl), List.forall_mem_cons.2 ⟨.inl (by kernel_rfl), (by simp)⟩⟩⟩) ?_) _ (HR.out.add (.cells #[.int .i64 (wd : Int), .int .i64 (rw : Int)] 3) rfl) (Lib.hid (by simp))
        clear HR
        have HR := Lib.hid hRn
        clear hRn
        refine hw_ready (rs := [9]) (by kernel_rfl) (by simp) ?_
        refine AllHW.cons (i := 9) (o := ⟨some 14, _, _, _, _, _⟩) rfl rfl (by kernel_rfl) (fun K hK => ?s32) ?ms32
        case s32 =>
          (try go_simp)
          go_at_call 109
          refine (HD1.out _ _ (HR.out.frm.h _ (List.mem_cons_self ..)) (HT.out.below HR.out.frm.b)).mono ?_
          rintro e W33 ⟨rfl, hbd1⟩
          have hRn := HR.out.below hbd1
          have hzW33 : Hid (W31.heap.size ≤ W33.heap.size) := Lib.hid hbd1.size
          clear HR hbd1
          have HR := Lib.hid hRn
          clear hRn
          (try go_wp2_with fail)
          refine hK.out _ _ (List.forall_mem_cons.2 ⟨.inl (by kernel_rfl), List.forall_mem_cons.2 ⟨.inl (by kernel_rfl), List.forall_mem_cons.2 ⟨.inl (by kernel_rfl), (by simp)⟩⟩⟩) ?_
          refine hw_pure (i := 10) (oi := ⟨some 15, _, _, _, _, _⟩) (v := ?v34) rfl (by kernel_rfl) (by kernel_rfl) (by kernel_rfl) (by kernel_rfl) (fun _ _ _ h => h) rfl (by kernel_rfl) ?hv34 ?rv34
          case hv34 => (intro w; go_simp) <;> (with_reducible rfl)
          try simp only [Act.put, List.setIfInBounds_toArray, List.set_cons_zero, List.set_cons_succ]
          refine hw_pure (i := 11) (oi := ⟨some 16, _, _, _, _, _⟩) (v := ?v35) rfl (by kernel_rfl) (by kernel_rfl) (by kernel_rfl) (by kernel_rfl) (fun _ _ _ h => h) rfl (by kernel_rfl) ?hv35 ?rv35
          case hv35 => (intro w; go_simp) <;> (with_reducible rfl)
          try simp only [Act.put, List.setIfInBounds_toArray, List.set_cons_zero, List.set_cons_succ]
          refine hw_ready (rs := [13]) (by kernel_rfl) (by simp) ?_
          refine AllHW.cons (i := 13) (o := ⟨none, _, _, _, _, _⟩) rfl rfl (by kernel_rfl) (fun K hK => ?s36) ?ms36
          case s36 =>
            (try simp only [ba_app])
            have u0 := (boxCells (HR.out.frm.h _ (List.mem_cons_of_mem _ (List.mem_cons_self ..)))).1
            have f0 := (boxCells (HR.out.frm.h _ (List.mem_cons_of_mem _ (List.mem_cons_self ..)))).2
            have l0 := lt_of_blk (HR.out.frm.h _ (List.mem_cons_of_mem _ (List.mem_cons_self ..)))
            (try go_simp)
            clear u0 f0 l0
            refine (fun (W37 : World) (hRn : RW w _ [(W1.heap.size, (.cells #[str ([99, 104, 97, 114, 116, 32] ++ lineF [(wd : Int), (rw : Int)] ++ [10])] 9)), (W29.heap.size, (.cells #[.int .i64 (wd : Int), .int .i64 (rw : Int)] 3)), (w.heap.size, (.cells #[.int .i64 (wd : Int), .slice (some ⟨b, off, none⟩) zs.length c] 27))] [] W37) (hzW37 : Hid (W37.heap.size = W33.heap.size)) => hK.out _ W37 (List.forall_mem_cons.2 ⟨.inl (by kernel_rfl), List.forall_mem_cons.2 ⟨.inl (by kernel_rfl), List.forall_mem_cons.2 ⟨.inl (by kernel_rfl), (by simp)⟩⟩⟩) ?_) _ ((RW.put (RW.less (bs' := [(W1.heap.size, (.cells #[.string ⟨#[]⟩] 9)), (W29.heap.size, (.cells #[.int .i64 (wd : Int), .int .i64 (rw : Int)] 3)), (w.heap.size, (.cells #[.int .i64 (wd : Int), .slice (some ⟨b, off, none⟩) zs.length c] 27))]) HR.out (by simp only [List.forall_mem_cons, List.forall_mem_nil, and_true]; exact ⟨(List.mem_cons_of_mem _ (List.mem_cons_self ..)), (List.mem_cons_self ..), (List.mem_cons_of_mem _ (List.mem_cons_of_mem _ (List.mem_cons_self ..))), by simp⟩)) (by have := hzW1.out; have := hzW29.out; have := hzW31.out; have := hzW33.out; omega) (by have := hzW1.out; have := hzW29.out; have := hzW31.out; have := hzW33.out; simp <;> omega) 0 (str ([99, 104, 97, 114, 116, 32] ++ lineF [(wd : Int), (rw : Int)] ++ [10])))) (Lib.hid (by simp))
            clear HR
            have HR := Lib.hid hRn
            clear hRn
            refine hw_done (by kernel_rfl) ?_
            refine NoPanic.normal ?_
            go_wp2_with fail
            go_meet
            have zhzW1 := hzW1.out
            have zhzW29 := hzW29.out
            have zhzW31 := hzW31.out
            have zhzW33 := hzW33.out
            have zhzW37 := hzW37.out
            exact ⟨W1.heap.size, rfl, by omega, by rw [HH.out]; exact (RW.less (bs' := [(W1.heap.size, (.cells #[str ([99, 104, 97, 114, 116, 32] ++ lineF [(wd : Int), (rw : Int)] ++ [10])] 9)), (w.heap.size, (.cells #[.int .i64 (wd : Int), .slice (some ⟨b, off, none⟩) zs.length c] 27))]) HR.out (by simp only [List.forall_mem_cons, List.forall_mem_nil, and_true]; exact ⟨(List.mem_cons_self ..), (List.mem_cons_of_mem _ (List.mem_cons_of_mem _ (List.mem_cons_self ..))), by simp⟩)).frm⟩
          exact AllHW.nil
        exact AllHW.nil
      exact AllHW.nil
    exact AllHW.nil
  case rest =>
    obtain ⟨T, rfl, hTw, hF⟩ := hcut
    clear HR x0 t2 t3 t5 t6 HD1 ht1 ht2 hln
    have HR := Lib.hid hF
    clear hF
    have x0 := HR.out.cells (List.mem_cons_self ..)
    have x1 := HR.out.cells (List.mem_cons_of_mem _ (List.mem_cons_self ..))
    go_wp2_with (go_at_call 110; refine (chunk_any _ _ _ _ _ (by omega)).mono ?_; rintro e wa ⟨B, D, rfl, hB, hD, hGB, hPB, hba⟩; have HTB := Lib.hid (show T < B ∧ T < D from ⟨Nat.lt_of_lt_of_le (HR.out.lt (List.mem_cons_self ..)) hB, Nat.lt_of_lt_of_le (HR.out.lt (List.mem_cons_self ..)) hD⟩); have HRq := Lib.hid (HR.out.below hba); have HGB := Lib.hid hGB; have HPB := Lib.hid hPB; clear HR x0 x1 hGB hPB hba hB hD; have HR := HRq; clear HRq)
    have lB := lt_of_blk HGB.out
    have lD := lt_of_blk HPB.out
    have lT := HR.out.lt (List.mem_cons_self ..)
    refine (wpIn_wide (n := 2)).1 ?_
    refine wpIn_gen ?_
    intro A0 hA0
    refine wpIn_rangeFunc_ownH rfl (by omega) (gf := 144) (lb := #[.pointer (some ⟨B, 0, none⟩), .pointer (some ⟨D, 0, none⟩)]) (by rw [hA0]; rfl) trivial (enters_of Tryz.func144 (by kernel_rfl) rfl)
      (encs := fun x : RwT rw => #[.slice (some ⟨b, off + x.r * wd, none⟩) wd wd]) (Kp := KpB B D) (S := fun ys => RwT.ns ys = List.range rw) (Sp := fun _ => True) (N := 1000) (w0 := wa)
      (fun l J Jx W hW hJ _ hY hJ0 => ck1_in 1 (by omega) wa.heap.size wd rw zs.length b off c w1 HL.out (by omega) hc1 hc2 l B D lB lD J Jx W hW.size hJ hY ((hW.block _ lB).trans HGB.out) ((hW.block _ lD).trans HPB.out) hJ0)
      (fun h k => h.trans k) ?kb (Below.refl _ _) (fun _ => rfl)
      (fun pre W => Frm w [(T, (.cells #[str ((headF wd rw ++ [10] ++ rowsQ wd zs pre))] 9)), (w.heap.size, (.cells #[.int .i64 (wd : Int), .slice (some ⟨b, off, none⟩) zs.length c] 27))] W)
      (fun co pre W => False)
      ?hI ?hIx (by simpa [rowsQ, RwT.ns] using HR.out)
      (fun x a' W => a' = { tmps := (A0.tmps.setIfInBounds 22 (.slice (some ⟨b, off + x.r * wd, none⟩) wd wd)).setIfInBounds 4 (.slice (some ⟨b, off + x.r * wd, none⟩) wd wd), defers := [] }) ?hAx ?assign ?body ?done ?stop
    case kb => exact fun W l o o' h1 h2 h3 h4 => ⟨by simp [World.putObj], by simp [World.putObj, Array.getElem?_setIfInBounds]; omega, by simp [World.putObj, Array.getElem?_setIfInBounds]; omega⟩
    case hI =>
      rintro pre A' B' row hF hg hr
      have hw := hF.size
      exact hF.grownR hg (fun k hk => by have := (hr k hk).1; have := HR.out.size; omega) (fun p hp e => by
        have h1 := (hr p.1 e.symm).1
        simp only [List.mem_cons, List.not_mem_nil, or_false] at hp
        rcases hp with rfl | rfl
        · simp only at h1; omega
        · simp only at h1; omega)
    case hIx => exact fun _ _ _ _ _ h => h.elim
    case hAx => exact fun x a' _ A' B' row h _ _ => h
    case assign =>
      rintro l pre x W K2 hF hK2
      subst hA0
      gi_wp2
      refine hK2 _ _ (KeepsFrom.refl _ _) (KpB.refl _ _ _) hF ?_
      kernel_rfl
    case body =>
      rintro l pre x a' W hl ⟨r, hr⟩ hF rfl hlt
      have hlW := lt_of_blk hr
      have HF := Lib.hid hF
      have HXS := Lib.hid (rowsQ_snoc wd zs pre x)
      have hql := rowsQ_len wd zs HV.out pre
      have HJ : Hid (∀ V, Below w.heap.size w V → Calls Tryz.prog 109 #[.slice (some ⟨b, off + x.r * wd, none⟩) wd wd] V fun e w' => e = .returned (str (lineF (rowOf wd zs x.r))) ∧ Below V.heap.size V w') := Lib.hid (fun V hV => by
        have hrl0 : (rowOf wd zs x.r).length = wd := rowOf_len HL.out x.2
        have := joined_any (some ⟨b, off + x.r * wd, none⟩) wd (rowOf wd zs x.r) V (ints_part (HZ.out.below hV) HL.out x.2 (by omega)) (by omega) (by omega) (fun z hz => by have := HV.out z (rowOf_mem hz); omega) (HT.out.below hV)
        rw [hrl0] at this
        exact this)
      have hlen := line_len (zs := rowOf wd zs x.r) (fun z hz => HV.out z (rowOf_mem hz))
      have hrl : (rowOf wd zs x.r).length = wd := rowOf_len HL.out x.2
      rw [hrl] at hlen
      obtain ⟨ln, hln⟩ : ∃ ln, lineF (rowOf wd zs x.r) = ln := ⟨_, rfl⟩
      obtain ⟨qo, hqo⟩ : ∃ qo, off + x.r * wd = qo := ⟨_, rfl⟩
      obtain ⟨tx, htx⟩ : ∃ tx, headF wd rw ++ [10] ++ rowsQ wd zs pre = tx := ⟨_, rfl⟩
      have htl : tx.length ≤ 60 + 1000 * 133 := by
        rw [← htx, List.length_append]
        have : pre.length * (wd * 22 + 1) ≤ 1000 * 133 := Nat.mul_le_mul (by omega) (by omega)
        omega
      have HTX : Hid (headF wd rw ++ [10] ++ rowsQ wd zs (pre ++ [x]) = tx ++ (ln ++ [10])) := Lib.hid (by rw [HXS.out, hln, ← htx]; simp)
      rw [hln, hqo] at HJ
      rw [hln] at hlen
      have ht1 : ¬ 9223372036854775807 < ln.length + 1 := by omega
      have ht2 : ¬ 9223372036854775807 < tx.length + (ln.length + 1) := by omega
      rw [htx] at HF
      rw [hqo]
      have hWl := hl
      clear hF hln hrl HXS htx hqo hql
      subst hA0
      simp only [List.setIfInBounds_toArray, List.set_cons_zero, List.set_cons_succ]
      refine wpIn_block ?_
      have hwz := HR.out.size
      have hTB := HTB.out
      clear HR
      have HR := HF
      clear HF
      refine hx_start [(0, fun w' : World => ∀ o, w'.cell? ⟨T, o, none⟩ = #[str tx][o]?)] (by kernel_rfl) (List.forall_mem_cons.2 ⟨HR.out.drew.cells (List.mem_cons_self ..), (by simp)⟩) ?_
      refine hx_load (i := 0) (oi := ⟨some 23, _, _, _, _, _⟩) (v := ?v502) _ (List.mem_cons_self ..) rfl (by kernel_rfl) (by kernel_rfl) (by kernel_rfl) (by kernel_rfl) (fun _ _ _ h => h) rfl (by kernel_rfl) ?hv502 ?rv502
      case hv502 => (intro w hSw; (try dsimp only at hSw); go_simp) <;> (with_reducible rfl)
      try simp only [Act.put, List.setIfInBounds_toArray, List.set_cons_zero, List.set_cons_succ]
      refine hx_pure (i := 1) (oi := ⟨some 24, _, _, _, _, _⟩) (v := ?v503) rfl (by kernel_rfl) (by kernel_rfl) (by kernel_rfl) (by kernel_rfl) (fun _ _ _ h => h) rfl (by kernel_rfl) ?hv503 ?rv503
      case hv503 => (intro w; go_simp) <;> (with_reducible rfl)
      try simp only [Act.put, List.setIfInBounds_toArray, List.set_cons_zero, List.set_cons_succ]
      refine hx_ready (rs := [2]) (by kernel_rfl) (by simp) ?_
      refine AllHX.cons (i := 2) (o := ⟨some 25, _, _, _, _, _⟩) rfl rfl (by kernel_rfl) (fun K hK => ?s504) ?ms504
      case s504 =>
        (try go_simp)
        go_at_call 109
        refine (HJ.out _ HR.out.drew.b).mono ?_
        rintro e W1 ⟨rfl, hbd1⟩
        have HB1 := Lib.hid (((Below.refl W.heap.size W).drew).trans (show Below W.heap.size W.drew W1 from hbd1))
        have HRq := Lib.hid (HR.out.drew.below hbd1)
        clear HR hbd1
        have HR := HRq
        clear HRq
        (try go_wp2_with fail)
        refine hK.out _ _ (List.forall_mem_cons.2 ⟨.inr (HR.out.cells (List.mem_cons_self ..)), (by simp)⟩) ?_
        refine hx_pure (i := 3) (oi := ⟨some 26, _, _, _, _, _⟩) (v := ?v505) rfl (by kernel_rfl) (by kernel_rfl) (by kernel_rfl) (by kernel_rfl) (fun _ _ _ h => h) rfl (by kernel_rfl) ?hv505 ?rv505
        case hv505 => (intro w; go_simp) <;> (with_reducible rfl)
        try simp only [Act.put, List.setIfInBounds_toArray, List.set_cons_zero, List.set_cons_succ]
        refine hx_pure (i := 4) (oi := ⟨some 27, _, _, _, _, _⟩) (v := ?v506) rfl (by kernel_rfl) (by kernel_rfl) (by kernel_rfl) (by kernel_rfl) (fun _ _ _ h => h) rfl (by kernel_rfl) ?hv506 ?rv506
        case hv506 => (intro w; go_simp) <;> (with_reducible rfl)
        try simp only [Act.put, List.setIfInBounds_toArray, List.set_cons_zero, List.set_cons_succ]
        refine hx_ready (rs := [5]) (by kernel_rfl) (by simp) ?_
        refine AllHX.cons (i := 5) (o := ⟨none, _, _, _, _, _⟩) rfl rfl (by kernel_rfl) (fun K hK => ?s507) ?ms507
        case s507 =>
          have u0 := HR.out.cells (List.mem_cons_self ..)
          have f0 := HR.out.free (List.mem_cons_self ..)
          have l0 := HR.out.lt (List.mem_cons_self ..)
          (try go_simp)
          (try simp only [ba_app])
          refine hK.out _ _ (List.forall_mem_cons.2 ⟨.inl (by kernel_rfl), (by simp)⟩) ?_
          refine hx_done (by kernel_rfl) ?_
          refine ⟨?_, ?_, ?_⟩
          · exact KeepsFrom.trans (B := _) ⟨HB1.out.size, fun k o hk ho _ => blk_below ho HB1.out⟩ ((KeepsOthers.setCell _ _ _).from _)
          · exact (KpB.of HB1.out (by omega) (by omega)).trans ⟨by simp, Below.heap_setCell _ _ _ _ (by simp; omega), Below.heap_setCell _ _ _ _ (by simp; omega)⟩
          · show Frm w [(T, (.cells #[str (headF wd rw ++ [10] ++ rowsQ wd zs (pre ++ [x]))] 9)), (w.heap.size, (.cells #[.int .i64 (wd : Int), .slice (some ⟨b, off, none⟩) zs.length c] 27))] _
            rw [HTX.out]
            (try simp only [ba_app])
            exact Frm.put HR.out (by omega) (by simp <;> omega) 0 (str (tx ++ (ln ++ [10])))
        exact AllHX.nil
      exact AllHX.nil
    case done =>
      rintro E ys W hE hS hF hKD
      have HF := Lib.hid hF
      have HKD := Lib.hid hKD
      have hwz := HR.out.size
      have hQ : rowsQ wd zs ys = rowsT wd zs rw := by
        unfold rowsQ
        rw [hS, rowsQ_all]
      have hql := rowsQ_len wd zs HV.out ys
      have hyl : ys.length = rw := by
        have := congrArg List.length hS
        simpa [RwT.ns] using this
      rw [hyl] at hql
      have hqm : rw * (wd * 22 + 1) ≤ 5 * 133 := Nat.mul_le_mul r2 (by omega)
      rw [hQ] at HF hql
      have HTP := Lib.hid (show textP wd rw zs = (headF wd rw ++ [10] ++ rowsT wd zs rw) ++ endL wd zs from rfl)
      have htl : (headF wd rw ++ [10] ++ rowsT wd zs rw).length ≤ 800 := by
        rw [List.length_append]; omega
      have HEN : Hid (∀ V, Below w.heap.size w V → Calls Tryz.prog 111 #[.agg #[.int .i64 (wd : Int), .slice (some ⟨b, off, none⟩) zs.length c]] V fun e w' => e = .returned (str (endL wd zs)) ∧ Below V.heap.size V w') := Lib.hid (fun V hV => ending_any (wd : Int) (some ⟨b, off, none⟩) c zs V (HZ.out.below hV) (by omega) (fun _ => by omega) HV.out (by omega) (HT.out.below hV))
      have hel : (endL wd zs).length ≤ 100 := by
        obtain ⟨x, y, e, -, -⟩ := three (sumN wd zs zs.length % 97) (by omega) (by omega)
        unfold endL
        rw [e]; simp
      generalize endL (wd : Int) zs = en at *
      generalize headF wd rw ++ [10] ++ rowsT wd zs rw = tx at *
      have ht1 : ¬ 9223372036854775807 < tx.length + en.length := by omega
      subst hA0
      clear HR hQ hql hqm hS hF hKD
      have HR := HF
      clear HF
      have x0 := HR.out.cells (List.mem_cons_self ..)
      have x1 := HR.out.cells (List.mem_cons_of_mem _ (List.mem_cons_self ..))
      go_wp2_with fail
      go_region_held3 (fun w' => (∀ o, w'.cell? ⟨T, o, none⟩ = #[str tx][o]?) ∧ (∀ o, w'.cell? ⟨w.heap.size, o, none⟩ = #[Value.int .i64 (wd : Int), .slice (some ⟨b, off, none⟩) zs.length c][o]?)) ((exact (fun hF : Frm w [(T, (.cells #[str (tx)] 9)), (w.heap.size, (.cells #[.int .i64 (wd : Int), .slice (some ⟨b, off, none⟩) zs.length c] 27))] _ => ⟨hF.cells (List.mem_cons_self ..), hF.cells (List.mem_cons_of_mem _ (List.mem_cons_self ..))⟩) (by (repeat (with_reducible first | exact HR.out | apply Frm.drew | apply Frm.alloc | apply Frm.drewN))))) ((go_at_call 111; refine (HEN.out _ (Frm.b (w := w) (bs := [(T, (.cells #[str (tx)] 9)), (w.heap.size, (.cells #[.int .i64 (wd : Int), .slice (some ⟨b, off, none⟩) zs.length c] 27))]) (by (repeat (with_reducible first | exact HR.out | apply Frm.drew | apply Frm.alloc | apply Frm.drewN))))).mono ?_; rintro e w1 ⟨rfl, hb1⟩; have HKq : Hid (w1.heap[E]? = some (.deferred (some []))) := Lib.hid ((hb1.block E (lt_of_blk HKD.out)).trans HKD.out); have HRq := Lib.hid (Frm.below (w := w) (bs := [(T, (.cells #[str (tx)] 9)), (w.heap.size, (.cells #[.int .i64 (wd : Int), .slice (some ⟨b, off, none⟩) zs.length c] 27))]) (by (repeat (with_reducible first | exact HR.out | apply Frm.drew | apply Frm.alloc | apply Frm.drewN))) hb1); clear HR x0 x1 HKD hb1; have HR := HRq; have HKD := HKq; clear HRq HKq; have x0 := HR.out.cells (List.mem_cons_self ..); have x1 := HR.out.cells (List.mem_cons_of_mem _ (List.mem_cons_self ..))))
      all_goals
        go_wp2_with fail
        refine leaves_marks (B := w.heap.size) (l := [E]) (by simp) (fun D2 hD2 => ?_) fun w' hb' hs' => ?_
        · obtain rfl : D2 = E := by simpa using hD2
          exact ⟨by omega, HKD.out⟩
        · exact ⟨.string (⟨tx.toArray⟩ ++ ⟨en.toArray⟩), by simp [results, Tryz.results79, go_sem], by rw [HTP.out]; exact congrArg (fun x => Ending.returned (.string x)) (ba_app _ _), HR.out.b.trans hb'⟩
    case stop => exact fun _ _ _ _ _ _ h => h.elim

end PartOfPwr

section PartOfPpr
open Go.RowKit
open Go.Maps
theorem fieldB_rows {wd : Int} {zs : List Int} (h : fieldB wd zs = true) : ∃ wn rw : Nat, wd = (wn : Int) ∧ zs.length = rw * wn ∧ 1 ≤ wn ∧ wn ≤ 6 ∧ 1 ≤ rw ∧ rw ≤ 5 ∧ ∀ z ∈ zs, 0 ≤ z ∧ z ≤ 99999 := by
  obtain ⟨hv, h1, h2, h3, h4⟩ := fieldB_all h
  simp only [fieldB, Bool.and_eq_true, decide_eq_true_eq] at h
  obtain ⟨⟨⟨-, hm⟩, hr⟩, -⟩ := h
  obtain ⟨wn, rfl⟩ : ∃ wn : Nat, wd = wn := ⟨wd.toNat, by omega⟩
  have hr' := betw_iff.1 hr
  refine ⟨wn, zs.length / wn, rfl, ?_, by omega, by omega, ?_, ?_, fun z hz => betw_iff.1 (hv z hz)⟩
  · have hmn : zs.length % wn = 0 := by
      have : ((zs.length % wn : Nat) : Int) = 0 := by rw [Int.natCast_emod]; exact hm
      omega
    have := Nat.div_add_mod zs.length wn
    rw [hmn, Nat.add_zero, Nat.mul_comm] at this
    exact this.symm
  · have : ((zs.length / wn : Nat) : Int) = (zs.length : Int) / wn := Int.natCast_ediv _ _
    omega
  · have : ((zs.length / wn : Nat) : Int) = (zs.length : Int) / wn := Int.natCast_ediv _ _
    omega
theorem ints_put {W : World} {E : Option Addr} {ec base R o : Nat} {zs : List Int} {u : Value} (h : Ints W (.slice E zs.length ec) zs) (hb : ∀ b o, E = some ⟨b, o, none⟩ → zs ≠ [] → base ≤ b) (hR : R < base) : Ints (W.setCell ⟨R, o, none⟩ u) (.slice E zs.length ec) zs := by
  obtain ⟨A, cap, hv, h1, h2, hx⟩ := h
  obtain ⟨rfl, -, rfl⟩ : E = A ∧ zs.length = zs.length ∧ ec = cap := by simpa using hv
  refine ⟨E, ec, rfl, h1, h2, ?_⟩
  rcases hx with hx | ⟨b, off, rfl, hlt, hc⟩
  · exact .inl hx
  · by_cases hz : zs = []
    · exact .inl hz
    · have hbb := hb b off rfl hz
      exact .inr ⟨b, off, rfl, by simpa using hlt, fun i z hi => (World.cell?_setCell_other _ _ _ _ (fun e => by have := congrArg Addr.block e; simp at this; omega)).trans (hc i z hi)⟩
set_option maxHeartbeats 4000000 in
set_option maxRecDepth 100000 in
theorem cPrint_ok (wd rw : Nat) (A : Option Addr) (c : Nat) (zs : List Int) (w : World) (hz : Ints w (.slice A zs.length c) zs) (hf : fieldB (wd : Int) zs = true) (hl : zs.length = rw * wd) (r1 : 1 ≤ rw) (r2 : rw ≤ 5) (ht : Tab w) :
    Calls Tryz.prog 39 #[.agg #[.int .i64 (wd : Int), .slice A zs.length c]] w fun e w' => e = .returned (.tuple #[str (textP wd rw zs), .int .i64 0]) ∧ Below w.heap.size w w' := by
  obtain ⟨hv0, h1, h2, h3, h4⟩ := fieldB_all hf
  have hv : ∀ z ∈ zs, 0 ≤ z ∧ z ≤ 99999 := fun z h => betw_iff.1 (hv0 z h)
  obtain ⟨b, off, rfl, hc1, hc2⟩ := hz.at0 (by omega)
  have HSF := Lib.hid (fun W (hW : Below w.heap.size w W) => soundField_is (w := W) (hz.below hW) hf)
  have HWR := Lib.hid (fun W (hW : Below w.heap.size w W) => written_any wd rw b off c zs W (hz.below hW) hl (by omega) (by omega) r1 r2 hv (ht.below hW))
  have HR := Lib.hid ((Frm.nil w).add (.cells #[.int .i64 (wd : Int), .slice (some ⟨b, off, none⟩) zs.length c] 27) rfl)
  have x0 := HR.out.cells (List.mem_cons_self ..)
  clear hz ht hv hv0 hf hl
  go_enter Tryz.func39, Tryz.ntmps39
  go_wp2_with (first | (go_at_call 49; refine (HSF.out _ HR.out.b).mono ?_; rintro e wa ⟨rfl, hba⟩; have HRq := Lib.hid (HR.out.below hba); clear HR x0 hba; have HR := HRq; clear HRq; have x0 := HR.out.cells (List.mem_cons_self ..)) | (go_at_call 79; refine (HWR.out _ HR.out.b).mono ?_; rintro e wa ⟨rfl, hba⟩; have HRq := Lib.hid (HR.out.below hba); clear HR x0 hba; have HR := HRq; clear HRq))
  go_ret2
  exact ⟨rfl, HR.out.b⟩
set_option maxHeartbeats 4000000 in
set_option maxRecDepth 100000 in
theorem cPrint_bad (wd : Int) (A : Option Addr) (c : Nat) (zs : List Int) (w : World) (hz : Ints w (.slice A zs.length c) zs) (hf : fieldB wd zs = false) :
    Calls Tryz.prog 39 #[.agg #[.int .i64 wd, .slice A zs.length c]] w fun e w' => e = .returned (.tuple #[str [], .int .i64 2]) ∧ Below w.heap.size w w' := by
  have HSF := Lib.hid (fun W (hW : Below w.heap.size w W) => soundField_is (w := W) (hz.below hW) hf)
  have HR := Lib.hid ((Frm.nil w).add (.cells #[.int .i64 wd, .slice A zs.length c] 27) rfl)
  have x0 := HR.out.cells (List.mem_cons_self ..)
  clear hz hf
  go_enter Tryz.func39, Tryz.ntmps39
  go_wp2_with (go_at_call 49; refine (HSF.out _ HR.out.b).mono ?_; rintro e wa ⟨rfl, hba⟩; have HRq := Lib.hid (HR.out.below hba); clear HR x0 hba; have HR := HRq; clear HRq)
  go_ret2
  exact ⟨rfl, HR.out.b⟩
set_option maxHeartbeats 4000000 in
set_option maxRecDepth 100000 in
theorem cRead_long (T : List UInt8) (w : World) (m : Int) (hm : MxL w m) (ht : Tab w) (hl : 400 < T.length) (hl2 : T.length ≤ 4000) :
    Calls Tryz.prog 40 #[str T] w fun e w' => e = .returned (.tuple #[.agg #[.int .i64 0, .slice none 0 0], .int .i64 3]) ∧ Below w.heap.size w w' := by
  have HR := Lib.hid ((Frm.nil w).add (.cells #[.int .i64 0, .slice none 0 0] 27) rfl)
  have x0 := HR.out.cells (List.mem_cons_self ..); have f0 := HR.out.free (List.mem_cons_self ..); have k0 := HR.out.lt (List.mem_cons_self ..)
  have hl3 : (400 : Int) < T.length := by omega
  clear hm ht
  go_enter Tryz.func40, Tryz.ntmps40
  go_wp2_with fail
  refine bodyPost_ret (v := .tuple #[.agg #[.int .i64 0, .slice none 0 0], .int .i64 3]) (by simp [results, Tryz.results40, go_sem, x0]) rfl ?_
  exact ⟨rfl, HR.out.b⟩
set_option maxHeartbeats 4000000 in
set_option maxRecDepth 100000 in
theorem cRead_none (T : List UInt8) (w : World) (m : Int) (hm : MxL w m) (ht : Tab w) (hl : T.length ≤ 400) (hno : ∀ wd rw, ¬ GoodL (spl 10 T) wd rw) :
    Calls Tryz.prog 40 #[str T] w fun e w' => e = .returned (.tuple #[.agg #[.int .i64 0, .slice none 0 0], .int .i64 4]) ∧ Below w.heap.size w w' := by
  have HM := Lib.hid hm
  have HT := Lib.hid ht
  have HRD : Hid (∀ W, MxL W m → Tab W → Calls Tryz.prog 80 #[str T] W fun e w' => ∃ (a : Int) (E : Option Addr) (n ec : Nat), e = .returned (.tuple #[.agg #[.int .i64 a, .slice E n ec], .bool false]) ∧ Below W.heap.size W w') := Lib.hid (fun W hm ht => (read_any T W m hm ht hl).mono fun e w' ⟨hb, h⟩ => by
    rcases h with ⟨wd', rw', zs', E, ec, hg', _⟩ | ⟨_, a, E, n, ec, he⟩
    · exact absurd hg' (hno _ _)
    · exact ⟨a, E, n, ec, he, hb⟩)
  have HR := Lib.hid ((Frm.nil w).add (.cells #[.int .i64 0, .slice none 0 0] 27) rfl)
  have x0 := HR.out.cells (List.mem_cons_self ..); have f0 := HR.out.free (List.mem_cons_self ..); have k0 := HR.out.lt (List.mem_cons_self ..)
  have hl2 : ¬ (400 : Int) < T.length := by omega
  clear hm ht hno
  go_enter Tryz.func40, Tryz.ntmps40
  go_wp2_with (go_at_call 80; refine (HRD.out _ (HM.out.below HR.out.b) (HT.out.below HR.out.b)).mono ?_; rintro e wr ⟨a, E, n, ec, rfl, hbr⟩; have HRq := Lib.hid (HR.out.below hbr); clear HR x0 f0 k0; have HR := HRq; clear HRq; have x0 := HR.out.cells (List.mem_cons_self ..); have f0 := HR.out.free (List.mem_cons_self ..); have k0 := HR.out.lt (List.mem_cons_self ..))
  have hF9 := (Frm.put (Frm.put (Frm.less (bs' := [(w.heap.size, (.cells #[.int .i64 0, .slice none 0 0] 27))]) HR.out (by simp)) (Nat.le_refl _) (by simp) 0 (.int .i64 0)) (Nat.le_refl _) (by simp) 1 (.slice none 0 0)) |>.alloc (.cells #[.int .i64 a, .slice E n ec] 27)
  have u9 := hF9.cells (List.mem_cons_self ..)
  refine bodyPost_ret (v := .tuple #[.agg #[.int .i64 0, .slice none 0 0], .int .i64 4]) (by simp [results, Tryz.results40, go_sem, u9]) rfl ?_
  exact ⟨rfl, hF9.b⟩
set_option maxHeartbeats 4000000 in
set_option maxRecDepth 100000 in
theorem cRead_arg (T : List UInt8) (w : World) (m : Int) (hm : MxL w m) (ht : Tab w) (hl : T.length ≤ 400) {wd rw : Nat} {zs : List Int} (hg : GoodL (spl 10 T) wd rw) (hz : zs = valsN (spl 10 T) rw) (hf : fieldB (wd : Int) zs = false) :
    Calls Tryz.prog 40 #[str T] w fun e w' => e = .returned (.tuple #[.agg #[.int .i64 0, .slice none 0 0], .int .i64 2]) ∧ Below w.heap.size w w' := by
  have HM := Lib.hid hm
  have HT := Lib.hid ht
  have HRD : Hid (∀ W, MxL W m → Tab W → Calls Tryz.prog 80 #[str T] W fun e w' => ∃ E ec, e = .returned (.tuple #[.agg #[.int .i64 (wd : Int), .slice E zs.length ec], .bool true]) ∧ IntsF W.heap.size w' E ec zs ∧ Below W.heap.size W w') := Lib.hid (fun W hm ht => (read_any T W m hm ht hl).mono fun e w' ⟨hb, h⟩ => by
    rcases h with ⟨wd', rw', zs', E, ec, hg', hz', he, hi⟩ | ⟨hno, _⟩
    · obtain ⟨rfl, rfl⟩ := good_uniq hg hg'
      obtain rfl : zs = zs' := hz.trans hz'.symm
      exact ⟨E, ec, he, hi, hb⟩
    · exact absurd hg (hno _ _))
  have HR := Lib.hid ((Frm.nil w).add (.cells #[.int .i64 0, .slice none 0 0] 27) rfl)
  have x0 := HR.out.cells (List.mem_cons_self ..); have f0 := HR.out.free (List.mem_cons_self ..); have k0 := HR.out.lt (List.mem_cons_self ..)
  have hl2 : ¬ (400 : Int) < T.length := by omega
  clear hm ht hg hz
  go_enter Tryz.func40, Tryz.ntmps40
  go_wp2_with (first | (go_at_call 80; refine (HRD.out _ (HM.out.below HR.out.b) (HT.out.below HR.out.b)).mono ?_; rintro e wr ⟨E, ec, rfl, hi, hbr⟩; have HI := Lib.hid hi.1; have HRq := Lib.hid (HR.out.below hbr); clear HR x0 f0 k0; have HR := HRq; clear HRq; have x0 := HR.out.cells (List.mem_cons_self ..); have f0 := HR.out.free (List.mem_cons_self ..); have k0 := HR.out.lt (List.mem_cons_self ..); clear hi hbr) | (go_at_call 49; refine (soundField_is (w := _) (HI.out.below ((Below.refl _ _).alloc (Nat.le_refl _) _)) hf).mono ?_; rintro e wa ⟨rfl, hba⟩; have HRq := Lib.hid (Frm.below (w := w) (bs := [(wr.heap.size, (.cells #[.int .i64 (wd : Int), .slice E zs.length ec] 27)), (w.heap.size, (.cells #[.int .i64 0, .slice none 0 0] 27))]) (HR.out.add (.cells #[.int .i64 (wd : Int), .slice E zs.length ec] 27) rfl) hba); clear HR x0 f0 k0 hba; have HR := HRq; clear HRq; have x0 := HR.out.cells (List.mem_cons_self ..); have f0 := HR.out.free (List.mem_cons_self ..); have k0 := HR.out.lt (List.mem_cons_self ..); have x1 := HR.out.cells (List.mem_cons_of_mem _ (List.mem_cons_self ..)); have f1 := HR.out.free (List.mem_cons_of_mem _ (List.mem_cons_self ..)); have k1 := HR.out.lt (List.mem_cons_of_mem _ (List.mem_cons_self ..))))
  have hF9 := (Frm.put (Frm.put (Frm.less (bs' := [(w.heap.size, (.cells #[.int .i64 0, .slice none 0 0] 27))]) HR.out (by simp)) (Nat.le_refl _) (by simp) 0 (.int .i64 0)) (Nat.le_refl _) (by simp) 1 (.slice none 0 0))
  have u9 := hF9.cells (List.mem_cons_self ..)
  refine bodyPost_ret (v := .tuple #[.agg #[.int .i64 0, .slice none 0 0], .int .i64 2]) (by simp [results, Tryz.results40, go_sem, u9]) rfl ?_
  exact ⟨rfl, hF9.b⟩
set_option maxHeartbeats 4000000 in
set_option maxRecDepth 100000 in
theorem cRead_good (T : List UInt8) (w : World) (m : Int) (hm : MxL w m) (ht : Tab w) (hl : T.length ≤ 400) {wd rw : Nat} {zs : List Int} (hg : GoodL (spl 10 T) wd rw) (hz : zs = valsN (spl 10 T) rw) (hf : fieldB (wd : Int) zs = true) :
    Calls Tryz.prog 40 #[str T] w fun e w' => ∃ E ec, e = .returned (.tuple #[.agg #[.int .i64 (wd : Int), .slice E zs.length ec], .int .i64 0]) ∧ Ints w' (.slice E zs.length ec) zs ∧ Below w.heap.size w w' := by
  have HM := Lib.hid hm
  have HT := Lib.hid ht
  have HRD : Hid (∀ W, MxL W m → Tab W → Calls Tryz.prog 80 #[str T] W fun e w' => ∃ E ec, e = .returned (.tuple #[.agg #[.int .i64 (wd : Int), .slice E zs.length ec], .bool true]) ∧ IntsF W.heap.size w' E ec zs ∧ Below W.heap.size W w') := Lib.hid (fun W hm ht => (read_any T W m hm ht hl).mono fun e w' ⟨hb, h⟩ => by
    rcases h with ⟨wd', rw', zs', E, ec, hg', hz', he, hi⟩ | ⟨hno, _⟩
    · obtain ⟨rfl, rfl⟩ := good_uniq hg hg'
      obtain rfl : zs = zs' := hz.trans hz'.symm
      exact ⟨E, ec, he, hi, hb⟩
    · exact absurd hg (hno _ _))
  have HR := Lib.hid ((Frm.nil w).add (.cells #[.int .i64 0, .slice none 0 0] 27) rfl)
  have x0 := HR.out.cells (List.mem_cons_self ..); have f0 := HR.out.free (List.mem_cons_self ..); have k0 := HR.out.lt (List.mem_cons_self ..)
  have hl2 : ¬ (400 : Int) < T.length := by omega
  clear hm ht hg hz
  go_enter Tryz.func40, Tryz.ntmps40
  go_wp2_with (first | (go_at_call 80; refine (HRD.out _ (HM.out.below HR.out.b) (HT.out.below HR.out.b)).mono ?_; rintro e wr ⟨E, ec, rfl, hi, hbr⟩; have HI := Lib.hid hi; have HRq := Lib.hid (HR.out.below hbr); clear HR x0 f0 k0; have HR := HRq; clear HRq; have x0 := HR.out.cells (List.mem_cons_self ..); have f0 := HR.out.free (List.mem_cons_self ..); have k0 := HR.out.lt (List.mem_cons_self ..); clear hi hbr) | (go_at_call 49; refine (soundField_is (w := _) (HI.out.1.below ((Below.refl _ _).alloc (Nat.le_refl _) _)) hf).mono ?_; rintro e wa ⟨rfl, hba⟩; have HI2 := Lib.hid (HI.out.1.below (((Below.refl wr.heap.size wr).alloc (Nat.le_refl _) (.cells #[.int .i64 (wd : Int), .slice E zs.length ec] 27)).trans (hba.mono (by simp)))); have HRq := Lib.hid (Frm.below (w := w) (bs := [(wr.heap.size, (.cells #[.int .i64 (wd : Int), .slice E zs.length ec] 27)), (w.heap.size, (.cells #[.int .i64 0, .slice none 0 0] 27))]) (HR.out.add (.cells #[.int .i64 (wd : Int), .slice E zs.length ec] 27) rfl) hba); clear HR x0 f0 k0 hba; have HR := HRq; clear HRq; have x0 := HR.out.cells (List.mem_cons_self ..); have f0 := HR.out.free (List.mem_cons_self ..); have k0 := HR.out.lt (List.mem_cons_self ..); have x1 := HR.out.cells (List.mem_cons_of_mem _ (List.mem_cons_self ..)); have f1 := HR.out.free (List.mem_cons_of_mem _ (List.mem_cons_self ..)); have k1 := HR.out.lt (List.mem_cons_of_mem _ (List.mem_cons_self ..))))
  have hF9 := Frm.put (Frm.put (Frm.less (bs' := [(w.heap.size, (.cells #[.int .i64 0, .slice none 0 0] 27))]) HR.out (by simp)) (Nat.le_refl _) (by simp) 0 (.int .i64 (wd : Int))) (Nat.le_refl _) (by simp) 1 (.slice E zs.length ec)
  have u9 := hF9.cells (List.mem_cons_self ..)
  refine bodyPost_ret (v := .tuple #[.agg #[.int .i64 (wd : Int), .slice E zs.length ec], .int .i64 0]) (by simp [results, Tryz.results40, go_sem, u9]) rfl ?_
  exact ⟨E, ec, rfl, ints_put (ints_put HI2.out HI.out.2 (by simp)) HI.out.2 (by simp), hF9.b⟩

end PartOfPpr

section PartOfSam
open Go.RowKit
open Go.Maps
theorem row_ints_at {w : World} {g cap n : Nat} {zs : List Int} {cur : Array Value} (h : w.heap[g]? = some (.cells cur 3)) (hr : RowI zs cur) (hn : zs.length = n) (h1 : n ≤ cap) (h2 : cap ≤ maxLen) : Ints w (.slice (some ⟨g, 0, none⟩) n cap) zs := row_ints h hr hn h1 h2
theorem Ints.nil (w : World) : Ints w (.slice none 0 0) [] := ⟨none, 0, rfl, Nat.le_refl _, by unfold maxLen; omega, .inl rfl⟩
set_option maxHeartbeats 4000000 in
set_option maxRecDepth 100000 in
theorem rSame_yes (A A' : Option Addr) (c c' N : Nat) (zs : List Int) (w : World) (hn : zs.length = N) (hN : N ≤ 1000) (h1 : Ints w (.slice A N c) zs) (h2 : Ints w (.slice A' N c') zs) :
    Calls Tryz.prog 71 #[.slice A N c, .slice A' N c'] w fun e w' => e = .returned (.bool true) ∧ Below w.heap.size w w' := by
  subst hn
  have H1 := Lib.hid h1
  have H2 := Lib.hid h2
  clear h1 h2
  go_enter Tryz.func71, Tryz.ntmps71
  go_wp2_with fail
  go_loopw [5] (fun i wr => ∃ n : Nat, n ≤ zs.length ∧ i = .int .i64 n ∧ Below w.heap.size w wr) (fun i _ => zs.length - (intOf i).toNat)
  case atStart => exact ⟨0, Nat.zero_le _, rfl, Below.refl _ _⟩
  case round =>
    obtain ⟨n, hn, rfl, hb⟩ := hrel
    by_cases hnl : n < zs.length
    · obtain ⟨x, hx⟩ : ∃ x, zs[n]? = some x := ⟨_, List.getElem?_eq_getElem hnl⟩
      obtain ⟨b, off, hA, hcap, hm, c0⟩ := ints_cells (H1.out.below hb) hx
      obtain ⟨b', off', hA', hcap', hm', d0⟩ := ints_cells (H2.out.below hb) hx
      unfold maxLen at hm hm'
      subst hA hA'
      have HB := Lib.hid hb
      clear hb hx
      go_upto_region 6 with fail
      go_region
      all_goals
        go_wp2_with fail
        go_roundw
        case rel => exact ⟨n + 1, by omega, by go_num, by first | exact HB.out | exact HB.out.drew | (repeat (first | exact HB.out | apply Below.drew))⟩
        case measure => simp [intOf]; omega
    · obtain rfl : n = zs.length := by omega
      go_wp2_with fail
      go_ret
      exact ⟨rfl, hb⟩
set_option maxHeartbeats 1000000 in
theorem rSameField_yes (wd : Int) (A A' : Option Addr) (c c' N : Nat) (zs : List Int) (w : World) (hn : zs.length = N) (hN : N ≤ 1000) (h1 : Ints w (.slice A N c) zs) (h2 : Ints w (.slice A' N c') zs) :
    Calls Tryz.prog 33 #[.agg #[.int .i64 wd, .slice A N c], .agg #[.int .i64 wd, .slice A' N c']] w fun e w' => e = .returned (.bool true) ∧ Below w.heap.size w w' := by
  have HR := Lib.hid (((Frm.nil w).add (.cells #[.int .i64 wd, .slice A N c] 27) rfl).add (k := w.heap.size + 1) (.cells #[.int .i64 wd, .slice A' N c'] 27) (by simp))
  have H1 := Lib.hid h1
  have H2 := Lib.hid h2
  clear h1 h2
  have x0 := HR.out.cells (List.mem_cons_self ..)
  have x1 := HR.out.cells (List.mem_cons_of_mem _ (List.mem_cons_self ..))
  go_enter Tryz.func33, Tryz.ntmps33
  go_wp2_with fail
  refine (rSame_yes A A' c c' N zs _ hn hN (H1.out.below HR.out.b) (H2.out.below HR.out.b)).mono ?_
  rintro e wa ⟨rfl, hba⟩
  have HB := Lib.hid (HR.out.below hba).b
  clear hba
  go_wp2_with fail
  go_ret
  exact ⟨rfl, HB.out⟩

end PartOfSam
end Go.Proofs.YtpkmojcppdogkaaGreatDoor
