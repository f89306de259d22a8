import Derived.Test.YtbjffjnmjkogkaaGreatGD
import Derived.Test.YtbjffjnmjkogkaaGreatKi
set_option linter.unusedVariables false
set_option linter.unusedSimpArgs false
namespace Go.Proofs.YtbjffjnmjkogkaaGreat
open Go Go.RowKit Go.Proofs
theorem lawConeMore {m : Wn} {A1 A2 A3 : Option Addr} {rs : List Rep} {ls : List Lnk} {ps : List Prt} {c1 c2 c3 : Nat} {E : Option Addr} {ec : Nat} {zs : List Int} {pc dl lo gr : Int} {s : Rep} {w : World} (h1 : Reps w (.slice A1 rs.length c1) rs) (h2 : Lnks w (.slice A2 ls.length c2) ls) (h3 : Prts w (.slice A3 ps.length c3) ps) (hz : Ints w (.slice E zs.length ec) zs) :
    Calls Tryz.prog 16 #[wtV m (.slice A1 rs.length c1) (.slice A2 ls.length c2) (.slice A3 ps.length c3), (.slice E zs.length ec), .int .i64 pc, repV s, .int .i64 dl, .int .i64 lo, .int .i64 gr] w fun e w' => e = .returned (.bool true) ∧ Below w.heap.size w w' :=
  GY.law_of GY.spMo (vs := [_, _, _, _, _, _, _]) (gs := [GY.wtG m rs ls ps, .rows 0 1 zs.length fun i j => zs.getD i 0, .lit (.int .i64 pc), GY.repG s, .lit (.int .i64 dl), .lit (.int .i64 lo), .lit (.int .i64 gr)])
    ⟨GY.watch_in h1 h2 h3, GY.nums_in hz, rfl, GY.rep_in s w, rfl, rfl, rfl, trivial⟩ rfl trivial
end Go.Proofs.YtbjffjnmjkogkaaGreat
