/-
  Contracts of both PaperFor.
-/
import Derived.Test.YtpefkdhmkamdaaaPaper
import Derived.Test.YtpefkdhmkamdaaaSTurns
namespace Go.Proofs.Ytpefkdhmkamdaaa
open Go Go.RowKit
set_option linter.unusedVariables false

theorem papOf_okbd {l : List Tri} (h : ∀ t ∈ l, OkT t) : PapBd (papOf l) := by
  have e : (l.attach.map (fun t => (⟨t.1, h t.1 t.2⟩ : Turn))).map (fun t : Turn => t.1) = l := by
    rw [List.map_map]; exact List.attach_map_subtype_val l
  rw [← e]; exact papOf_bd _
def papCode (a b c : Int) : Int := if okB a b c = true then 0 else 1
def papRes (a b c : Int) : Int × Int := if okB a b c = true then papOf (turnsL (lo3 a b c) (mi3 a b c) (hi3 a b c)) else (0, 0)
theorem pap_ok {a b c : Int} (h : okB a b c = true) : papRes a b c = papOf (turnsL (lo3 a b c) (mi3 a b c) (hi3 a b c)) ∧ papCode a b c = 0 := by unfold papRes papCode; rw [if_pos h, if_pos h]; exact ⟨rfl, rfl⟩
theorem pap_no {a b c : Int} (h : okB a b c = false) : papRes a b c = (0, 0) ∧ papCode a b c = 1 := by
  unfold papRes papCode; rw [if_neg (by rw [h]; simp), if_neg (by rw [h]; simp)]; exact ⟨rfl, rfl⟩
theorem ret_pap {a b c x y k : Int} {s : Int × Int} (h : papRes a b c = s ∧ papCode a b c = k) (h1 : s.1 = x) (h2 : s.2 = y) :
    Ending.returned (.tuple #[.int .i64 x, .int .i64 y, .int .i64 k]) = .returned (.tuple #[.int .i64 (papRes a b c).1, .int .i64 (papRes a b c).2, .int .i64 (papCode a b c)]) := by rw [h.1, h.2, h1, h2]

end Go.Proofs.Ytpefkdhmkamdaaa
