/-
  The contract of impl.PaperFor.
-/
import Derived.Test.YtpefkdhmkamdaaaNeeds
import Derived.Test.YtpefkdhmkamdaaaUpA
import Derived.Test.YtpefkdhmkamdaaaTurnIt
import Derived.Test.YtpefkdhmkamdaaaBoxF
import Derived.Test.YtpefkdhmkamdaaaBlock
import Derived.Outline
import Derived.Sort.QuietTacIn
import Derived.Sort.BigQuietIn
import Derived.Test.YtpefkdhmkamdaaaRound
namespace Go.Proofs.Ytpefkdhmkamdaaa
open Go Go.RowKit Go.Shelf
set_option linter.unusedVariables false
attribute [local go_sem] Oper.semAt_some

theorem turn_up (n : Nat) (hn : 3 ≤ n) (Bs : Nat) (a b c : Int) (hok : okB a b c = true) (w : World) (hBs : At3 w Bs a b c) :
    SeqUp Fence.wide n Try.prog 34 #[.pointer (some ⟨Bs, 0, none⟩)] encT (fun xs => xs.map (fun t : Turn => t.1) = turnsL (lo3 a b c) (mi3 a b c) (hi3 a b c)) 6 w := fun l J W hW hJ hY h0 =>
  turn1_in n hn l Bs a b c hok J W hJ hY (by
    have hlt := World.block_lt_of_cell? w _ hBs.1
    exact ⟨(hW.cell (p := ⟨Bs, 0, none⟩) hlt).trans hBs.1, (hW.cell (p := ⟨Bs, 1, none⟩) hlt).trans hBs.2.1, (hW.cell (p := ⟨Bs, 2, none⟩) hlt).trans hBs.2.2⟩) h0

end Go.Proofs.Ytpefkdhmkamdaaa
