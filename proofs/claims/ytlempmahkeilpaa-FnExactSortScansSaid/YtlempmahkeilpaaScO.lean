/-
  A row of scans outside what a call writes.
-/
import Derived.Test.YtlempmahkeilpaaKeepO
import Derived.Test.YtlempmahkeilpaaRScan
namespace Go.Proofs.Ytlempmahkeilpaa
open Go Go.RowKit
theorem OwnSc.out {T : TypeId} {B lo hi : Nat} {w w' : World} {v : Value} {ps : List (Int × Int)} (h : OwnSc T B w v ps) (K : KeepsOut lo hi w w') (hd : ∀ k, v.ownBlock = some k → k < lo ∨ hi ≤ k) : OwnSc T B w' v ps := row_out h K hd
end Go.Proofs.Ytlempmahkeilpaa
