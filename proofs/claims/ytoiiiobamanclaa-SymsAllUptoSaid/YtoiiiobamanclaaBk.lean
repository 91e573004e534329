import Derived.Test.YtoiiiobamanclaaT
namespace Go.Proofs.Ytoiiiobamanclaa
theorem bulk_small {H : Type} {d : DataW H} {l : List (DataW H)} (hk : Rows.uptoSmall H l = true) (h : d ∈ l) : Rows.uptoBulk d ≤ 1048576 := by
  have h1 := of_decide_eq_true hk
  have h2 := bulk_part h
  omega
end Go.Proofs.Ytoiiiobamanclaa
