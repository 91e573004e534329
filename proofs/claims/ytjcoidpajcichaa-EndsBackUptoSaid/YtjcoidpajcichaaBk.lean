import Derived.Test.YtjcoidpajcichaaRows
namespace Go.Proofs.Ytjcoidpajcichaa
theorem bulk_pos {H : Type} (d : DataW H) : 1 ≤ Rows.uptoBulk d := by
  cases d with
  | lit l => cases l <;> (unfold Rows.uptoBulk; omega)
  | nil => unfold Rows.uptoBulk; omega
  | ptr d => unfold Rows.uptoBulk; omega
  | slice a b => unfold Rows.uptoBulk; omega
  | agg a => unfold Rows.uptoBulk; omega
  | iface t d => unfold Rows.uptoBulk; omega
  | map e => unfold Rows.uptoBulk; omega
  | held h => unfold Rows.uptoBulk; omega
theorem bulk_len {H : Type} : ∀ l : List (DataW H), l.length ≤ Rows.uptoBulkAll l
  | [] => Nat.zero_le _
  | d :: l => by
    have h1 := bulk_pos d
    have h2 := bulk_len l
    simp only [Rows.uptoBulkAll, List.length_cons]
    omega
theorem bulk_mem {H : Type} {d : DataW H} : ∀ l : List (DataW H), d ∈ l → Rows.uptoBulk d ≤ Rows.uptoBulkAll l
  | [], h => by cases h
  | x :: l, h => by
    simp only [Rows.uptoBulkAll]
    rcases List.mem_cons.1 h with rfl | h
    · omega
    · have := bulk_mem l h
      omega
theorem bulk_slice {H : Type} {l a b : List (DataW H)} (hk : Rows.uptoSmall H l = true) (h : DataW.slice a b ∈ l) : a.length + b.length ≤ 1048575 := by
  have h1 := of_decide_eq_true hk
  have h2 := bulk_mem l h
  have h3 := bulk_len a
  have h4 := bulk_len b
  simp only [Rows.uptoBulk] at h2
  omega
end Go.Proofs.Ytjcoidpajcichaa
