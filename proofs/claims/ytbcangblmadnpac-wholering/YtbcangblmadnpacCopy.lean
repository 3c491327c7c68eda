/- slackwaterkit.CopyWords tells the same words in new memory; slackwaterkit.LentWords has three marked words behind them; slackwaterref01.Trim drops the noughts at the end: of every list that can be read. -/
import Derived.Test.YtbcangblmadnpacTrim
namespace Go.Proofs.Ytbcangblmadnpac
open Go.RowKit
set_option linter.unusedVariables false

theorem copy_news {w : World} {B : Nat} {ad : Addr} {n cap : Nat} {zs : List Int} (h : Reads w B (some ad) n cap zs) :
    ∀ j v, (zs.map (Value.int .u32))[j]? = some v → w.cell? (ad.add j) = some v := by
  intro j v hj
  have hj1 := (List.getElem?_eq_some_iff.1 hj).1
  have hl := h.1
  simp only [List.length_map] at hj1
  obtain ⟨ad', e, hc⟩ := copy_cells h n (Nat.le_refl _) (by omega)
  rw [← Option.some.inj e] at hc
  exact hc j v (by rw [List.take_of_length_le (by omega)]; exact hj)

/-- What stands behind a list that is lent. -/
def marks (k : Nat) : List Int := [2882343476, 2882343477, 2882343478].take k
theorem marks_succ (k : Nat) (h : k < 3) : marks (k + 1) = marks k ++ [2882343476 + (k : Int)] := by
  match k, h with
  | 0, _ => rfl
  | 1, _ => rfl
  | 2, _ => rfl
theorem marks_len (k : Nat) (h : k ≤ 3) : (marks k).length = k := by simp [marks]; omega
theorem Wd.marks (k : Nat) : Wd (marks k) := by
  intro z hz
  have := List.mem_of_mem_take hz
  simp at this
  omega

end Go.Proofs.Ytbcangblmadnpac
