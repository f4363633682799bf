import Derived.Test.YtboehlffbibgmaaGreatDoorLShv
namespace Go.Proofs.YtboehlffbibgmaaGreatDoor
set_option linter.unusedVariables false

theorem rd_law {ds : List D} {b : Int} {t : ByteArray} (h : mReadOk ds b t = true) : ∃ p : Nat, mRead ds b t = (p : Int) ∧ mIsV ds b (p : Int) = true ∧ mRead ds b ((t ++ bar) ++ t) = (p : Int) ∧ mReadOk ds b ((t ++ bar) ++ t) = true := by
  unfold mReadOk at h
  rw [Bool.and_eq_true, decide_eq_true_iff] at h
  rcases rdV_cases ds b t with h2 | ⟨p, hp, hv, h2, _⟩
  · omega
  · exact ⟨p, (read_ok h.1 h2).1, hv, (read_ok h.1 (read_two h2)).1, (read_ok h.1 (read_two h2)).2⟩
end Go.Proofs.YtboehlffbibgmaaGreatDoor
