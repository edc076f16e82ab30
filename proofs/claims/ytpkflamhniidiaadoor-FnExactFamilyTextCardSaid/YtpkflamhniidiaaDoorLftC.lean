/- Closed facts of the row of 'laws.FnExactFamilyText'. -/
import Derived.Test.YtpkflamhniidiaaDoorRows
import Derived.JoinedOf
namespace Go.Proofs.YtpkflamhniidiaaDoor

namespace LFamText
set_option maxRecDepth 1000000 in
set_option maxHeartbeats 100000000 in
theorem closed : joinedFacts Tryd.pinned.checked.prog 3 Tryd.f3 Rows.fnExactFamilyTextSpec Rows.fnExactFamilyTextRow = true := by
  rw [joinedFacts]
  simp only [Bool.and_eq_true]
  repeat' apply And.intro
  all_goals (as_aux_lemma => kernel_rfl)
end LFamText
end Go.Proofs.YtpkflamhniidiaaDoor
