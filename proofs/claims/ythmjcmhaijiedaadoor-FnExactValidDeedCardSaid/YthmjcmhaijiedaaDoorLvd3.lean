/- 'laws.FnExactValidDeed': for all arguments the program's function gives what the model gives, and writes into nothing that it was given: its tied card. Tied to the program's text: what the library's tables hold. No other condition. -/
import Derived.Test.YthmjcmhaijiedaaDoorLvd2
import Derived.Test.YthmjcmhaijiedaaDoorLvdD
import Derived.Test.YthmjcmhaijiedaaDoorTie
namespace Go.Proofs.YthmjcmhaijiedaaDoor
open Go.ChangeShapes Go.WideShapes Go.ChangeAt Go.RowKit Go.Deep
set_option linter.unusedVariables false
namespace Vdd

theorem plain (f : FuncId) (fn : Func) (hf : Tryd.pinned.checked.prog.funcNamed "loop.example/g01117/laws.FnExactValidDeed" = some f) (hfn : Tryd.pinned.checked.prog.funcs[f]? = some fn) :
    true = Tryd.pinned.checked.prog.looks [] ∧ ∀ (j : Nat) t, fn.params[j]? = some t → Tryd.pinned.checked.prog.wantsStandIn t = false := by
  obtain rfl : f = 5 := Option.some.inj (c_named.symm.trans hf) |>.symm
  obtain rfl : fn = Tryd.f5 := (Option.some.inj (Tryd.func5.symm.trans hfn)).symm
  refine ⟨CardP.looks, fun j t ht => ?_⟩
  rw [Tryd.params5] at ht
  have hm : t ∈ [46] := by simpa using Array.mem_of_getElem? ht
  have hall := c_stand
  exact (show Tryd.prog.wantsStandIn t = false by simpa using List.all_eq_true.1 hall t hm)

theorem card : Rows.FnExactValidDeedCardSaid :=
  Claim7.holds_tied_plain_at .later [] _ _ _ _ said (fun _ h => by cases h) c_wf (fun _ h => by cases h) fnExactValidDeed_row_tie rfl ⟨rfl, rfl⟩ c_main rfl plain c_goes

end Vdd
end Go.Proofs.YthmjcmhaijiedaaDoor
