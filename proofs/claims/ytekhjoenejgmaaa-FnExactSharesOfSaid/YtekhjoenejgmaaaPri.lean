/- ProductOf of the program. -/
import Derived.Test.YtekhjoenejgmaaaPr0
namespace Go.Proofs.Ytekhjoenejgmaaa
open Go.RowKit Go.Deep
set_option linter.unusedVariables false

theorem OwnG.grid2 {W : World} {base n c : Nat} {p : Int} {a : Option Addr} {us : List Value} {zss : List (List Int)} (h : OwnG W base p (.slice a n c) us zss) : GridR W a p zss := by
  obtain ⟨a', c', e, hr⟩ := h.grid
  cases e
  exact hr
theorem gtimesI_any (p c d : Int) (cn on : Nat) (a b : Option Addr) (ca cb : Nat) (z y : List (List Int)) (w : World) (hc : c = (cn : Int)) (hd : d = (on : Int)) (hp : 2 ≤ p) (hp1 : p ≤ 31) (hr : GridR w a p z) (hr' : GridR w b p y) (hz1 : z.length ≤ 1000) (hcn : cn ≤ 1000) (hon : on ≤ 1000)
    (hrow : ∀ r, r < z.length → (nthL z r).length = cn ∧ Elems p (nthL z r)) (hy : y.length = cn) (hrow' : ∀ r, r < y.length → (nthL y r).length = on ∧ Elems p (nthL y r)) :
    Calls Try.prog 65 #[.agg #[.slice a z.length ca, .int .i64 p, .int .i64 c], .agg #[.slice b y.length cb, .int .i64 p, .int .i64 d]] w fun e w' => (∃ v us, e = .returned (.agg #[v, .int .i64 p, .int .i64 d]) ∧ OwnG w' w.heap.size p v us (prod z y p cn on)) ∧ Below w.heap.size w w' := by
  subst hc; subst hd
  exact gtimes_any p cn on a b ca cb z y w hp hp1 hr hr' hz1 hcn hon hrow hy hrow'

end Go.Proofs.Ytekhjoenejgmaaa
