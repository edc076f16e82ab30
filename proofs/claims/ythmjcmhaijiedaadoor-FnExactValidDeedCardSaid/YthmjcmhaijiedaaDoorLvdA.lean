/- The walk of 'laws.FnExactValidDeed'; a deed of the laws', opened and turned. -/
import Derived.Test.YthmjcmhaijiedaaDoorVd
import Derived.Test.YthmjcmhaijiedaaDoorOpen
import Derived.OpenVars
namespace Go.Proofs.YthmjcmhaijiedaaDoor
open Go.ChangeShapes Go.WideShapes Go.ChangeAt Go.RowKit Go.Deep Go.Joins
set_option linter.unusedVariables false

theorem trodVars_1 {H : Type} {enc : TypeId × Value → H} {P : Program} {w : World} {spare : Nat → Bool} {n0 : String} {gs : List (DataW H)} {ps : List MemPlace} (h : DataW.TrodVars enc P w spare [n0] gs ps) : ∃ d0, gs = [d0] := by
  cases gs with
  | nil => simp [DataW.TrodVars] at h
  | cons d ds =>
    obtain ⟨g0, t0, cs0, f0, p0, q0, h1, h2, h3, h4, hs, e⟩ := h
    cases ds with
    | nil => exact ⟨d, rfl⟩
    | cons d2 ds2 => simp [DataW.TrodVars] at hs
section
variable {H : Type} {enc : TypeId × Value → H} {w : World} {base : Nat} {held : Bool}
set_option maxRecDepth 100000 in
/-- A DEED BY VALUE, OPENED. -/
theorem open_deed {r : Reach} {b0 : Nat} {v : Value} {d : DataW H} {p : List MemPlace} (hv : Value.okWide Tryd.prog w r b0 46 v) (h : DataW.Trod enc Tryd.prog w base (fun _ => true) held 46 v d p) :
    ∃ (hh kk ll : Int), v = .agg #[.int .i64 hh, .int .i64 kk, .int .i64 ll] ∧ (Lit.int .i64 hh).wf = true ∧ (Lit.int .i64 kk).wf = true ∧ (Lit.int .i64 ll).wf = true := by
  obtain ⟨c0, c1, c2, y0, y1, y2, m, rfl, _, _, hy0, hy1, hy2⟩ := open_agg3 Tryd.underlying46 (by kernel_rfl) (by kernel_rfl) hv h
  obtain ⟨hh, e0, _, wh⟩ := DataW.trod_int Tryd.underlying2 hy0
  obtain ⟨kk, e1, _, wk⟩ := DataW.trod_int Tryd.underlying2 hy1
  obtain ⟨ll, e2, _, wl⟩ := DataW.trod_int Tryd.underlying2 hy2
  simp at e0 e1 e2
  subst e0 e1 e2
  exact ⟨hh, kk, ll, rfl, wh, wk, wl⟩
end

set_option maxRecDepth 100000 in
set_option maxHeartbeats 1000000 in
theorem toDeed_any (k a b : Int) (w : World) : Calls Tryd.prog 29 #[.agg #[.int .i64 k, .int .i64 a, .int .i64 b]] w fun e w' => e = .returned (.agg #[.int .i64 k, .int .i64 a, .int .i64 b]) ∧ Below w.heap.size w w' := by
  go_enter Tryd.func29, Tryd.ntmps29
  go_wp2_with fail
  refine bodyPost_ret (v := .agg #[.int .i64 k, .int .i64 a, .int .i64 b]) (by simp [results, Tryd.results29, go_sem]) rfl ⟨rfl, ?_⟩
  go_grown

end Go.Proofs.YthmjcmhaijiedaaDoor
