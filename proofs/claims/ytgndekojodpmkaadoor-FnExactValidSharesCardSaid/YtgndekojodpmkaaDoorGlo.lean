/- What the condition on the laid variables gives of the program's sentinels. -/
import Derived.Test.YtgndekojodpmkaaDoorScI
import Derived.Test.YtgndekojodpmkaaDoorRows
import Derived.Stop.LaidTwo
import Derived.LaidSub
import Derived.LaidLaws
import Derived.OpenShut
import Derived.OpenVars
namespace Go.Proofs.YtgndekojodpmkaaDoor
open Go.RowKit Go.Deep Go.ChangeShapes
set_option linter.unusedVariables false

set_option maxRecDepth 1000000
theorem glo_et : Tryd.prog.globalNamed "errors.errorType" = some 3 := by kernel_rfl
theorem glo_rt : (Tryd.prog.cutTypes.find? (·.1 == "internal/reflectlite.rtype")).map (·.2) = some 172 := by kernel_rfl
theorem glo_row : ((List.range Tryd.prog.types.size).filter fun t => Tryd.prog.rowNamed t [101, 114, 114, 111, 114]) = [65] := by kernel_rfl
theorem glo_i : Tryd.prog.globalNamed "loop.example/g01117/impl.errInvalid" = some 0 := by kernel_rfl
theorem glo_r : Tryd.prog.globalNamed "loop.example/g01117/impl.errRange" = some 2 := by kernel_rfl
theorem glo_s : Tryd.prog.globalNamed "loop.example/g01117/impl.errState" = some 1 := by kernel_rfl
theorem glo_ti : (Tryd.prog.globals[0]?).map (·.type) = some 65 := by kernel_rfl
theorem glo_tr : (Tryd.prog.globals[2]?).map (·.type) = some 65 := by kernel_rfl
theorem glo_ts : (Tryd.prog.globals[1]?).map (·.type) = some 65 := by kernel_rfl
theorem glo_c1 : Tryd.prog.cellsOf 210 = 1 := by kernel_rfl
theorem glo_c2 : Tryd.prog.cellsOf 9 = 1 := by kernel_rfl
theorem glo_star : "*" ++ "errors.errorString" = "*errors.errorString" := by decide
theorem glo_ptr (u : TypeId) (h : Tryd.prog.typeName? 3 u = some "*errors.errorString") : u = 190 :=
  typeName_ptr_named (nm := "errors.errorString") (by rw [glo_star]; kernel_rfl) (by kernel_rfl) (by decide) u (by rw [glo_star]; exact h)
theorem glo_handle {W : World} {l : List (String × DataW Unit)} (h : handlesMet Tryd.prog l W) (hm : ("errors.errorType", Rows.laid_errors_errorType) ∈ l) : Handle W := by
  obtain ⟨name, u, ty, e1, e2, e3, e4, e5⟩ := h _ hm
  have en : name = [101, 114, 114, 111, 114] := (Option.some.inj e1).symm
  subst en
  obtain rfl := Option.some.inj (glo_rt.symm.trans e2)
  have hm : ty ∈ (List.range Tryd.prog.types.size).filter fun t => Tryd.prog.rowNamed t [101, 114, 114, 111, 114] := List.mem_filter.2 ⟨List.mem_range.2 e3, e4⟩
  rw [glo_row] at hm
  obtain rfl := List.mem_singleton.1 hm
  have hh : typeHandle Tryd.prog 65 = hdl 65 := by kernel_rfl
  rw [hh] at e5
  unfold Handle
  simpa using World.var?_cell glo_et e5 0
theorem glo_two {W : World} {n0 n1 : String} {t0 t1 : List UInt8} {r : List (String × DataW Unit)} {g0 g1 : Nat}
    (h : laidMet Tryd.prog ((n0, .iface "*errors.errorString" (.ptr (.agg [.lit (.string t0)]))) :: (n1, .iface "*errors.errorString" (.ptr (.agg [.lit (.string t1)]))) :: r) W)
    (hg0 : Tryd.prog.globalNamed n0 = some g0) (ht0 : (Tryd.prog.globals[g0]?).map (·.type) = some 65) (hg1 : Tryd.prog.globalNamed n1 = some g1) (ht1 : (Tryd.prog.globals[g1]?).map (·.type) = some 65) :
    ∃ a0 a1, Sent W g0 a0 ∧ Sent W g1 a1 ∧ a0 ≠ a1 := by
  obtain ⟨a0, a1, s0, s1, c0, c1, u0, u1, hv0, hv1, hc0, hs0, hz0, hc1, hs1, hz1, hne, hb0, hb1⟩ := laid_sentinels2 h hg0 ht0 hg1 ht1 Tryd.underlying65 glo_ptr Tryd.underlying190 Tryd.underlying210 rfl rfl Tryd.underlying9 glo_c1 glo_c2
  exact ⟨a0, a1, ⟨by simpa using World.var?_cell hg0 hv0 0, c0, u0, hb0⟩, ⟨by simpa using World.var?_cell hg1 hv1 0, c1, u1, hb1⟩, hne⟩
theorem Sent.same {W : World} {g : Nat} {a b : Addr} (h : Sent W g a) (k : Sent W g b) : a = b := by
  have := h.cell.symm.trans k.cell
  simpa using this
abbrev laidI : String × DataW Unit := ("loop.example/g01117/impl.errInvalid", Rows.laid_loop_example_g01117_impl_errInvalid)
abbrev laidR : String × DataW Unit := ("loop.example/g01117/impl.errRange", Rows.laid_loop_example_g01117_impl_errRange)
abbrev laidS : String × DataW Unit := ("loop.example/g01117/impl.errState", Rows.laid_loop_example_g01117_impl_errState)
abbrev laidE : String × DataW Unit := ("errors.errorType", Rows.laid_errors_errorType)
/-- What each part of the list gives, the order kept. -/
theorem glo_all {W : World} (h : laidMetH Tryd.prog [laidE, laidI, laidR, laidS] W) : ∃ ai ar az, Glob W ai ar az := by
  obtain ⟨h1, h2⟩ := laidMetH_iff.1 h
  have hf : ([laidE, laidI, laidR, laidS].filter fun x => x.2.handleName?.isNone) = [laidI, laidR, laidS] := by kernel_rfl
  have hf2 : ([laidE, laidI, laidR, laidS].filter fun x => x.2.handleName?.isSome) = [laidE] := by kernel_rfl
  rw [hf] at h1
  rw [hf2] at h2
  have e1 : ([laidI, laidR, laidS].filter fun x => x.1 != "loop.example/g01117/impl.errRange") = [laidI, laidS] := by kernel_rfl
  have e2 : ([laidI, laidR, laidS].filter fun x => x.1 != "loop.example/g01117/impl.errInvalid") = [laidR, laidS] := by kernel_rfl
  have k1 := h1.filter (fun x => x.1 != "loop.example/g01117/impl.errRange")
  have k2 := h1.filter (fun x => x.1 != "loop.example/g01117/impl.errInvalid")
  rw [e1] at k1
  rw [e2] at k2
  have hh := glo_handle h2 (List.mem_singleton.2 rfl)
  obtain ⟨ai, ar, si, sr, hir⟩ := glo_two h1 glo_i glo_ti glo_r glo_tr
  obtain ⟨ai', az, si', sz, hiz⟩ := glo_two k1 glo_i glo_ti glo_s glo_ts
  obtain ⟨ar', az', sr', sz', hrz⟩ := glo_two k2 glo_r glo_tr glo_s glo_ts
  obtain rfl := si.same si'
  obtain rfl := sr.same sr'
  obtain rfl := sz.same sz'
  exact ⟨ai, ar, az, ⟨hh, si, sz⟩, sr, hir.symm, hrz⟩
theorem glo_is {W : World} (h : laidMetH Tryd.prog [laidE, laidI, laidS] W) : ∃ ai az, Glob2 W ai az := by
  obtain ⟨h1, h2⟩ := laidMetH_iff.1 h
  have hf : ([laidE, laidI, laidS].filter fun x => x.2.handleName?.isNone) = [laidI, laidS] := by kernel_rfl
  have hf2 : ([laidE, laidI, laidS].filter fun x => x.2.handleName?.isSome) = [laidE] := by kernel_rfl
  rw [hf] at h1
  rw [hf2] at h2
  have hh := glo_handle h2 (List.mem_singleton.2 rfl)
  obtain ⟨ai, az, si, sz, hiz⟩ := glo_two h1 glo_i glo_ti glo_s glo_ts
  exact ⟨ai, az, hh, si, sz⟩
/-- Three named variables. -/
theorem trodVars_three {H : Type} {enc : TypeId × Value → H} {P : Program} {w : World} {spare : Nat → Bool} {n0 n1 n2 : String} {gs : List (DataW H)} {ps : List MemPlace} (h : DataW.TrodVars enc P w spare [n0, n1, n2] gs ps) : ∃ d0 d1 d2, gs = [d0, d1, d2] := by
  cases gs with
  | nil => simp [DataW.TrodVars] at h
  | cons d ds =>
    obtain ⟨g0, t0, cs0, f0, p0, q0, h1, h2, h3, h4, hs, e⟩ := h
    obtain ⟨g1, t1, cs1, f1, d1, p1, g2, t2, cs2, f2, d2, p2, rfl, _⟩ := trodVars_two hs
    exact ⟨d, d1, d2, rfl⟩
theorem trodVars_2 {H : Type} {enc : TypeId × Value → H} {P : Program} {w : World} {spare : Nat → Bool} {n0 n1 : String} {gs : List (DataW H)} {ps : List MemPlace} (h : DataW.TrodVars enc P w spare [n0, n1] gs ps) : ∃ d0 d1, gs = [d0, d1] := by
  obtain ⟨g1, t1, cs1, f1, d1, p1, g2, t2, cs2, f2, d2, p2, rfl, _⟩ := trodVars_two h
  exact ⟨d1, d2, rfl⟩
end Go.Proofs.YtgndekojodpmkaaDoor
