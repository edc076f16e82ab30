/- The contracts of SameScheme, the model's and the program's. -/
import Derived.Test.YtcebphepfkpklaaSch
import Derived.Test.YtcebphepfkpklaaSmf
namespace Go.Proofs.Ytcebphepfkpklaa
open Go.RowKit Go.Deep
set_option linter.unusedVariables false

/-- Two schemes are one. -/
def SchEq (h f l : Int) (yo : List Int) (z : List (List Int)) (h1 f1 l1 : Int) (yp : List Int) (zp : List (List Int)) : Prop := h = h1 ∧ yo = yp ∧ (f = f1 ∧ l = l1) ∧ z = zp

set_option maxRecDepth 100000 in
set_option maxHeartbeats 1000000 in
theorem implSs_any (h f l : Int) (ao : Option Addr) (yo : List Int) (co : Nat) (a : Option Addr) (z : List (List Int)) (c : Nat) (h1 f1 l1 : Int) (bo : Option Addr) (yp : List Int) (eo : Nat) (b : Option Addr) (zp : List (List Int)) (d : Nat) (w : World) (ha : InS w ao yo a z) (hb : InS w bo yp b zp) (hla : LenS yo z) (hlb : LenS yp zp) :
    Calls Try.prog 39 #[.agg #[.int .i64 h, .slice ao yo.length co, .int .i64 f, .int .i64 l, .slice a z.length c], .agg #[.int .i64 h1, .slice bo yp.length eo, .int .i64 f1, .int .i64 l1, .slice b zp.length d]] w fun e w' => e = .returned (.bool (tell (SchEq h f l yo z h1 f1 l1 yp zp))) ∧ Below w.heap.size w w' := by
  have HLA := Lib.hid hla
  have HLB := Lib.hid hlb
  have hb0 := (Below.refl w.heap.size w).alloc (Nat.le_refl _) (.cells #[.int .i64 h, .slice ao yo.length co, .int .i64 f, .int .i64 l, .slice a z.length c] 48)
  have hb1 := hb0.alloc (by simp) (.cells #[.int .i64 h1, .slice bo yp.length eo, .int .i64 f1, .int .i64 l1, .slice b zp.length d] 48)
  have HX := Lib.hid (Boxes.step (show Boxes (w.alloc (.cells #[.int .i64 h, .slice ao yo.length co, .int .i64 f, .int .i64 l, .slice a z.length c] 48)) w.heap.size 48 #[.int .i64 h, .slice ao yo.length co, .int .i64 f, .int .i64 l, .slice a z.length c] from World.alloc_heap_new w _) ((Below.refl _ _).alloc (Nat.le_refl _) (.cells #[.int .i64 h1, .slice bo yp.length eo, .int .i64 f1, .int .i64 l1, .slice b zp.length d] 48)))
  have HY := Lib.hid (show Boxes ((w.alloc (.cells #[.int .i64 h, .slice ao yo.length co, .int .i64 f, .int .i64 l, .slice a z.length c] 48)).alloc (.cells #[.int .i64 h1, .slice bo yp.length eo, .int .i64 f1, .int .i64 l1, .slice b zp.length d] 48)) (w.alloc (.cells #[.int .i64 h, .slice ao yo.length co, .int .i64 f, .int .i64 l, .slice a z.length c] 48)).heap.size 48 #[.int .i64 h1, .slice bo yp.length eo, .int .i64 f1, .int .i64 l1, .slice b zp.length d] from World.alloc_heap_new _ _)
  have HB1 := Lib.hid hb1
  have HA := Lib.hid (ha.step hb1)
  have HB := Lib.hid (hb.step hb1)
  clear hla hlb ha hb hb0 hb1
  by_cases hh : h = h1
  case neg =>
    have s0 : (h == h1) = false := by simp [hh]
    have HN := Lib.hid (tell_false (p := SchEq h f l yo z h1 f1 l1 yp zp) (fun q => hh q.1))
    clear hh
    go_enter Try.func39, Try.ntmps39
    go_wp2_with fail
    go_ret
    exact ⟨ret_bool HN.out.symm, HB1.out⟩
  have s0 : (h == h1) = true := by simp [hh]
  have H0 := Lib.hid hh
  clear hh
  go_enter Try.func39, Try.ntmps39
  go_wp2_with fail
  refine (slicesEqual_any ao bo yo yp co eo _ HA.out.o HB.out.o HLA.out.o HLB.out.o).mono ?_
  generalize (w.alloc (.cells #[.int .i64 h, .slice ao yo.length co, .int .i64 f, .int .i64 l, .slice a z.length c] 48)).alloc (.cells #[.int .i64 h1, .slice bo yp.length eo, .int .i64 f1, .int .i64 l1, .slice b zp.length d] 48) = v1 at *
  rintro e w2 ⟨rfl, hq⟩
  have hbq := quiet_below hq
  clear hq
  have HX2 := HX.out.step hbq
  have HY2 := HY.out.step hbq
  simp only [World.size_alloc] at HY2
  have HA2 := Lib.hid (HA.out.step hbq)
  have HB2 := Lib.hid (HB.out.step hbq)
  have HE := Lib.hid (chain HB1.out hbq)
  have c2 := HX2.s2
  have c3 := HX2.s3
  have c4 := HX2.s4
  have d2 := HY2.s2
  have d3 := HY2.s3
  have d4 := HY2.s4
  clear hbq HX2 HY2 HX HY HA HB HB1
  by_cases hy : yo = yp
  case neg =>
    have HT := Lib.hid (tell_false hy)
    have HN := Lib.hid (tell_false (p := SchEq h f l yo z h1 f1 l1 yp zp) (fun q => hy q.2.1))
    clear hy
    rw [HT.out]
    go_wp2_with fail
    go_ret
    exact ⟨ret_bool HN.out.symm, HE.out⟩
  have HT := Lib.hid (tell_true hy)
  have H1 := Lib.hid hy
  clear hy
  rw [HT.out]
  go_wp2_with fail
  refine (implSmm_any f l f1 l1 a b z zp c d _ HA2.out.r HB2.out.r HLA.out.r HLB.out.r).mono ?_
  rintro e w2 ⟨rfl, hb2⟩
  have HE2 := Lib.hid (chain HE.out hb2)
  clear hb2
  go_wp2_with fail
  go_ret
  exact ⟨ret_bool (tell_congr ⟨fun q => ⟨H0.out, H1.out, q⟩, fun q => q.2.2⟩), HE2.out⟩

set_option maxRecDepth 100000 in
set_option maxHeartbeats 1000000 in
theorem specSs_any (h f l : Int) (ao : Option Addr) (yo : List Int) (co : Nat) (a : Option Addr) (z : List (List Int)) (c : Nat) (h1 f1 l1 : Int) (bo : Option Addr) (yp : List Int) (eo : Nat) (b : Option Addr) (zp : List (List Int)) (d : Nat) (w : World) (ha : InS w ao yo a z) (hb : InS w bo yp b zp) (hla : LenS yo z) (hlb : LenS yp zp) :
    Calls Try.prog 38 #[.agg #[.int .i64 h, .slice ao yo.length co, .int .i64 f, .int .i64 l, .slice a z.length c], .agg #[.int .i64 h1, .slice bo yp.length eo, .int .i64 f1, .int .i64 l1, .slice b zp.length d]] w fun e w' => e = .returned (.bool (tell (SchEq h f l yo z h1 f1 l1 yp zp))) ∧ Below w.heap.size w w' := by
  have HLA := Lib.hid hla
  have HLB := Lib.hid hlb
  have hb0 := (Below.refl w.heap.size w).alloc (Nat.le_refl _) (.cells #[.int .i64 h, .slice ao yo.length co, .int .i64 f, .int .i64 l, .slice a z.length c] 48)
  have hb1 := hb0.alloc (by simp) (.cells #[.int .i64 h1, .slice bo yp.length eo, .int .i64 f1, .int .i64 l1, .slice b zp.length d] 48)
  have HX := Lib.hid (Boxes.step (show Boxes (w.alloc (.cells #[.int .i64 h, .slice ao yo.length co, .int .i64 f, .int .i64 l, .slice a z.length c] 48)) w.heap.size 48 #[.int .i64 h, .slice ao yo.length co, .int .i64 f, .int .i64 l, .slice a z.length c] from World.alloc_heap_new w _) ((Below.refl _ _).alloc (Nat.le_refl _) (.cells #[.int .i64 h1, .slice bo yp.length eo, .int .i64 f1, .int .i64 l1, .slice b zp.length d] 48)))
  have HY := Lib.hid (show Boxes ((w.alloc (.cells #[.int .i64 h, .slice ao yo.length co, .int .i64 f, .int .i64 l, .slice a z.length c] 48)).alloc (.cells #[.int .i64 h1, .slice bo yp.length eo, .int .i64 f1, .int .i64 l1, .slice b zp.length d] 48)) (w.alloc (.cells #[.int .i64 h, .slice ao yo.length co, .int .i64 f, .int .i64 l, .slice a z.length c] 48)).heap.size 48 #[.int .i64 h1, .slice bo yp.length eo, .int .i64 f1, .int .i64 l1, .slice b zp.length d] from World.alloc_heap_new _ _)
  have HB1 := Lib.hid hb1
  have HA := Lib.hid (ha.step hb1)
  have HB := Lib.hid (hb.step hb1)
  clear hla hlb ha hb hb0 hb1
  by_cases hh : h = h1
  case neg =>
    have s0 : (h == h1) = false := by simp [hh]
    have HN := Lib.hid (tell_false (p := SchEq h f l yo z h1 f1 l1 yp zp) (fun q => hh q.1))
    clear hh
    go_enter Try.func38, Try.ntmps38
    go_wp2_with fail
    go_ret
    exact ⟨ret_bool HN.out.symm, HB1.out⟩
  have s0 : (h == h1) = true := by simp [hh]
  have H0 := Lib.hid hh
  clear hh
  go_enter Try.func38, Try.ntmps38
  go_wp2_with fail
  refine (l00Same_any ao bo yo yp co eo _ HA.out.o HB.out.o HLA.out.o HLB.out.o).mono ?_
  generalize (w.alloc (.cells #[.int .i64 h, .slice ao yo.length co, .int .i64 f, .int .i64 l, .slice a z.length c] 48)).alloc (.cells #[.int .i64 h1, .slice bo yp.length eo, .int .i64 f1, .int .i64 l1, .slice b zp.length d] 48) = v1 at *
  rintro e w2 ⟨rfl, hq⟩
  have hbq := quiet_below hq
  clear hq
  have HX2 := HX.out.step hbq
  have HY2 := HY.out.step hbq
  simp only [World.size_alloc] at HY2
  have HA2 := Lib.hid (HA.out.step hbq)
  have HB2 := Lib.hid (HB.out.step hbq)
  have HE := Lib.hid (chain HB1.out hbq)
  have c2 := HX2.s2
  have c3 := HX2.s3
  have c4 := HX2.s4
  have d2 := HY2.s2
  have d3 := HY2.s3
  have d4 := HY2.s4
  clear hbq HX2 HY2 HX HY HA HB HB1
  by_cases hy : yo = yp
  case neg =>
    have HT := Lib.hid (tell_false hy)
    have HN := Lib.hid (tell_false (p := SchEq h f l yo z h1 f1 l1 yp zp) (fun q => hy q.2.1))
    clear hy
    rw [HT.out]
    go_wp2_with fail
    go_ret
    exact ⟨ret_bool HN.out.symm, HE.out⟩
  have HT := Lib.hid (tell_true hy)
  have H1 := Lib.hid hy
  clear hy
  rw [HT.out]
  go_wp2_with fail
  refine (specSmm_any f l f1 l1 a b z zp c d _ HA2.out.r HB2.out.r HLA.out.r HLB.out.r).mono ?_
  rintro e w2 ⟨rfl, hb2⟩
  have HE2 := Lib.hid (chain HE.out hb2)
  clear hb2
  go_wp2_with fail
  go_ret
  exact ⟨ret_bool (tell_congr ⟨fun q => ⟨H0.out, H1.out, q⟩, fun q => q.2.2⟩), HE2.out⟩
end Go.Proofs.Ytcebphepfkpklaa
