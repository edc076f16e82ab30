/- VdL Dt LdtA Ldt1 Ldt2 Ldt3 in one text. -/
import Derived.Test.YthmjcmhaijiedaaDoorLinN
import Derived.Test.YthmjcmhaijiedaaDoorRise
import Derived.Test.YthmjcmhaijiedaaDoorRows
import Derived.LaidSub
import Derived.OpenShut
import Derived.ChangeSame
import Derived.ChangeArms
import Derived.BigQuiet
import Derived.Test.YthmjcmhaijiedaaDoorShelf3
import Derived.Deep.RegionLaw
import Derived.Deep.CutRange
import Derived.Test.YthmjcmhaijiedaaDoorOpen
import Derived.OpenVars
import Derived.Lib.SmallJoins
import Derived.Test.YthmjcmhaijiedaaDoorCp
import Derived.LaidHandle
import Derived.LaidLaws
import Derived.LaidMore
import Derived.Test.YthmjcmhaijiedaaDoorLdtC
import Derived.Test.YthmjcmhaijiedaaDoorLdtD
import Derived.Test.YthmjcmhaijiedaaDoorTie
namespace Go.Proofs.YthmjcmhaijiedaaDoor
open Go.RowKit Go.Deep Go.ChangeShapes Go.WideShapes Go.ChangeAt
set_option linter.unusedVariables false

/-- Forms of deeds, as the program lays them. -/
def formsD : List (List UInt8 × Int) := [([], 0), ([103, 105, 118, 101], 1), ([104, 97, 110, 100], 1), ([100, 101, 108, 105, 118, 101, 114], 1), ([99, 111, 112, 121], 1), ([100, 114, 111, 112], 1), ([108, 105, 101], 2), ([115, 97, 118, 101], 1), ([99, 114, 97, 115, 104], 1), ([114, 101, 110, 101, 119], 0)]
/-- The forms lie there. -/
def Forms (W : World) : Prop := ∀ (i : Nat) (z : List UInt8 × Int), formsD[i]? = some z → W.cell? ⟨0, i * 2, none⟩ = some (.string ⟨z.1.toArray⟩) ∧ W.cell? ⟨0, i * 2 + 1, none⟩ = some (.int .i64 z.2)
theorem Forms.step {W W' : World} (hb : Below W.heap.size W W') (h : Forms W) : Forms W' := fun i z hz => ⟨cell_step hb (h i z hz).1, cell_step hb (h i z hz).2⟩

/-- AN ARRAY OF STRUCTS OF A STRING AND A NUMBER THAT READS AS A LIST HOLDS ITS CELLS. -/
theorem cells_of_pairs {H : Type} {enc : TypeId × Value → H} {P : Program} {w : World} {base : Nat} {sp : Nat → Bool} {held : Bool} {fuel : Nat} {t e : TypeId} {n : Nat} {f0 f1 : Field} {cs : List Value} {zs : List (List UInt8 × Int)} {p : List MemPlace}
    (ht : P.underlying t = some (.array n e)) (he : P.underlying e = some (.struct #[f0, f1])) (h0 : P.underlying f0.type = some .string) (h1 : P.underlying f1.type = some (.int .i64)) (o0 : f0.offset = 0) (o1 : f1.offset = 1) (c0 : P.cellsOf f0.type = 1) (c1 : P.cellsOf f1.type = 1) (ce : P.cellsOf e = 2)
    (h : DataW.trod enc P w base sp held fuel t cs = some (.agg (zs.map fun z => .agg [.lit (.string z.1), .lit (.int .i64 z.2)]), p)) :
    ∀ (i : Nat) (z : List UInt8 × Int), zs[i]? = some z → cs[i * 2]? = some (.string ⟨z.1.toArray⟩) ∧ cs[i * 2 + 1]? = some (.int .i64 z.2) := by
  obtain ⟨xs, m, -, hx, -, hlen, hf⟩ := DataW.trod_array ht h
  intro i z hz
  have hxs : xs.map (·.1) = zs.map fun z => (DataW.agg [.lit (.string z.1), .lit (.int .i64 z.2)] : DataW H) := by
    have := congrArg Prod.fst hx
    simp only [DataW.agg.injEq] at this
    exact this.symm
  have hi : i < zs.length := (List.getElem?_eq_some_iff.1 hz).1
  have hxl : xs.length = zs.length := by simpa using congrArg List.length hxs
  have hin : i < n := by omega
  have hf := hf i hin
  rw [ce, List.getElem?_eq_getElem (by omega)] at hf
  obtain ⟨y0, y1, k, hy, -, t0, t1⟩ := trod_struct2 he hf
  rw [o0, c0, List.drop_zero, List.take_take] at t0
  rw [o1, c1] at t1
  obtain ⟨s, es, ey0, -⟩ := DataW.trod_string h0 t0
  obtain ⟨v, ev, ey1, -⟩ := DataW.trod_int h1 t1
  have hxi : (xs.map (·.1))[i]? = some (xs[i]'(by omega)).1 := by simp [hxl, hi]
  rw [hxs, List.getElem?_map, hz, hy, ey0, ey1] at hxi
  simp only [Option.map_some, Option.some.injEq, DataW.agg.injEq, List.cons.injEq, DataW.lit.injEq, Lit.string.injEq, Lit.int.injEq, and_true, true_and] at hxi
  obtain ⟨e0, e1⟩ := hxi
  constructor
  · have := congrArg (·[0]?) es
    simp only [List.getElem?_cons_zero] at this
    rw [List.getElem?_take_of_lt (by omega), List.getElem?_drop, Nat.add_zero] at this
    rw [this, e0]
  · have := congrArg (·[0]?) ev
    simp only [List.getElem?_cons_zero] at this
    rw [List.getElem?_take_of_lt (by omega), List.getElem?_drop, List.getElem?_take_of_lt (by omega), List.getElem?_drop] at this
    rw [Nat.add_zero] at this
    rw [this, e1]
theorem forms_of {W : World} (h : laidMetH Tryd.prog Rows.fnExactValidDeedRow.laid W) : Forms W := by
  have h1 := (laidMetH_iff.1 h).1
  have e : (Rows.fnExactValidDeedRow.laid.filter fun x => x.2.handleName?.isNone) = [("loop.example/g01117/impl.deedForms", .agg (formsD.map fun z => .agg [.lit (.string z.1), .lit (.int .i64 z.2)]))] := by kernel_rfl
  rw [e] at h1
  obtain ⟨ps, ⟨g', t', cs, fuel, p, q, hg', ht', hvar, hd, _, _⟩, _⟩ := h1
  have hg : Tryd.prog.globalNamed "loop.example/g01117/impl.deedForms" = some 0 := by kernel_rfl
  have hty : (Tryd.prog.globals[0]?).map (·.type) = some 107 := by kernel_rfl
  obtain rfl := Option.some.inj (hg.symm.trans hg')
  obtain rfl := Option.some.inj (hty.symm.trans ht')
  intro i z hz
  obtain ⟨c0, c1⟩ := cells_of_pairs (n := 10) (e := 106) Tryd.underlying107 Tryd.underlying106 (by kernel_rfl) (by kernel_rfl) (by kernel_rfl) (by kernel_rfl) (by kernel_rfl) (by kernel_rfl) (by kernel_rfl) hd i z hz
  exact ⟨by rw [World.var?_cell hg hvar]; simpa using c0, by rw [World.var?_cell hg hvar]; simpa using c1⟩

/-- How many numbers a kind of deeds has. -/
def numsOf (k : Int) : Int := (formsD.getD k.toNat ([], 0)).2
/-- A deed is valid. -/
def DeedOk (k a b : Int) : Prop := (1 ≤ k ∧ k ≤ 9) ∧ (0 ≤ a ∧ a ≤ 999) ∧ (0 ≤ b ∧ b ≤ 999) ∧ (0 < numsOf k ∨ a = 0) ∧ (1 < numsOf k ∨ b = 0)
theorem numsOf_at {kn : Nat} (h : kn < 10) : ∃ z, formsD[kn]? = some z ∧ numsOf kn = z.2 := by
  have hl : kn < formsD.length := h
  exact ⟨formsD[kn], by simp [hl], by unfold numsOf; rw [Int.toNat_natCast, List.getD_eq_getElem?_getD, List.getElem?_eq_getElem hl]; rfl⟩
theorem boxes_of (w : World) (vs : Array Value) (t : TypeId) : Boxes (w.alloc (.cells vs t)) w.heap.size t vs := World.alloc_heap_new w _
theorem Boxes.d3 {W : World} {B : Nat} {t : TypeId} {v0 v1 v2 : Value} (h : Boxes W B t #[v0, v1, v2]) : W.cell? ⟨B, 0, none⟩ = some v0 ∧ W.cell? ⟨B, 1, none⟩ = some v1 ∧ W.cell? ⟨B, 2, none⟩ = some v2 := ⟨by rw [h.cell]; rfl, by rw [h.cell]; rfl, by rw [h.cell]; rfl⟩
theorem bx_b (w : World) (o : Obj) : Below w.heap.size w (w.alloc o) := (Below.refl _ _).alloc (Nat.le_refl _) o

set_option maxRecDepth 100000 in
set_option maxHeartbeats 2000000 in
theorem implVd_any (k a b : Int) (w : World) (gf : Forms w) : Calls Tryd.prog 30 #[.agg #[.int .i64 k, .int .i64 a, .int .i64 b]] w fun e w' => e = .returned (.bool (tell (DeedOk k a b))) ∧ Below w.heap.size w w' := by
  have HB := Lib.hid (bx_b w (.cells #[.int .i64 k, .int .i64 a, .int .i64 b] 48))
  have HF := Lib.hid (gf.step HB.out)
  clear gf
  obtain ⟨B, hB⟩ : ∃ B, tell (DeedOk k a b) = B := ⟨_, rfl⟩
  rw [hB]
  have HBB := Lib.hid hB
  clear hB
  go_enter Tryd.func30, Tryd.ntmps30
  by_cases h1 : k < 1
  · obtain rfl : false = B := (tell_false (fun q : DeedOk k a b => by unfold DeedOk at q; omega)).symm.trans HBB.out
    go_wp2_with fail
    go_ret
    exact ⟨rfl, HB.out⟩
  by_cases h2 : 9 < k
  · obtain rfl : false = B := (tell_false (fun q : DeedOk k a b => by unfold DeedOk at q; omega)).symm.trans HBB.out
    go_wp2_with fail
    go_ret
    exact ⟨rfl, HB.out⟩
  by_cases h3 : a < 0
  · obtain rfl : false = B := (tell_false (fun q : DeedOk k a b => by unfold DeedOk at q; omega)).symm.trans HBB.out
    go_wp2_with fail
    go_ret
    exact ⟨rfl, HB.out⟩
  by_cases h4 : 999 < a
  · obtain rfl : false = B := (tell_false (fun q : DeedOk k a b => by unfold DeedOk at q; omega)).symm.trans HBB.out
    go_wp2_with fail
    go_ret
    exact ⟨rfl, HB.out⟩
  by_cases h5 : b < 0
  · obtain rfl : false = B := (tell_false (fun q : DeedOk k a b => by unfold DeedOk at q; omega)).symm.trans HBB.out
    go_wp2_with fail
    go_ret
    exact ⟨rfl, HB.out⟩
  by_cases h6 : 999 < b
  · obtain rfl : false = B := (tell_false (fun q : DeedOk k a b => by unfold DeedOk at q; omega)).symm.trans HBB.out
    go_wp2_with fail
    go_ret
    exact ⟨rfl, HB.out⟩
  obtain ⟨kn, rfl⟩ : ∃ kn : Nat, k = kn := ⟨k.toNat, by omega⟩
  have hk10 : kn < 10 := by omega
  have hk10i : (kn : Int) < 10 := by omega
  obtain ⟨z, hz, hn⟩ := numsOf_at hk10
  obtain ⟨-, d⟩ := HF.out kn z hz
  obtain ⟨nm, hnm⟩ : ∃ nm, z.2 = nm := ⟨_, rfl⟩
  rw [hnm] at d hn
  have HN := Lib.hid hn
  have gl := World.block_lt_of_cell? _ _ d
  simp only at gl
  clear hn hnm hz
  by_cases n0 : 0 < nm
  · by_cases n1 : 1 < nm
    · obtain rfl : true = B := (tell_true (show DeedOk kn _ _ by unfold DeedOk; rw [HN.out]; omega)).symm.trans HBB.out
      go_wp2_with fail
      go_ret
      exact ⟨rfl, HB.out⟩
    · by_cases b0 : b = 0
      · subst b0
        obtain rfl : true = B := (tell_true (show DeedOk kn _ _ by unfold DeedOk; rw [HN.out]; omega)).symm.trans HBB.out
        go_wp2_with fail
        go_ret
        exact ⟨rfl, HB.out⟩
      · have bb : (b == 0) = false := by simpa using b0
        obtain rfl : false = B := (tell_false (fun q : DeedOk kn _ _ => by unfold DeedOk at q; rw [HN.out] at q; omega)).symm.trans HBB.out
        go_wp2_with fail
        go_ret
        exact ⟨rfl, HB.out⟩
  · have n1 : ¬ 1 < nm := by omega
    by_cases a0 : a = 0
    · subst a0
      by_cases b0 : b = 0
      · subst b0
        obtain rfl : true = B := (tell_true (show DeedOk kn _ _ by unfold DeedOk; rw [HN.out]; omega)).symm.trans HBB.out
        go_wp2_with fail
        go_ret
        exact ⟨rfl, HB.out⟩
      · have bb : (b == 0) = false := by simpa using b0
        obtain rfl : false = B := (tell_false (fun q : DeedOk kn _ _ => by unfold DeedOk at q; rw [HN.out] at q; omega)).symm.trans HBB.out
        go_wp2_with fail
        go_ret
        exact ⟨rfl, HB.out⟩
    · have ab : (a == 0) = false := by simpa using a0
      obtain rfl : false = B := (tell_false (fun q : DeedOk kn _ _ => by unfold DeedOk at q; rw [HN.out] at q; omega)).symm.trans HBB.out
      go_wp2_with fail
      go_ret
      exact ⟨rfl, HB.out⟩

set_option maxRecDepth 100000 in
set_option maxHeartbeats 1000000 in
theorem l08Words_any (w : World) : Calls Tryd.prog 67 #[] w fun e w' => (∃ q1 q2 : Nat, e = .returned (.tuple #[.slice (some ⟨q1, 0, none⟩) 10 10, .slice (some ⟨q2, 0, none⟩) 10 10]) ∧ ∀ (i : Nat) (z : List UInt8 × Int), formsD[i]? = some z → w'.cell? ⟨q1, i, none⟩ = some (.string ⟨z.1.toArray⟩) ∧ w'.cell? ⟨q2, i, none⟩ = some (.int .i64 z.2)) ∧ Below w.heap.size w w' := by
  have h1 := boxes_of w #[.string ⟨#[]⟩, .string ⟨#[103, 105, 118, 101]⟩, .string ⟨#[104, 97, 110, 100]⟩, .string ⟨#[100, 101, 108, 105, 118, 101, 114]⟩, .string ⟨#[99, 111, 112, 121]⟩, .string ⟨#[100, 114, 111, 112]⟩, .string ⟨#[108, 105, 101]⟩, .string ⟨#[115, 97, 118, 101]⟩, .string ⟨#[99, 114, 97, 115, 104]⟩, .string ⟨#[114, 101, 110, 101, 119]⟩] 9
  have b1 := bx_b w (.cells #[.string ⟨#[]⟩, .string ⟨#[103, 105, 118, 101]⟩, .string ⟨#[104, 97, 110, 100]⟩, .string ⟨#[100, 101, 108, 105, 118, 101, 114]⟩, .string ⟨#[99, 111, 112, 121]⟩, .string ⟨#[100, 114, 111, 112]⟩, .string ⟨#[108, 105, 101]⟩, .string ⟨#[115, 97, 118, 101]⟩, .string ⟨#[99, 114, 97, 115, 104]⟩, .string ⟨#[114, 101, 110, 101, 119]⟩] 9)
  have hsz : (w.alloc (.cells #[.string ⟨#[]⟩, .string ⟨#[103, 105, 118, 101]⟩, .string ⟨#[104, 97, 110, 100]⟩, .string ⟨#[100, 101, 108, 105, 118, 101, 114]⟩, .string ⟨#[99, 111, 112, 121]⟩, .string ⟨#[100, 114, 111, 112]⟩, .string ⟨#[108, 105, 101]⟩, .string ⟨#[115, 97, 118, 101]⟩, .string ⟨#[99, 114, 97, 115, 104]⟩, .string ⟨#[114, 101, 110, 101, 119]⟩] 9)).heap.size = w.heap.size + 1 := by simp
  go_enter Tryd.func67, Tryd.ntmps67
  go_wp2_with fail
  generalize w.alloc (.cells #[.string ⟨#[]⟩, .string ⟨#[103, 105, 118, 101]⟩, .string ⟨#[104, 97, 110, 100]⟩, .string ⟨#[100, 101, 108, 105, 118, 101, 114]⟩, .string ⟨#[99, 111, 112, 121]⟩, .string ⟨#[100, 114, 111, 112]⟩, .string ⟨#[108, 105, 101]⟩, .string ⟨#[115, 97, 118, 101]⟩, .string ⟨#[99, 114, 97, 115, 104]⟩, .string ⟨#[114, 101, 110, 101, 119]⟩] 9) = w2 at *
  have h2 := boxes_of w2 #[.int .i64 0, .int .i64 1, .int .i64 1, .int .i64 1, .int .i64 1, .int .i64 1, .int .i64 2, .int .i64 1, .int .i64 1, .int .i64 0] 3
  have b2 := bx_b w2 (.cells #[.int .i64 0, .int .i64 1, .int .i64 1, .int .i64 1, .int .i64 1, .int .i64 1, .int .i64 2, .int .i64 1, .int .i64 1, .int .i64 0] 3)
  have h1' := h1.step b2
  rw [hsz] at h2
  generalize w2.alloc (.cells #[.int .i64 0, .int .i64 1, .int .i64 1, .int .i64 1, .int .i64 1, .int .i64 1, .int .i64 2, .int .i64 1, .int .i64 1, .int .i64 0] 3) = w3 at *
  refine bodyPost_ret (v := .tuple #[.slice (some ⟨w.heap.size, 0, none⟩) 10 10, .slice (some ⟨w.heap.size + 1, 0, none⟩) 10 10]) (by simp [results, Tryd.results67, go_sem]) rfl ⟨⟨w.heap.size, w.heap.size + 1, rfl, fun i z hz => ?_⟩, b1.trans (b2.mono b1.size)⟩
  have hi : i < 10 := (List.getElem?_eq_some_iff.1 hz).1
  rw [h1'.cell, h2.cell]
  have hc : i = 0 ∨ i = 1 ∨ i = 2 ∨ i = 3 ∨ i = 4 ∨ i = 5 ∨ i = 6 ∨ i = 7 ∨ i = 8 ∨ i = 9 := by omega
  rcases hc with rfl | rfl | rfl | rfl | rfl | rfl | rfl | rfl | rfl | rfl <;> (simp [formsD] at hz; subst hz; exact ⟨rfl, rfl⟩)

set_option maxRecDepth 100000 in
set_option maxHeartbeats 2000000 in
theorem l08Deed_any (k a b : Int) (w : World) : Calls Tryd.prog 66 #[.agg #[.int .i64 k, .int .i64 a, .int .i64 b]] w fun e w' => e = .returned (.bool (tell (DeedOk k a b))) ∧ Below w.heap.size w w' := by
  have HB := Lib.hid (bx_b w (.cells #[.int .i64 k, .int .i64 a, .int .i64 b] 48))
  have HX := Lib.hid (boxes_of w #[.int .i64 k, .int .i64 a, .int .i64 b] 48)
  obtain ⟨B, hB⟩ : ∃ B, tell (DeedOk k a b) = B := ⟨_, rfl⟩
  rw [hB]
  have HBB := Lib.hid hB
  clear hB
  go_enter Tryd.func66, Tryd.ntmps66
  go_wp2_with fail
  by_cases h1 : 1 ≤ k ∧ k ≤ 9
  case neg =>
    obtain rfl : false = B := (tell_false (fun q : DeedOk k a b => by unfold DeedOk at q; omega)).symm.trans HBB.out
    refine (l00In_val k 1 9 false _ (by simp; omega)).mono ?_
    rintro e w' ⟨rfl, rfl⟩
    go_wp2_with fail
    go_ret
    exact ⟨rfl, HB.out⟩
  refine (l00In_val k 1 9 true _ (by simp; omega)).mono ?_
  rintro e w' ⟨rfl, rfl⟩
  go_wp2_with fail
  by_cases h2 : 0 ≤ a ∧ a ≤ 999
  case neg =>
    obtain rfl : false = B := (tell_false (fun q : DeedOk k a b => by unfold DeedOk at q; omega)).symm.trans HBB.out
    refine (l00In_val a 0 999 false _ (by simp; omega)).mono ?_
    rintro e w' ⟨rfl, rfl⟩
    go_wp2_with fail
    go_ret
    exact ⟨rfl, HB.out⟩
  refine (l00In_val a 0 999 true _ (by simp; omega)).mono ?_
  rintro e w' ⟨rfl, rfl⟩
  go_wp2_with fail
  by_cases h3 : 0 ≤ b ∧ b ≤ 999
  case neg =>
    obtain rfl : false = B := (tell_false (fun q : DeedOk k a b => by unfold DeedOk at q; omega)).symm.trans HBB.out
    refine (l00In_val b 0 999 false _ (by simp; omega)).mono ?_
    rintro e w' ⟨rfl, rfl⟩
    go_wp2_with fail
    go_ret
    exact ⟨rfl, HB.out⟩
  refine (l00In_val b 0 999 true _ (by simp; omega)).mono ?_
  rintro e w' ⟨rfl, rfl⟩
  go_wp2_with fail
  generalize w.alloc (.cells #[.int .i64 k, .int .i64 a, .int .i64 b] 48) = w2 at *
  refine (l08Words_any w2).mono ?_
  rintro e w3 ⟨⟨q1, q2, rfl, hc⟩, hb3⟩
  obtain ⟨x0, x1, x2⟩ := (HX.out.step hb3).d3
  have xl := (HX.out.step hb3).lt
  replace HB := Lib.hid (HB.out.trans (hb3.mono HB.out.size))
  clear hb3 HX
  obtain ⟨kn, rfl⟩ : ∃ kn : Nat, k = kn := ⟨k.toNat, by omega⟩
  have hk10 : kn < 10 := by omega
  have hk10i : (kn : Int) < 10 := by omega
  obtain ⟨z, hz, hn⟩ := numsOf_at hk10
  obtain ⟨-, d⟩ := hc kn z hz
  obtain ⟨nm, hnm⟩ : ∃ nm, z.2 = nm := ⟨_, rfl⟩
  rw [hnm] at d hn
  have HN := Lib.hid hn
  have gl := World.block_lt_of_cell? _ _ d
  simp only at gl
  clear hn hnm hz hc
  by_cases n0 : 0 < nm
  · by_cases n1 : 1 < nm
    · obtain rfl : true = B := (tell_true (show DeedOk kn _ _ by unfold DeedOk; rw [HN.out]; omega)).symm.trans HBB.out
      go_wp2_with fail
      go_ret
      exact ⟨rfl, HB.out⟩
    · by_cases b0 : b = 0
      · subst b0
        obtain rfl : true = B := (tell_true (show DeedOk kn _ _ by unfold DeedOk; rw [HN.out]; omega)).symm.trans HBB.out
        go_wp2_with fail
        go_ret
        exact ⟨rfl, HB.out⟩
      · have bb : (b == 0) = false := by simpa using b0
        obtain rfl : false = B := (tell_false (fun q : DeedOk kn _ _ => by unfold DeedOk at q; rw [HN.out] at q; omega)).symm.trans HBB.out
        go_wp2_with fail
        simp only [show decide (1 < nm) = false from decide_eq_false (by omega)]
        go_ret
        exact ⟨rfl, HB.out⟩
  · have n1 : ¬ 1 < nm := by omega
    by_cases a0 : a = 0
    · subst a0
      by_cases b0 : b = 0
      · subst b0
        obtain rfl : true = B := (tell_true (show DeedOk kn _ _ by unfold DeedOk; rw [HN.out]; omega)).symm.trans HBB.out
        go_wp2_with fail
        go_ret
        exact ⟨rfl, HB.out⟩
      · have bb : (b == 0) = false := by simpa using b0
        obtain rfl : false = B := (tell_false (fun q : DeedOk kn _ _ => by unfold DeedOk at q; rw [HN.out] at q; omega)).symm.trans HBB.out
        go_wp2_with fail
        simp only [show decide (1 < nm) = false from decide_eq_false (by omega)]
        go_ret
        exact ⟨rfl, HB.out⟩
    · have ab : (a == 0) = false := by simpa using a0
      obtain rfl : false = B := (tell_false (fun q : DeedOk kn _ _ => by unfold DeedOk at q; rw [HN.out] at q; omega)).symm.trans HBB.out
      go_wp2_with fail
      go_ret
      exact ⟨rfl, HB.out⟩

set_option maxRecDepth 100000 in
theorem specVd_any (k a b : Int) (w : World) : Calls Tryd.prog 28 #[.agg #[.int .i64 k, .int .i64 a, .int .i64 b]] w fun e w' => e = .returned (.bool (tell (DeedOk k a b))) ∧ Below w.heap.size w w' := by
  have HB := Lib.hid (bx_b w (.cells #[.int .i64 k, .int .i64 a, .int .i64 b] 48))
  go_enter Tryd.func28, Tryd.ntmps28
  go_wp2_with fail
  refine (l08Deed_any k a b _).mono ?_
  rintro e w3 ⟨rfl, hb3⟩
  have HB3 := Lib.hid (HB.out.trans (hb3.mono HB.out.size))
  clear hb3
  go_wp2_with fail
  go_ret
  exact ⟨rfl, HB3.out⟩
end Go.Proofs.YthmjcmhaijiedaaDoor

namespace Go.Proofs.YthmjcmhaijiedaaDoor
open Go.RowKit Go.Deep
set_option linter.unusedVariables false

/-- The word of a kind of deeds. -/
def wordOf (k : Int) : List UInt8 := (formsD.getD k.toNat ([], 0)).1
/-- The numbers that a deed's text mentions. -/
def numsL (k a b : Int) : List Int := [a, b].take (numsOf k).toNat
/-- A deed's text. -/
noncomputable def deedT (k a b : Int) : ByteArray := if tell (DeedOk k a b) = true then ⟨(wordOf k ++ numText (numsL k a b)).toArray⟩ else ⟨#[]⟩
theorem form_at {kn : Nat} (h : kn < 10) : ∃ z, formsD[kn]? = some z ∧ numsOf kn = z.2 ∧ wordOf kn = z.1 ∧ z.1.length ≤ 7 ∧ (z.2 = 0 ∨ z.2 = 1 ∨ z.2 = 2) := by
  have hc : kn = 0 ∨ kn = 1 ∨ kn = 2 ∨ kn = 3 ∨ kn = 4 ∨ kn = 5 ∨ kn = 6 ∨ kn = 7 ∨ kn = 8 ∨ kn = 9 := by omega
  rcases hc with rfl | rfl | rfl | rfl | rfl | rfl | rfl | rfl | rfl | rfl <;> exact ⟨_, rfl, rfl, rfl, by decide, by decide⟩
theorem two_boxes (w : World) (vs us : Array Value) (t s : TypeId) : Boxes ((w.alloc (.cells vs t)).alloc (.cells us s)).drew w.heap.size t vs ∧ Boxes ((w.alloc (.cells vs t)).alloc (.cells us s)).drew (w.heap.size + 1) s us ∧ Below w.heap.size w ((w.alloc (.cells vs t)).alloc (.cells us s)).drew := by
  refine ⟨((boxes_of w vs t).step (bx_b _ _)).step (drew_step _), ?_, ((bx_b w _).trans ((bx_b (w.alloc (.cells vs t)) _).mono (by simp))).drew⟩
  have := (boxes_of (w.alloc (.cells vs t)) us s).step (drew_step _)
  simp only [World.size_alloc] at this
  exact this
theorem trim_nl (x : List UInt8) : Lib.trimSuffix (x ++ [10]) [10] = x := by
  unfold Lib.trimSuffix
  rw [if_pos (by simp [Lib.hasSuffix])]
  simp

set_option maxRecDepth 100000 in
set_option maxHeartbeats 2000000 in
theorem implDt_any (k a b : Int) (w : World) (gf : Forms w) (gp : PowTab w) : Calls Tryd.prog 32 #[.agg #[.int .i64 k, .int .i64 a, .int .i64 b]] w fun e w' => e = .returned (.string (deedT k a b)) ∧ Below w.heap.size w w' := by
  have HB := Lib.hid (bx_b w (.cells #[.int .i64 k, .int .i64 a, .int .i64 b] 48))
  have HX := Lib.hid (boxes_of w #[.int .i64 k, .int .i64 a, .int .i64 b] 48)
  have HF := Lib.hid (gf.step HB.out)
  have HP := Lib.hid (gp.step HB.out)
  clear gf gp
  go_enter Tryd.func32, Tryd.ntmps32
  go_wp2_with fail
  generalize w.alloc (.cells #[.int .i64 k, .int .i64 a, .int .i64 b] 48) = w1 at *
  refine (implVd_any k a b w1 HF.out).mono ?_
  by_cases hm : DeedOk k a b
  case neg =>
    rw [tell_false hm]
    have HV := Lib.hid (show deedT k a b = ⟨#[]⟩ by unfold deedT; rw [tell_false hm]; rfl)
    clear hm
    rintro e w2 ⟨rfl, hb⟩
    have HB2 := Lib.hid (HB.out.trans (hb.mono HB.out.size))
    clear hb
    go_wp2_with fail
    go_ret
    exact ⟨by rw [HV.out]; rfl, HB2.out⟩
  rw [tell_true hm]
  rintro e w2 ⟨rfl, hb⟩
  have HB2 := Lib.hid (HB.out.trans (hb.mono HB.out.size))
  have HX2 := Lib.hid (HX.out.step hb)
  have HF2 := Lib.hid (HF.out.step hb)
  have HP2 := Lib.hid (HP.out.step hb)
  clear hb HB HX HF HP
  obtain ⟨kn, rfl⟩ : ∃ kn : Nat, k = kn := ⟨k.toNat, by have := hm.1; omega⟩
  have hk10 : kn < 10 := by have := hm.1; omega
  have hk10i : (kn : Int) < 10 := by omega
  obtain ⟨z, hz, hn, hwd, hl7, hn3⟩ := form_at hk10
  obtain ⟨d0, d1⟩ := HF2.out kn z hz
  have HV := Lib.hid (show deedT kn a b = ⟨(z.1 ++ numText ([a, b].take z.2.toNat)).toArray⟩ by unfold deedT numsL; rw [tell_true hm, if_pos rfl, hwd, hn])
  have HDA := Lib.hid (show (0 ≤ a ∧ a ≤ 999) ∧ (0 ≤ b ∧ b ≤ 999) from ⟨hm.2.1, hm.2.2.1⟩)
  obtain ⟨x0, x1, x2⟩ := HX2.out.d3
  have xl := HX2.out.lt
  have gl := World.block_lt_of_cell? _ _ d0
  simp only at gl
  have HS := Lib.hid (show (⟨z.1.toArray⟩ : ByteArray).size ≤ 7 from hl7)
  obtain ⟨nm, hnm⟩ : ∃ nm, z.2 = nm := ⟨_, rfl⟩
  obtain ⟨wd, hwdd⟩ : ∃ wd : ByteArray, (⟨z.1.toArray⟩ : ByteArray) = wd := ⟨_, rfl⟩
  rw [hnm] at d1 HV hn3
  have HW := Lib.hid (show wd.data.toList = z.1 by rw [← hwdd])
  rw [hwdd] at d0 HS
  clear hm hz hn hwd hl7 hnm hwdd
  go_wp2_with fail
  go_cut [3, 4] from 8 to 16 (fun s3 s4 wr => ∃ q3 q4 : Nat, s3 = .pointer (some ⟨q3, 0, none⟩) ∧ s4 = .slice (some ⟨q4, 0, none⟩) 2 2 ∧ Boxes wr q3 106 #[.string wd, .int .i64 nm] ∧ Boxes wr q4 2 #[.int .i64 a, .int .i64 b] ∧ Below w2.heap.size w2 wr)
  case first =>
    go_region
    all_goals (
      go_wp2_with fail
      go_meet
      first
        | (obtain ⟨h1, h2, h3⟩ := two_boxes w2 #[.int .i64 a, .int .i64 b] #[.string wd, .int .i64 nm] 2 106
           exact ⟨w2.heap.size + 1, w2.heap.size, rfl, rfl, h2, h1, h3⟩)
        | (obtain ⟨h1, h2, h3⟩ := two_boxes w2 #[.string wd, .int .i64 nm] #[.int .i64 a, .int .i64 b] 106 2
           exact ⟨w2.heap.size, w2.heap.size + 1, rfl, rfl, h1, h2, h3⟩))
  case rest =>
  obtain ⟨q3, q4, rfl, rfl, h3, h4, hb⟩ := hcut
  obtain ⟨w3, hw3⟩ : ∃ W : World, W = wc := ⟨_, rfl⟩
  subst hw3
  have HB3 := Lib.hid (HB2.out.trans (hb.mono HB2.out.size))
  have HP3 := Lib.hid (HP2.out.step hb)
  have y0 : w3.cell? ⟨q3, 0, none⟩ = some (.string wd) := by rw [h3.cell]; rfl
  have y1 : w3.cell? ⟨q3, 1, none⟩ = some (.int .i64 nm) := by rw [h3.cell]; rfl
  have yl := h3.lt
  have a0 : w3.cell? ⟨q4, 0, none⟩ = some (.int .i64 a) := by rw [h4.cell]; rfl
  have a1 : w3.cell? ⟨q4, 1, none⟩ = some (.int .i64 b) := by rw [h4.cell]; rfl
  have HI := Lib.hid (show ∀ n, n ≤ 2 → Ints w3 (some ⟨q4, 0, none⟩) ([a, b].take n) from fun n hn => .inr ⟨q4, 0, rfl, fun i hi => by
    have hl : ([a, b].take n).length ≤ 2 := by simp; omega
    have hc : i = 0 ∨ i = 1 := by omega
    have hin : i < n := by simp at hi; omega
    have e : nth ([a, b].take n) i = nth [a, b] i := by rw [nth_lt hi, nth_lt (by simp; omega)]; simp
    rw [e]
    rcases hc with rfl | rfl
    · exact a0
    · exact a1⟩)
  have HDG := Lib.hid (show ∀ n, Digs ([a, b].take n) from fun n i hi => by
    have hl : ([a, b].take n).length ≤ 2 := by simp; omega
    have e : nth ([a, b].take n) i = nth [a, b] i := by rw [nth_lt hi, nth_lt (by simp at hi ⊢; omega)]; simp
    rw [e]
    have hc : i = 0 ∨ i = 1 := by omega
    have := HDA.out
    rcases hc with rfl | rfl
    · show 0 ≤ a ∧ a < 1000000000000; omega
    · show 0 ≤ b ∧ b < 1000000000000; omega)
  have HTR := Lib.hid (show ∀ n, Lib.trimSuffix (lineL wd.data.toList ([a, b].take n)) [10] = z.1 ++ numText ([a, b].take n) from fun n => by unfold lineL; rw [trim_nl, HW.out])
  have HSZ := Lib.hid (show ∀ n, (lineL wd.data.toList ([a, b].take n)).length ≤ 9223372036854775807 from fun n => by
    have h1 := lineL_len wd.data.toList ([a, b].take n) (HDG.out n)
    have h2 : ([a, b].take n).length ≤ 2 := by simp; omega
    have h3 : wd.data.toList.length ≤ 7 := HS.out
    omega)
  clear h3 h4 hb a0 a1 HB2 HP2 HF2 HX2 x0 x1 x2 xl d0 d1 gl HDA
  rcases hn3 with rfl | rfl | rfl
  · go_wp2_with fail
    go_region_law (first
      | (go_simp; go_at_call 70; refine (lineOf_any wd (some ⟨q4, 0, none⟩) ([a, b].take 0) 2 _ (by first | exact HI.out 0 (by omega) | exact (HI.out 0 (by omega)).below (Below.refl _ _).drew (Nat.le_refl _)) (HDG.out 0) (by simp) (Nat.le_trans HS.out (by omega)) (by first | exact HP3.out | exact HP3.out.step (drew_step _))).mono ?_; rintro e w4 ⟨rfl, hb4⟩; have HB4 := Lib.hid (show Below w3.heap.size w3 w4 by first | exact hb4 | exact (drew_step w3).trans hb4))
      | (go_simp; go_at_call 69; refine (Tryd.strings_TrimSuffix (⟨(lineL wd.data.toList ([a, b].take 0)).toArray⟩ : ByteArray) ⟨#[10]⟩ _ (HSZ.out 0)).mono ?_; rintro e w5 ⟨rfl, rfl⟩))
    all_goals (
      go_wp2_with fail
      go_ret
      exact ⟨by rw [HV.out]; exact congrArg (fun l : List UInt8 => Ending.returned (.string ⟨l.toArray⟩)) (HTR.out 0), by first | exact HB3.out.trans (HB4.out.mono HB3.out.size) | exact (HB3.out.trans (HB4.out.mono HB3.out.size)).drew⟩)
  · go_wp2_with fail
    go_region_law (first
      | (go_simp; go_at_call 70; refine (lineOf_any wd (some ⟨q4, 0, none⟩) ([a, b].take 1) 2 _ (by first | exact HI.out 1 (by omega) | exact (HI.out 1 (by omega)).below (Below.refl _ _).drew (Nat.le_refl _)) (HDG.out 1) (by simp) (Nat.le_trans HS.out (by omega)) (by first | exact HP3.out | exact HP3.out.step (drew_step _))).mono ?_; rintro e w4 ⟨rfl, hb4⟩; have HB4 := Lib.hid (show Below w3.heap.size w3 w4 by first | exact hb4 | exact (drew_step w3).trans hb4))
      | (go_simp; go_at_call 69; refine (Tryd.strings_TrimSuffix (⟨(lineL wd.data.toList ([a, b].take 1)).toArray⟩ : ByteArray) ⟨#[10]⟩ _ (HSZ.out 1)).mono ?_; rintro e w5 ⟨rfl, rfl⟩))
    all_goals (
      go_wp2_with fail
      go_ret
      exact ⟨by rw [HV.out]; exact congrArg (fun l : List UInt8 => Ending.returned (.string ⟨l.toArray⟩)) (HTR.out 1), by first | exact HB3.out.trans (HB4.out.mono HB3.out.size) | exact (HB3.out.trans (HB4.out.mono HB3.out.size)).drew⟩)
  · go_wp2_with fail
    go_region_law (first
      | (go_simp; go_at_call 70; refine (lineOf_any wd (some ⟨q4, 0, none⟩) ([a, b].take 2) 2 _ (by first | exact HI.out 2 (by omega) | exact (HI.out 2 (by omega)).below (Below.refl _ _).drew (Nat.le_refl _)) (HDG.out 2) (by simp) (Nat.le_trans HS.out (by omega)) (by first | exact HP3.out | exact HP3.out.step (drew_step _))).mono ?_; rintro e w4 ⟨rfl, hb4⟩; have HB4 := Lib.hid (show Below w3.heap.size w3 w4 by first | exact hb4 | exact (drew_step w3).trans hb4))
      | (go_simp; go_at_call 69; refine (Tryd.strings_TrimSuffix (⟨(lineL wd.data.toList ([a, b].take 2)).toArray⟩ : ByteArray) ⟨#[10]⟩ _ (HSZ.out 2)).mono ?_; rintro e w5 ⟨rfl, rfl⟩))
    all_goals (
      go_wp2_with fail
      go_ret
      exact ⟨by rw [HV.out]; exact congrArg (fun l : List UInt8 => Ending.returned (.string ⟨l.toArray⟩)) (HTR.out 2), by first | exact HB3.out.trans (HB4.out.mono HB3.out.size) | exact (HB3.out.trans (HB4.out.mono HB3.out.size)).drew⟩)
theorem ba_ext {x : ByteArray} {l : List UInt8} (h : x.data.toList = l) : x = ⟨l.toArray⟩ := by
  apply ByteArray.ext
  apply Array.toList_inj.1
  rw [h]
theorem ba_app (x y : ByteArray) : (x ++ y).data.toList = x.data.toList ++ y.data.toList := by simp [ByteArray.data_append]

set_option maxRecDepth 100000 in
set_option maxHeartbeats 2000000 in
theorem specDt_any (k a b : Int) (w : World) : Calls Tryd.prog 31 #[.agg #[.int .i64 k, .int .i64 a, .int .i64 b]] w fun e w' => e = .returned (.string (deedT k a b)) ∧ Below w.heap.size w w' := by
  have HB := Lib.hid (bx_b w (.cells #[.int .i64 k, .int .i64 a, .int .i64 b] 48))
  have HX := Lib.hid (boxes_of w #[.int .i64 k, .int .i64 a, .int .i64 b] 48)
  go_enter Tryd.func31, Tryd.ntmps31
  go_wp2_with fail
  generalize w.alloc (.cells #[.int .i64 k, .int .i64 a, .int .i64 b] 48) = w1 at *
  refine (l08Deed_any k a b w1).mono ?_
  by_cases hm : DeedOk k a b
  case neg =>
    rw [tell_false hm]
    have HV := Lib.hid (show deedT k a b = ⟨#[]⟩ by unfold deedT; rw [tell_false hm]; rfl)
    clear hm
    rintro e w2 ⟨rfl, hb⟩
    have HB2 := Lib.hid (HB.out.trans (hb.mono HB.out.size))
    clear hb
    go_wp2_with fail
    go_ret
    exact ⟨by rw [HV.out]; rfl, HB2.out⟩
  rw [tell_true hm]
  rintro e w2 ⟨rfl, hb⟩
  replace HB := Lib.hid (HB.out.trans (hb.mono HB.out.size))
  replace HX := Lib.hid (HX.out.step hb)
  clear hb
  go_wp2_with fail
  refine (l08Words_any w2).mono ?_
  rintro e w3 ⟨⟨q1, q2, rfl, hc⟩, hb⟩
  replace HB := Lib.hid (HB.out.trans (hb.mono HB.out.size))
  replace HX := Lib.hid (HX.out.step hb)
  clear hb
  obtain ⟨kn, rfl⟩ : ∃ kn : Nat, k = kn := ⟨k.toNat, by have := hm.1; omega⟩
  have hk10 : kn < 10 := by have := hm.1; omega
  have hk10i : (kn : Int) < 10 := by omega
  obtain ⟨z, hz, hn, hwd, hl7, hn3⟩ := form_at hk10
  obtain ⟨d0, d1⟩ := hc kn z hz
  have HV := Lib.hid (show deedT kn a b = ⟨(z.1 ++ numText ([a, b].take z.2.toNat)).toArray⟩ by unfold deedT numsL; rw [tell_true hm, if_pos rfl, hwd, hn])
  have HDG := Lib.hid (show (0 ≤ a ∧ a ≤ 999) ∧ (0 ≤ b ∧ b ≤ 999) from ⟨hm.2.1, hm.2.2.1⟩)
  obtain ⟨x0, x1, x2⟩ := HX.out.d3
  have xl := HX.out.lt
  have gl := World.block_lt_of_cell? _ _ d0
  have gl2 := World.block_lt_of_cell? _ _ d1
  simp only at gl gl2
  obtain ⟨nm, hnm⟩ : ∃ nm, z.2 = nm := ⟨_, rfl⟩
  obtain ⟨wd, hwdd⟩ : ∃ wd : ByteArray, (⟨z.1.toArray⟩ : ByteArray) = wd := ⟨_, rfl⟩
  rw [hnm] at d1 HV hn3
  have HW := Lib.hid (show wd.data.toList = z.1 by rw [← hwdd])
  have hws : wd.size ≤ 7 := by rw [← hwdd]; exact hl7
  rw [hwdd] at d0
  clear hm hz hn hwd hl7 hnm hwdd hc HX
  rcases hn3 with rfl | rfl | rfl
  · go_wp2_with fail
    go_ret
    exact ⟨by rw [HV.out]; exact congrArg (fun x : ByteArray => Ending.returned (.string x)) (ba_ext (by rw [HW.out]; simp [numText])), HB.out⟩
  · go_wp2_with fail
    refine (decimalM_any a (by have := HDG.out; omega) (by have := HDG.out; omega) _).mono ?_
    have hsa := digs_size (n := a.toNat) (by have := HDG.out; omega)
    obtain ⟨da, hda⟩ : ∃ d : ByteArray, (⟨(Lib.decDigits a.toNat).toArray⟩ : ByteArray) = d := ⟨_, rfl⟩
    rw [hda]
    rw [hda] at hsa
    have HDa := Lib.hid (show da.data.toList = Lib.decDigits a.toNat by rw [← hda])
    clear hda
    rintro e w4 ⟨rfl, hb⟩
    replace HB := Lib.hid (HB.out.trans (hb.mono HB.out.size))
    replace x0 := cell_step hb x0
    replace x1 := cell_step hb x1
    replace x2 := cell_step hb x2
    replace d1 := cell_step hb d1
    replace xl := Nat.lt_of_lt_of_le xl hb.size
    replace gl2 := Nat.lt_of_lt_of_le gl2 hb.size
    clear hb
    go_wp2_with fail
    go_ret
    exact ⟨by rw [HV.out]; exact congrArg (fun x : ByteArray => Ending.returned (.string x)) (ba_ext (by rw [ba_app, ba_app, HW.out, HDa.out]; simp [numText])), HB.out⟩
  · go_wp2_with fail
    refine (decimalM_any a (by have := HDG.out; omega) (by have := HDG.out; omega) _).mono ?_
    have hsa := digs_size (n := a.toNat) (by have := HDG.out; omega)
    obtain ⟨da, hda⟩ : ∃ d : ByteArray, (⟨(Lib.decDigits a.toNat).toArray⟩ : ByteArray) = d := ⟨_, rfl⟩
    rw [hda]
    rw [hda] at hsa
    have HDa := Lib.hid (show da.data.toList = Lib.decDigits a.toNat by rw [← hda])
    clear hda
    rintro e w4 ⟨rfl, hb⟩
    replace HB := Lib.hid (HB.out.trans (hb.mono HB.out.size))
    replace x0 := cell_step hb x0
    replace x1 := cell_step hb x1
    replace x2 := cell_step hb x2
    replace d1 := cell_step hb d1
    replace xl := Nat.lt_of_lt_of_le xl hb.size
    replace gl2 := Nat.lt_of_lt_of_le gl2 hb.size
    clear hb
    go_wp2_with fail
    refine (decimalM_any b (by have := HDG.out; omega) (by have := HDG.out; omega) _).mono ?_
    have hsb := digs_size (n := b.toNat) (by have := HDG.out; omega)
    obtain ⟨db, hdb⟩ : ∃ d : ByteArray, (⟨(Lib.decDigits b.toNat).toArray⟩ : ByteArray) = d := ⟨_, rfl⟩
    rw [hdb]
    rw [hdb] at hsb
    have HDb := Lib.hid (show db.data.toList = Lib.decDigits b.toNat by rw [← hdb])
    clear hdb
    rintro e w5 ⟨rfl, hb⟩
    replace HB := Lib.hid (HB.out.trans (hb.mono HB.out.size))
    clear hb
    go_wp2_with fail
    go_ret
    exact ⟨by rw [HV.out]; exact congrArg (fun x : ByteArray => Ending.returned (.string x)) (ba_ext (by rw [ba_app, ba_app, ba_app, ba_app, HW.out, HDa.out, HDb.out]; simp [numText])), HB.out⟩
end Go.Proofs.YthmjcmhaijiedaaDoor

namespace Go.Proofs.YthmjcmhaijiedaaDoor
open Go.ChangeShapes Go.WideShapes Go.ChangeAt Go.RowKit Go.Deep Go.Joins
set_option linter.unusedVariables false

theorem trodVars_1 {H : Type} {enc : TypeId × Value → H} {P : Program} {w : World} {spare : Nat → Bool} {n0 : String} {gs : List (DataW H)} {ps : List MemPlace} (h : DataW.TrodVars enc P w spare [n0] gs ps) : ∃ d0, gs = [d0] := by
  cases gs with
  | nil => simp [DataW.TrodVars] at h
  | cons d ds =>
    obtain ⟨g0, t0, cs0, f0, p0, q0, h1, h2, h3, h4, hs, e⟩ := h
    cases ds with
    | nil => exact ⟨d, rfl⟩
    | cons d2 ds2 => simp [DataW.TrodVars] at hs
section
variable {H : Type} {enc : TypeId × Value → H} {w : World} {base : Nat} {held : Bool}
set_option maxRecDepth 100000 in
/-- A DEED BY VALUE, OPENED. -/
theorem open_deed {r : Reach} {b0 : Nat} {v : Value} {d : DataW H} {p : List MemPlace} (hv : Value.okWide Tryd.prog w r b0 46 v) (h : DataW.Trod enc Tryd.prog w base (fun _ => true) held 46 v d p) :
    ∃ (hh kk ll : Int), v = .agg #[.int .i64 hh, .int .i64 kk, .int .i64 ll] ∧ (Lit.int .i64 hh).wf = true ∧ (Lit.int .i64 kk).wf = true ∧ (Lit.int .i64 ll).wf = true := by
  obtain ⟨c0, c1, c2, y0, y1, y2, m, rfl, _, _, hy0, hy1, hy2⟩ := open_agg3 Tryd.underlying46 (by kernel_rfl) (by kernel_rfl) hv h
  obtain ⟨hh, e0, _, wh⟩ := DataW.trod_int Tryd.underlying2 hy0
  obtain ⟨kk, e1, _, wk⟩ := DataW.trod_int Tryd.underlying2 hy1
  obtain ⟨ll, e2, _, wl⟩ := DataW.trod_int Tryd.underlying2 hy2
  simp at e0 e1 e2
  subst e0 e1 e2
  exact ⟨hh, kk, ll, rfl, wh, wk, wl⟩
end

set_option maxRecDepth 100000 in
set_option maxHeartbeats 1000000 in
theorem toDeed_any (k a b : Int) (w : World) : Calls Tryd.prog 29 #[.agg #[.int .i64 k, .int .i64 a, .int .i64 b]] w fun e w' => e = .returned (.agg #[.int .i64 k, .int .i64 a, .int .i64 b]) ∧ Below w.heap.size w w' := by
  go_enter Tryd.func29, Tryd.ntmps29
  go_wp2_with fail
  refine bodyPost_ret (v := .agg #[.int .i64 k, .int .i64 a, .int .i64 b]) (by simp [results, Tryd.results29, go_sem]) rfl ⟨rfl, ?_⟩
  go_grown


theorem formsT_of {W : World} (h : laidMetH Tryd.prog Rows.fnExactDeedTextRow.laid W) : Forms W := by
  have h1 := (laidMetH_iff.1 h).1
  have h1 := h1.filter (fun x => x.1 == "loop.example/g01117/impl.deedForms")
  have e : ((Rows.fnExactDeedTextRow.laid.filter fun x => x.2.handleName?.isNone).filter fun x => x.1 == "loop.example/g01117/impl.deedForms") = [("loop.example/g01117/impl.deedForms", .agg (formsD.map fun z => .agg [.lit (.string z.1), .lit (.int .i64 z.2)]))] := by kernel_rfl
  rw [e] at h1
  obtain ⟨ps, ⟨g', t', cs, fuel, p, q, hg', ht', hvar, hd, _, _⟩, _⟩ := h1
  have hg : Tryd.prog.globalNamed "loop.example/g01117/impl.deedForms" = some 0 := by kernel_rfl
  have hty : (Tryd.prog.globals[0]?).map (·.type) = some 107 := by kernel_rfl
  obtain rfl := Option.some.inj (hg.symm.trans hg')
  obtain rfl := Option.some.inj (hty.symm.trans ht')
  intro i z hz
  obtain ⟨c0, c1⟩ := cells_of_pairs (n := 10) (e := 106) Tryd.underlying107 Tryd.underlying106 (by kernel_rfl) (by kernel_rfl) (by kernel_rfl) (by kernel_rfl) (by kernel_rfl) (by kernel_rfl) (by kernel_rfl) hd i z hz
  exact ⟨by rw [World.var?_cell hg hvar]; simpa using c0, by rw [World.var?_cell hg hvar]; simpa using c1⟩
theorem powT_of {W : World} (h : laidMetH Tryd.prog Rows.fnExactDeedTextRow.laid W) : PowTab W := by
  have h1 := (laidMetH_iff.1 h).1
  have h2 := h1.filter (fun x => x.1 == "internal/strconv.uint64pow10")
  have e : ((Rows.fnExactDeedTextRow.laid.filter fun x => x.2.handleName?.isNone).filter fun x => x.1 == "internal/strconv.uint64pow10") = [("internal/strconv.uint64pow10", Lib.tabData .u64 Lib.pow10Tab)] := by kernel_rfl
  rw [e] at h2
  exact Lib.tabIs_of_head (g := 2) (t := 232) (e := 91) (n := 20) (by kernel_rfl) (by kernel_rfl) (by kernel_rfl) (by kernel_rfl) (by kernel_rfl) (by kernel_rfl) h2
end Go.Proofs.YthmjcmhaijiedaaDoor

namespace Go.Proofs.YthmjcmhaijiedaaDoor
open Go.ChangeShapes Go.WideShapes Go.ChangeAt Go.RowKit Go.Deep
set_option linter.unusedVariables false
namespace Dtx

set_option maxRecDepth 100000 in
set_option maxHeartbeats 1000000 in
theorem law (k0 a0 b0 : Int) (w : World) (wfk : (Lit.int .i64 k0).wf = true) (wfa : (Lit.int .i64 a0).wf = true) (wfb : (Lit.int .i64 b0).wf = true) (gl : Forms w ∧ PowTab w) :
    Calls Tryd.prog 6 #[.agg #[.int .i64 k0, .int .i64 a0, .int .i64 b0]] w fun e w' => e = .returned (.bool true) ∧ Below w.heap.size w w' := by
  have HB := Lib.hid (bx_b w (.cells #[.int .i64 k0, .int .i64 a0, .int .i64 b0] 46))
  have HX := Lib.hid (boxes_of w #[.int .i64 k0, .int .i64 a0, .int .i64 b0] 46)
  have HF := Lib.hid (gl.1.step HB.out)
  have HP := Lib.hid (gl.2.step HB.out)
  clear gl
  go_enter Tryd.func6, Tryd.ntmps6
  go_wp2_with fail
  generalize w.alloc (.cells #[.int .i64 k0, .int .i64 a0, .int .i64 b0] 46) = w1 at *
  refine (toDeed_any k0 a0 b0 _).mono ?_
  rintro e w2 ⟨rfl, hb⟩
  replace HX := Lib.hid (HX.out.step hb)
  replace HF := Lib.hid (HF.out.step hb)
  replace HP := Lib.hid (HP.out.step hb)
  replace HB := Lib.hid (HB.out.trans (hb.mono HB.out.size))
  clear hb
  go_wp2_with fail
  refine (specDt_any k0 a0 b0 _).mono ?_
  obtain ⟨B, hB⟩ : ∃ B, deedT k0 a0 b0 = B := ⟨_, rfl⟩
  rw [hB]
  have HBB := Lib.hid hB
  clear hB
  rintro e w3 ⟨rfl, hb⟩
  replace HX := Lib.hid (HX.out.step hb)
  replace HF := Lib.hid (HF.out.step hb)
  replace HP := Lib.hid (HP.out.step hb)
  replace HB := Lib.hid (HB.out.trans (hb.mono HB.out.size))
  clear hb
  obtain ⟨x0, x1, x2⟩ := HX.out.d3
  have xl := HX.out.lt
  go_wp2_with fail
  refine (toDeed_any k0 a0 b0 _).mono ?_
  rintro e w4 ⟨rfl, hb⟩
  replace HF := Lib.hid (HF.out.step hb)
  replace HP := Lib.hid (HP.out.step hb)
  replace HB := Lib.hid (HB.out.trans (hb.mono HB.out.size))
  clear hb x0 x1 x2 xl HX
  go_wp2_with fail
  refine (implDt_any k0 a0 b0 _ HF.out HP.out).mono ?_
  rw [HBB.out]
  rintro e w5 ⟨rfl, hb⟩
  replace HB := Lib.hid (HB.out.trans (hb.mono HB.out.size))
  clear hb
  go_wp2_with fail
  go_ret
  exact ⟨rfl, HB.out⟩

theorem door_met (os : Os) (args : Array Value) : laidMetH Tryd.prog Rows.fnExactDeedTextRow.laid ((World.doorLaid Tryd.prog 62 os).forCall (fun _ _ => 0) ⟨#[], args, []⟩).memory :=
  laidMetH_of_parts3 (fuel := 8) (laidMet_of_run' 8 (by kernel_rfl) (by kernel_rfl)) (by kernel_rfl) (by kernel_rfl)

set_option maxRecDepth 100000 in
set_option maxHeartbeats 100000000 in
theorem lifted (os : Os) (started : os.Started) (H : Type) (enc : TypeId × Value → H) :
    ReturnsInHanded {} Tryd.checked os 6 .any (fun w args => (Rows.fnExactDeedTextSpec.pre enc Tryd.prog Tryd.f6 [] false w args ∧ laidMetH Tryd.prog Rows.fnExactDeedTextRow.laid w) ∧ sizedMet enc Tryd.prog Tryd.f6 (OpenSpec.ofChange Rows.fnExactDeedTextSpec) false w args)
      (Rows.fnExactDeedTextSpec.post enc Tryd.prog Tryd.f6 false true false false) := by
  refine returnsInHanded_of_change_and (C := Tryd.checked) (X := fun w _ => laidMetH Tryd.prog Rows.fnExactDeedTextRow.laid w) (fun _ _ _ hh h => h.of_heap hh) CardP.own started (by kernel_rfl) Tryd.func6
    (ChangeSpec.witness_shaped (enc := enc) (C := Tryd.checked) (os := os) (X := fun w _ => laidMetH Tryd.prog Rows.fnExactDeedTextRow.laid w) false (World.doorLaid Tryd.prog 62 os) #[.agg #[.int .i64 0, .int .i64 0, .int .i64 0]] 8 rfl (World.shaped_of_RefB (by kernel_rfl) (by kernel_rfl)) (by kernel_rfl) (by kernel_rfl) (by kernel_rfl) (door_met os _)) ?_
  intro W base args ds gs before hval0 hW _ _ hL _
  have hval : ∀ (j : Nat) t v, Tryd.f6.params[j]? = some t → args[j]? = some v → Value.okWide Tryd.prog W .any base t v := hval0
  have hW' := hW
  obtain ⟨p, q, hA0, hV, rfl, hfz, hnd⟩ := hW
  have hA : DataW.TrodAll enc Tryd.prog W 0 (fun _ => true) true Tryd.f6.params.toList args.toList ds p := hA0
  rw [Tryd.params6] at hA hval
  obtain ⟨v0, vs0, d0, ds0, p0, q0, hargs, rfl, rfl, h0, r0⟩ := trodAll_cons hA
  obtain ⟨rfl, rfl, rfl⟩ := trodAll_nil r0
  obtain rfl : args = #[v0] := by cases args; simp_all
  obtain ⟨g1, rfl⟩ := trodVars_1 hV
  have k0 := h0
  have lt0 : ∀ x ∈ p0, x.block < W.heap.size := by obtain ⟨m, hm⟩ := k0; exact DataW.trod_lt m _ _ _ hm
  obtain ⟨hh0, kk0, ll0, rfl, wf0, wg0, wh0⟩ := open_deed (hval 0 46 v0 rfl rfl) h0
  clear hA0 hval0
  refine (law hh0 kk0 ll0 W wf0 wg0 wh0 ⟨formsT_of hL, powT_of hL⟩).mono fun e W' ⟨he, bel⟩ => ?_
  subst he
  exact ⟨_, rfl, _, _, _, [], _, _, hW', trodAll_mk1 (shut_bool Tryd.underlying4 _), (trodAll_cons_mk (Below.trod CardP.laidOut (by kernel_rfl) (of_decide_eq_true (by kernel_rfl)) k0 bel lt0) trodAll_mk0), Below.trodVars CardP.laidOut bel (by kernel_rfl) hV, bel.frame _, fun h => by cases h⟩


end Dtx
end Go.Proofs.YthmjcmhaijiedaaDoor

namespace Go.Proofs.YthmjcmhaijiedaaDoor
open Go.ChangeShapes Go.WideShapes Go.ChangeAt Go.RowKit Go.Deep
set_option linter.unusedVariables false
namespace Dtx

theorem over : Rows.fnExactDeedTextRow.holds Tryd.pinned (OpenSpec.ofChange Rows.fnExactDeedTextSpec) :=
  OpenClaim.holds_of_wide 6 Tryd.f6 rfl rfl rfl rfl rfl rfl rfl ⟨rfl, rfl, rfl, rfl, rfl⟩ rfl rfl rfl rfl rfl (by kernel_rfl) Tryd.func6 closed
    (of_decide_eq_true (by kernel_rfl)) (by unfold Func.isWrapper; first | (rw [if_pos (by decide +kernel)]; kernel_rfl) | (rw [if_neg (by decide +kernel)]; exact ⟨rfl, rfl⟩))
    (fun os started H enc _ => lifted os started H enc)

theorem said : Rows.FnExactDeedTextSaid := over

end Dtx
end Go.Proofs.YthmjcmhaijiedaaDoor

namespace Go.Proofs.YthmjcmhaijiedaaDoor
open Go.ChangeShapes Go.WideShapes Go.ChangeAt Go.RowKit Go.Deep
set_option linter.unusedVariables false
namespace Dtx

theorem plain (f : FuncId) (fn : Func) (hf : Tryd.pinned.checked.prog.funcNamed "loop.example/g01117/laws.FnExactDeedText" = some f) (hfn : Tryd.pinned.checked.prog.funcs[f]? = some fn) :
    true = Tryd.pinned.checked.prog.looks [] ∧ ∀ (j : Nat) t, fn.params[j]? = some t → Tryd.pinned.checked.prog.wantsStandIn t = false := by
  obtain rfl : f = 6 := Option.some.inj (c_named.symm.trans hf) |>.symm
  obtain rfl : fn = Tryd.f6 := (Option.some.inj (Tryd.func6.symm.trans hfn)).symm
  refine ⟨CardP.looks, fun j t ht => ?_⟩
  rw [Tryd.params6] at ht
  have hm : t ∈ [46] := by simpa using Array.mem_of_getElem? ht
  have hall := c_stand
  exact (show Tryd.prog.wantsStandIn t = false by simpa using List.all_eq_true.1 hall t hm)

theorem card : Rows.FnExactDeedTextCardSaid :=
  Claim7.holds_tied_plain_at .later [] _ _ _ _ said (fun _ h => by cases h) c_wf (fun _ h => by cases h) fnExactDeedText_row_tie rfl ⟨rfl, rfl⟩ c_main rfl plain c_goes

end Dtx
end Go.Proofs.YthmjcmhaijiedaaDoor
