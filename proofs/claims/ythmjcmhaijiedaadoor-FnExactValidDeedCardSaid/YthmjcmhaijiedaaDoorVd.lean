/- ValidDeed of both; what the row's laid list gives of the forms of deeds. -/
import Derived.Test.YthmjcmhaijiedaaDoorKa
import Derived.Test.YthmjcmhaijiedaaDoorRows
import Derived.LaidSub
import Derived.OpenShut
import Derived.ChangeSame
import Derived.ChangeArms
import Derived.BigQuiet
namespace Go.Proofs.YthmjcmhaijiedaaDoor
open Go.RowKit Go.Deep Go.ChangeShapes Go.WideShapes Go.ChangeAt
set_option linter.unusedVariables false

/-- Forms of deeds, as the program lays them. -/
def formsD : List (List UInt8 × Int) := [([], 0), ([103, 105, 118, 101], 1), ([104, 97, 110, 100], 1), ([100, 101, 108, 105, 118, 101, 114], 1), ([99, 111, 112, 121], 1), ([100, 114, 111, 112], 1), ([108, 105, 101], 2), ([115, 97, 118, 101], 1), ([99, 114, 97, 115, 104], 1), ([114, 101, 110, 101, 119], 0)]
/-- The forms lie there. -/
def Forms (W : World) : Prop := ∀ (i : Nat) (z : List UInt8 × Int), formsD[i]? = some z → W.cell? ⟨0, i * 2, none⟩ = some (.string ⟨z.1.toArray⟩) ∧ W.cell? ⟨0, i * 2 + 1, none⟩ = some (.int .i64 z.2)
theorem Forms.step {W W' : World} (hb : Below W.heap.size W W') (h : Forms W) : Forms W' := fun i z hz => ⟨cell_step hb (h i z hz).1, cell_step hb (h i z hz).2⟩

/-- AN ARRAY OF STRUCTS OF A STRING AND A NUMBER THAT READS AS A LIST HOLDS ITS CELLS. -/
theorem cells_of_pairs {H : Type} {enc : TypeId × Value → H} {P : Program} {w : World} {base : Nat} {sp : Nat → Bool} {held : Bool} {fuel : Nat} {t e : TypeId} {n : Nat} {f0 f1 : Field} {cs : List Value} {zs : List (List UInt8 × Int)} {p : List MemPlace}
    (ht : P.underlying t = some (.array n e)) (he : P.underlying e = some (.struct #[f0, f1])) (h0 : P.underlying f0.type = some .string) (h1 : P.underlying f1.type = some (.int .i64)) (o0 : f0.offset = 0) (o1 : f1.offset = 1) (c0 : P.cellsOf f0.type = 1) (c1 : P.cellsOf f1.type = 1) (ce : P.cellsOf e = 2)
    (h : DataW.trod enc P w base sp held fuel t cs = some (.agg (zs.map fun z => .agg [.lit (.string z.1), .lit (.int .i64 z.2)]), p)) :
    ∀ (i : Nat) (z : List UInt8 × Int), zs[i]? = some z → cs[i * 2]? = some (.string ⟨z.1.toArray⟩) ∧ cs[i * 2 + 1]? = some (.int .i64 z.2) := by
  obtain ⟨xs, m, -, hx, -, hlen, hf⟩ := DataW.trod_array ht h
  intro i z hz
  have hxs : xs.map (·.1) = zs.map fun z => (DataW.agg [.lit (.string z.1), .lit (.int .i64 z.2)] : DataW H) := by
    have := congrArg Prod.fst hx
    simp only [DataW.agg.injEq] at this
    exact this.symm
  have hi : i < zs.length := (List.getElem?_eq_some_iff.1 hz).1
  have hxl : xs.length = zs.length := by simpa using congrArg List.length hxs
  have hin : i < n := by omega
  have hf := hf i hin
  rw [ce, List.getElem?_eq_getElem (by omega)] at hf
  obtain ⟨y0, y1, k, hy, -, t0, t1⟩ := trod_struct2 he hf
  rw [o0, c0, List.drop_zero, List.take_take] at t0
  rw [o1, c1] at t1
  obtain ⟨s, es, ey0, -⟩ := DataW.trod_string h0 t0
  obtain ⟨v, ev, ey1, -⟩ := DataW.trod_int h1 t1
  have hxi : (xs.map (·.1))[i]? = some (xs[i]'(by omega)).1 := by simp [hxl, hi]
  rw [hxs, List.getElem?_map, hz, hy, ey0, ey1] at hxi
  simp only [Option.map_some, Option.some.injEq, DataW.agg.injEq, List.cons.injEq, DataW.lit.injEq, Lit.string.injEq, Lit.int.injEq, and_true, true_and] at hxi
  obtain ⟨e0, e1⟩ := hxi
  constructor
  · have := congrArg (·[0]?) es
    simp only [List.getElem?_cons_zero] at this
    rw [List.getElem?_take_of_lt (by omega), List.getElem?_drop, Nat.add_zero] at this
    rw [this, e0]
  · have := congrArg (·[0]?) ev
    simp only [List.getElem?_cons_zero] at this
    rw [List.getElem?_take_of_lt (by omega), List.getElem?_drop, List.getElem?_take_of_lt (by omega), List.getElem?_drop] at this
    rw [Nat.add_zero] at this
    rw [this, e1]
theorem forms_of {W : World} (h : laidMetH Tryd.prog Rows.fnExactValidDeedRow.laid W) : Forms W := by
  have h1 := (laidMetH_iff.1 h).1
  have e : (Rows.fnExactValidDeedRow.laid.filter fun x => x.2.handleName?.isNone) = [("loop.example/g01117/impl.deedForms", .agg (formsD.map fun z => .agg [.lit (.string z.1), .lit (.int .i64 z.2)]))] := by kernel_rfl
  rw [e] at h1
  obtain ⟨ps, ⟨g', t', cs, fuel, p, q, hg', ht', hvar, hd, _, _⟩, _⟩ := h1
  have hg : Tryd.prog.globalNamed "loop.example/g01117/impl.deedForms" = some 0 := by kernel_rfl
  have hty : (Tryd.prog.globals[0]?).map (·.type) = some 107 := by kernel_rfl
  obtain rfl := Option.some.inj (hg.symm.trans hg')
  obtain rfl := Option.some.inj (hty.symm.trans ht')
  intro i z hz
  obtain ⟨c0, c1⟩ := cells_of_pairs (n := 10) (e := 106) Tryd.underlying107 Tryd.underlying106 (by kernel_rfl) (by kernel_rfl) (by kernel_rfl) (by kernel_rfl) (by kernel_rfl) (by kernel_rfl) (by kernel_rfl) hd i z hz
  exact ⟨by rw [World.var?_cell hg hvar]; simpa using c0, by rw [World.var?_cell hg hvar]; simpa using c1⟩

/-- How many numbers a kind of deeds has. -/
def numsOf (k : Int) : Int := (formsD.getD k.toNat ([], 0)).2
/-- A deed is valid. -/
def DeedOk (k a b : Int) : Prop := (1 ≤ k ∧ k ≤ 9) ∧ (0 ≤ a ∧ a ≤ 999) ∧ (0 ≤ b ∧ b ≤ 999) ∧ (0 < numsOf k ∨ a = 0) ∧ (1 < numsOf k ∨ b = 0)
theorem numsOf_at {kn : Nat} (h : kn < 10) : ∃ z, formsD[kn]? = some z ∧ numsOf kn = z.2 := by
  have hl : kn < formsD.length := h
  exact ⟨formsD[kn], by simp [hl], by unfold numsOf; rw [Int.toNat_natCast, List.getD_eq_getElem?_getD, List.getElem?_eq_getElem hl]; rfl⟩
theorem boxes_of (w : World) (vs : Array Value) (t : TypeId) : Boxes (w.alloc (.cells vs t)) w.heap.size t vs := World.alloc_heap_new w _
theorem Boxes.d3 {W : World} {B : Nat} {t : TypeId} {v0 v1 v2 : Value} (h : Boxes W B t #[v0, v1, v2]) : W.cell? ⟨B, 0, none⟩ = some v0 ∧ W.cell? ⟨B, 1, none⟩ = some v1 ∧ W.cell? ⟨B, 2, none⟩ = some v2 := ⟨by rw [h.cell]; rfl, by rw [h.cell]; rfl, by rw [h.cell]; rfl⟩
theorem bx_b (w : World) (o : Obj) : Below w.heap.size w (w.alloc o) := (Below.refl _ _).alloc (Nat.le_refl _) o

set_option maxRecDepth 100000 in
set_option maxHeartbeats 2000000 in
theorem implVd_any (k a b : Int) (w : World) (gf : Forms w) : Calls Tryd.prog 30 #[.agg #[.int .i64 k, .int .i64 a, .int .i64 b]] w fun e w' => e = .returned (.bool (tell (DeedOk k a b))) ∧ Below w.heap.size w w' := by
  have HB := Lib.hid (bx_b w (.cells #[.int .i64 k, .int .i64 a, .int .i64 b] 48))
  have HF := Lib.hid (gf.step HB.out)
  clear gf
  obtain ⟨B, hB⟩ : ∃ B, tell (DeedOk k a b) = B := ⟨_, rfl⟩
  rw [hB]
  have HBB := Lib.hid hB
  clear hB
  go_enter Tryd.func30, Tryd.ntmps30
  by_cases h1 : k < 1
  · obtain rfl : false = B := (tell_false (fun q : DeedOk k a b => by unfold DeedOk at q; omega)).symm.trans HBB.out
    go_wp2_with fail
    go_ret
    exact ⟨rfl, HB.out⟩
  by_cases h2 : 9 < k
  · obtain rfl : false = B := (tell_false (fun q : DeedOk k a b => by unfold DeedOk at q; omega)).symm.trans HBB.out
    go_wp2_with fail
    go_ret
    exact ⟨rfl, HB.out⟩
  by_cases h3 : a < 0
  · obtain rfl : false = B := (tell_false (fun q : DeedOk k a b => by unfold DeedOk at q; omega)).symm.trans HBB.out
    go_wp2_with fail
    go_ret
    exact ⟨rfl, HB.out⟩
  by_cases h4 : 999 < a
  · obtain rfl : false = B := (tell_false (fun q : DeedOk k a b => by unfold DeedOk at q; omega)).symm.trans HBB.out
    go_wp2_with fail
    go_ret
    exact ⟨rfl, HB.out⟩
  by_cases h5 : b < 0
  · obtain rfl : false = B := (tell_false (fun q : DeedOk k a b => by unfold DeedOk at q; omega)).symm.trans HBB.out
    go_wp2_with fail
    go_ret
    exact ⟨rfl, HB.out⟩
  by_cases h6 : 999 < b
  · obtain rfl : false = B := (tell_false (fun q : DeedOk k a b => by unfold DeedOk at q; omega)).symm.trans HBB.out
    go_wp2_with fail
    go_ret
    exact ⟨rfl, HB.out⟩
  obtain ⟨kn, rfl⟩ : ∃ kn : Nat, k = kn := ⟨k.toNat, by omega⟩
  have hk10 : kn < 10 := by omega
  have hk10i : (kn : Int) < 10 := by omega
  obtain ⟨z, hz, hn⟩ := numsOf_at hk10
  obtain ⟨-, d⟩ := HF.out kn z hz
  obtain ⟨nm, hnm⟩ : ∃ nm, z.2 = nm := ⟨_, rfl⟩
  rw [hnm] at d hn
  have HN := Lib.hid hn
  have gl := World.block_lt_of_cell? _ _ d
  simp only at gl
  clear hn hnm hz
  by_cases n0 : 0 < nm
  · by_cases n1 : 1 < nm
    · obtain rfl : true = B := (tell_true (show DeedOk kn _ _ by unfold DeedOk; rw [HN.out]; omega)).symm.trans HBB.out
      go_wp2_with fail
      go_ret
      exact ⟨rfl, HB.out⟩
    · by_cases b0 : b = 0
      · subst b0
        obtain rfl : true = B := (tell_true (show DeedOk kn _ _ by unfold DeedOk; rw [HN.out]; omega)).symm.trans HBB.out
        go_wp2_with fail
        go_ret
        exact ⟨rfl, HB.out⟩
      · have bb : (b == 0) = false := by simpa using b0
        obtain rfl : false = B := (tell_false (fun q : DeedOk kn _ _ => by unfold DeedOk at q; rw [HN.out] at q; omega)).symm.trans HBB.out
        go_wp2_with fail
        go_ret
        exact ⟨rfl, HB.out⟩
  · have n1 : ¬ 1 < nm := by omega
    by_cases a0 : a = 0
    · subst a0
      by_cases b0 : b = 0
      · subst b0
        obtain rfl : true = B := (tell_true (show DeedOk kn _ _ by unfold DeedOk; rw [HN.out]; omega)).symm.trans HBB.out
        go_wp2_with fail
        go_ret
        exact ⟨rfl, HB.out⟩
      · have bb : (b == 0) = false := by simpa using b0
        obtain rfl : false = B := (tell_false (fun q : DeedOk kn _ _ => by unfold DeedOk at q; rw [HN.out] at q; omega)).symm.trans HBB.out
        go_wp2_with fail
        go_ret
        exact ⟨rfl, HB.out⟩
    · have ab : (a == 0) = false := by simpa using a0
      obtain rfl : false = B := (tell_false (fun q : DeedOk kn _ _ => by unfold DeedOk at q; rw [HN.out] at q; omega)).symm.trans HBB.out
      go_wp2_with fail
      go_ret
      exact ⟨rfl, HB.out⟩

set_option maxRecDepth 100000 in
set_option maxHeartbeats 1000000 in
theorem l08Words_any (w : World) : Calls Tryd.prog 67 #[] w fun e w' => (∃ q1 q2 : Nat, e = .returned (.tuple #[.slice (some ⟨q1, 0, none⟩) 10 10, .slice (some ⟨q2, 0, none⟩) 10 10]) ∧ ∀ (i : Nat) (z : List UInt8 × Int), formsD[i]? = some z → w'.cell? ⟨q1, i, none⟩ = some (.string ⟨z.1.toArray⟩) ∧ w'.cell? ⟨q2, i, none⟩ = some (.int .i64 z.2)) ∧ Below w.heap.size w w' := by
  have h1 := boxes_of w #[.string ⟨#[]⟩, .string ⟨#[103, 105, 118, 101]⟩, .string ⟨#[104, 97, 110, 100]⟩, .string ⟨#[100, 101, 108, 105, 118, 101, 114]⟩, .string ⟨#[99, 111, 112, 121]⟩, .string ⟨#[100, 114, 111, 112]⟩, .string ⟨#[108, 105, 101]⟩, .string ⟨#[115, 97, 118, 101]⟩, .string ⟨#[99, 114, 97, 115, 104]⟩, .string ⟨#[114, 101, 110, 101, 119]⟩] 9
  have b1 := bx_b w (.cells #[.string ⟨#[]⟩, .string ⟨#[103, 105, 118, 101]⟩, .string ⟨#[104, 97, 110, 100]⟩, .string ⟨#[100, 101, 108, 105, 118, 101, 114]⟩, .string ⟨#[99, 111, 112, 121]⟩, .string ⟨#[100, 114, 111, 112]⟩, .string ⟨#[108, 105, 101]⟩, .string ⟨#[115, 97, 118, 101]⟩, .string ⟨#[99, 114, 97, 115, 104]⟩, .string ⟨#[114, 101, 110, 101, 119]⟩] 9)
  have hsz : (w.alloc (.cells #[.string ⟨#[]⟩, .string ⟨#[103, 105, 118, 101]⟩, .string ⟨#[104, 97, 110, 100]⟩, .string ⟨#[100, 101, 108, 105, 118, 101, 114]⟩, .string ⟨#[99, 111, 112, 121]⟩, .string ⟨#[100, 114, 111, 112]⟩, .string ⟨#[108, 105, 101]⟩, .string ⟨#[115, 97, 118, 101]⟩, .string ⟨#[99, 114, 97, 115, 104]⟩, .string ⟨#[114, 101, 110, 101, 119]⟩] 9)).heap.size = w.heap.size + 1 := by simp
  go_enter Tryd.func67, Tryd.ntmps67
  go_wp2_with fail
  generalize w.alloc (.cells #[.string ⟨#[]⟩, .string ⟨#[103, 105, 118, 101]⟩, .string ⟨#[104, 97, 110, 100]⟩, .string ⟨#[100, 101, 108, 105, 118, 101, 114]⟩, .string ⟨#[99, 111, 112, 121]⟩, .string ⟨#[100, 114, 111, 112]⟩, .string ⟨#[108, 105, 101]⟩, .string ⟨#[115, 97, 118, 101]⟩, .string ⟨#[99, 114, 97, 115, 104]⟩, .string ⟨#[114, 101, 110, 101, 119]⟩] 9) = w2 at *
  have h2 := boxes_of w2 #[.int .i64 0, .int .i64 1, .int .i64 1, .int .i64 1, .int .i64 1, .int .i64 1, .int .i64 2, .int .i64 1, .int .i64 1, .int .i64 0] 3
  have b2 := bx_b w2 (.cells #[.int .i64 0, .int .i64 1, .int .i64 1, .int .i64 1, .int .i64 1, .int .i64 1, .int .i64 2, .int .i64 1, .int .i64 1, .int .i64 0] 3)
  have h1' := h1.step b2
  rw [hsz] at h2
  generalize w2.alloc (.cells #[.int .i64 0, .int .i64 1, .int .i64 1, .int .i64 1, .int .i64 1, .int .i64 1, .int .i64 2, .int .i64 1, .int .i64 1, .int .i64 0] 3) = w3 at *
  refine bodyPost_ret (v := .tuple #[.slice (some ⟨w.heap.size, 0, none⟩) 10 10, .slice (some ⟨w.heap.size + 1, 0, none⟩) 10 10]) (by simp [results, Tryd.results67, go_sem]) rfl ⟨⟨w.heap.size, w.heap.size + 1, rfl, fun i z hz => ?_⟩, b1.trans (b2.mono b1.size)⟩
  have hi : i < 10 := (List.getElem?_eq_some_iff.1 hz).1
  rw [h1'.cell, h2.cell]
  have hc : i = 0 ∨ i = 1 ∨ i = 2 ∨ i = 3 ∨ i = 4 ∨ i = 5 ∨ i = 6 ∨ i = 7 ∨ i = 8 ∨ i = 9 := by omega
  rcases hc with rfl | rfl | rfl | rfl | rfl | rfl | rfl | rfl | rfl | rfl <;> (simp [formsD] at hz; subst hz; exact ⟨rfl, rfl⟩)

set_option maxRecDepth 100000 in
set_option maxHeartbeats 2000000 in
theorem l08Deed_any (k a b : Int) (w : World) : Calls Tryd.prog 66 #[.agg #[.int .i64 k, .int .i64 a, .int .i64 b]] w fun e w' => e = .returned (.bool (tell (DeedOk k a b))) ∧ Below w.heap.size w w' := by
  have HB := Lib.hid (bx_b w (.cells #[.int .i64 k, .int .i64 a, .int .i64 b] 48))
  have HX := Lib.hid (boxes_of w #[.int .i64 k, .int .i64 a, .int .i64 b] 48)
  obtain ⟨B, hB⟩ : ∃ B, tell (DeedOk k a b) = B := ⟨_, rfl⟩
  rw [hB]
  have HBB := Lib.hid hB
  clear hB
  go_enter Tryd.func66, Tryd.ntmps66
  go_wp2_with fail
  by_cases h1 : 1 ≤ k ∧ k ≤ 9
  case neg =>
    obtain rfl : false = B := (tell_false (fun q : DeedOk k a b => by unfold DeedOk at q; omega)).symm.trans HBB.out
    refine (l00In_val k 1 9 false _ (by simp; omega)).mono ?_
    rintro e w' ⟨rfl, rfl⟩
    go_wp2_with fail
    go_ret
    exact ⟨rfl, HB.out⟩
  refine (l00In_val k 1 9 true _ (by simp; omega)).mono ?_
  rintro e w' ⟨rfl, rfl⟩
  go_wp2_with fail
  by_cases h2 : 0 ≤ a ∧ a ≤ 999
  case neg =>
    obtain rfl : false = B := (tell_false (fun q : DeedOk k a b => by unfold DeedOk at q; omega)).symm.trans HBB.out
    refine (l00In_val a 0 999 false _ (by simp; omega)).mono ?_
    rintro e w' ⟨rfl, rfl⟩
    go_wp2_with fail
    go_ret
    exact ⟨rfl, HB.out⟩
  refine (l00In_val a 0 999 true _ (by simp; omega)).mono ?_
  rintro e w' ⟨rfl, rfl⟩
  go_wp2_with fail
  by_cases h3 : 0 ≤ b ∧ b ≤ 999
  case neg =>
    obtain rfl : false = B := (tell_false (fun q : DeedOk k a b => by unfold DeedOk at q; omega)).symm.trans HBB.out
    refine (l00In_val b 0 999 false _ (by simp; omega)).mono ?_
    rintro e w' ⟨rfl, rfl⟩
    go_wp2_with fail
    go_ret
    exact ⟨rfl, HB.out⟩
  refine (l00In_val b 0 999 true _ (by simp; omega)).mono ?_
  rintro e w' ⟨rfl, rfl⟩
  go_wp2_with fail
  generalize w.alloc (.cells #[.int .i64 k, .int .i64 a, .int .i64 b] 48) = w2 at *
  refine (l08Words_any w2).mono ?_
  rintro e w3 ⟨⟨q1, q2, rfl, hc⟩, hb3⟩
  obtain ⟨x0, x1, x2⟩ := (HX.out.step hb3).d3
  have xl := (HX.out.step hb3).lt
  replace HB := Lib.hid (HB.out.trans (hb3.mono HB.out.size))
  clear hb3 HX
  obtain ⟨kn, rfl⟩ : ∃ kn : Nat, k = kn := ⟨k.toNat, by omega⟩
  have hk10 : kn < 10 := by omega
  have hk10i : (kn : Int) < 10 := by omega
  obtain ⟨z, hz, hn⟩ := numsOf_at hk10
  obtain ⟨-, d⟩ := hc kn z hz
  obtain ⟨nm, hnm⟩ : ∃ nm, z.2 = nm := ⟨_, rfl⟩
  rw [hnm] at d hn
  have HN := Lib.hid hn
  have gl := World.block_lt_of_cell? _ _ d
  simp only at gl
  clear hn hnm hz hc
  by_cases n0 : 0 < nm
  · by_cases n1 : 1 < nm
    · obtain rfl : true = B := (tell_true (show DeedOk kn _ _ by unfold DeedOk; rw [HN.out]; omega)).symm.trans HBB.out
      go_wp2_with fail
      go_ret
      exact ⟨rfl, HB.out⟩
    · by_cases b0 : b = 0
      · subst b0
        obtain rfl : true = B := (tell_true (show DeedOk kn _ _ by unfold DeedOk; rw [HN.out]; omega)).symm.trans HBB.out
        go_wp2_with fail
        go_ret
        exact ⟨rfl, HB.out⟩
      · have bb : (b == 0) = false := by simpa using b0
        obtain rfl : false = B := (tell_false (fun q : DeedOk kn _ _ => by unfold DeedOk at q; rw [HN.out] at q; omega)).symm.trans HBB.out
        go_wp2_with fail
        simp only [show decide (1 < nm) = false from decide_eq_false (by omega)]
        go_ret
        exact ⟨rfl, HB.out⟩
  · have n1 : ¬ 1 < nm := by omega
    by_cases a0 : a = 0
    · subst a0
      by_cases b0 : b = 0
      · subst b0
        obtain rfl : true = B := (tell_true (show DeedOk kn _ _ by unfold DeedOk; rw [HN.out]; omega)).symm.trans HBB.out
        go_wp2_with fail
        go_ret
        exact ⟨rfl, HB.out⟩
      · have bb : (b == 0) = false := by simpa using b0
        obtain rfl : false = B := (tell_false (fun q : DeedOk kn _ _ => by unfold DeedOk at q; rw [HN.out] at q; omega)).symm.trans HBB.out
        go_wp2_with fail
        simp only [show decide (1 < nm) = false from decide_eq_false (by omega)]
        go_ret
        exact ⟨rfl, HB.out⟩
    · have ab : (a == 0) = false := by simpa using a0
      obtain rfl : false = B := (tell_false (fun q : DeedOk kn _ _ => by unfold DeedOk at q; rw [HN.out] at q; omega)).symm.trans HBB.out
      go_wp2_with fail
      go_ret
      exact ⟨rfl, HB.out⟩

set_option maxRecDepth 100000 in
theorem specVd_any (k a b : Int) (w : World) : Calls Tryd.prog 28 #[.agg #[.int .i64 k, .int .i64 a, .int .i64 b]] w fun e w' => e = .returned (.bool (tell (DeedOk k a b))) ∧ Below w.heap.size w w' := by
  have HB := Lib.hid (bx_b w (.cells #[.int .i64 k, .int .i64 a, .int .i64 b] 48))
  go_enter Tryd.func28, Tryd.ntmps28
  go_wp2_with fail
  refine (l08Deed_any k a b _).mono ?_
  rintro e w3 ⟨rfl, hb3⟩
  have HB3 := Lib.hid (HB.out.trans (hb3.mono HB.out.size))
  clear hb3
  go_wp2_with fail
  go_ret
  exact ⟨rfl, HB3.out⟩
end Go.Proofs.YthmjcmhaijiedaaDoor
