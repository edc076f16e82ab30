/- The contracts of the laws' own helpers on schemes: szScheme, toScheme, eqScheme, markScheme; a scheme by value, opened. -/
import Derived.Test.YtnebkhelobpkpaaMk2
namespace Go.Proofs.Ytnebkhelobpkpaa
open Go.ChangeShapes Go.WideShapes Go.ChangeAt Go.RowKit Go.Deep Go.Joins
set_option linter.unusedVariables false

/-- The slices of a scheme. -/
structure InS (W : World) (ao : Option Addr) (yo : List Int) (a : Option Addr) (z : List (List Int)) : Prop where
  o : Ints W ao yo
  r : Rows2 W a z
theorem InS.step {W W' : World} {ao a : Option Addr} {yo : List Int} {z : List (List Int)} (hb : Below W.heap.size W W') (h : InS W ao yo a z) : InS W' ao yo a z := ⟨h.o.step hb, h.r.step hb⟩
theorem InS.quiet {W W' : World} {ao a : Option Addr} {yo : List Int} {z : List (List Int)} (h : InS W ao yo a z) (q : Quiet W W') : InS W' ao yo a z := h.step (quiet_below q)
structure LenS (yo : List Int) (z : List (List Int)) : Prop where
  o : yo.length ≤ 9223372036854775807
  r : Lens z
structure SmS (yo : List Int) (z : List (List Int)) : Prop where
  o : yo.length ≤ 1048576
  r : Small2 z
theorem SmS.lens {yo : List Int} {z : List (List Int)} (h : SmS yo z) : LenS yo z := ⟨by have := h.o; omega, h.r.lens⟩
def RoomS (left : Int) (yo : List Int) (z : List (List Int)) (v : Int) : Prop := v = -1 ∨ (0 ≤ v ∧ v + (yo.length + total z) ≤ left ∧ v ≤ left ∧ SmS yo z)

set_option maxRecDepth 100000 in
theorem szScheme2_any (h f l : Int) (ao : Option Addr) (yo : List Int) (co : Nat) (a : Option Addr) (z : List (List Int)) (c : Nat) (left : Int) (w : World) (hr : InS w ao yo a z) (h0 : 0 ≤ left) (h1 : left ≤ 1048576) (hl : LenS yo z) :
    Calls Try.prog 17 #[.agg #[.int .i64 h, .slice ao yo.length co, .int .i64 f, .int .i64 l, .slice a z.length c], .int .i64 left] w fun e w' => GivesInt (RoomS left yo z) e ∧ Below w.heap.size w w' := by
  have HL := Lib.hid hl
  have hb := (Below.refl w.heap.size w).alloc (Nat.le_refl _) (.cells #[.int .i64 h, .slice ao yo.length co, .int .i64 f, .int .i64 l, .slice a z.length c] 40)
  have HR := Lib.hid (hr.step hb)
  have HB := Lib.hid hb
  clear hl hr hb
  go_enter Try.func17, Try.ntmps17
  go_wp2_with fail
  refine (szS2_any ao yo co left _ h0 h1 HL.out.o).mono ?_
  rintro e w1 ⟨⟨u, hu, rfl⟩, rfl⟩
  rcases hu with rfl | ⟨hu0, hu1⟩
  · go_wp2
    go_ret
    exact ⟨⟨_, .inl rfl, rfl⟩, HB.out⟩
  have HU := Lib.hid hu1
  have hul : u ≤ 1048576 := by omega
  clear hu1
  go_wp2_with fail
  refine (szMatrix2_any f l a z c u _ HR.out.r hu0 hul HL.out.r.1 HL.out.r.2).mono ?_
  rintro e w1 ⟨⟨q, hq, rfl⟩, hb⟩
  have HB1 := Lib.hid (chain HB.out hb)
  clear hb
  rcases hq with rfl | ⟨hq0, hq1, hq2, hq3⟩
  · go_wp2
    go_ret
    exact ⟨⟨_, .inl rfl, rfl⟩, HB1.out⟩
  have HQ := Lib.hid (And.intro hq1 (And.intro hq2 hq3))
  clear hq1 hq2 hq3
  go_wp2
  go_ret
  exact ⟨⟨_, .inr ⟨hq0, by have := HQ.out.1; have := HU.out; omega, by have := HQ.out.2.1; have := HU.out; omega, by have := HU.out; omega, HQ.out.2.2⟩, rfl⟩, HB1.out⟩

/-- What a copy of a scheme has made: the owners at g, the rows from g + 4 on. -/
structure OwnS (W : World) (g : Nat) (yo : List Int) (z : List (List Int)) : Prop where
  top : W.rowIs g 2 yo.length (fun i => .int .i64 (nth yo i))
  mat : Own2 W (g + 4) z
theorem OwnS.rows {W : World} {g : Nat} {yo : List Int} {z : List (List Int)} (h : OwnS W g yo z) : InS W (some ⟨g, 0, none⟩) yo (some ⟨g + 4, 0, none⟩) z := ⟨Ints.of_row h.top, h.mat.rows⟩
theorem OwnS.step {W W' : World} {g : Nat} {yo : List Int} {z : List (List Int)} (hb : Below W.heap.size W W') (h : OwnS W g yo z) : OwnS W' g yo z := ⟨rowIs_below h.top hb h.top.lt, h.mat.step hb⟩
theorem OwnS.touch {W W' : World} {g lo hi : Nat} {yo : List Int} {z : List (List Int)} (k : OwnS W g yo z) (h : Touch lo hi W W') (hg : hi ≤ g) : OwnS W' g yo z := ⟨h.row k.top (.inr hg), k.mat.touch h (by omega)⟩
theorem Touch.wide {lo hi lo' hi' : Nat} {w w' : World} (h : Touch lo hi w w') (h1 : lo' ≤ lo) (h2 : hi ≤ hi') : Touch lo' hi' w w' := ⟨h.os, h.tape, h.output, h.size, fun k hk hc => h.block k hk (by omega)⟩

theorem OwnS.setCell {W : World} {g : Nat} {yo : List Int} {z : List (List Int)} (h : OwnS W g yo z) {p : Addr} (hp : p.block < g) (v : Value) : OwnS (W.setCell p v) g yo z := ⟨h.top.setOther (by omega) _, h.mat.setCell (by omega) _⟩
set_option maxRecDepth 100000 in
set_option maxHeartbeats 1000000 in
theorem toScheme_any (h f l : Int) (ao : Option Addr) (yo : List Int) (co : Nat) (a : Option Addr) (z : List (List Int)) (c : Nat) (w : World) (hr : InS w ao yo a z) (hs : SmS yo z) :
    Calls Try.prog 19 #[.agg #[.int .i64 h, .slice ao yo.length co, .int .i64 f, .int .i64 l, .slice a z.length c]] w fun e w' =>
      e = .returned (.agg #[.int .i64 h, .slice (some ⟨w.heap.size + 3, 0, none⟩) yo.length yo.length, .int .i64 f, .int .i64 l, .slice (some ⟨w.heap.size + 3 + 4, 0, none⟩) z.length z.length]) ∧
      w'.heap.size = w.heap.size + 8 + z.length ∧ OwnS w' (w.heap.size + 3) yo z ∧ Below w.heap.size w w' := by
  have HS := Lib.hid hs
  have HR := Lib.hid hr
  clear hs hr
  go_enter Try.func19, Try.ntmps19
  go_wp2_with fail
  refine (toInt64S_any ao yo co _ (HR.out.o.below ?_ (Nat.le_refl _)) HS.out.o).mono ?_
  · exact (((Below.refl _ _).alloc (Nat.le_refl _) _).alloc (by simp) _).alloc (by simp; omega) _
  rintro e w1 ⟨rfl, hsz, hrow, hbel⟩
  have hb1 := (((Below.refl w.heap.size w).alloc (Nat.le_refl _) (.cells #[.int .i64 h, .slice ao yo.length co, .int .i64 f, .int .i64 l, .slice a z.length c] 40)).alloc (by simp) (.cells #[.int .i64 0, .slice none 0 0, .int .i64 0, .int .i64 0, .slice none 0 0] 48)).alloc (by simp; omega) (.cells #[.int .i64 h, .slice none 0 0, .int .i64 0, .int .i64 0, .slice none 0 0] 48)
  obtain ⟨hc, hf⟩ := bcell hbel
  simp only [World.size_alloc] at hsz hrow hbel hc hf
  have hb2 := (hb1.trans (hbel.mono (by omega))).setCell (p := ⟨w.heap.size + 1 + 1, 1, none⟩) (by show w.heap.size ≤ w.heap.size + 1 + 1; omega) (.slice (some ⟨w.heap.size + 1 + 1 + 1, 0, none⟩) yo.length yo.length)
  have HB2 := Lib.hid hb2
  have HR2 := Lib.hid (HR.out.r.below hb2 (Nat.le_refl _))
  have HO := Lib.hid (hrow.setOther (a := ⟨w.heap.size + 1 + 1, 1, none⟩) (by show w.heap.size + 1 + 1 + 1 ≠ w.heap.size + 1 + 1; omega) (.slice (some ⟨w.heap.size + 1 + 1 + 1, 0, none⟩) yo.length yo.length))
  have HZ := Lib.hid (show (w1.setCell ⟨w.heap.size + 1 + 1, 1, none⟩ (.slice (some ⟨w.heap.size + 1 + 1 + 1, 0, none⟩) yo.length yo.length)).heap.size = w.heap.size + 4 by simp only [World.size_setCell]; omega)
  have g0 : w.heap.size < w1.heap.size := by omega
  have g1 : w.heap.size + 1 + 1 < w1.heap.size := by omega
  clear hsz hrow hb1 hb2 hbel HR
  go_wp2_with fail
  refine (toMatrix_any f l a z c _ HR2.out HS.out.r).mono ?_
  rintro e w2 ⟨rfl, hsz2, hown2, hbel2⟩
  obtain ⟨hd, hg⟩ := bcell hbel2
  have hb3 := HB2.out.trans (hbel2.mono (by rw [HZ.out]; omega))
  have hro := rowIs_below HO.out hbel2 HO.out.lt
  rw [HZ.out] at hsz2 hown2 hd hg hbel2 ⊢
  have HB3 := Lib.hid hb3
  have HO2 := Lib.hid hown2
  have HRO := Lib.hid hro
  have HZ2 := Lib.hid hsz2
  clear hb3 hown2 hbel2 hro hsz2
  go_wp2
  refine bodyPost_ret (v := .agg #[.int .i64 h, .slice (some ⟨w.heap.size + 3, 0, none⟩) yo.length yo.length, .int .i64 f, .int .i64 l, .slice (some ⟨w.heap.size + 3 + 4, 0, none⟩) z.length z.length]) (by simp [results, Try.results19, go_sem, hd, hc]) rfl ⟨rfl, ?_, ?_, ?_⟩
  · simp only [World.size_setCell]; rw [HZ2.out]
  · exact (((((((((show OwnS w2 (w.heap.size + 3) yo z from ⟨HRO.out, HO2.out⟩).setCell (p := ⟨w.heap.size + 1 + 1, 2, none⟩) (by show w.heap.size + 1 + 1 < w.heap.size + 3; omega) _).setCell (p := ⟨w.heap.size + 1 + 1, 3, none⟩) (by show w.heap.size + 1 + 1 < w.heap.size + 3; omega) _).setCell (p := ⟨w.heap.size + 1 + 1, 4, none⟩) (by show w.heap.size + 1 + 1 < w.heap.size + 3; omega) _).setCell (p := ⟨w.heap.size + 1, 0, none⟩) (by show w.heap.size + 1 < w.heap.size + 3; omega) _).setCell (p := ⟨w.heap.size + 1, 1, none⟩) (by show w.heap.size + 1 < w.heap.size + 3; omega) _).setCell (p := ⟨w.heap.size + 1, 2, none⟩) (by show w.heap.size + 1 < w.heap.size + 3; omega) _).setCell (p := ⟨w.heap.size + 1, 3, none⟩) (by show w.heap.size + 1 < w.heap.size + 3; omega) _).setCell (p := ⟨w.heap.size + 1, 4, none⟩) (by show w.heap.size + 1 < w.heap.size + 3; omega) _)
  · exact ((((((((HB3.out.setCell (p := ⟨w.heap.size + 1 + 1, 2, none⟩) (by show w.heap.size ≤ w.heap.size + 1 + 1; omega) _).setCell (p := ⟨w.heap.size + 1 + 1, 3, none⟩) (by show w.heap.size ≤ w.heap.size + 1 + 1; omega) _).setCell (p := ⟨w.heap.size + 1 + 1, 4, none⟩) (by show w.heap.size ≤ w.heap.size + 1 + 1; omega) _).setCell (p := ⟨w.heap.size + 1, 0, none⟩) (by show w.heap.size ≤ w.heap.size + 1; omega) _).setCell (p := ⟨w.heap.size + 1, 1, none⟩) (by show w.heap.size ≤ w.heap.size + 1; omega) _).setCell (p := ⟨w.heap.size + 1, 2, none⟩) (by show w.heap.size ≤ w.heap.size + 1; omega) _).setCell (p := ⟨w.heap.size + 1, 3, none⟩) (by show w.heap.size ≤ w.heap.size + 1; omega) _).setCell (p := ⟨w.heap.size + 1, 4, none⟩) (by show w.heap.size ≤ w.heap.size + 1; omega) _)

set_option maxRecDepth 100000 in
/-- 'eqScheme' at one scheme twice: true. -/
theorem eqScheme_same (h f l : Int) (ao bo : Option Addr) (yo : List Int) (co eo : Nat) (a b : Option Addr) (z : List (List Int)) (ca cb : Nat) (w : World) (ha : InS w ao yo a z) (hb : InS w bo yo b z) (hl : LenS yo z) :
    Calls Try.prog 22 #[.agg #[.int .i64 h, .slice ao yo.length co, .int .i64 f, .int .i64 l, .slice a z.length ca], .agg #[.int .i64 h, .slice bo yo.length eo, .int .i64 f, .int .i64 l, .slice b z.length cb]] w fun e w' => e = .returned (.bool true) ∧ Below w.heap.size w w' := by
  have HL := Lib.hid hl
  have hb1 := ((Below.refl w.heap.size w).alloc (Nat.le_refl _) (.cells #[.int .i64 h, .slice ao yo.length co, .int .i64 f, .int .i64 l, .slice a z.length ca] 48)).alloc (by simp) (.cells #[.int .i64 h, .slice bo yo.length eo, .int .i64 f, .int .i64 l, .slice b z.length cb] 48)
  have HB1 := Lib.hid hb1
  have HA := Lib.hid (ha.step hb1)
  have HB := Lib.hid (hb.step hb1)
  clear hl ha hb hb1
  go_enter Try.func22, Try.ntmps22
  go_wp2_with fail
  refine (eqInt64S_same ao bo yo co eo _ HA.out.o HB.out.o HL.out.o).mono ?_
  rintro e w1 ⟨rfl, ⟨n, rfl⟩⟩
  have HA2 := Lib.hid (HA.out.quiet ⟨n, rfl⟩)
  have HB2 := Lib.hid (HB.out.quiet ⟨n, rfl⟩)
  have HB3 := Lib.hid (below_drewN HB1.out n)
  clear HA HB HB1
  go_wp2_with fail
  refine (eqMatrix_same f l a b z ca cb _ HA2.out.r HB2.out.r HL.out.r.1 HL.out.r.2).mono ?_
  rintro e w2 ⟨rfl, hb4⟩
  have HB4 := Lib.hid (chain HB3.out hb4)
  clear hb4
  go_wp2_with fail
  go_ret
  exact ⟨rfl, HB4.out⟩

theorem Boxes.s0 {W : World} {B : Nat} {t : TypeId} {v0 v1 v2 v3 v4 : Value} (h : Boxes W B t #[v0, v1, v2, v3, v4]) : W.cell? ⟨B, 0, none⟩ = some v0 := by rw [h.cell]; rfl
theorem Boxes.s1 {W : World} {B : Nat} {t : TypeId} {v0 v1 v2 v3 v4 : Value} (h : Boxes W B t #[v0, v1, v2, v3, v4]) : W.cell? ⟨B, 1, none⟩ = some v1 := by rw [h.cell]; rfl
theorem Boxes.s2 {W : World} {B : Nat} {t : TypeId} {v0 v1 v2 v3 v4 : Value} (h : Boxes W B t #[v0, v1, v2, v3, v4]) : W.cell? ⟨B, 2, none⟩ = some v2 := by rw [h.cell]; rfl
theorem Boxes.s3 {W : World} {B : Nat} {t : TypeId} {v0 v1 v2 v3 v4 : Value} (h : Boxes W B t #[v0, v1, v2, v3, v4]) : W.cell? ⟨B, 3, none⟩ = some v3 := by rw [h.cell]; rfl
theorem Boxes.s4 {W : World} {B : Nat} {t : TypeId} {v0 v1 v2 v3 v4 : Value} (h : Boxes W B t #[v0, v1, v2, v3, v4]) : W.cell? ⟨B, 4, none⟩ = some v4 := by rw [h.cell]; rfl
theorem Own2.touch2 {W W' : World} {g lo hi : Nat} {zss : List (List Int)} (k : Own2 W g zss) (h : Touch lo hi W W') (hg : hi ≤ g) : Own2 W' g zss := k.touch h hg
set_option maxRecDepth 100000 in
/-- What marks a copy of a scheme. -/
theorem markScheme3_any (h f l : Int) (g co c : Nat) (yo : List Int) (z : List (List Int)) (k : Int) (w : World) (ho : OwnS w g yo z) (hs : SmS yo z) (hk0 : 0 ≤ k) (hk1 : k ≤ 3145728) (hco : co = yo.length) :
    Calls Try.prog 23 #[.agg #[.int .i64 h, .slice (some ⟨g, 0, none⟩) yo.length co, .int .i64 f, .int .i64 l, .slice (some ⟨g + 4, 0, none⟩) z.length c], .int .i64 k] w fun e w' => e = .returned (.int .i64 (k + (yo.length + total z))) ∧ Touch g (g + 5 + z.length) w w' := by
  subst hco
  have hb1 := (Below.refl w.heap.size w).alloc (Nat.le_refl _) (.cells #[.int .i64 h, .slice (some ⟨g, 0, none⟩) yo.length yo.length, .int .i64 f, .int .i64 l, .slice (some ⟨g + 4, 0, none⟩) z.length c] 48)
  have ha := World.alloc_heap_new w (.cells #[.int .i64 h, .slice (some ⟨g, 0, none⟩) yo.length yo.length, .int .i64 f, .int .i64 l, .slice (some ⟨g + 4, 0, none⟩) z.length c] 48)
  have HO := Lib.hid (ho.step hb1)
  have hg : g < w.heap.size := ho.top.lt
  have hg4 : g + 4 < w.heap.size := ho.mat.top.lt
  have HS := Lib.hid hs
  have hyo : yo.length ≤ 1048576 := hs.o
  clear ho hs
  go_enter Try.func23, Try.ntmps23
  go_wp2_with fail
  refine (markInt64S_any _ yo g k _ (own_of_row HO.out.top (by unfold maxLen; omega)) hk0 (by omega) (by omega)).mono ?_
  generalize w.alloc (.cells #[.int .i64 h, .slice (some ⟨g, 0, none⟩) yo.length yo.length, .int .i64 f, .int .i64 l, .slice (some ⟨g + 4, 0, none⟩) z.length c] 48) = v1 at *
  rintro e w1 ⟨rfl, hown, hsz, hgr⟩
  have ht1 : Touch g (g + 1) v1 w1 := Touch.of_grown hgr (fun q hq => by simp [Value.ownBlock] at hq; omega)
  have hbx : Boxes w1 w.heap.size 48 #[.int .i64 h, .slice (some ⟨g, 0, none⟩) yo.length yo.length, .int .i64 f, .int .i64 l, .slice (some ⟨g + 4, 0, none⟩) z.length c] := Boxes.touch ha ht1 (by omega)
  have c2 := hbx.s2
  have c3 := hbx.s3
  have c4 := hbx.s4
  have HM := Lib.hid (HO.out.mat.touch2 ht1 (by omega))
  have HT := Lib.hid (((Touch.of_below g (g + 5 + z.length) hb1).trans (ht1.wide (Nat.le_refl _) (by omega))))
  clear hown hsz hgr ht1 hbx ha hb1 HO
  have hk2 : (0 : Int) ≤ k + yo.length := by omega
  have hk3 : k + (yo.length : Int) ≤ 4194304 := by omega
  go_wp2_with fail
  refine (markMatrix3_any f l (g + 4) c z _ _ HM.out HS.out.r hk2 hk3).mono ?_
  rintro e w2 ⟨rfl, ht2⟩
  have HT2 := Lib.hid (HT.out.trans (ht2.wide (by omega) (by omega)))
  clear ht2
  go_wp2_with fail
  go_ret
  exact ⟨by rw [Int.add_assoc]; rfl, HT2.out⟩

section
variable {H : Type} {enc : TypeId × Value → H} {w : World} {base : Nat} {held : Bool}
set_option maxRecDepth 100000 in
/-- A SCHEME BY VALUE, OPENED. -/
theorem open_sch {r : Reach} {b0 : Nat} {v : Value} {d : DataW H} {p : List MemPlace} (hv : Value.okWide Try.prog w r b0 40 v) (h : DataW.Trod enc Try.prog w base (fun _ => true) held 40 v d p) :
    ∃ (hh ff ll : Int) (ao : Option Addr) (yo : List Int) (co : Nat) (a : Option Addr) (z : List (List Int)) (c : Nat), v = .agg #[.int .i64 hh, .slice ao yo.length co, .int .i64 ff, .int .i64 ll, .slice a z.length c] ∧ InS w ao yo a z ∧ LenS yo z ∧ (Lit.int .i64 hh).wf = true ∧ (Lit.int .i64 ff).wf = true ∧ (Lit.int .i64 ll).wf = true := by
  obtain ⟨cs, rfl, hsz⟩ := okWide_struct Try.underlying40 hv
  have hsz5 : cs.size = 5 := hsz.trans (by kernel_rfl)
  obtain ⟨c0, c1, c2, c3, c4, rfl⟩ : ∃ c0 c1 c2 c3 c4, cs = #[c0, c1, c2, c3, c4] := by
    obtain ⟨l⟩ := cs
    match l, hsz5 with
    | [c0, c1, c2, c3, c4], _ => exact ⟨c0, c1, c2, c3, c4, rfl⟩
  obtain ⟨fuel, hf⟩ := h
  obtain ⟨y0, y1, y2, n, hx, _, h0, h1, h2⟩ := trod_struct3 Try.underlying40 hf
  have k2 : DataW.trod enc Try.prog w base (fun _ => true) held n 38 [c2, c3, c4] = some y2 := h2
  obtain ⟨u0, u1, u2, m, hu, _, k0, k1, k3⟩ := trod_struct3 Try.underlying38 k2
  have g0 : DataW.trod enc Try.prog w base (fun _ => true) held n 2 [c0] = some y0 := h0
  have g1 : DataW.trod enc Try.prog w base (fun _ => true) held n 35 [c1] = some y1 := h1
  have g2 : DataW.trod enc Try.prog w base (fun _ => true) held m 2 [c2] = some u0 := k0
  have g3 : DataW.trod enc Try.prog w base (fun _ => true) held m 2 [c3] = some u1 := k1
  have g4 : DataW.trod enc Try.prog w base (fun _ => true) held m 36 [c4] = some u2 := k3
  obtain ⟨hh, e0, _, wh⟩ := DataW.trod_int Try.underlying2 g0
  obtain ⟨ff, e2, _, wf⟩ := DataW.trod_int Try.underlying2 g2
  obtain ⟨ll, e3, _, wl⟩ := DataW.trod_int Try.underlying2 g3
  simp at e0 e2 e3
  subst e0 e2 e3
  have o1 : ∃ (ao : Option Addr) (yo : List Int) (co : Nat), c1 = .slice ao yo.length co ∧ Ints w ao yo ∧ yo.length ≤ 9223372036854775807 := by
    rcases open_slice1 Try.underlying35 (by kernel_rfl) g1 with ⟨e, _⟩ | ⟨a1, len, cap, _, _, _, _, _, e, _⟩
    · simp at e
      subst e
      obtain ⟨zs, e, hr, hl⟩ := open_ints1 g1
      exact ⟨none, zs, 0, by rw [← e], hr, hl⟩
    · simp at e
      subst e
      obtain ⟨zs, e, hr, hl⟩ := open_ints1 g1
      exact ⟨some a1, zs, cap, by rw [e], hr, hl⟩
  have o4 : ∃ (a : Option Addr) (z : List (List Int)) (c : Nat), c4 = .slice a z.length c ∧ Rows2 w a z ∧ Lens z := by
    rcases open_slice1 Try.underlying36 (by kernel_rfl) g4 with ⟨e, _⟩ | ⟨a1, len, cap, _, _, _, _, _, e, _⟩
    · simp at e
      subst e
      obtain ⟨zss, e, hr, hl⟩ := open_rows2 g4
      exact ⟨none, zss, 0, by rw [← e], hr, hl⟩
    · simp at e
      subst e
      obtain ⟨zss, e, hr, hl⟩ := open_rows2 g4
      exact ⟨some a1, zss, cap, by rw [e], hr, hl⟩
  obtain ⟨ao, yo, co, rfl, ho, hlo⟩ := o1
  obtain ⟨a, z, c, rfl, hz, hlz⟩ := o4
  exact ⟨hh, ff, ll, ao, yo, co, a, z, c, rfl, ⟨ho, hz⟩, ⟨hlo, hlz⟩, wh, wf, wl⟩
end
end Go.Proofs.Ytnebkhelobpkpaa
