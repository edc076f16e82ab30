/- The contracts of the laws' own helpers on matrices: szMatrix, toMatrix, eqMatrix, markMatrix, heldMatrix. -/
import Derived.Test.YtedjildahjefkaaDoorKa
namespace Go.Proofs.YtedjildahjefkaaDoor
open Go.ChangeShapes Go.WideShapes Go.ChangeAt Go.RowKit Go.Deep Go.Joins
set_option linter.unusedVariables false

theorem Small2.lens {zss : List (List Int)} (h : Small2 zss) : Lens zss := ⟨by have := h.1; omega, fun r hr => by have := h.2 r hr; omega⟩

set_option maxRecDepth 100000 in
theorem szMatrix_any (h l : Int) (a : Option Addr) (zss : List (List Int)) (c : Nat) (left : Int) (w : World) (hr : Rows2 w a zss) (h0 : 0 ≤ left) (h1 : left ≤ 1048576) (hl : zss.length ≤ 9223372036854775807) (hll : ∀ r, r < zss.length → (nthL zss r).length ≤ 9223372036854775807) :
    Calls Tryd.prog 5 #[.agg #[.int .i64 h, .int .i64 l, .slice a zss.length c], .int .i64 left] w fun e w' => GivesInt (RoomFor left (Small2 zss)) e ∧ Below w.heap.size w w' := by
  have HL := Lib.hid hll
  clear hll
  go_enter Tryd.func5, Tryd.ntmps5
  go_wp2_with fail
  refine (szInt64SS_any a zss c left _ (hr.below ((Below.refl _ _).alloc (Nat.le_refl _) _) (Nat.le_refl _)) h0 h1 hl HL.out).mono ?_
  rintro e w1 ⟨⟨u, hu, rfl⟩, rfl⟩
  have hb := (Below.refl w.heap.size w).alloc (Nat.le_refl _) (.cells #[.int .i64 h, .int .i64 l, .slice a zss.length c] 24)
  rcases hu with rfl | ⟨hu0, hu1, hu2⟩
  · go_wp2
    go_ret
    exact ⟨⟨_, .inl rfl, rfl⟩, hb⟩
  · have H2 := Lib.hid hu2
    clear hu2
    go_wp2
    go_ret
    exact ⟨⟨_, .inr ⟨hu0, hu1, H2.out⟩, rfl⟩, hb⟩
set_option maxRecDepth 100000 in
set_option maxHeartbeats 1000000 in
/-- A matrix that a copy has made: the rows' block is at G. -/
theorem toMatrix_any (h l : Int) (a : Option Addr) (zss : List (List Int)) (c : Nat) (w : World) (hr : Rows2 w a zss) (hs : Small2 zss) :
    Calls Tryd.prog 7 #[.agg #[.int .i64 h, .int .i64 l, .slice a zss.length c]] w fun e w' => e = .returned (.agg #[.int .i64 h, .int .i64 l, .slice (some ⟨w.heap.size + 3, 0, none⟩) zss.length zss.length]) ∧
      w'.heap.size = w.heap.size + 4 + zss.length ∧ Own2 w' (w.heap.size + 3) zss ∧ Below w.heap.size w w' := by
  have HS := Lib.hid hs
  have HR := Lib.hid hr
  clear hs hr
  go_enter Tryd.func7, Tryd.ntmps7
  go_wp2_with fail
  refine (toInt64SS_any a zss c _ (HR.out.below ?_ (Nat.le_refl _)) HS.out.1 HS.out.2).mono ?_
  · exact (((Below.refl _ _).alloc (Nat.le_refl _) _).alloc (by simp) _).alloc (by simp; omega) _
  rintro e w1 ⟨rfl, hsz, hown, hbel⟩
  obtain ⟨hc, hf⟩ := bcell hbel
  simp only [World.size_alloc] at hsz hown hbel hc hf
  have HZ := Lib.hid hsz
  have HO := Lib.hid hown
  have HB := Lib.hid hbel
  clear hsz hown hbel
  go_wp2
  have hb1 : Below w.heap.size w w1 := ((((Below.refl w.heap.size w).alloc (Nat.le_refl _) _).alloc (by simp) _).alloc (by simp; omega) _).trans (HB.out.mono (by omega))
  refine bodyPost_ret (v := .agg #[.int .i64 h, .int .i64 l, .slice (some ⟨w.heap.size + 3, 0, none⟩) zss.length zss.length]) (by simp [results, Tryd.results7, go_sem, hc]) rfl ⟨rfl, ?_, ?_, ?_⟩
  · simp only [World.size_setCell]; rw [HZ.out]
  · exact (((HO.out.setCell (p := ⟨w.heap.size + 1 + 1, 2, none⟩) (by show w.heap.size + 1 + 1 < w.heap.size + 3; omega) _).setCell (p := ⟨w.heap.size + 1, 0, none⟩) (by show w.heap.size + 1 < w.heap.size + 3; omega) _).setCell (p := ⟨w.heap.size + 1, 1, none⟩) (by show w.heap.size + 1 < w.heap.size + 3; omega) _).setCell (p := ⟨w.heap.size + 1, 2, none⟩) (by show w.heap.size + 1 < w.heap.size + 3; omega) _
  · exact (((hb1.setCell (p := ⟨w.heap.size + 1 + 1, 2, none⟩) (by show w.heap.size ≤ w.heap.size + 1 + 1; omega) _).setCell (p := ⟨w.heap.size + 1, 0, none⟩) (by show w.heap.size ≤ w.heap.size + 1; omega) _).setCell (p := ⟨w.heap.size + 1, 1, none⟩) (by show w.heap.size ≤ w.heap.size + 1; omega) _).setCell (p := ⟨w.heap.size + 1, 2, none⟩) (by show w.heap.size ≤ w.heap.size + 1; omega) _
set_option maxRecDepth 100000 in
/-- 'eqMatrix' at one family twice: true. -/
theorem eqMatrix_same (h l : Int) (a b : Option Addr) (xs : List (List Int)) (ca cb : Nat) (w : World) (ha : Rows2 w a xs) (hb : Rows2 w b xs) (hl : xs.length ≤ 9223372036854775807) (hll : ∀ r, r < xs.length → (nthL xs r).length ≤ 9223372036854775807) :
    Calls Tryd.prog 9 #[.agg #[.int .i64 h, .int .i64 l, .slice a xs.length ca], .agg #[.int .i64 h, .int .i64 l, .slice b xs.length cb]] w fun e w' => e = .returned (.bool true) ∧ Below w.heap.size w w' := by
  have HL := Lib.hid hll
  have HA := Lib.hid ha
  have HB := Lib.hid hb
  clear hll ha hb
  go_enter Tryd.func9, Tryd.ntmps9
  go_wp2_with fail
  have hb1 := ((Below.refl w.heap.size w).alloc (Nat.le_refl _) (.cells #[.int .i64 h, .int .i64 l, .slice a xs.length ca] 27)).alloc (by simp) (.cells #[.int .i64 h, .int .i64 l, .slice b xs.length cb] 27)
  refine (eqInt64SS_same a b xs ca cb _ (HA.out.below hb1 (Nat.le_refl _)) (HB.out.below hb1 (Nat.le_refl _)) hl HL.out).mono ?_
  rintro e w1 ⟨rfl, hq⟩
  have hb2 := hb1.trans ((quiet_below hq).mono (by simp; omega))
  clear hq hb1
  go_wp2
  go_ret
  exact ⟨rfl, hb2⟩
theorem Boxes.m0 {W : World} {B : Nat} {t : TypeId} {v0 v1 v2 : Value} (h : Boxes W B t #[v0, v1, v2]) : W.cell? ⟨B, 0, none⟩ = some v0 := by rw [h.cell]; rfl
theorem Boxes.m1 {W : World} {B : Nat} {t : TypeId} {v0 v1 v2 : Value} (h : Boxes W B t #[v0, v1, v2]) : W.cell? ⟨B, 1, none⟩ = some v1 := by rw [h.cell]; rfl
theorem Boxes.m2 {W : World} {B : Nat} {t : TypeId} {v0 v1 v2 : Value} (h : Boxes W B t #[v0, v1, v2]) : W.cell? ⟨B, 2, none⟩ = some v2 := by rw [h.cell]; rfl

/-- What gives a matrix and a code, to be read. -/
structure GivesMX (W : World) (h l : Int) (zss : List (List Int)) (code : Int) (e : Ending) (w' : World) : Prop where
  val : ∃ a c, e = .returned (.tuple #[.agg #[.int .i64 h, .int .i64 l, .slice a zss.length c], .int .i64 code]) ∧ Rows2 w' a zss
  below : Below W.heap.size W w'
/-- What gives a matrix and a code in memory of its own. -/
structure GivesMY (W : World) (h l : Int) (zss : List (List Int)) (code : Int) (e : Ending) (w' : World) : Prop where
  val : ∃ v us, e = .returned (.tuple #[.agg #[.int .i64 h, .int .i64 l, v], .int .i64 code]) ∧ Own w' W.heap.size v us zss
  below : Below W.heap.size W w'
theorem GivesMY.x {W w' : World} {h l code : Int} {zss : List (List Int)} {e : Ending} (k : GivesMY W h l zss code e w') : GivesMX W h l zss code e w' := by
  obtain ⟨v, us, rfl, ho⟩ := k.val
  obtain ⟨a, c, rfl, hr⟩ := ho.rows2
  exact ⟨⟨a, c, rfl, hr⟩, k.below⟩

section
variable {H : Type} {enc : TypeId × Value → H} {w : World} {base : Nat} {held : Bool}
set_option maxRecDepth 100000 in
/-- A MATRIX BY VALUE, OPENED. -/
theorem open_mat {r : Reach} {b0 : Nat} {v : Value} {d : DataW H} {p : List MemPlace} (hv : Value.okWide Tryd.prog w r b0 24 v) (h : DataW.Trod enc Tryd.prog w base (fun _ => true) held 24 v d p) :
    ∃ (hh ll : Int) (a : Option Addr) (zss : List (List Int)) (c : Nat), v = .agg #[.int .i64 hh, .int .i64 ll, .slice a zss.length c] ∧ Rows2 w a zss ∧ Lens zss ∧ (Lit.int .i64 hh).wf = true ∧ (Lit.int .i64 ll).wf = true := by
  obtain ⟨c0, c1, c2, y0, y1, y2, m, rfl, _, _, hy0, hy1, hy2⟩ := open_agg3 Tryd.underlying24 (by kernel_rfl) (by kernel_rfl) hv h
  obtain ⟨hh, e0, _, wh⟩ := DataW.trod_int Tryd.underlying2 hy0
  obtain ⟨ll, e1, _, wl⟩ := DataW.trod_int Tryd.underlying2 hy1
  simp at e0 e1
  subst e0 e1
  rcases open_slice1 Tryd.underlying22 (by kernel_rfl) hy2 with ⟨e2, _⟩ | ⟨a1, len, cap, _, _, _, _, _, e2, _⟩
  · simp at e2
    subst e2
    obtain ⟨zss, e, hr, hl⟩ := open_rows2 hy2
    exact ⟨hh, ll, none, zss, 0, by rw [← e], hr, hl, wh, wl⟩
  · simp at e2
    subst e2
    obtain ⟨zss, e, hr, hl⟩ := open_rows2 hy2
    exact ⟨hh, ll, some a1, zss, cap, by rw [e], hr, hl, wh, wl⟩
end
end Go.Proofs.YtedjildahjefkaaDoor
