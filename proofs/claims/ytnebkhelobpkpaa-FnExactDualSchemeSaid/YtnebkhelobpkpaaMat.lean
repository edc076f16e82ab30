/- The contracts of the laws' own helpers on matrices: szMatrix, toMatrix, eqMatrix, markMatrix, heldMatrix. -/
import Derived.Test.YtnebkhelobpkpaaKa
namespace Go.Proofs.Ytnebkhelobpkpaa
open Go.ChangeShapes Go.WideShapes Go.ChangeAt Go.RowKit Go.Deep Go.Joins
set_option linter.unusedVariables false

theorem Small2.lens {zss : List (List Int)} (h : Small2 zss) : Lens zss := ⟨by have := h.1; omega, fun r hr => by have := h.2 r hr; omega⟩

set_option maxRecDepth 100000 in
theorem szMatrix_any (h l : Int) (a : Option Addr) (zss : List (List Int)) (c : Nat) (left : Int) (w : World) (hr : Rows2 w a zss) (h0 : 0 ≤ left) (h1 : left ≤ 1048576) (hl : zss.length ≤ 9223372036854775807) (hll : ∀ r, r < zss.length → (nthL zss r).length ≤ 9223372036854775807) :
    Calls Try.prog 39 #[.agg #[.int .i64 h, .int .i64 l, .slice a zss.length c], .int .i64 left] w fun e w' => GivesInt (RoomFor left (Small2 zss)) e ∧ Below w.heap.size w w' := by
  have HL := Lib.hid hll
  clear hll
  go_enter Try.func39, Try.ntmps39
  go_wp2_with fail
  refine (szInt64SS_any a zss c left _ (hr.below ((Below.refl _ _).alloc (Nat.le_refl _) _) (Nat.le_refl _)) h0 h1 hl HL.out).mono ?_
  rintro e w1 ⟨⟨u, hu, rfl⟩, rfl⟩
  have hb := (Below.refl w.heap.size w).alloc (Nat.le_refl _) (.cells #[.int .i64 h, .int .i64 l, .slice a zss.length c] 38)
  rcases hu with rfl | ⟨hu0, hu1, hu2⟩
  · go_wp2
    go_ret
    exact ⟨⟨_, .inl rfl, rfl⟩, hb⟩
  · have H2 := Lib.hid hu2
    clear hu2
    go_wp2
    go_ret
    exact ⟨⟨_, .inr ⟨hu0, hu1, H2.out⟩, rfl⟩, hb⟩
set_option maxRecDepth 100000 in
set_option maxHeartbeats 1000000 in
/-- A matrix that a copy has made: the rows' block is at G. -/
theorem toMatrix_any (h l : Int) (a : Option Addr) (zss : List (List Int)) (c : Nat) (w : World) (hr : Rows2 w a zss) (hs : Small2 zss) :
    Calls Try.prog 41 #[.agg #[.int .i64 h, .int .i64 l, .slice a zss.length c]] w fun e w' => e = .returned (.agg #[.int .i64 h, .int .i64 l, .slice (some ⟨w.heap.size + 3, 0, none⟩) zss.length zss.length]) ∧
      w'.heap.size = w.heap.size + 4 + zss.length ∧ Own2 w' (w.heap.size + 3) zss ∧ Below w.heap.size w w' := by
  have HS := Lib.hid hs
  have HR := Lib.hid hr
  clear hs hr
  go_enter Try.func41, Try.ntmps41
  go_wp2_with fail
  refine (toInt64SS_any a zss c _ (HR.out.below ?_ (Nat.le_refl _)) HS.out.1 HS.out.2).mono ?_
  · exact (((Below.refl _ _).alloc (Nat.le_refl _) _).alloc (by simp) _).alloc (by simp; omega) _
  rintro e w1 ⟨rfl, hsz, hown, hbel⟩
  obtain ⟨hc, hf⟩ := bcell hbel
  simp only [World.size_alloc] at hsz hown hbel hc hf
  have HZ := Lib.hid hsz
  have HO := Lib.hid hown
  have HB := Lib.hid hbel
  clear hsz hown hbel
  go_wp2
  have hb1 : Below w.heap.size w w1 := ((((Below.refl w.heap.size w).alloc (Nat.le_refl _) _).alloc (by simp) _).alloc (by simp; omega) _).trans (HB.out.mono (by omega))
  refine bodyPost_ret (v := .agg #[.int .i64 h, .int .i64 l, .slice (some ⟨w.heap.size + 3, 0, none⟩) zss.length zss.length]) (by simp [results, Try.results41, go_sem, hc]) rfl ⟨rfl, ?_, ?_, ?_⟩
  · simp only [World.size_setCell]; rw [HZ.out]
  · exact (((HO.out.setCell (p := ⟨w.heap.size + 1 + 1, 2, none⟩) (by show w.heap.size + 1 + 1 < w.heap.size + 3; omega) _).setCell (p := ⟨w.heap.size + 1, 0, none⟩) (by show w.heap.size + 1 < w.heap.size + 3; omega) _).setCell (p := ⟨w.heap.size + 1, 1, none⟩) (by show w.heap.size + 1 < w.heap.size + 3; omega) _).setCell (p := ⟨w.heap.size + 1, 2, none⟩) (by show w.heap.size + 1 < w.heap.size + 3; omega) _
  · exact (((hb1.setCell (p := ⟨w.heap.size + 1 + 1, 2, none⟩) (by show w.heap.size ≤ w.heap.size + 1 + 1; omega) _).setCell (p := ⟨w.heap.size + 1, 0, none⟩) (by show w.heap.size ≤ w.heap.size + 1; omega) _).setCell (p := ⟨w.heap.size + 1, 1, none⟩) (by show w.heap.size ≤ w.heap.size + 1; omega) _).setCell (p := ⟨w.heap.size + 1, 2, none⟩) (by show w.heap.size ≤ w.heap.size + 1; omega) _
set_option maxRecDepth 100000 in
/-- 'eqMatrix' at one family twice: true. -/
theorem eqMatrix_same (h l : Int) (a b : Option Addr) (xs : List (List Int)) (ca cb : Nat) (w : World) (ha : Rows2 w a xs) (hb : Rows2 w b xs) (hl : xs.length ≤ 9223372036854775807) (hll : ∀ r, r < xs.length → (nthL xs r).length ≤ 9223372036854775807) :
    Calls Try.prog 43 #[.agg #[.int .i64 h, .int .i64 l, .slice a xs.length ca], .agg #[.int .i64 h, .int .i64 l, .slice b xs.length cb]] w fun e w' => e = .returned (.bool true) ∧ Below w.heap.size w w' := by
  have HL := Lib.hid hll
  have HA := Lib.hid ha
  have HB := Lib.hid hb
  clear hll ha hb
  go_enter Try.func43, Try.ntmps43
  go_wp2_with fail
  have hb1 := ((Below.refl w.heap.size w).alloc (Nat.le_refl _) (.cells #[.int .i64 h, .int .i64 l, .slice a xs.length ca] 46)).alloc (by simp) (.cells #[.int .i64 h, .int .i64 l, .slice b xs.length cb] 46)
  refine (eqInt64SS_same a b xs ca cb _ (HA.out.below hb1 (Nat.le_refl _)) (HB.out.below hb1 (Nat.le_refl _)) hl HL.out).mono ?_
  rintro e w1 ⟨rfl, hq⟩
  have hb2 := hb1.trans ((quiet_below hq).mono (by simp; omega))
  clear hq hb1
  go_wp2
  go_ret
  exact ⟨rfl, hb2⟩
set_option maxRecDepth 100000 in
theorem markMatrix_any (h l : Int) (g c : Nat) (zss : List (List Int)) (k : Int) (w : World) (ho : Own2 w g zss) (hs : Small2 zss) (hk0 : 0 ≤ k) (hk1 : k ≤ 1048576) :
    Calls Try.prog 44 #[.agg #[.int .i64 h, .int .i64 l, .slice (some ⟨g, 0, none⟩) zss.length c], .int .i64 k] w (Marked2 w g zss.length) := by
  have hb1 := (Below.refl w.heap.size w).alloc (Nat.le_refl _) (.cells #[.int .i64 h, .int .i64 l, .slice (some ⟨g, 0, none⟩) zss.length c] 46)
  have HO := Lib.hid (ho.step hb1)
  have HS := Lib.hid hs
  clear ho hs
  go_enter Try.func44, Try.ntmps44
  go_wp2_with fail
  refine (markInt64SS_any g c zss k _ HO.out HS.out hk0 hk1).mono ?_
  generalize w.alloc (.cells #[.int .i64 h, .int .i64 l, .slice (some ⟨g, 0, none⟩) zss.length c] 46) = w1 at *
  rintro e w2 ⟨⟨⟨u, hu, rfl⟩, ht⟩, _⟩
  have HT := Lib.hid ((Touch.of_below _ _ hb1).trans ht)
  clear ht hb1
  go_wp2_with fail
  go_ret
  exact ⟨⟨u, hu, rfl⟩, HT.out⟩
set_option maxRecDepth 100000 in
theorem markMatO_any (h l : Int) (v : Value) (us : List Value) (zss : List (List Int)) (base : Nat) (k : Int) (w : World) (ho : Own w base v us zss) (hs : Small2 zss) (hk0 : 0 ≤ k) (hk1 : k ≤ 1048576) (hbw : base ≤ w.heap.size) :
    Calls Try.prog 44 #[.agg #[.int .i64 h, .int .i64 l, v], .int .i64 k] w (MarkedO w base v us zss k) := by
  obtain ⟨a, c, rfl⟩ := ho.form
  have hb1 := (Below.refl w.heap.size w).alloc (Nat.le_refl _) (.cells #[.int .i64 h, .int .i64 l, .slice a zss.length c] 46)
  have HO := Lib.hid (ho.step hb1)
  have HS := Lib.hid hs
  clear ho hs
  go_enter Try.func44, Try.ntmps44
  go_wp2_with fail
  have hsz : w.heap.size ≤ (w.alloc (.cells #[.int .i64 h, .int .i64 l, .slice a zss.length c] 46)).heap.size := by simp
  refine (markSSO_any _ us zss base k _ HO.out HS.out hk0 hk1 (Nat.le_trans hbw hsz)).mono ?_
  rintro e w2 ⟨rfl, ho2, hb2, hz2, hk2⟩
  have HK2 := Lib.hid ((KeepsT.of_below hb1).trans hk2)
  have HO2 := Lib.hid ho2
  have HB2 := Lib.hid ((hb1.mono hbw).trans hb2)
  have HZ := Lib.hid (Nat.le_trans hsz hz2)
  clear ho2 hb2 hz2 hk2 hb1
  go_wp2_with fail
  go_ret
  exact ⟨rfl, HO2.out, HB2.out, HZ.out, HK2.out⟩
set_option maxRecDepth 100000 in
theorem heldMatO_any (h l : Int) (a : Option Addr) (c : Nat) (zss : List (List Int)) (k : Int) (w : World) (hr : Rows2 w a (marked k zss)) (hs : Small2 zss) (hk0 : 0 ≤ k) (hk1 : k ≤ 1048576) :
    Calls Try.prog 90 #[.agg #[.int .i64 h, .int .i64 l, .slice a zss.length c], .int .i64 k] w fun e w' => e = .returned (.int .i64 (k + total zss)) ∧ Below w.heap.size w w' := by
  have hb1 := (Below.refl w.heap.size w).alloc (Nat.le_refl _) (.cells #[.int .i64 h, .int .i64 l, .slice a zss.length c] 46)
  have HR := Lib.hid (hr.step hb1)
  have HS := Lib.hid hs
  have hn := total_nonneg zss
  clear hr hs
  go_enter Try.func90, Try.ntmps90
  go_wp2_with fail
  refine (heldSSO_any a c zss k _ HR.out HS.out hk0 hk1).mono ?_
  rintro e w2 ⟨rfl, rfl⟩
  go_wp2_with fail
  go_ret
  exact ⟨rfl, hb1⟩

theorem Boxes.m0 {W : World} {B : Nat} {t : TypeId} {v0 v1 v2 : Value} (h : Boxes W B t #[v0, v1, v2]) : W.cell? ⟨B, 0, none⟩ = some v0 := by rw [h.cell]; rfl
theorem Boxes.m1 {W : World} {B : Nat} {t : TypeId} {v0 v1 v2 : Value} (h : Boxes W B t #[v0, v1, v2]) : W.cell? ⟨B, 1, none⟩ = some v1 := by rw [h.cell]; rfl
theorem Boxes.m2 {W : World} {B : Nat} {t : TypeId} {v0 v1 v2 : Value} (h : Boxes W B t #[v0, v1, v2]) : W.cell? ⟨B, 2, none⟩ = some v2 := by rw [h.cell]; rfl

/-- What gives a matrix and a code, to be read. -/
structure GivesMX (W : World) (h l : Int) (zss : List (List Int)) (code : Int) (e : Ending) (w' : World) : Prop where
  val : ∃ a c, e = .returned (.tuple #[.agg #[.int .i64 h, .int .i64 l, .slice a zss.length c], .int .i64 code]) ∧ Rows2 w' a zss
  below : Below W.heap.size W w'
/-- What gives a matrix and a code in memory of its own. -/
structure GivesMY (W : World) (h l : Int) (zss : List (List Int)) (code : Int) (e : Ending) (w' : World) : Prop where
  val : ∃ v us, e = .returned (.tuple #[.agg #[.int .i64 h, .int .i64 l, v], .int .i64 code]) ∧ Own w' W.heap.size v us zss
  below : Below W.heap.size W w'
theorem GivesMY.x {W w' : World} {h l code : Int} {zss : List (List Int)} {e : Ending} (k : GivesMY W h l zss code e w') : GivesMX W h l zss code e w' := by
  obtain ⟨v, us, rfl, ho⟩ := k.val
  obtain ⟨a, c, rfl, hr⟩ := ho.rows2
  exact ⟨⟨a, c, rfl, hr⟩, k.below⟩

section
variable {H : Type} {enc : TypeId × Value → H} {w : World} {base : Nat} {held : Bool}
set_option maxRecDepth 100000 in
/-- A MATRIX BY VALUE, OPENED. -/
theorem open_mat {r : Reach} {b0 : Nat} {v : Value} {d : DataW H} {p : List MemPlace} (hv : Value.okWide Try.prog w r b0 38 v) (h : DataW.Trod enc Try.prog w base (fun _ => true) held 38 v d p) :
    ∃ (hh ll : Int) (a : Option Addr) (zss : List (List Int)) (c : Nat), v = .agg #[.int .i64 hh, .int .i64 ll, .slice a zss.length c] ∧ Rows2 w a zss ∧ Lens zss ∧ (Lit.int .i64 hh).wf = true ∧ (Lit.int .i64 ll).wf = true := by
  obtain ⟨c0, c1, c2, y0, y1, y2, m, rfl, _, _, hy0, hy1, hy2⟩ := open_agg3 Try.underlying38 (by kernel_rfl) (by kernel_rfl) hv h
  obtain ⟨hh, e0, _, wh⟩ := DataW.trod_int Try.underlying2 hy0
  obtain ⟨ll, e1, _, wl⟩ := DataW.trod_int Try.underlying2 hy1
  simp at e0 e1
  subst e0 e1
  rcases open_slice1 Try.underlying36 (by kernel_rfl) hy2 with ⟨e2, _⟩ | ⟨a1, len, cap, _, _, _, _, _, e2, _⟩
  · simp at e2
    subst e2
    obtain ⟨zss, e, hr, hl⟩ := open_rows2 hy2
    exact ⟨hh, ll, none, zss, 0, by rw [← e], hr, hl, wh, wl⟩
  · simp at e2
    subst e2
    obtain ⟨zss, e, hr, hl⟩ := open_rows2 hy2
    exact ⟨hh, ll, some a1, zss, cap, by rw [e], hr, hl, wh, wl⟩
end
end Go.Proofs.Ytnebkhelobpkpaa
