/- Ranks: what the laws' own helpers do with them (szRanks, toRanks, eqRanks, markRanks, heldRanks); ranks opened. -/
import Derived.Test.YthmjcmhaijiedaaDoorMk2f
import Derived.Test.YthmjcmhaijiedaaDoorOpen
namespace Go.Proofs.YthmjcmhaijiedaaDoor
open Go.ChangeShapes Go.WideShapes Go.ChangeAt Go.RowKit Go.Deep Go.Joins
set_option linter.unusedVariables false

structure SmI (z : List Int) : Prop where
  n : z.length ≤ 1048576
structure LenI (z : List Int) : Prop where
  n : z.length ≤ 9223372036854775807
theorem SmI.lens {z : List Int} (h : SmI z) : LenI z := ⟨by have := h.n; omega⟩
def RoomI (left : Int) (z : List Int) (v : Int) : Prop := v = -1 ∨ (0 ≤ v ∧ v + z.length ≤ left ∧ v ≤ left ∧ SmI z)

theorem OwnI.rows {W : World} {base n c : Nat} {a : Option Addr} {z : List Int} (h : OwnI W base (.slice a n c) z) : Ints W a z := Ints_of_own h
theorem OwnI.rows2v {W : World} {base n c : Nat} {a : Option Addr} {z : List Int} (h : OwnI W base (.slice a n c) z) : Ints W a z := Ints_of_own h
theorem OwnI.touch {lo hi : Nat} {W W' : World} {base : Nat} {v : Value} {z : List Int} (k : OwnI W base v z) (h : Touch lo hi W W') (hg : hi ≤ base) : OwnI W' base v z := h.own k hg
theorem row_seta {W : World} {base e size k : Nat} {v : Value} {xs : List Value} (h : W.ownsRow base e size v k xs) {p : Addr} (hb : p.block < base) (u : Value) : (W.setCell p u).ownsRow base e size v k xs := by
  refine h.kept ⟨rfl, rfl, rfl, (KeepsWalks.setCell W _ u).size, fun q _ hq => Below.heap_setCell _ _ _ q (fun e => hq (by rw [e]))⟩ (row := some p.block) ?_
  rcases h.2 with ⟨rfl, _⟩ | ⟨g, cap, cur, rfl, hg, _⟩
  · exact .inl rfl
  · refine .inr fun e' => ?_
    obtain rfl : g = p.block := by simpa [Value.ownBlock] using e'
    omega
theorem OwnI.setCell2 {W : World} {base : Nat} {v : Value} {z : List Int} (h : OwnI W base v z) {p : Addr} (hp : p.block < base) (u : Value) : OwnI (W.setCell p u) base v z := row_seta h hp u
theorem Boxes.m0 {W : World} {B : Nat} {t : TypeId} {v0 v1 v2 : Value} (h : Boxes W B t #[v0, v1, v2]) : W.cell? ⟨B, 0, none⟩ = some v0 := by rw [h.cell]; rfl
theorem Boxes.m1 {W : World} {B : Nat} {t : TypeId} {v0 v1 v2 : Value} (h : Boxes W B t #[v0, v1, v2]) : W.cell? ⟨B, 1, none⟩ = some v1 := by rw [h.cell]; rfl
theorem Boxes.m2 {W : World} {B : Nat} {t : TypeId} {v0 v1 v2 : Value} (h : Boxes W B t #[v0, v1, v2]) : W.cell? ⟨B, 2, none⟩ = some v2 := by rw [h.cell]; rfl
theorem Boxes.quiet {W W' : World} {B : Nat} {t : TypeId} {vs : Array Value} (h : Boxes W B t vs) (q : Quiet W W') : Boxes W' B t vs := h.step (quiet_below q)
theorem boxes_new (w : World) (vs : Array Value) (t : TypeId) : Boxes (w.alloc (.cells vs t)) w.heap.size t vs := World.alloc_heap_new w _

set_option maxRecDepth 100000 in
theorem szRanks2_any (h l : Int) (a : Option Addr) (z : List Int) (c : Nat) (left : Int) (w : World) (hr : Ints w a z) (h0 : 0 ≤ left) (h1 : left ≤ 1048576) (hl : LenI z) :
    Calls Tryd.prog 12 #[.agg #[.int .i64 h, .int .i64 l, .slice a z.length c], .int .i64 left] w fun e w' => GivesInt (RoomI left z) e ∧ Below w.heap.size w w' := by
  have hln := hl.n
  go_enter Tryd.func12, Tryd.ntmps12
  go_wp2_with fail
  refine (szS2_any a z c left _ h0 h1 hln).mono ?_
  rintro e w1 ⟨⟨u, hu, rfl⟩, rfl⟩
  have hb := (Below.refl w.heap.size w).alloc (Nat.le_refl _) (.cells #[.int .i64 h, .int .i64 l, .slice a z.length c] 24)
  rcases hu with rfl | ⟨hu0, hu1⟩
  · go_wp2
    go_ret
    exact ⟨⟨_, .inl rfl, rfl⟩, hb⟩
  · have H1 := Lib.hid hu1
    have H2 := Lib.hid (show SmI z from ⟨by omega⟩)
    have hu2 : u ≤ left := by omega
    clear hu1
    go_wp2
    go_ret
    exact ⟨⟨_, .inr ⟨hu0, H1.out, hu2, H2.out⟩, rfl⟩, hb⟩

set_option maxRecDepth 100000 in
set_option maxHeartbeats 1000000 in
theorem toRanks_any (h l : Int) (a : Option Addr) (z : List Int) (c : Nat) (w : World) (hr : Ints w a z) (hs : SmI z) :
    Calls Tryd.prog 15 #[.agg #[.int .i64 h, .int .i64 l, .slice a z.length c]] w fun e w' => e = .returned (.agg #[.int .i64 h, .int .i64 l, .slice (some ⟨w.heap.size + 3, 0, none⟩) z.length z.length]) ∧
      w'.heap.size = w.heap.size + 4 ∧ OwnI w' (w.heap.size + 3) (.slice (some ⟨w.heap.size + 3, 0, none⟩) z.length z.length) z ∧ Below w.heap.size w w' := by
  have hl := hs.n
  have HR := Lib.hid hr
  clear hr
  go_enter Tryd.func15, Tryd.ntmps15
  go_wp2_with fail
  refine (toInt64S_any a z c _ (HR.out.below ?_ (Nat.le_refl _)) hl).mono ?_
  · exact (((Below.refl _ _).alloc (Nat.le_refl _) _).alloc (by simp) _).alloc (by simp; omega) _
  rintro e w1 ⟨rfl, hsz, hrow, hbel⟩
  obtain ⟨hc, hf⟩ := bcell hbel
  simp only [World.size_alloc] at hsz hrow hbel hc hf
  have HZ := Lib.hid hsz
  have HO := Lib.hid (own_of_row hrow (by unfold maxLen; omega))
  have HB := Lib.hid hbel
  clear hsz hrow hbel
  go_wp2
  have hb1 : Below w.heap.size w w1 := ((((Below.refl w.heap.size w).alloc (Nat.le_refl _) _).alloc (by simp) _).alloc (by simp; omega) _).trans (HB.out.mono (by omega))
  refine bodyPost_ret (v := .agg #[.int .i64 h, .int .i64 l, .slice (some ⟨w.heap.size + 3, 0, none⟩) z.length z.length]) (by simp [results, Tryd.results15, go_sem, hc]) rfl ⟨rfl, ?_, ?_, ?_⟩
  · simp only [World.size_setCell]; have := HZ.out; omega
  · exact (((HO.out.setCell2 (p := ⟨w.heap.size + 1 + 1, 2, none⟩) (by show w.heap.size + 1 + 1 < w.heap.size + 3; omega) _).setCell2 (p := ⟨w.heap.size + 1, 0, none⟩) (by show w.heap.size + 1 < w.heap.size + 3; omega) _).setCell2 (p := ⟨w.heap.size + 1, 1, none⟩) (by show w.heap.size + 1 < w.heap.size + 3; omega) _).setCell2 (p := ⟨w.heap.size + 1, 2, none⟩) (by show w.heap.size + 1 < w.heap.size + 3; omega) _
  · exact (((hb1.setCell (p := ⟨w.heap.size + 1 + 1, 2, none⟩) (by show w.heap.size ≤ w.heap.size + 1 + 1; omega) _).setCell (p := ⟨w.heap.size + 1, 0, none⟩) (by show w.heap.size ≤ w.heap.size + 1; omega) _).setCell (p := ⟨w.heap.size + 1, 1, none⟩) (by show w.heap.size ≤ w.heap.size + 1; omega) _).setCell (p := ⟨w.heap.size + 1, 2, none⟩) (by show w.heap.size ≤ w.heap.size + 1; omega) _

set_option maxRecDepth 100000 in
/-- 'eqRanks' at the same ranks twice: true. -/
theorem eqRanks_same (h l : Int) (a b : Option Addr) (xs : List Int) (ca cb : Nat) (w : World) (ha : Ints w a xs) (hb : Ints w b xs) (hl : LenI xs) :
    Calls Tryd.prog 19 #[.agg #[.int .i64 h, .int .i64 l, .slice a xs.length ca], .agg #[.int .i64 h, .int .i64 l, .slice b xs.length cb]] w fun e w' => e = .returned (.bool true) ∧ Below w.heap.size w w' := by
  have HL := Lib.hid hl
  have HA := Lib.hid ha
  have HB := Lib.hid hb
  clear hl ha hb
  go_enter Tryd.func19, Tryd.ntmps19
  go_wp2_with fail
  have hb1 := ((Below.refl w.heap.size w).alloc (Nat.le_refl _) (.cells #[.int .i64 h, .int .i64 l, .slice a xs.length ca] 32)).alloc (by simp) (.cells #[.int .i64 h, .int .i64 l, .slice b xs.length cb] 32)
  refine (eqInt64S_same a b xs ca cb _ (HA.out.below hb1 (Nat.le_refl _)) (HB.out.below hb1 (Nat.le_refl _)) HL.out.n).mono ?_
  rintro e w1 ⟨rfl, hq⟩
  have hb2 := hb1.trans ((quiet_below hq).mono (by simp; omega))
  clear hq hb1
  go_wp2
  go_ret
  exact ⟨rfl, hb2⟩

set_option maxRecDepth 100000 in
theorem markRanks3_any (h l : Int) (g c : Nat) (z : List Int) (k : Int) (w : World) (ho : OwnI w g (.slice (some ⟨g, 0, none⟩) z.length c) z) (hs : SmI z) (hk0 : 0 ≤ k) (hk1 : k ≤ 4194304) :
    Calls Tryd.prog 21 #[.agg #[.int .i64 h, .int .i64 l, .slice (some ⟨g, 0, none⟩) z.length c], .int .i64 k] w fun e w' => e = .returned (.int .i64 (k + z.length)) ∧ Touch g (g + 1) w w' := by
  have hl := hs.n
  have hb1 := (Below.refl w.heap.size w).alloc (Nat.le_refl _) (.cells #[.int .i64 h, .int .i64 l, .slice (some ⟨g, 0, none⟩) z.length c] 32)
  have HO := Lib.hid (ho.step hb1)
  clear ho hs
  go_enter Tryd.func21, Tryd.ntmps21
  go_wp2_with fail
  refine (markInt64S_any _ z g k _ HO.out (by omega) (by omega) (by omega)).mono ?_
  generalize w.alloc (.cells #[.int .i64 h, .int .i64 l, .slice (some ⟨g, 0, none⟩) z.length c] 32) = w1 at *
  rintro e w2 ⟨rfl, hown, hsz, hgr⟩
  have ht : Touch g (g + 1) w1 w2 := Touch.of_grown hgr (fun q hq => by simp [Value.ownBlock] at hq; omega)
  have HT := Lib.hid ((Touch.of_below _ _ hb1).trans ht)
  clear ht hb1 hown hsz hgr
  go_wp2_with fail
  go_ret
  exact ⟨rfl, HT.out⟩

/-- What marks an answer's list. -/
structure MarkedI (W : World) (base : Nat) (v : Value) (zs : List Int) (k : Int) (e : Ending) (w' : World) : Prop where
  val : e = .returned (.int .i64 (k + zs.length))
  own : OwnI w' base v (marks k zs.length)
  below : Below base W w'
  size : W.heap.size ≤ w'.heap.size
  keep : KeepsT W w'
set_option maxRecDepth 100000 in
theorem markRkO_any (h l : Int) (v : Value) (zs : List Int) (base : Nat) (k : Int) (w : World) (ho : OwnI w base v zs) (hs : SmI zs) (hk0 : 0 ≤ k) (hk1 : k ≤ 1048576) (hbw : base ≤ w.heap.size) :
    Calls Tryd.prog 21 #[.agg #[.int .i64 h, .int .i64 l, v], .int .i64 k] w (MarkedI w base v zs k) := by
  obtain ⟨a, c, rfl⟩ := ho.form
  have hl := hs.n
  have hb1 := (Below.refl w.heap.size w).alloc (Nat.le_refl _) (.cells #[.int .i64 h, .int .i64 l, .slice a zs.length c] 32)
  have HO := Lib.hid (ho.step hb1)
  have hb0 := (Below.refl base w).alloc hbw (.cells #[.int .i64 h, .int .i64 l, .slice a zs.length c] 32)
  have hszz : w.heap.size ≤ (w.alloc (.cells #[.int .i64 h, .int .i64 l, .slice a zs.length c] 32)).heap.size := by simp
  clear ho hs
  go_enter Tryd.func21, Tryd.ntmps21
  go_wp2_with fail
  refine (markInt64S_any _ zs base k _ HO.out (by omega) (by omega) (by omega)).mono ?_
  generalize w.alloc (.cells #[.int .i64 h, .int .i64 l, .slice a zs.length c] 32) = w1 at *
  rintro e w2 ⟨rfl, hown, hsz, hgr⟩
  have HK := Lib.hid ((KeepsT.of_below hb1).trans (KeepsT.of_grown HO.out hgr))
  have HB := Lib.hid (hb0.grown hgr (Nat.le_trans hbw hb0.size) (fun q hq => (HO.out.lt hq).1))
  have HW := Lib.hid hown
  have HZ := Lib.hid (show w.heap.size ≤ w2.heap.size by omega)
  clear hb0 hb1 hown hgr hsz hszz
  go_wp2_with fail
  go_ret
  exact ⟨rfl, HW.out, HB.out, HZ.out, HK.out⟩
set_option maxRecDepth 100000 in
theorem heldRkO_any (h l : Int) (a : Option Addr) (n c : Nat) (k : Int) (w : World) (hr : Ints w a (marks k n)) (hk0 : 0 ≤ k) (hk1 : k ≤ 1048576) (hn : n ≤ 1048576) :
    Calls Tryd.prog 27 #[.agg #[.int .i64 h, .int .i64 l, .slice a n c], .int .i64 k] w fun e w' => e = .returned (.int .i64 (k + n)) ∧ Below w.heap.size w w' := by
  have hb1 := (Below.refl w.heap.size w).alloc (Nat.le_refl _) (.cells #[.int .i64 h, .int .i64 l, .slice a n c] 32)
  have HR := Lib.hid (hr.step hb1)
  have hn0 : (0 : Int) ≤ (n : Int) := by omega
  clear hr
  go_enter Tryd.func27, Tryd.ntmps27
  go_wp2_with fail
  refine (heldInt64S_any a n c k _ HR.out (by omega) (by omega) (by omega)).mono ?_
  rintro e w2 ⟨rfl, rfl⟩
  go_wp2_with fail
  go_ret
  exact ⟨rfl, hb1⟩

/-- What gives ranks and a code, to be read. -/
structure GivesKX (W : World) (h l : Int) (z : List Int) (code : Int) (e : Ending) (w' : World) : Prop where
  val : ∃ a c, e = .returned (.tuple #[.agg #[.int .i64 h, .int .i64 l, .slice a z.length c], .int .i64 code]) ∧ Ints w' a z
  below : Below W.heap.size W w'
/-- What gives ranks and a code in memory of its own. -/
structure GivesKY (W : World) (h l : Int) (z : List Int) (code : Int) (e : Ending) (w' : World) : Prop where
  val : ∃ v, e = .returned (.tuple #[.agg #[.int .i64 h, .int .i64 l, v], .int .i64 code]) ∧ OwnI w' W.heap.size v z
  below : Below W.heap.size W w'
theorem GivesKY.x {W w' : World} {h l code : Int} {z : List Int} {e : Ending} (k : GivesKY W h l z code e w') : GivesKX W h l z code e w' := by
  obtain ⟨v, rfl, ho⟩ := k.val
  obtain ⟨a, c, rfl, hr, _⟩ := ho.ints
  exact ⟨⟨a, c, rfl, hr⟩, k.below⟩

section
variable {H : Type} {enc : TypeId × Value → H} {w : World} {base : Nat} {held : Bool}
set_option maxRecDepth 100000 in
/-- RANKS BY VALUE, OPENED. -/
theorem open_rk {r : Reach} {b0 : Nat} {v : Value} {d : DataW H} {p : List MemPlace} (hv : Value.okWide Tryd.prog w r b0 24 v) (h : DataW.Trod enc Tryd.prog w base (fun _ => true) held 24 v d p) :
    ∃ (hh ll : Int) (a : Option Addr) (z : List Int) (c : Nat), v = .agg #[.int .i64 hh, .int .i64 ll, .slice a z.length c] ∧ Ints w a z ∧ LenI z ∧ (Lit.int .i64 hh).wf = true ∧ (Lit.int .i64 ll).wf = true := by
  obtain ⟨c0, c1, c2, y0, y1, y2, m, rfl, _, _, hy0, hy1, hy2⟩ := open_agg3 Tryd.underlying24 (by kernel_rfl) (by kernel_rfl) hv h
  obtain ⟨hh, e0, _, wh⟩ := DataW.trod_int Tryd.underlying2 hy0
  obtain ⟨ll, e1, _, wl⟩ := DataW.trod_int Tryd.underlying2 hy1
  simp at e0 e1
  subst e0 e1
  rcases open_slice1 Tryd.underlying22 (by kernel_rfl) hy2 with ⟨e2, _⟩ | ⟨a1, len, cap, _, _, _, _, _, e2, _⟩
  · simp at e2
    subst e2
    obtain ⟨zs, e, hr, hl⟩ := open_ints1 hy2
    exact ⟨hh, ll, none, zs, 0, by rw [← e], hr, ⟨hl⟩, wh, wl⟩
  · simp at e2
    subst e2
    obtain ⟨zs, e, hr, hl⟩ := open_ints1 hy2
    exact ⟨hh, ll, some a1, zs, cap, by rw [e], hr, ⟨hl⟩, wh, wl⟩
end
end Go.Proofs.YthmjcmhaijiedaaDoor
