/- 'laws.FnExactPutFamily': the law's walk, the plain statement, the tied card, in one text (a claim has at most 60 files). -/
import Derived.Test.YtnalbonnjcphkaaDoorWts
import Derived.Test.YtnalbonnjcphkaaDoorMk
import Derived.Test.YtnalbonnjcphkaaDoorFam
import Derived.Deep.RegionHeld3
import Derived.Deep.CutRange
import Derived.Test.YtnalbonnjcphkaaDoorPui
import Derived.Test.YtnalbonnjcphkaaDoorOpen
import Derived.Test.YtnalbonnjcphkaaDoorCp
import Derived.LaidHandle
import Derived.LaidLaws
import Derived.LaidMore
import Derived.Test.YtnalbonnjcphkaaDoorLpuC
import Derived.Test.YtnalbonnjcphkaaDoorLpuD
import Derived.Test.YtnalbonnjcphkaaDoorTie

/- What the walks of the laws use: blocks, answers by their parts. -/
namespace Go.Proofs.YtnalbonnjcphkaaDoor
open Go.RowKit Go.Deep
set_option linter.unusedVariables false

/-- A block of known cells. -/
def Boxes (W : World) (B : Nat) (t : TypeId) (vs : Array Value) : Prop := W.heap[B]? = some (.cells vs t (0, 0))
theorem Boxes.lt {W : World} {B : Nat} {t : TypeId} {vs : Array Value} (h : Boxes W B t vs) : B < W.heap.size := (Array.getElem?_eq_some_iff.1 h).1
theorem Boxes.step {W W' : World} {B : Nat} {t : TypeId} {vs : Array Value} (h : Boxes W B t vs) (hb : Below W.heap.size W W') : Boxes W' B t vs := (hb.block B h.lt).trans h
theorem Boxes.cell {W : World} {B : Nat} {t : TypeId} {vs : Array Value} (h : Boxes W B t vs) (i : Nat) : W.cell? ⟨B, i, none⟩ = vs[i]? := by simp [World.cell?, show W.heap[B]? = _ from h]
theorem Boxes.c0 {W : World} {B : Nat} {t : TypeId} {v0 v1 : Value} (h : Boxes W B t #[v0, v1]) : W.cell? ⟨B, 0, none⟩ = some v0 := by rw [h.cell]; rfl
theorem Boxes.c1 {W : World} {B : Nat} {t : TypeId} {v0 v1 : Value} (h : Boxes W B t #[v0, v1]) : W.cell? ⟨B, 1, none⟩ = some v1 := by rw [h.cell]; rfl

/-- What gives a family and a code, to be read. -/
structure GivesFX (W : World) (h : Int) (zss : List (List Int)) (code : Int) (e : Ending) (w' : World) : Prop where
  val : ∃ a c, e = .returned (.tuple #[.agg #[.int .i64 h, .slice a zss.length c], .int .i64 code]) ∧ RowsF w' W.heap.size a zss
  below : Below W.heap.size W w'
/-- What gives a family and a code in memory of its own. -/
structure GivesFY (W : World) (h : Int) (zss : List (List Int)) (code : Int) (e : Ending) (w' : World) : Prop where
  val : ∃ v us, e = .returned (.tuple #[.agg #[.int .i64 h, v], .int .i64 code]) ∧ Own w' W.heap.size v us zss
  below : Below W.heap.size W w'
theorem GivesFC.x {W w' : World} {r : FR} {e : Ending} (h : GivesFC W r e w') : GivesFX W r.h r.zss r.code e w' := ⟨h.val, h.below⟩
theorem GivesFO.y {W w' : World} {r : FR} {e : Ending} (h : GivesFO W r e w') : GivesFY W r.h r.zss r.code e w' := by
  obtain ⟨v, us, he, h1, h2⟩ := h.val
  exact ⟨⟨v, us, he, h1, h2⟩, h.below⟩
theorem Ints_of_own {W : World} {base n c : Nat} {a : Option Addr} {zs : List Int} (h : OwnI W base (.slice a n c) zs) : Ints W a zs := by
  obtain ⟨a', c', e, hi, _⟩ := h.ints
  cases e
  exact hi
theorem Boxes.keeps {W W' : World} {B : Nat} {t : TypeId} {vs : Array Value} (h : Boxes W B t vs) (hk : KeepsT W W') (ht : t ≠ 2) : Boxes W' B t vs := hk _ _ _ _ h ht
theorem Boxes.touch {lo hi : Nat} {W W' : World} {B : Nat} {t : TypeId} {vs : Array Value} (h : Boxes W B t vs) (ht : Touch lo hi W W') (hB : hi ≤ B) : Boxes W' B t vs := (ht.block B h.lt (.inr hB)).trans h
theorem Own.rows2v {W : World} {base n c : Nat} {a : Option Addr} {us : List Value} {zss : List (List Int)} (h : Own W base (.slice a n c) us zss) : Rows2 W a zss := by
  obtain ⟨a', c', e, hr⟩ := h.rows2
  cases e
  exact hr
theorem Own.rows2m {W : World} {base n c : Nat} {a : Option Addr} {us : List Value} {zss : List (List Int)} {k : Int} (h : Own W base (.slice a n c) us (marked k zss)) : Rows2 W a (marked k zss) := h.rows2v
end Go.Proofs.YtnalbonnjcphkaaDoor

/- Counts and marks with their exact sums: szInt64S, szInt64SS, markInt64SS, szFamily, markFamily. -/
namespace Go.Proofs.YtnalbonnjcphkaaDoor
open Go.RowKit Go.Deep
set_option linter.unusedVariables false

set_option maxRecDepth 100000 in
theorem szS2_any (a : Option Addr) (zs : List Int) (c : Nat) (left : Int) (w : World) (h0 : 0 ≤ left) (h1 : left ≤ 1048576) (hl : zs.length ≤ 9223372036854775807) :
    Calls Tryd.prog 64 #[.slice a zs.length c, .int .i64 left] w fun e w' => GivesInt (fun v => v = -1 ∨ (0 ≤ v ∧ v + zs.length ≤ left)) e ∧ w = w' := by
  by_cases h : left - (zs.length : Int) < 0
  all_goals
    go_enter Tryd.func64, Tryd.ntmps64
    go_wp2
    go_ret
  · exact ⟨⟨_, .inl rfl, rfl⟩, rfl⟩
  · exact ⟨⟨_, .inr ⟨by omega, by omega⟩, rfl⟩, rfl⟩

def Room2 (left : Int) (zss : List (List Int)) (v : Int) : Prop := v = -1 ∨ (0 ≤ v ∧ v + total zss ≤ left ∧ v ≤ left ∧ Small2 zss)

set_option maxRecDepth 100000 in
set_option maxHeartbeats 400000 in
theorem szSS2_any (a : Option Addr) (zss : List (List Int)) (c : Nat) (left : Int) (w : World) (h : Rows2 w a zss) (h0 : 0 ≤ left) (h1 : left ≤ 1048576) (hl : zss.length ≤ 9223372036854775807) (hll : ∀ r, r < zss.length → (nthL zss r).length ≤ 9223372036854775807) :
    Calls Tryd.prog 30 #[.slice a zss.length c, .int .i64 left] w fun e w' => GivesInt (Room2 left zss) e ∧ w = w' := by
  by_cases hneg : left - (zss.length : Int) < 0
  · go_enter Tryd.func30, Tryd.ntmps30
    go_wp2
    go_ret
    exact ⟨⟨_, .inl rfl, rfl⟩, rfl⟩
  · have hpos : 0 ≤ left - (zss.length : Int) := by omega
    have hll' := Lib.hid hll
    clear hll hneg
    go_enter Tryd.func30, Tryd.ntmps30
    go_wp2
    go_loop [1, 5] (fun l i => ∃ (k : Nat) (v : Int), k ≤ zss.length ∧ i = .int .i64 k ∧ l = .int .i64 v ∧ 0 ≤ v ∧ v ≤ left ∧ v + total (zss.take k) ≤ left ∧ ∀ r, r < k → (nthL zss r).length ≤ 1048576)
      (fun _ i => zss.length - (intOf i).toNat)
    case atStart => exact ⟨0, _, Nat.zero_le _, rfl, rfl, by omega, by omega, by simp [total]; omega, fun r hr => absurd hr (Nat.not_lt_zero _)⟩
    case round =>
      obtain ⟨k, v, hk, rfl, rfl, hv0, hv1, hv2, hsm⟩ := hrel
      have hsm' := Lib.hid hsm
      have HV := Lib.hid hv2
      clear hsm hv2
      by_cases hlt : k < zss.length
      · rcases h with h | ⟨b, o, rfl, hc⟩
        · rw [h] at hlt; exact absurd hlt (Nat.not_lt_zero _)
        obtain ⟨ai, ci, hcell, hints⟩ := hc k hlt
        have HT := Lib.hid (total_take hlt)
        clear hc
        go_wp2_with fail
        refine (szS2_any ai (nthL zss k) ci v w hv0 (by omega) (hll'.out k hlt)).mono ?_
        rintro e w1 ⟨⟨u, hu, rfl⟩, rfl⟩
        rcases hu with rfl | ⟨hu0, hu1⟩
        · go_wp2
          go_ret
          exact ⟨⟨_, .inl rfl, rfl⟩, rfl⟩
        · have HU := Lib.hid hu1
          clear hu1
          go_wp2
          go_round
          case rel =>
            have h2 := HV.out
            have h3 := HT.out
            have h4 := HU.out
            refine ⟨k + 1, u, by omega, by go_num, rfl, hu0, by omega, by omega, fun r hr => ?_⟩
            by_cases e : r = k
            · subst e; omega
            · exact hsm'.out r (by omega)
          case measure => simp [intOf]; omega
      · have HK := Lib.hid (show k = zss.length by omega)
        go_wp2
        go_ret
        refine ⟨⟨_, .inr ⟨hv0, ?_, hv1, by omega, fun r hr => hsm'.out r (by omega)⟩, rfl⟩, rfl⟩
        have := HV.out
        rw [HK.out, List.take_length] at this
        exact this

set_option maxRecDepth 100000 in
theorem szFamily2_any (h : Int) (a : Option Addr) (zss : List (List Int)) (c : Nat) (left : Int) (w : World) (hr : Rows2 w a zss) (h0 : 0 ≤ left) (h1 : left ≤ 1048576) (hl : zss.length ≤ 9223372036854775807) (hll : ∀ r, r < zss.length → (nthL zss r).length ≤ 9223372036854775807) :
    Calls Tryd.prog 9 #[.agg #[.int .i64 h, .slice a zss.length c], .int .i64 left] w fun e w' => GivesInt (Room2 left zss) e ∧ Below w.heap.size w w' := by
  have HL := Lib.hid hll
  clear hll
  go_enter Tryd.func9, Tryd.ntmps9
  go_wp2_with fail
  refine (szSS2_any a zss c left _ (hr.below ((Below.refl _ _).alloc (Nat.le_refl _) _) (Nat.le_refl _)) h0 h1 hl HL.out).mono ?_
  rintro e w1 ⟨⟨u, hu, rfl⟩, rfl⟩
  have hb := (Below.refl w.heap.size w).alloc (Nat.le_refl _) (.cells #[.int .i64 h, .slice a zss.length c] 24)
  rcases hu with rfl | ⟨hu0, hu1, hu2, hu3⟩
  · go_wp2
    go_ret
    exact ⟨⟨_, .inl rfl, rfl⟩, hb⟩
  · have H1 := Lib.hid hu1
    have H2 := Lib.hid hu3
    clear hu1 hu3
    go_wp2
    go_ret
    exact ⟨⟨_, .inr ⟨hu0, H1.out, hu2, H2.out⟩, rfl⟩, hb⟩

/-- What marks a copy: the sum, and which blocks it touches. -/
structure Marked3 (W : World) (g n : Nat) (v : Int) (e : Ending) (w' : World) : Prop where
  val : e = .returned (.int .i64 v)
  touch : Touch g (g + 1 + n) W w'

set_option maxRecDepth 100000 in
set_option maxHeartbeats 400000 in
theorem markSS3_any (g c : Nat) (zss : List (List Int)) (k : Int) (w : World) (ho : Own2 w g zss) (hs : Small2 zss) (hk0 : 0 ≤ k) (hk1 : k ≤ 4194304) :
    Calls Tryd.prog 38 #[.slice (some ⟨g, 0, none⟩) zss.length c, .int .i64 k] w fun e w' => Marked3 w g zss.length (k + total zss) e w' ∧ w'.heap.size = w.heap.size := by
  have hl1 : zss.length ≤ 1048576 := hs.1
  have HS := Lib.hid hs
  have HO := Lib.hid ho
  clear hs ho
  go_enter Tryd.func38, Tryd.ntmps38
  go_wp2_with fail
  go_loopw [1, 5] (fun q i wr => ∃ (j : Nat) (u : Int), j ≤ zss.length ∧ i = .int .i64 j ∧ q = .int .i64 u ∧ u = k + total (zss.take j) ∧ 0 ≤ u ∧ u ≤ 4194304 + j * 1048576 ∧ wr.rowIs g 33 zss.length (fun r => .slice (some ⟨g + 1 + r, 0, none⟩) (nthL zss r).length (nthL zss r).length) ∧
      (∀ r, j ≤ r → r < zss.length → wr.rowIs (g + 1 + r) 2 (nthL zss r).length (fun i => .int .i64 (nth (nthL zss r) i))) ∧ wr.heap.size = w.heap.size ∧ Touch g (g + 1 + zss.length) w wr)
    (fun _ i _ => zss.length - (intOf i).toNat)
  case atStart => exact ⟨0, k, Nat.zero_le _, rfl, rfl, by simp [total], hk0, by omega, HO.out.top, fun r _ hr => HO.out.row r hr, rfl, Touch.refl _ _ _⟩
  case round =>
    obtain ⟨j, u, hj, rfl, rfl, hu, hu0, hu1, htop, hrows, hsz, ht⟩ := hrel
    have HU := Lib.hid hu
    clear hu
    by_cases hlt : j < zss.length
    · have hc := htop.cell hlt
      have hi0 : (j : Int) < (zss.length : Int) := by omega
      have hlr := HS.out.2 j hlt
      have HOW := Lib.hid (own_of_row (hrows j (Nat.le_refl _) hlt) (by unfold maxLen; omega))
      have HTT := Lib.hid (total_take hlt)
      have HT := Lib.hid htop
      have HR := Lib.hid hrows
      have HZ := Lib.hid hsz
      have HTO := Lib.hid ht
      clear htop hrows hsz ht
      go_wp2_with fail
      refine (markInt64S_any _ (nthL zss j) (g + 1 + j) u wr HOW.out hu0 (by omega) (by omega)).mono ?_
      rintro e w1 ⟨rfl, hown1, hsz1, hgr1⟩
      have t1 : Touch (g + 1 + j) (g + 1 + j + 1) wr w1 := Touch.of_grown hgr1 (fun q hq => by simp [Value.ownBlock] at hq; omega)
      have H1 := Lib.hid (t1.row HT.out (.inl (by omega)))
      have H2 := Lib.hid (show ∀ r, j + 1 ≤ r → r < zss.length → w1.rowIs (g + 1 + r) 2 (nthL zss r).length (fun i => .int .i64 (nth (nthL zss r) i)) from fun r hr hrl => t1.row (HR.out r (by omega) hrl) (.inr (by omega)))
      have H3 := Lib.hid (hsz1.trans HZ.out)
      have H4 := Lib.hid (HTO.out.trans (Touch.of_grown hgr1 (fun q hq => by simp [Value.ownBlock] at hq; omega)))
      have HU2 := Lib.hid (show u + (nthL zss j).length = k + total (zss.take (j + 1)) by rw [HTT.out, HU.out]; omega)
      clear t1 hown1 hsz1 hgr1
      go_wp2_with fail
      go_roundw
      case rel => exact ⟨j + 1, u + (nthL zss j).length, by omega, by go_num, rfl, HU2.out, by omega, by omega, H1.out, H2.out, H3.out, H4.out⟩
      case measure => simp [intOf]; omega
    · have HT := Lib.hid ht
      have HZ := Lib.hid hsz
      have HK := Lib.hid (show j = zss.length by omega)
      clear hrows htop ht hsz
      go_wp2_with fail
      go_ret
      exact ⟨⟨by rw [HU.out, HK.out, List.take_length]; rfl, HT.out⟩, HZ.out⟩

set_option maxRecDepth 100000 in
theorem markFamily3_any (h : Int) (g c : Nat) (zss : List (List Int)) (k : Int) (w : World) (ho : Own2 w g zss) (hs : Small2 zss) (hk0 : 0 ≤ k) (hk1 : k ≤ 4194304) :
    Calls Tryd.prog 14 #[.agg #[.int .i64 h, .slice (some ⟨g, 0, none⟩) zss.length c], .int .i64 k] w (Marked3 w g zss.length (k + total zss)) := by
  have hb1 := (Below.refl w.heap.size w).alloc (Nat.le_refl _) (.cells #[.int .i64 h, .slice (some ⟨g, 0, none⟩) zss.length c] 26)
  have HO := Lib.hid (ho.step hb1)
  have HS := Lib.hid hs
  clear ho hs
  go_enter Tryd.func14, Tryd.ntmps14
  go_wp2_with fail
  refine (markSS3_any g c zss k _ HO.out HS.out hk0 hk1).mono ?_
  generalize w.alloc (.cells #[.int .i64 h, .slice (some ⟨g, 0, none⟩) zss.length c] 26) = w1 at *
  rintro e w2 ⟨⟨rfl, ht⟩, _⟩
  have HT := Lib.hid ((Touch.of_below _ _ hb1).trans ht)
  clear ht hb1
  go_wp2_with fail
  go_ret
  exact ⟨rfl, HT.out⟩

theorem Boxes.frozen {W : World} {B : Nat} {t : TypeId} {vs : Array Value} (h : Boxes W B t vs) (i : Nat) : W.frozen? ⟨B, i, none⟩ = false := by simp [World.frozen?, show W.heap[B]? = _ from h]
theorem Boxes.set2 {W : World} {B : Nat} {t : TypeId} {u0 u1 : Value} (h : Boxes W B t #[u0, u1]) (v0 v1 : Value) : Boxes ((W.setCell ⟨B, 0, none⟩ v0).setCell ⟨B, 1, none⟩ v1) B t #[v0, v1] := by
  unfold Boxes at h ⊢
  simp [World.setCell, Array.getElem?_modify, h]
theorem Own.rowsF {W : World} {base n c : Nat} {a : Option Addr} {us : List Value} {zss : List (List Int)} (h : Own W base (.slice a n c) us zss) : RowsF W base a zss := by
  rcases h.row.2 with ⟨hv, hn⟩ | ⟨g, cap, cur, hv, hb, hg, hnc, hcm, hcs, htake⟩
  · exact .inl (List.eq_nil_of_length_eq_zero hn)
  · cases hv
    have hr := h.row
    refine .inr ⟨g, 0, hb, rfl, fun i hi => ?_⟩
    have hi' : i < us.length := by rw [h.rows.len]; exact hi
    obtain ⟨a, c, e, hI⟩ := (h.rows.own i us[i] zss[i] (by simp [hi']) (by simp [hi])).intsF
    rw [nthL_lt hi]
    exact ⟨a, c, by rw [Nat.zero_add, World.ownsRow.cellAt hr i (by omega), List.getElem?_eq_getElem hi', e], hI⟩
theorem Own2.touch {W W' : World} {g lo hi : Nat} {zss : List (List Int)} (k : Own2 W g zss) (h : Touch lo hi W W') (hg : hi ≤ g) : Own2 W' g zss :=
  ⟨h.row k.top (.inr hg), fun r hr => h.row (k.row r hr) (.inr (by omega))⟩
end Go.Proofs.YtnalbonnjcphkaaDoor

/- The walk of 'laws.FnExactPutFamily', from what the two functions give. -/
namespace Go.Proofs.YtnalbonnjcphkaaDoor
open Go.ChangeShapes Go.WideShapes Go.ChangeAt Go.RowKit Go.Deep
set_option linter.unusedVariables false
namespace PutFamily

/-- What is carried over the second half. -/
structure Carry (v4 : World) (g0 : Nat) (z0 : List (List Int)) (px0 : Nat) (h0 : Int) (g2 : Nat) (z2 : List (List Int)) (px2 : Nat) (h2 : Int) (bs : Nat) (ag : Option Addr) (cg : Nat) (us : List Value) (rz : List (List Int)) (qg : Nat) (rh : Int) (W : World) : Prop where
  e : Below v4.heap.size v4 W
  x0 : Own2 W g0 z0
  b0 : Boxes W px0 26 #[.int .i64 h0, .slice (some ⟨g0, 0, none⟩) z0.length z0.length]
  x2 : Own2 W g2 z2
  b2 : Boxes W px2 26 #[.int .i64 h2, .slice (some ⟨g2, 0, none⟩) z2.length z2.length]
  g : Own W bs (.slice ag rz.length cg) us rz
  gb : Boxes W qg 26 #[.int .i64 rh, .slice ag rz.length cg]
/-- A box that has been laid behind a world. -/
structure NewB (w2 W : World) (q : Nat) (t : TypeId) (vs : Array Value) : Prop where
  lo : w2.heap.size ≤ q
  bx : Boxes W q t vs
theorem NewB.step {w2 W W' : World} {q : Nat} {t : TypeId} {vs : Array Value} (hb : Below W.heap.size W W') (k : NewB w2 W q t vs) : NewB w2 W' q t vs := ⟨k.lo, k.bx.step hb⟩
theorem newb_kept {w2 w w' : World} {t : TypeId} {vs : Array Value} (hE : Below w2.heap.size w2 w) (hb : Below (w.alloc (.cells vs t)).heap.size (w.alloc (.cells vs t)) w') : NewB w2 w' w.heap.size t vs := ⟨hE.size, Boxes.step (World.alloc_heap_new w _) hb⟩
theorem newb_kept2 {w w' : World} {t : TypeId} {vs : Array Value} (hb : Below (w.alloc (.cells vs t)).drew.heap.size (w.alloc (.cells vs t)).drew w') : NewB w w' w.heap.size t vs := ⟨Nat.le_refl _, Boxes.step (Boxes.step (World.alloc_heap_new w _) (drew_step _)) hb⟩
theorem NewB.zero {w2 w : World} {t : TypeId} {vs : Array Value} (hE : Below w2.heap.size w2 w) : NewB w2 (w.alloc (.cells vs t)) w.heap.size t vs := ⟨hE.size, World.alloc_heap_new w _⟩
theorem alloc_step (w : World) (o : Obj) : Below w.heap.size w (w.alloc o) := (Below.refl _ _).alloc (Nat.le_refl _) o

theorem Carry.step {v4 : World} {g0 : Nat} {z0 : List (List Int)} {px0 : Nat} {h0 : Int} {g2 : Nat} {z2 : List (List Int)} {px2 : Nat} {h2 : Int} {bs : Nat} {ag : Option Addr} {cg : Nat} {us : List Value} {rz : List (List Int)} {qg : Nat} {rh : Int} {W W' : World} (hb : Below W.heap.size W W') (k : Carry v4 g0 z0 px0 h0 g2 z2 px2 h2 bs ag cg us rz qg rh W) : Carry v4 g0 z0 px0 h0 g2 z2 px2 h2 bs ag cg us rz qg rh W' := ⟨chain k.e hb, k.x0.step hb, k.b0.step hb, k.x2.step hb, k.b2.step hb, k.g.step hb, k.gb.step hb⟩
theorem keep4 {w w' : World} {p1 p2 p3 p4 : Addr} {u1 u2 u3 u4 : Value} {C : World → Prop} (hb : Below w.heap.size w w') (hC : C w → C w') (h : w.cell? p1 = some u1 ∧ w.cell? p2 = some u2 ∧ w.cell? p3 = some u3 ∧ w.cell? p4 = some u4 ∧ C w) : w'.cell? p1 = some u1 ∧ w'.cell? p2 = some u2 ∧ w'.cell? p3 = some u3 ∧ w'.cell? p4 = some u4 ∧ C w' :=
  ⟨cell_step hb h.1, cell_step hb h.2.1, cell_step hb h.2.2.1, cell_step hb h.2.2.2.1, hC h.2.2.2.2⟩

set_option maxHeartbeats 4000000 in
set_option maxRecDepth 100000 in
theorem law_of (h0 : Int) (a0 : Option Addr) (z0 : List (List Int)) (c0 : Nat) (x1 : Int) (h2 : Int) (a2 : Option Addr) (z2 : List (List Int)) (c2 : Nat) (rh : Int) (rz : List (List Int)) (rc : Int) (w : World) (hr0 : Rows2 w a0 z0) (hl0 : Lens z0) (wfh0 : (Lit.int .i64 h0).wf = true) (wf1 : (Lit.int .i64 x1).wf = true) (hr2 : Rows2 w a2 z2) (hl2 : Lens z2) (wfh2 : (Lit.int .i64 h2).wf = true)
    (hS : ∀ (b0 : Option Addr) (d0 : Nat) (b2 : Option Addr) (d2 : Nat) (W : World), Rows2 W b0 z0 → Small2 z0 → Rows2 W b2 z2 → Small2 z2 → Calls Tryd.prog 23 #[.agg #[.int .i64 h0, .slice b0 z0.length d0], .int .i64 x1, .agg #[.int .i64 h2, .slice b2 z2.length d2]] W (GivesFX W rh rz rc))
    (hI : ∀ (b0 : Option Addr) (d0 : Nat) (b2 : Option Addr) (d2 : Nat) (W : World), Rows2 W b0 z0 → Small2 z0 → Rows2 W b2 z2 → Small2 z2 → Calls Tryd.prog 24 #[.agg #[.int .i64 h0, .slice b0 z0.length d0], .int .i64 x1, .agg #[.int .i64 h2, .slice b2 z2.length d2]] W (GivesFY W rh rz rc))
    (hsm : Small2 rz) :
    Calls Tryd.prog 6 #[.agg #[.int .i64 h0, .slice a0 z0.length c0], .int .i64 x1, .agg #[.int .i64 h2, .slice a2 z2.length c2]] w fun e w' => e = .returned (.bool true) ∧ Below w.heap.size w w' := by
  have HSP := Lib.hid hS
  have HIM := Lib.hid hI
  clear hS hI
  have HSM := Lib.hid hsm
  have hnz : rz.length ≤ 1048576 := hsm.1
  have htn := total_nonneg rz
  clear hsm
  have D := Lib.hid (Below.refl w.heap.size w)
  have R0 := Lib.hid hr0
  clear hr0
  have L0 := Lib.hid hl0
  clear hl0
  have R2 := Lib.hid hr2
  clear hr2
  have L2 := Lib.hid hl2
  clear hl2
  go_enter Tryd.func6, Tryd.ntmps6
  go_wp2_with fail
  have hb := (Below.refl (w).heap.size (w)).alloc (Nat.le_refl _) (.cells #[.int .i64 h0, .slice a0 z0.length c0] 24)
  have ha0 : Boxes ((w).alloc (.cells #[.int .i64 h0, .slice a0 z0.length c0] 24)) (w).heap.size 24 #[.int .i64 h0, .slice a0 z0.length c0] := World.alloc_heap_new _ _
  replace D := Lib.hid (chain D.out hb)
  replace R0 := Lib.hid (R0.out.step hb)
  replace R2 := Lib.hid (R2.out.step hb)
  clear hb
  have hb := (Below.refl ((w).alloc (.cells #[.int .i64 h0, .slice a0 z0.length c0] 24)).heap.size ((w).alloc (.cells #[.int .i64 h0, .slice a0 z0.length c0] 24))).alloc (Nat.le_refl _) (.cells #[.int .i64 h2, .slice a2 z2.length c2] 24)
  have ha2 : Boxes (((w).alloc (.cells #[.int .i64 h0, .slice a0 z0.length c0] 24)).alloc (.cells #[.int .i64 h2, .slice a2 z2.length c2] 24)) ((w).alloc (.cells #[.int .i64 h0, .slice a0 z0.length c0] 24)).heap.size 24 #[.int .i64 h2, .slice a2 z2.length c2] := World.alloc_heap_new _ _
  replace ha0 := ha0.step hb
  replace D := Lib.hid (chain D.out hb)
  replace R0 := Lib.hid (R0.out.step hb)
  replace R2 := Lib.hid (R2.out.step hb)
  clear hb
  simp only [World.size_alloc] at ha0 ha2
  generalize hv1 : ((w).alloc (.cells #[.int .i64 h0, .slice a0 z0.length c0] 24)).alloc (.cells #[.int .i64 h2, .slice a2 z2.length c2] 24) = v1 at *
  have B0 := Lib.hid ha0
  clear ha0
  have B2 := Lib.hid ha2
  clear ha2
  clear hv1
  refine (szFamily2_any h0 a0 z0 c0 1048576 _ R0.out (by omega) (by omega) L0.out.1 L0.out.2).mono ?_
  rintro e w1 ⟨⟨u0, hu0, rfl⟩, hb⟩
  replace D := Lib.hid (chain D.out hb)
  replace R0 := Lib.hid (R0.out.step hb)
  replace R2 := Lib.hid (R2.out.step hb)
  replace B0 := Lib.hid (B0.out.step hb)
  replace B2 := Lib.hid (B2.out.step hb)
  clear hb
  rcases hu0 with rfl | ⟨hu00, hut0, hu01, hsm0⟩
  · go_wp2_with fail
    go_ret
    exact ⟨rfl, D.out⟩
  have S0 := Lib.hid hsm0
  have hz0 : z0.length ≤ 1048576 := hsm0.1
  clear hsm0
  have TT0 := Lib.hid hut0
  clear hut0
  have B0c0 := (B0.out).c0
  have B0c1 := (B0.out).c1
  have B0lt := (B0.out).lt
  have B2c0 := (B2.out).c0
  have B2c1 := (B2.out).c1
  have B2lt := (B2.out).lt
  go_wp2_with fail
  clear B0c0 B0c1 B0lt B2c0 B2c1 B2lt
  refine (szFamily2_any h2 a2 z2 c2 u0 _ R2.out (by omega) (by omega) L2.out.1 L2.out.2).mono ?_
  rintro e w2 ⟨⟨u2, hu2, rfl⟩, hb⟩
  replace D := Lib.hid (chain D.out hb)
  replace R0 := Lib.hid (R0.out.step hb)
  replace R2 := Lib.hid (R2.out.step hb)
  replace B0 := Lib.hid (B0.out.step hb)
  replace B2 := Lib.hid (B2.out.step hb)
  clear hb
  rcases hu2 with rfl | ⟨hu20, hut2, hu21, hsm2⟩
  · go_wp2_with fail
    go_ret
    exact ⟨rfl, D.out⟩
  have S2 := Lib.hid hsm2
  have hz2 : z2.length ≤ 1048576 := hsm2.1
  clear hsm2
  have TT2 := Lib.hid hut2
  clear hut2
  have B0c0 := (B0.out).c0
  have B0c1 := (B0.out).c1
  have B0lt := (B0.out).lt
  have B2c0 := (B2.out).c0
  have B2c1 := (B2.out).c1
  have B2lt := (B2.out).lt
  go_wp2_with fail
  clear B0c0 B0c1 B0lt B2c0 B2c1 B2lt
  have B0c0 := (B0.out).c0
  have B0c1 := (B0.out).c1
  have B0lt := (B0.out).lt
  have B2c0 := (B2.out).c0
  have B2c1 := (B2.out).c1
  have B2lt := (B2.out).lt
  have MK := Lib.hid (show ∀ w' : World, Below w2.heap.size w2 w' → Below w2.heap.size w2 w' ∧ w'.cell? ⟨w.heap.size, 0, none⟩ = some (.int .i64 h0) ∧ w'.cell? ⟨w.heap.size, 1, none⟩ = some (.slice a0 z0.length c0) ∧ w'.cell? ⟨w.heap.size + 1, 0, none⟩ = some (.int .i64 h2) ∧ w'.cell? ⟨w.heap.size + 1, 1, none⟩ = some (.slice a2 z2.length c2) from fun w' h => ⟨h, cell_step h B0c0, cell_step h B0c1, cell_step h B2c0, cell_step h B2c1⟩)
  go_cut [8, 9] from 29 to 37 (fun s8 s9 wr => ∃ (qz : Nat) (az : Option Addr) (cz : Nat), s8 = .pointer (some ⟨qz, 0, none⟩) ∧ s9 = .int .i64 rc ∧ Boxes wr qz 26 #[.int .i64 rh, .slice az rz.length cz] ∧ Rows2 wr az rz ∧ Below w2.heap.size w2 wr)
  case first =>
    go_region_held3 (fun w' => Below w2.heap.size w2 w' ∧ w'.cell? ⟨w.heap.size, 0, none⟩ = some (.int .i64 h0) ∧ w'.cell? ⟨w.heap.size, 1, none⟩ = some (.slice a0 z0.length c0) ∧ w'.cell? ⟨w.heap.size + 1, 0, none⟩ = some (.int .i64 h2) ∧ w'.cell? ⟨w.heap.size + 1, 1, none⟩ = some (.slice a2 z2.length c2)) (first | exact MK.out _ (drew_step _) | exact MK.out _ (alloc_step _ _).drew | exact MK.out _ (chain (‹Below w2.heap.size w2 _ ∧ _›).1 hb) | exact MK.out _ ((‹Below w2.heap.size w2 _ ∧ _›).1.alloc (‹Below w2.heap.size w2 _ ∧ _›).1.size _) | exact MK.out _ ((((‹Below w2.heap.size w2 _ ∧ _›).1).setCell nb.lo _).setCell nb.lo _) | exact MK.out _ (KS.alloc KS.size _) | exact MK.out _ ((((‹Below w2.heap.size w2 _ ∧ _›).1).setCell KS.size _).setCell KS.size _) | fail) (first | (go_at_call_of 11 h0; have KK := (‹Below w2.heap.size w2 _ ∧ _›).1; refine (toFamily_any h0 a0 z0 c0 _ (R0.out.step KK) S0.out).mono ?_; rintro e wf0 ⟨rfl, -, hof0, hb⟩; have EW0 := chain KK hb; clear KK; (try simp only [World.size_drew] at hof0); (try simp only [World.size_alloc] at hof0); (first | (have nb := newb_kept2 hb) | (have nb := newb_kept (drew_step _) hb) | (have nb := newb_kept EW0 hb) | (have nb := newb_kept EW2 hb) | (replace nb := nb.step hb) | skip); (try (have bq0 := nb.bx.c0; have bf0 := nb.bx.frozen 0; have bq1 := nb.bx.c1; have bf1 := nb.bx.frozen 1))) | (go_at_call_of 11 h2; have KK := (‹Below w2.heap.size w2 _ ∧ _›).1; refine (toFamily_any h2 a2 z2 c2 _ (R2.out.step KK) S2.out).mono ?_; rintro e wf2 ⟨rfl, -, hof2, hb⟩; have EW2 := chain KK hb; clear KK; (try simp only [World.size_drew] at hof2); (try simp only [World.size_alloc] at hof2); (first | (have nb := newb_kept2 hb) | (have nb := newb_kept (drew_step _) hb) | (have nb := newb_kept EW0 hb) | (have nb := newb_kept EW2 hb) | (replace nb := nb.step hb) | skip); (try (have bq0 := nb.bx.c0; have bf0 := nb.bx.frozen 0; have bq1 := nb.bx.c1; have bf1 := nb.bx.frozen 1))) | (go_at_call 23; (try have hql := nb.bx.lt); have KK := (‹Below w2.heap.size w2 _ ∧ _›).1; refine (HSP.out _ _ _ _ _ ?_ S0.out ?_ S2.out).mono ?_; (first | exact hof0.rows | exact hof0.rows.step hb | exact hof0.rows.step (alloc_step _ _) | exact (hof0.rows.step hb).step (alloc_step _ _) | exact (hof0.rows.step (alloc_step _ _)).step hb); (first | exact hof2.rows | exact hof2.rows.step hb | exact hof2.rows.step (alloc_step _ _) | exact (hof2.rows.step hb).step (alloc_step _ _) | exact (hof2.rows.step (alloc_step _ _)).step hb); rintro e ws ⟨⟨az, cz, rfl, hz0⟩, hb⟩; have KS := chain KK hb; clear KK; (first | (have nb := newb_kept2 hb) | (have nb := newb_kept (drew_step _) hb) | (have nb := newb_kept EW0 hb) | (have nb := newb_kept EW2 hb) | (replace nb := nb.step hb) | skip); (try (have bq0 := nb.bx.c0; have bf0 := nb.bx.frozen 0; have bq1 := nb.bx.c1; have bf1 := nb.bx.frozen 1))))
    all_goals (have KF := (‹Below w2.heap.size w2 _ ∧ _›).1; go_wp2_with fail; go_meet; first | exact ⟨_, _, _, rfl, rfl, World.alloc_heap_new ws _, hz0.rows.step (alloc_step _ _), KF⟩ | exact ⟨_, _, _, rfl, rfl, nb.bx.set2 _ _, (((hz0).set (by first | exact hql | simp) 0 _).set (by first | exact hql | simp) 1 _).rows, KF⟩)
  case rest =>
  clear MK B0c0 B0c1 B0lt B2c0 B2c1 B2lt
  obtain ⟨qz, az, cz, rfl, rfl, hbx, hrz, hb⟩ := hcut
  obtain ⟨w3, hwn⟩ : ∃ W : World, W = wc := ⟨_, rfl⟩
  subst hwn
  replace D := Lib.hid (chain D.out hb)
  replace R0 := Lib.hid (R0.out.step hb)
  replace R2 := Lib.hid (R2.out.step hb)
  replace B0 := Lib.hid (B0.out.step hb)
  replace B2 := Lib.hid (B2.out.step hb)
  clear hb
  have A := Lib.hid hbx
  have W0 := Lib.hid hrz
  clear hbx hrz
  generalize w3 = v4 at *
  have E := Lib.hid (Below.refl v4.heap.size v4)
  generalize qz = qa at *
  generalize az = a at *
  generalize cz = c at *
  have B0c0 := (B0.out.step E.out).c0
  have B0c1 := (B0.out.step E.out).c1
  have B0lt := (B0.out.step E.out).lt
  have B2c0 := (B2.out.step E.out).c0
  have B2c1 := (B2.out.step E.out).c1
  have B2lt := (B2.out.step E.out).lt
  have Ac0 := (A.out.step E.out).c0
  have Ac1 := (A.out.step E.out).c1
  have Alt := (A.out.step E.out).lt
  go_wp2_with fail
  clear B0c0 B0c1 B0lt B2c0 B2c1 B2lt Ac0 Ac1 Alt
  refine (toFamily_any h0 a0 z0 c0 _ (R0.out.step E.out) S0.out).mono ?_
  rintro e w4 ⟨rfl, hz, hrow, hb⟩
  obtain ⟨g0, hg0⟩ : ∃ g, v4.heap.size + 3 = g := ⟨_, rfl⟩
  rw [hg0] at hrow ⊢
  have hlo : v4.heap.size ≤ g0 := by omega
  replace E := Lib.hid (chain E.out hb)
  have X0 := Lib.hid hrow
  have G0 := Lib.hid (show v4.heap.size ≤ g0 ∧ g0 + 1 + z0.length ≤ w4.heap.size from ⟨hlo, by omega⟩)
  clear hb hrow hz hg0 hlo
  have B0c0 := (B0.out.step E.out).c0
  have B0c1 := (B0.out.step E.out).c1
  have B0lt := (B0.out.step E.out).lt
  have B2c0 := (B2.out.step E.out).c0
  have B2c1 := (B2.out.step E.out).c1
  have B2lt := (B2.out.step E.out).lt
  have Ac0 := (A.out.step E.out).c0
  have Ac1 := (A.out.step E.out).c1
  have Alt := (A.out.step E.out).lt
  go_wp2_with fail
  clear B0c0 B0c1 B0lt B2c0 B2c1 B2lt Ac0 Ac1 Alt
  have hsz : w4.heap.size ≤ (w4.alloc (.cells #[.int .i64 h0, .slice (some ⟨g0, 0, none⟩) z0.length z0.length] 26)).heap.size := by simp
  replace G0 := Lib.hid (show v4.heap.size ≤ g0 ∧ g0 + 1 + z0.length ≤ (w4.alloc (.cells #[.int .i64 h0, .slice (some ⟨g0, 0, none⟩) z0.length z0.length] 26)).heap.size from ⟨G0.out.1, Nat.le_trans G0.out.2 hsz⟩)
  have HPX0 := Lib.hid (show v4.heap.size ≤ w4.heap.size from E.out.size)
  clear hsz
  have hb := (Below.refl w4.heap.size w4).alloc (Nat.le_refl _) (.cells #[.int .i64 h0, .slice (some ⟨g0, 0, none⟩) z0.length z0.length] 26)
  have ha : Boxes (w4.alloc (.cells #[.int .i64 h0, .slice (some ⟨g0, 0, none⟩) z0.length z0.length] 26)) w4.heap.size 26 #[.int .i64 h0, .slice (some ⟨g0, 0, none⟩) z0.length z0.length] := World.alloc_heap_new w4 _
  generalize w4.alloc (.cells #[.int .i64 h0, .slice (some ⟨g0, 0, none⟩) z0.length z0.length] 26) = y0 at *
  replace E := Lib.hid (chain E.out hb)
  replace X0 := Lib.hid (X0.out.step hb)
  have PX0 := Lib.hid ha
  clear hb ha
  generalize w4.heap.size = px0 at *
  refine (toFamily_any h2 a2 z2 c2 _ (R2.out.step E.out) S2.out).mono ?_
  rintro e w5 ⟨rfl, hz, hrow, hb⟩
  obtain ⟨g2, hg2⟩ : ∃ g, y0.heap.size + 3 = g := ⟨_, rfl⟩
  rw [hg2] at hrow ⊢
  have hlo : v4.heap.size ≤ g2 := by have := G0.out; omega
  replace E := Lib.hid (chain E.out hb)
  replace X0 := Lib.hid (X0.out.step hb)
  replace PX0 := Lib.hid (PX0.out.step hb)
  have X2 := Lib.hid hrow
  have G2 := Lib.hid (show v4.heap.size ≤ g2 ∧ g2 + 1 + z2.length ≤ w5.heap.size from ⟨hlo, by omega⟩)
  have GG2 := Lib.hid (show g0 + 1 + z0.length ≤ g2 by have := G0.out; omega)
  clear hb hrow hz hg2 hlo
  have B0c0 := (B0.out.step E.out).c0
  have B0c1 := (B0.out.step E.out).c1
  have B0lt := (B0.out.step E.out).lt
  have B2c0 := (B2.out.step E.out).c0
  have B2c1 := (B2.out.step E.out).c1
  have B2lt := (B2.out.step E.out).lt
  have Ac0 := (A.out.step E.out).c0
  have Ac1 := (A.out.step E.out).c1
  have Alt := (A.out.step E.out).lt
  have PX0c0 := (PX0.out).c0
  have PX0c1 := (PX0.out).c1
  have PX0lt := (PX0.out).lt
  go_wp2_with fail
  clear B0c0 B0c1 B0lt B2c0 B2c1 B2lt Ac0 Ac1 Alt PX0c0 PX0c1 PX0lt
  have HPQ2 := Lib.hid (show g0 + 1 + z0.length ≤ w5.heap.size by have := GG2.out; have := G2.out; omega)
  have hsz : w5.heap.size ≤ (w5.alloc (.cells #[.int .i64 h2, .slice (some ⟨g2, 0, none⟩) z2.length z2.length] 26)).heap.size := by simp
  replace G2 := Lib.hid (show v4.heap.size ≤ g2 ∧ g2 + 1 + z2.length ≤ (w5.alloc (.cells #[.int .i64 h2, .slice (some ⟨g2, 0, none⟩) z2.length z2.length] 26)).heap.size from ⟨G2.out.1, Nat.le_trans G2.out.2 hsz⟩)
  have HPX2 := Lib.hid (show v4.heap.size ≤ w5.heap.size from E.out.size)
  clear hsz
  have hb := (Below.refl w5.heap.size w5).alloc (Nat.le_refl _) (.cells #[.int .i64 h2, .slice (some ⟨g2, 0, none⟩) z2.length z2.length] 26)
  have ha : Boxes (w5.alloc (.cells #[.int .i64 h2, .slice (some ⟨g2, 0, none⟩) z2.length z2.length] 26)) w5.heap.size 26 #[.int .i64 h2, .slice (some ⟨g2, 0, none⟩) z2.length z2.length] := World.alloc_heap_new w5 _
  generalize w5.alloc (.cells #[.int .i64 h2, .slice (some ⟨g2, 0, none⟩) z2.length z2.length] 26) = y2 at *
  replace E := Lib.hid (chain E.out hb)
  replace X0 := Lib.hid (X0.out.step hb)
  replace PX0 := Lib.hid (PX0.out.step hb)
  replace X2 := Lib.hid (X2.out.step hb)
  have PX2 := Lib.hid ha
  clear hb ha
  generalize w5.heap.size = px2 at *
  refine (HIM.out _ _ _ _ y2 X0.out.rows S0.out X2.out.rows S2.out).mono ?_
  rintro e w6 ⟨⟨vg, us, rfl, hown⟩, hb⟩
  obtain ⟨ag, cg, rfl⟩ := hown.form
  obtain ⟨bs, hbs⟩ : ∃ b, y2.heap.size = b := ⟨_, rfl⟩
  have HBS := Lib.hid (show v4.heap.size ≤ bs by have := G2.out; omega)
  have HQ := Lib.hid (show bs ≤ w6.heap.size by have := hb.size; omega)
  replace E := Lib.hid (chain E.out hb)
  replace X0 := Lib.hid (X0.out.step hb)
  replace PX0 := Lib.hid (PX0.out.step hb)
  replace X2 := Lib.hid (X2.out.step hb)
  replace PX2 := Lib.hid (PX2.out.step hb)
  rw [hbs] at hown
  rw [hbs] at G2
  have G := Lib.hid hown
  clear hb hown hbs
  have B0c0 := (B0.out.step E.out).c0
  have B0c1 := (B0.out.step E.out).c1
  have B0lt := (B0.out.step E.out).lt
  have B2c0 := (B2.out.step E.out).c0
  have B2c1 := (B2.out.step E.out).c1
  have B2lt := (B2.out.step E.out).lt
  have Ac0 := (A.out.step E.out).c0
  have Ac1 := (A.out.step E.out).c1
  have Alt := (A.out.step E.out).lt
  have PX0c0 := (PX0.out).c0
  have PX0c1 := (PX0.out).c1
  have PX0lt := (PX0.out).lt
  have PX2c0 := (PX2.out).c0
  have PX2c1 := (PX2.out).c1
  have PX2lt := (PX2.out).lt
  go_wp2_with fail
  clear B0c0 B0c1 B0lt B2c0 B2c1 B2lt Ac0 Ac1 Alt PX0c0 PX0c1 PX0lt PX2c0 PX2c1 PX2lt
  have hb := (Below.refl w6.heap.size w6).alloc (Nat.le_refl _) (.cells #[.int .i64 rh, .slice ag rz.length cg] 26)
  have ha : Boxes (w6.alloc (.cells #[.int .i64 rh, .slice ag rz.length cg] 26)) w6.heap.size 26 #[.int .i64 rh, .slice ag rz.length cg] := World.alloc_heap_new w6 _
  generalize w6.alloc (.cells #[.int .i64 rh, .slice ag rz.length cg] 26) = v7 at *
  replace E := Lib.hid (chain E.out hb)
  replace X0 := Lib.hid (X0.out.step hb)
  replace PX0 := Lib.hid (PX0.out.step hb)
  replace X2 := Lib.hid (X2.out.step hb)
  replace PX2 := Lib.hid (PX2.out.step hb)
  replace G := Lib.hid (G.out.step hb)
  have GB := Lib.hid ha
  clear hb ha
  generalize w6.heap.size = qg at *
  refine (eqFamily_same rh ag a rz cg c _ G.out.rows2v (W0.out.step E.out) HSM.out.lens.1 HSM.out.lens.2).mono ?_
  rintro e w7 ⟨rfl, hb⟩
  replace E := Lib.hid (chain E.out hb)
  replace X0 := Lib.hid (X0.out.step hb)
  replace PX0 := Lib.hid (PX0.out.step hb)
  replace X2 := Lib.hid (X2.out.step hb)
  replace PX2 := Lib.hid (PX2.out.step hb)
  replace G := Lib.hid (G.out.step hb)
  replace GB := Lib.hid (GB.out.step hb)
  clear hb
  have K : Carry v4 g0 z0 px0 h0 g2 z2 px2 h2 bs ag cg us rz qg rh _ := ⟨E.out, X0.out, PX0.out, X2.out, PX2.out, G.out, GB.out⟩
  have B0c0 := (B0.out.step E.out).c0
  have B0c1 := (B0.out.step E.out).c1
  have B0lt := (B0.out.step E.out).lt
  have PX0c0 := (PX0.out).c0
  have PX0c1 := (PX0.out).c1
  have PX0lt := (PX0.out).lt
  go_wp2_with fail
  go_region_held3 (fun w' => w'.cell? ⟨w.heap.size, 0, none⟩ = some (.int .i64 h0) ∧ w'.cell? ⟨w.heap.size, 1, none⟩ = some (.slice a0 z0.length c0) ∧ w'.cell? ⟨px0, 0, none⟩ = some (.int .i64 h0) ∧ w'.cell? ⟨px0, 1, none⟩ = some (.slice (some ⟨g0, 0, none⟩) z0.length z0.length) ∧ Carry v4 g0 z0 px0 h0 g2 z2 px2 h2 bs ag cg us rz qg rh w') (first | exact ⟨cell_step (drew_step _) B0c0, cell_step (drew_step _) B0c1, cell_step (drew_step _) PX0c0, cell_step (drew_step _) PX0c1, K.step (drew_step _)⟩ | exact keep4 hb (fun k => k.step hb) (by assumption)) (first | (go_at_call 11; obtain ⟨_, _, _, _, KK⟩ := ‹_ ∧ _ ∧ _ ∧ _ ∧ Carry v4 g0 z0 px0 h0 g2 z2 px2 h2 bs ag cg us rz qg rh _›; refine (toFamily_any h0 a0 z0 c0 _ (R0.out.step KK.e) S0.out).mono ?_; rintro e wf ⟨rfl, -, hof, hb⟩; have hx1 := KK.x0.step hb; clear KK) | (go_at_call 13; refine (eqFamily_same h0 _ _ z0 _ _ _ hx1.rows hof.rows S0.out.lens.1 S0.out.lens.2).mono ?_; rintro e w9 ⟨rfl, hb⟩))
  clear B0c0 B0c1 B0lt PX0c0 PX0c1 PX0lt K hb hx1 hof
  obtain ⟨-, -, -, -, K⟩ := ‹_ ∧ _ ∧ _ ∧ _ ∧ Carry v4 g0 z0 px0 h0 g2 z2 px2 h2 bs ag cg us rz qg rh _›
  replace E := Lib.hid K.e
  replace X0 := Lib.hid K.x0
  replace PX0 := Lib.hid K.b0
  replace X2 := Lib.hid K.x2
  replace PX2 := Lib.hid K.b2
  replace G := Lib.hid K.g
  replace GB := Lib.hid K.gb
  clear K
  have K : Carry v4 g0 z0 px0 h0 g2 z2 px2 h2 bs ag cg us rz qg rh _ := ⟨E.out, X0.out, PX0.out, X2.out, PX2.out, G.out, GB.out⟩
  have B2c0 := (B2.out.step E.out).c0
  have B2c1 := (B2.out.step E.out).c1
  have B2lt := (B2.out.step E.out).lt
  have PX2c0 := (PX2.out).c0
  have PX2c1 := (PX2.out).c1
  have PX2lt := (PX2.out).lt
  go_wp2_with fail
  go_region_held3 (fun w' => w'.cell? ⟨w.heap.size + 1, 0, none⟩ = some (.int .i64 h2) ∧ w'.cell? ⟨w.heap.size + 1, 1, none⟩ = some (.slice a2 z2.length c2) ∧ w'.cell? ⟨px2, 0, none⟩ = some (.int .i64 h2) ∧ w'.cell? ⟨px2, 1, none⟩ = some (.slice (some ⟨g2, 0, none⟩) z2.length z2.length) ∧ Carry v4 g0 z0 px0 h0 g2 z2 px2 h2 bs ag cg us rz qg rh w') (first | exact ⟨cell_step (drew_step _) B2c0, cell_step (drew_step _) B2c1, cell_step (drew_step _) PX2c0, cell_step (drew_step _) PX2c1, K.step (drew_step _)⟩ | exact keep4 hb (fun k => k.step hb) (by assumption)) (first | (go_at_call 11; obtain ⟨_, _, _, _, KK⟩ := ‹_ ∧ _ ∧ _ ∧ _ ∧ Carry v4 g0 z0 px0 h0 g2 z2 px2 h2 bs ag cg us rz qg rh _›; refine (toFamily_any h2 a2 z2 c2 _ (R2.out.step KK.e) S2.out).mono ?_; rintro e wf ⟨rfl, -, hof, hb⟩; have hx1 := KK.x2.step hb; clear KK) | (go_at_call 13; refine (eqFamily_same h2 _ _ z2 _ _ _ hx1.rows hof.rows S2.out.lens.1 S2.out.lens.2).mono ?_; rintro e w9 ⟨rfl, hb⟩))
  clear B2c0 B2c1 B2lt PX2c0 PX2c1 PX2lt K hb hx1 hof
  obtain ⟨-, -, -, -, K⟩ := ‹_ ∧ _ ∧ _ ∧ _ ∧ Carry v4 g0 z0 px0 h0 g2 z2 px2 h2 bs ag cg us rz qg rh _›
  replace E := Lib.hid K.e
  replace X0 := Lib.hid K.x0
  replace PX0 := Lib.hid K.b0
  replace X2 := Lib.hid K.x2
  replace PX2 := Lib.hid K.b2
  replace G := Lib.hid K.g
  replace GB := Lib.hid K.gb
  clear K
  have B0c0 := (B0.out.step E.out).c0
  have B0c1 := (B0.out.step E.out).c1
  have B0lt := (B0.out.step E.out).lt
  have B2c0 := (B2.out.step E.out).c0
  have B2c1 := (B2.out.step E.out).c1
  have B2lt := (B2.out.step E.out).lt
  have Ac0 := (A.out.step E.out).c0
  have Ac1 := (A.out.step E.out).c1
  have Alt := (A.out.step E.out).lt
  have PX0c0 := (PX0.out).c0
  have PX0c1 := (PX0.out).c1
  have PX0lt := (PX0.out).lt
  have PX2c0 := (PX2.out).c0
  have PX2c1 := (PX2.out).c1
  have PX2lt := (PX2.out).lt
  have GBc0 := (GB.out).c0
  have GBc1 := (GB.out).c1
  have GBlt := (GB.out).lt
  go_wp2_with fail
  clear B0c0 B0c1 B0lt B2c0 B2c1 B2lt Ac0 Ac1 Alt PX0c0 PX0c1 PX0lt PX2c0 PX2c1 PX2lt GBc0 GBc1 GBlt
  refine (markFamily3_any h0 g0 _ z0 1 _ X0.out S0.out (by omega) (by omega)).mono ?_
  rintro e w8 ⟨rfl, ht⟩
  have hgl := Nat.le_of_lt X0.out.top.lt
  have hk0 : (0 : Int) ≤ 1 + total z0 := by have := total_nonneg z0; omega
  have hku0 : 1 + total z0 ≤ 1048577 := by have := TT0.out; have := total_nonneg z0; omega
  generalize 1 + total z0 = k0 at hk0 hku0 ⊢
  replace E := Lib.hid (E.out.trans (ht.below G0.out.1 hgl))
  have hhi : g0 + 1 + z0.length ≤ bs := by have := G2.out.2; have := GG2.out; omega
  replace G := Lib.hid (Own.touch ht G.out hhi)
  replace GB := Lib.hid (GB.out.touch ht (by have := HQ.out; omega))
  replace X2 := Lib.hid (X2.out.touch ht GG2.out)
  have hpq : g0 + 1 + z0.length ≤ px2 := HPQ2.out
  replace PX2 := Lib.hid (PX2.out.touch ht hpq)
  clear hpq
  clear ht hgl hhi
  clear X0
  clear PX0
  have Ac0 := (A.out.step E.out).c0
  have Ac1 := (A.out.step E.out).c1
  have Alt := (A.out.step E.out).lt
  have PX2c0 := (PX2.out).c0
  have PX2c1 := (PX2.out).c1
  have PX2lt := (PX2.out).lt
  have GBc0 := (GB.out).c0
  have GBc1 := (GB.out).c1
  have GBlt := (GB.out).lt
  go_wp2_with fail
  clear Ac0 Ac1 Alt PX2c0 PX2c1 PX2lt GBc0 GBc1 GBlt
  refine (markFamily3_any h2 g2 _ z2 k0 _ X2.out S2.out (by omega) (by omega)).mono ?_
  rintro e w9 ⟨rfl, ht⟩
  have hgl := Nat.le_of_lt X2.out.top.lt
  have hk2 : (0 : Int) ≤ k0 + total z2 := by have := total_nonneg z2; omega
  have hku2 : k0 + total z2 ≤ 2097153 := by have := TT2.out; have := total_nonneg z2; omega
  generalize k0 + total z2 = k2 at hk2 hku2 ⊢
  replace E := Lib.hid (E.out.trans (ht.below G2.out.1 hgl))
  have hhi : g2 + 1 + z2.length ≤ bs := by have := G2.out.2; omega
  replace G := Lib.hid (Own.touch ht G.out hhi)
  replace GB := Lib.hid (GB.out.touch ht (by have := HQ.out; omega))
  clear ht hgl hhi
  clear X2
  clear PX2
  have Ac0 := (A.out.step E.out).c0
  have Ac1 := (A.out.step E.out).c1
  have Alt := (A.out.step E.out).lt
  have GBc0 := (GB.out).c0
  have GBc1 := (GB.out).c1
  have GBlt := (GB.out).lt
  go_wp2_with fail
  clear Ac0 Ac1 Alt GBc0 GBc1 GBlt
  refine (eqFamily_same rh ag a rz cg c _ G.out.rows2v (W0.out.step E.out) HSM.out.lens.1 HSM.out.lens.2).mono ?_
  rintro e w10 ⟨rfl, hb⟩
  replace E := Lib.hid (chain E.out hb)
  replace G := Lib.hid (G.out.step hb)
  replace GB := Lib.hid (GB.out.step hb)
  clear hb
  have GBc0 := (GB.out).c0
  have GBc1 := (GB.out).c1
  have GBlt := (GB.out).lt
  go_wp2_with fail
  clear GBc0 GBc1 GBlt
  refine (markFamO_any rh _ us rz bs 1 _ G.out HSM.out (by omega) (by omega) (Nat.le_trans HQ.out (Nat.le_of_lt GB.out.lt))).mono ?_
  rintro e w11 ⟨rfl, hown, hb, hsz, hkt⟩
  replace E := Lib.hid (E.out.trans (hb.mono HBS.out))
  replace G := Lib.hid hown
  replace GB := Lib.hid (GB.out.keeps hkt (by decide))
  clear hown hb hsz hkt
  have t2 : ((1 : Int) + total rz != (1 : Int) + total rz) = false := by simp
  have GBc0 := (GB.out).c0
  have GBc1 := (GB.out).c1
  have GBlt := (GB.out).lt
  go_wp2_with fail
  clear GBc0 GBc1 GBlt
  refine (heldFamO_any rh ag cg rz 1 _ G.out.rows2m HSM.out (by omega) (by omega)).mono ?_
  rintro e w12 ⟨rfl, hb⟩
  replace E := Lib.hid (chain E.out hb)
  replace G := Lib.hid (G.out.step hb)
  replace GB := Lib.hid (GB.out.step hb)
  clear hb
  have B0c0 := (B0.out.step E.out).c0
  have B0c1 := (B0.out.step E.out).c1
  have B0lt := (B0.out.step E.out).lt
  have B2c0 := (B2.out.step E.out).c0
  have B2c1 := (B2.out.step E.out).c1
  have B2lt := (B2.out.step E.out).lt
  go_wp2_with fail
  clear B0c0 B0c1 B0lt B2c0 B2c1 B2lt
  have B0c0 := (B0.out.step E.out).c0
  have B0c1 := (B0.out.step E.out).c1
  have B0lt := (B0.out.step E.out).lt
  have B2c0 := (B2.out.step E.out).c0
  have B2c1 := (B2.out.step E.out).c1
  have B2lt := (B2.out.step E.out).lt
  have MK := Lib.hid (show ∀ w' : World, Below w12.heap.size w12 w' → Below w12.heap.size w12 w' ∧ w'.cell? ⟨w.heap.size, 0, none⟩ = some (.int .i64 h0) ∧ w'.cell? ⟨w.heap.size, 1, none⟩ = some (.slice a0 z0.length c0) ∧ w'.cell? ⟨w.heap.size + 1, 0, none⟩ = some (.int .i64 h2) ∧ w'.cell? ⟨w.heap.size + 1, 1, none⟩ = some (.slice a2 z2.length c2) from fun w' h => ⟨h, cell_step h B0c0, cell_step h B0c1, cell_step h B2c0, cell_step h B2c1⟩)
  go_cut [17, 18] from 98 to 106 (fun s17 s18 wr => ∃ (qz : Nat) (az : Option Addr) (cz : Nat), s17 = .pointer (some ⟨qz, 0, none⟩) ∧ s18 = .int .i64 rc ∧ Boxes wr qz 26 #[.int .i64 rh, .slice az rz.length cz] ∧ Rows2 wr az rz ∧ Below w12.heap.size w12 wr)
  case first =>
    go_region_held3 (fun w' => Below w12.heap.size w12 w' ∧ w'.cell? ⟨w.heap.size, 0, none⟩ = some (.int .i64 h0) ∧ w'.cell? ⟨w.heap.size, 1, none⟩ = some (.slice a0 z0.length c0) ∧ w'.cell? ⟨w.heap.size + 1, 0, none⟩ = some (.int .i64 h2) ∧ w'.cell? ⟨w.heap.size + 1, 1, none⟩ = some (.slice a2 z2.length c2)) (first | exact MK.out _ (drew_step _) | exact MK.out _ (alloc_step _ _).drew | exact MK.out _ (chain (‹Below w12.heap.size w12 _ ∧ _›).1 hb) | exact MK.out _ ((‹Below w12.heap.size w12 _ ∧ _›).1.alloc (‹Below w12.heap.size w12 _ ∧ _›).1.size _) | exact MK.out _ ((((‹Below w12.heap.size w12 _ ∧ _›).1).setCell nb.lo _).setCell nb.lo _) | exact MK.out _ (KS.alloc KS.size _) | exact MK.out _ ((((‹Below w12.heap.size w12 _ ∧ _›).1).setCell KS.size _).setCell KS.size _) | fail) (first | (go_at_call_of 11 h0; have KK := (‹Below w12.heap.size w12 _ ∧ _›).1; refine (toFamily_any h0 a0 z0 c0 _ ((R0.out.step E.out).step KK) S0.out).mono ?_; rintro e wf0 ⟨rfl, -, hof0, hb⟩; have EW0 := chain KK hb; clear KK; (try simp only [World.size_drew] at hof0); (try simp only [World.size_alloc] at hof0); (first | (have nb := newb_kept2 hb) | (have nb := newb_kept (drew_step _) hb) | (have nb := newb_kept EW0 hb) | (have nb := newb_kept EW2 hb) | (replace nb := nb.step hb) | skip); (try (have bq0 := nb.bx.c0; have bf0 := nb.bx.frozen 0; have bq1 := nb.bx.c1; have bf1 := nb.bx.frozen 1))) | (go_at_call_of 11 h2; have KK := (‹Below w12.heap.size w12 _ ∧ _›).1; refine (toFamily_any h2 a2 z2 c2 _ ((R2.out.step E.out).step KK) S2.out).mono ?_; rintro e wf2 ⟨rfl, -, hof2, hb⟩; have EW2 := chain KK hb; clear KK; (try simp only [World.size_drew] at hof2); (try simp only [World.size_alloc] at hof2); (first | (have nb := newb_kept2 hb) | (have nb := newb_kept (drew_step _) hb) | (have nb := newb_kept EW0 hb) | (have nb := newb_kept EW2 hb) | (replace nb := nb.step hb) | skip); (try (have bq0 := nb.bx.c0; have bf0 := nb.bx.frozen 0; have bq1 := nb.bx.c1; have bf1 := nb.bx.frozen 1))) | (go_at_call 24; (try have hql := nb.bx.lt); have KK := (‹Below w12.heap.size w12 _ ∧ _›).1; refine (HIM.out _ _ _ _ _ ?_ S0.out ?_ S2.out).mono ?_; (first | exact hof0.rows | exact hof0.rows.step hb | exact hof0.rows.step (alloc_step _ _) | exact (hof0.rows.step hb).step (alloc_step _ _) | exact (hof0.rows.step (alloc_step _ _)).step hb); (first | exact hof2.rows | exact hof2.rows.step hb | exact hof2.rows.step (alloc_step _ _) | exact (hof2.rows.step hb).step (alloc_step _ _) | exact (hof2.rows.step (alloc_step _ _)).step hb); rintro e ws ⟨⟨vh, uh, rfl, hownh⟩, hb⟩; obtain ⟨az, cz, rfl⟩ := hownh.form; have hz0 := hownh.rowsF; clear hownh; have KS := chain KK hb; clear KK; (first | (have nb := newb_kept2 hb) | (have nb := newb_kept (drew_step _) hb) | (have nb := newb_kept EW0 hb) | (have nb := newb_kept EW2 hb) | (replace nb := nb.step hb) | skip); (try (have bq0 := nb.bx.c0; have bf0 := nb.bx.frozen 0; have bq1 := nb.bx.c1; have bf1 := nb.bx.frozen 1))))
    all_goals (have KF := (‹Below w12.heap.size w12 _ ∧ _›).1; go_wp2_with fail; go_meet; first | exact ⟨_, _, _, rfl, rfl, World.alloc_heap_new ws _, hz0.rows.step (alloc_step _ _), KF⟩ | exact ⟨_, _, _, rfl, rfl, nb.bx.set2 _ _, (((hz0).set (by first | exact hql | simp) 0 _).set (by first | exact hql | simp) 1 _).rows, KF⟩)
  case rest =>
  clear MK B0c0 B0c1 B0lt B2c0 B2c1 B2lt
  obtain ⟨qz, az, cz, rfl, rfl, hbx, hrz, hb⟩ := hcut
  obtain ⟨w13, hwn⟩ : ∃ W : World, W = wc := ⟨_, rfl⟩
  subst hwn
  replace E := Lib.hid (chain E.out hb)
  replace G := Lib.hid (G.out.step hb)
  replace GB := Lib.hid (GB.out.step hb)
  clear hb
  have HB := Lib.hid hbx
  have H := Lib.hid hrz
  clear hbx hrz
  generalize qz = qh at *
  generalize az = ah at *
  generalize cz = ch at *
  have Ac0 := (A.out.step E.out).c0
  have Ac1 := (A.out.step E.out).c1
  have Alt := (A.out.step E.out).lt
  have HBc0 := (HB.out).c0
  have HBc1 := (HB.out).c1
  have HBlt := (HB.out).lt
  go_wp2_with fail
  clear Ac0 Ac1 Alt HBc0 HBc1 HBlt
  refine (eqFamily_same rh ah a rz ch c _ H.out (W0.out.step E.out) HSM.out.lens.1 HSM.out.lens.2).mono ?_
  rintro e w14 ⟨rfl, hb⟩
  replace E := Lib.hid (chain E.out hb)
  replace G := Lib.hid (G.out.step hb)
  replace GB := Lib.hid (GB.out.step hb)
  replace HB := Lib.hid (HB.out.step hb)
  replace H := Lib.hid (H.out.step hb)
  clear hb
  clear H HB
  have GBc0 := (GB.out).c0
  have GBc1 := (GB.out).c1
  have GBlt := (GB.out).lt
  go_wp2_with fail
  clear GBc0 GBc1 GBlt
  refine (heldFamO_any rh ag cg rz 1 _ G.out.rows2m HSM.out (by omega) (by omega)).mono ?_
  rintro e w15 ⟨rfl, hb⟩
  replace E := Lib.hid (chain E.out hb)
  replace G := Lib.hid (G.out.step hb)
  replace GB := Lib.hid (GB.out.step hb)
  clear hb
  go_wp2_with fail
  go_ret
  exact ⟨rfl, D.out.trans (E.out.mono D.out.size)⟩
end PutFamily
end Go.Proofs.YtnalbonnjcphkaaDoor

/- 'laws.FnExactPutFamily': for all arguments the program's function gives what the model gives, and writes into nothing that it was given. Tied to the program's text: what the library's tables hold. No other condition. -/
namespace Go.Proofs.YtnalbonnjcphkaaDoor
open Go.ChangeShapes Go.WideShapes Go.ChangeAt Go.RowKit Go.Deep
set_option linter.unusedVariables false
namespace Put

theorem law (h0 : Int) (a0 : Option Addr) (z0 : List (List Int)) (c0 : Nat) (x1 : Int) (h2 : Int) (a2 : Option Addr) (z2 : List (List Int)) (c2 : Nat) (w : World) (hr0 : Rows2 w a0 z0) (hl0 : Lens z0) (wfh0 : (Lit.int .i64 h0).wf = true) (wf1 : (Lit.int .i64 x1).wf = true) (hr2 : Rows2 w a2 z2) (hl2 : Lens z2) (wfh2 : (Lit.int .i64 h2).wf = true) :
    Calls Tryd.prog 6 #[.agg #[.int .i64 h0, .slice a0 z0.length c0], .int .i64 x1, .agg #[.int .i64 h2, .slice a2 z2.length c2]] w fun e w' => e = .returned (.bool true) ∧ Below w.heap.size w w' :=
  PutFamily.law_of h0 a0 z0 c0 x1 h2 a2 z2 c2 (putOf h0 z0 x1 h2 z2).h (putOf h0 z0 x1 h2 z2).zss (putOf h0 z0 x1 h2 z2).code w hr0 hl0 wfh0 wf1 hr2 hl2 wfh2
    (fun _ _ _ _ W r0 s0 r2 s2 => (specPu_any h0 _ z0 _ x1 h2 _ z2 _ W r0 s0 r2 s2).mono fun _ _ k => k.x)
    (fun _ _ _ _ W r0 s0 r2 s2 => (implPu_any h0 _ z0 _ x1 h2 _ z2 _ W r0 s0 r2 s2).mono fun _ _ k => k.y)
    (put_small _ _ _ _ _)

theorem door_met (os : Os) (args : Array Value) : laidMetH Tryd.prog Rows.fnExactPutFamilyRow.laid ((World.doorLaid Tryd.prog 62 os).forCall (fun _ _ => 0) ⟨#[], args, []⟩).memory :=
  laidMetH_of_parts3 (fuel := 8) (laidMet_of_run' 8 (by kernel_rfl) (by kernel_rfl)) (by kernel_rfl) (by kernel_rfl)

set_option maxRecDepth 100000 in
set_option maxHeartbeats 100000000 in
theorem lifted (os : Os) (started : os.Started) (H : Type) (enc : TypeId × Value → H) :
    ReturnsInHanded {} Tryd.checked os 6 .any (fun w args => (Rows.fnExactPutFamilySpec.pre enc Tryd.prog Tryd.f6 [] false w args ∧ laidMetH Tryd.prog Rows.fnExactPutFamilyRow.laid w) ∧ sizedMet enc Tryd.prog Tryd.f6 (OpenSpec.ofChange Rows.fnExactPutFamilySpec) false w args)
      (Rows.fnExactPutFamilySpec.post enc Tryd.prog Tryd.f6 false true false false) := by
  refine returnsInHanded_of_change_and (C := Tryd.checked) (X := fun w _ => laidMetH Tryd.prog Rows.fnExactPutFamilyRow.laid w) (fun _ _ _ hh h => h.of_heap hh) CardP.own started (by kernel_rfl) Tryd.func6
    (ChangeSpec.witness_shaped (enc := enc) (C := Tryd.checked) (os := os) (X := fun w _ => laidMetH Tryd.prog Rows.fnExactPutFamilyRow.laid w) false (World.doorLaid Tryd.prog 62 os) #[.agg #[.int .i64 0, .slice none 0 0], .int .i64 0, .agg #[.int .i64 0, .slice none 0 0]] 8 rfl (World.shaped_of_RefB (by kernel_rfl) (by kernel_rfl)) (by kernel_rfl) (by kernel_rfl) (by kernel_rfl) (door_met os _)) ?_
  intro W base args ds gs before hval0 hW _ _ hL _
  have hval : ∀ (j : Nat) t v, Tryd.f6.params[j]? = some t → args[j]? = some v → Value.okWide Tryd.prog W .any base t v := hval0
  have hW' := hW
  obtain ⟨p, q, hA0, hV, rfl, hfz, hnd⟩ := hW
  have hA : DataW.TrodAll enc Tryd.prog W 0 (fun _ => true) true Tryd.f6.params.toList args.toList ds p := hA0
  rw [Tryd.params6] at hA hval
  obtain ⟨v0, vs0, d0, ds0, p0, q0, hargs, rfl, rfl, h0, r0⟩ := trodAll_cons hA
  obtain ⟨v1, vs1, d1, ds1, p1, q1, rfl, rfl, rfl, h1, r1⟩ := trodAll_cons r0
  obtain ⟨v2, vs2, d2, ds2, p2, q2, rfl, rfl, rfl, h2, r2⟩ := trodAll_cons r1
  obtain ⟨rfl, rfl, rfl⟩ := trodAll_nil r2
  obtain rfl : args = #[v0, v1, v2] := by cases args; simp_all
  obtain ⟨rfl, rfl⟩ := trodVars_none hV
  have k0 := h0
  have lt0 : ∀ x ∈ p0, x.block < W.heap.size := by obtain ⟨m, hm⟩ := k0; exact DataW.trod_lt m _ _ _ hm
  obtain ⟨hh0, a0, z0, c0, rfl, rr0, ll0, wf0⟩ := open_fam (hval 0 24 v0 rfl rfl) h0
  obtain ⟨x1, rfl, rfl, rfl, w1⟩ := open_int Tryd.underlying2 (hval 1 2 v1 rfl rfl) h1
  have k2 := h2
  have lt2 : ∀ x ∈ p2, x.block < W.heap.size := by obtain ⟨m, hm⟩ := k2; exact DataW.trod_lt m _ _ _ hm
  obtain ⟨hh2, a2, z2, c2, rfl, rr2, ll2, wf2⟩ := open_fam (hval 2 24 v2 rfl rfl) h2
  clear hA0 hval0
  refine (law hh0 a0 z0 c0 x1 hh2 a2 z2 c2 W rr0 ll0 wf0 w1 rr2 ll2 wf2).mono fun e W' ⟨he, bel⟩ => ?_
  subst he
  exact ⟨_, rfl, _, _, _, [], _, [], hW', trodAll_mk1 (shut_bool Tryd.underlying4 _), (trodAll_cons_mk (Below.trod CardP.laidOut (by kernel_rfl) (of_decide_eq_true (by kernel_rfl)) k0 bel lt0) (trodAll_cons_mk (shut_int Tryd.underlying2 w1) (trodAll_cons_mk (Below.trod CardP.laidOut (by kernel_rfl) (of_decide_eq_true (by kernel_rfl)) k2 bel lt2) trodAll_mk0))), rfl, bel.frame _, fun h => by cases h⟩


end Put
end Go.Proofs.YtnalbonnjcphkaaDoor

/- 'laws.FnExactPutFamily': the plain statement. -/
namespace Go.Proofs.YtnalbonnjcphkaaDoor
open Go.ChangeShapes Go.WideShapes Go.ChangeAt Go.RowKit Go.Deep
set_option linter.unusedVariables false
namespace Put

theorem over : Rows.fnExactPutFamilyRow.holds Tryd.pinned (OpenSpec.ofChange Rows.fnExactPutFamilySpec) :=
  OpenClaim.holds_of_wide 6 Tryd.f6 rfl rfl rfl rfl rfl rfl rfl ⟨rfl, rfl, rfl, rfl, rfl⟩ rfl rfl rfl rfl rfl (by kernel_rfl) Tryd.func6 closed
    (of_decide_eq_true (by kernel_rfl)) (by unfold Func.isWrapper; first | (rw [if_pos (by decide +kernel)]; kernel_rfl) | (rw [if_neg (by decide +kernel)]; exact ⟨rfl, rfl⟩))
    (fun os started H enc _ => lifted os started H enc)

theorem said : Rows.FnExactPutFamilySaid := over

end Put
end Go.Proofs.YtnalbonnjcphkaaDoor

/- 'laws.FnExactPutFamily': for all arguments the program's function gives what the model gives, and writes into nothing that it was given: its tied card. Tied to the program's text: what the library's tables hold. No other condition. -/
namespace Go.Proofs.YtnalbonnjcphkaaDoor
open Go.ChangeShapes Go.WideShapes Go.ChangeAt Go.RowKit Go.Deep
set_option linter.unusedVariables false
namespace Put

theorem plain (f : FuncId) (fn : Func) (hf : Tryd.pinned.checked.prog.funcNamed "loop.example/g01117/laws.FnExactPutFamily" = some f) (hfn : Tryd.pinned.checked.prog.funcs[f]? = some fn) :
    true = Tryd.pinned.checked.prog.looks [] ∧ ∀ (j : Nat) t, fn.params[j]? = some t → Tryd.pinned.checked.prog.wantsStandIn t = false := by
  obtain rfl : f = 6 := Option.some.inj (c_named.symm.trans hf) |>.symm
  obtain rfl : fn = Tryd.f6 := (Option.some.inj (Tryd.func6.symm.trans hfn)).symm
  refine ⟨CardP.looks, fun j t ht => ?_⟩
  rw [Tryd.params6] at ht
  have hm : t ∈ [24, 2, 24] := by simpa using Array.mem_of_getElem? ht
  have hall := c_stand
  exact (show Tryd.prog.wantsStandIn t = false by simpa using List.all_eq_true.1 hall t hm)

theorem card : Rows.FnExactPutFamilyCardSaid :=
  Claim7.holds_tied_plain_at .later [] _ _ _ _ said (fun _ h => by cases h) c_wf (fun _ h => by cases h) fnExactPutFamily_row_tie rfl ⟨rfl, rfl⟩ c_main rfl plain c_goes

end Put
end Go.Proofs.YtnalbonnjcphkaaDoor
