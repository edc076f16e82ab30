/- SharesOf of the program: its parts. -/
import Derived.Test.YtekhjoenejgmaaaShs
import Derived.Test.YtekhjoenejgmaaaPri
import Derived.Test.YtekhjoenejgmaaaCc2
import Derived.Test.YtekhjoenejgmaaaTra
import Derived.Test.YtekhjoenejgmaaaGl
namespace Go.Proofs.Ytekhjoenejgmaaa
open Go.RowKit Go.Deep Go.Joins
set_option linter.unusedVariables false

set_option maxRecDepth 100000 in
set_option maxHeartbeats 1000000 in
theorem gridOfLists_any (p c : Int) (a : Option Addr) (zss : List (List Int)) (cc : Nat) (w : World) (hr : Rows2 w a zss) (hs : Small2 zss) :
    Calls Try.prog 63 #[.int .i64 p, .int .i64 c, .slice a zss.length cc] w fun e w' => (∃ v us, e = .returned (.agg #[v, .int .i64 p, .int .i64 c]) ∧ OwnG w' w.heap.size p v us zss) ∧ Below w.heap.size w w' := by
  have hb1 := (Below.refl w.heap.size w).alloc (Nat.le_refl _) (.cells #[.slice none 0 0, .int .i64 0, .int .i64 0] 78)
  have hx1 : Boxes (w.alloc (.cells #[.slice none 0 0, .int .i64 0, .int .i64 0] 78)) w.heap.size 78 #[.slice none 0 0, .int .i64 0, .int .i64 0] := World.alloc_heap_new w _
  have HR := Lib.hid (hr.below hb1 (Nat.le_refl _))
  have HS := Lib.hid hs
  have HB := Lib.hid hb1
  have HX := Lib.hid hx1
  have hsz : (w.alloc (.cells #[.slice none 0 0, .int .i64 0, .int .i64 0] 78)).heap.size = w.heap.size + 1 := by simp
  clear hr hs hb1 hx1
  go_enter Try.func63, Try.ntmps63
  go_wp2_with fail
  refine (gridOf_any p c a zss cc _ HR.out HS.out).mono ?_
  generalize w.alloc (.cells #[.slice none 0 0, .int .i64 0, .int .i64 0] 78) = w1 at *
  rintro e w2 ⟨⟨v, us, rfl, ho⟩, hb⟩
  have HX2 := Lib.hid (HX.out.step hb)
  have HB2 := Lib.hid (HB.out.trans (hb.mono HB.out.size))
  have HO := Lib.hid ho
  obtain ⟨va, vc, rfl⟩ := ho.form
  have c0 := HX2.out.m0
  have c1 := HX2.out.m1
  have c2 := HX2.out.m2
  have f0 := HX2.out.frozen 0
  have f1 := HX2.out.frozen 1
  have f2 := HX2.out.frozen 2
  have hlt := HX2.out.lt
  clear ho hb
  go_wp2_with fail
  refine bodyPost_ret (v := .agg #[.slice va zss.length vc, .int .i64 p, .int .i64 c]) (by simp [results, Try.results63, go_sem, c0, c1, c2]) rfl ⟨⟨_, us, rfl, ?_⟩, ?_⟩
  · exact (((HO.out.setCell2 (p := ⟨w.heap.size, 0, none⟩) (by show w.heap.size < w1.heap.size; omega) _).setCell2 (p := ⟨w.heap.size, 1, none⟩) (by show w.heap.size < w1.heap.size; omega) _).setCell2 (p := ⟨w.heap.size, 2, none⟩) (by show w.heap.size < w1.heap.size; omega) _).mono (by omega)
  · exact ((HB2.out.setCell (p := ⟨w.heap.size, 0, none⟩) (Nat.le_refl _) _).setCell (p := ⟨w.heap.size, 1, none⟩) (Nat.le_refl _) _).setCell (p := ⟨w.heap.size, 2, none⟩) (Nat.le_refl _) _
end Go.Proofs.Ytekhjoenejgmaaa
