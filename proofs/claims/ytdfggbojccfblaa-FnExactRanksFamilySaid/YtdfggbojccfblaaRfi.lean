/- RanksFamily of the program. -/
import Derived.Test.YtdfggbojccfblaaRf0
import Derived.Test.YtdfggbojccfblaaFwC
import Derived.Test.YtdfggbojccfblaaRby
namespace Go.Proofs.Ytdfggbojccfblaa
open Go.RowKit Go.Deep Go.Shelf
set_option linter.unusedVariables false

set_option maxRecDepth 100000 in
set_option maxHeartbeats 1000000 in
theorem rf_chooses (rb gb m gx : Nat) (l : Int) (a : Option Addr) (z : List Int) (c : Nat) (w : World) (hx : Boxes w rb 27 #[.int .i64 (m : Int), .int .i64 l, .slice a z.length c]) (hy : Boxes w gb 56 #[.int .u64 (gx : Nat)]) (hr : Ints w a z) (hz : z.length = 2 ^ m) (hm : m ≤ 5) (hg : gx < 2 ^ m) :
    ChoosesC w 60 #[] #[.pointer (some ⟨rb, 0, none⟩), .pointer (some ⟨gb, 0, none⟩)] m (rfP z gx) := by
  refine ⟨enters_of Try.func60 (by kernel_rfl) rfl, fun x W hxl hbW => ?_⟩
  show Calls Try.prog 60 #[.int .u64 (x.val : Int), .pointer (some ⟨rb, 0, none⟩), .pointer (some ⟨gb, 0, none⟩)] W fun e W' => e = .returned (.bool (rfP z gx x.val)) ∧ Below W.heap.size W W'
  generalize x.val = y at *
  have h32 : (2 : Nat) ^ m ≤ 32 := pow5 hm
  obtain ⟨q, hq⟩ : ∃ q, y ||| gx = q := ⟨_, rfl⟩
  have hqm : q < 2 ^ m := by rw [← hq]; exact Nat.or_lt_two_pow hxl hg
  have eo : bits BinOp.or IntKind.u64 (y : Int) (gx : Int) = (q : Int) := by rw [← hq]; exact u64_or_nat _ _ (by omega) (by omega)
  have hyz : y < z.length := by omega
  have hqz : q < z.length := by omega
  have hyi : (y : Int) < (z.length : Int) := by omega
  have hqi : (q : Int) < (z.length : Int) := by omega
  have p2 := (hx.step hbW).m2
  have q0 : W.cell? ⟨gb, 0, none⟩ = some (.int .u64 (gx : Nat)) := by rw [(hy.step hbW).cell]; rfl
  rcases hr.step hbW with hh | ⟨b, o, rfl, hc⟩
  · rw [hh] at hyz; exact absurd hyz (Nat.not_lt_zero _)
  have g1 := hc y hyz
  have g2 := hc q hqz
  have HP := Lib.hid (show rfP z gx y = tell (nth z q = nth z y) by unfold rfP; rw [hq])
  generalize nth z y = x1 at *
  generalize nth z q = x2 at *
  clear hc hx hy hr hz hm hg hbW hxl hq hqm h32 hyz hqz
  by_cases he : x2 = x1
  · have HV := Lib.hid (show rfP z gx y = true by rw [HP.out]; exact tell_true he)
    have t1 : (x1 == x2) = true := by simp [he]
    clear he
    rw [HV.out]
    go_enter Try.func60, Try.ntmps60
    go_wp2
    go_big_quiet (fail)
    go_wp2
    go_ret
    exact ⟨rfl, quiet_below ⟨_, rfl⟩⟩
  · have HV := Lib.hid (show rfP z gx y = false by rw [HP.out]; exact tell_false he)
    have t1 : (x1 == x2) = false := by simp; omega
    clear he
    rw [HV.out]
    go_enter Try.func60, Try.ntmps60
    go_wp2
    go_big_quiet (fail)
    go_wp2
    go_ret
    exact ⟨rfl, quiet_below ⟨_, rfl⟩⟩

set_option maxRecDepth 100000 in
set_option maxHeartbeats 2000000 in
theorem implRf_any (h l : Int) (a : Option Addr) (z : List Int) (c : Nat) (b : Option Addr) (g : List Int) (d : Nat) (w : World) (hr : Ints w a z) (hl : LenI z) (hi : Ints w b g) (hgl : g.length ≤ 9223372036854775807) :
    Calls Try.prog 30 #[.agg #[.int .i64 h, .int .i64 l, .slice a z.length c], .slice b g.length d] w (GivesFO w (rfOf h l z g)) := by
  have hb1 := (Below.refl w.heap.size w).alloc (Nat.le_refl _) (.cells #[.int .i64 h, .int .i64 l, .slice a z.length c] 27)
  have hb2 := hb1.alloc (by simp) (.cells #[.int .i64 0, .slice none 0 0] 46)
  have hx := (boxes_new w #[.int .i64 h, .int .i64 l, .slice a z.length c] 27).step (alloc_b _ (.cells #[.int .i64 0, .slice none 0 0] 46))
  have hzz := boxes_new (w.alloc (.cells #[.int .i64 h, .int .i64 l, .slice a z.length c] 27)) #[.int .i64 0, .slice none 0 0] 46
  rw [World.size_alloc] at hzz
  have HR := Lib.hid (hr.step hb2)
  have HI := Lib.hid (hi.step hb2)
  have hok := fun W (q : Boxes W w.heap.size 27 #[.int .i64 h, .int .i64 l, .slice a z.length c]) (r : Ints W a z) => implVr_any h l a z c W r hl
  go_enter Try.func30, Try.ntmps30
  go_wp2_with fail
  generalize (w.alloc (.cells #[.int .i64 h, .int .i64 l, .slice a z.length c] 27)).alloc (.cells #[.int .i64 0, .slice none 0 0] 46) = w1 at *
  refine (hok w1 hx HR.out).mono ?_
  rintro e w2 ⟨rfl, hq⟩
  have HB2 := Lib.hid (chain hb2 (id hq))
  have HX := Lib.hid (hx.step (id hq))
  have HZ := Lib.hid (hzz.step (id hq))
  have HR2 := Lib.hid (HR.out.step (id hq))
  have HI2 := Lib.hid (HI.out.step (id hq))
  have c0 := HX.out.m0
  have c1 := HX.out.m1
  have c2 := HX.out.m2
  have z0 := HZ.out.c0
  have z1 := HZ.out.c1
  have f0 := HZ.out.frozen 0
  have f1 := HZ.out.frozen 1
  have hlt := HZ.out.lt
  have hlx := HX.out.lt
  clear hb1 hb2 hx hzz hq hok hr hl hi
  by_cases hk : RkOk h l z
  case neg =>
    have HT := Lib.hid (tell_false hk)
    have HV := Lib.hid (rf_bad (g := g) hk)
    clear hk
    rw [HT.out]
    go_wp2_with fail
    refine bodyPost_ret (v := .tuple #[.agg #[.int .i64 0, .slice none 0 0], .int .i64 1]) (by simp [results, Try.results30, go_sem, z0, z1]) rfl ?_
    rw [HV.out]
    exact GivesFO.no _ ((HB2.out.setCell (p := ⟨w.heap.size + 1, 0, none⟩) (by show w.heap.size ≤ w.heap.size + 1; omega) _).setCell (p := ⟨w.heap.size + 1, 1, none⟩) (by show w.heap.size ≤ w.heap.size + 1; omega) _)
  have hh := hk.1.1
  obtain ⟨m, rfl⟩ : ∃ m : Nat, h = (m : Int) := ⟨h.toNat, by omega⟩
  have m1 : 1 ≤ m := by omega
  have m5 : m ≤ 5 := by omega
  have HK := Lib.hid hk
  have HT := Lib.hid (tell_true hk)
  clear hk hh
  rw [HT.out]
  go_wp2_with fail
  refine (setOf_any b g d (m : Int) w2 HI2.out (by omega) hgl).mono ?_
  rintro e w3 ⟨rfl, rfl⟩
  by_cases hg : IsGrp (m : Int) g
  case neg =>
    have hgt := Lib.hid (show setVal (m : Int) g = .tuple #[.int .u64 0, .bool false] by rw [setVal, tell_false hg]; rfl)
    have HV := Lib.hid (rf_out HK.out hg)
    have HB3 := Lib.hid (chain HB2.out (alloc_b w2 (.cells #[.int .u64 0] 56)))
    have HZ3 := Lib.hid (HZ.out.step (alloc_b w2 (.cells #[.int .u64 0] 56)))
    clear hg
    rw [hgt.out]
    go_wp2_with fail
    refine bodyPost_ret (v := .tuple #[.agg #[.int .i64 0, .slice none 0 0], .int .i64 2]) (by simp [results, Try.results30, go_sem, z0, z1, hlt]) rfl ?_
    rw [HV.out]
    refine GivesFO.no _ ?_
    first
    | exact ((HB3.out.setCell (p := ⟨w.heap.size + 1, 0, none⟩) (by show w.heap.size ≤ w.heap.size + 1; omega) _).setCell (p := ⟨w.heap.size + 1, 1, none⟩) (by show w.heap.size ≤ w.heap.size + 1; omega) _)
    | exact Below.alloc ((HB2.out.setCell (p := ⟨w.heap.size + 1, 0, none⟩) (by show w.heap.size ≤ w.heap.size + 1; omega) _).setCell (p := ⟨w.heap.size + 1, 1, none⟩) (by show w.heap.size ≤ w.heap.size + 1; omega) _) (by simp only [World.size_setCell]; exact HB2.out.size) _
  have hgt := Lib.hid (show setVal (m : Int) g = .tuple #[.int .u64 ((bitsOf g : Nat) : Int), .bool true] by rw [setVal, tell_true hg]; rfl)
  have HV := Lib.hid (rf_in HK.out hg)
  have hgx := bitsOf_ltP hg
  generalize bitsOf g = gx at *
  clear hg
  rw [hgt.out]
  have hal := alloc_b w2 (.cells #[.int .u64 (gx : Nat)] 56)
  have HY := Lib.hid (boxes_new w2 #[.int .u64 (gx : Nat)] 56)
  have hzl := HZ.out.lt
  go_wp2_with fail
  generalize w2.alloc (.cells #[.int .u64 (gx : Nat)] 56) = w4 at *
  have HB4 := Lib.hid (chain HB2.out hal)
  have HZ4 := Lib.hid (HZ.out.step hal)
  have HCH := Lib.hid (rf_chooses w.heap.size w2.heap.size m gx l a z c w4 (HX.out.step hal) HY.out (HR2.out.step hal) HK.out.len m5 hgx)
  have hs4 : w2.heap.size ≤ w4.heap.size := hal.size
  clear hal c0 c1 c2 z0 z1 f0 f1
  refine (familyWhereC_any m 60 #[] #[.pointer (some ⟨w.heap.size, 0, none⟩), .pointer (some ⟨w2.heap.size, 0, none⟩)] (rfP z gx) w4 m1 (by omega) HCH.out).mono ?_
  rw [famOf_seen (by omega)]
  rintro e w5 ⟨⟨v, us, rfl, hro, hrs⟩, hb⟩
  obtain ⟨va, vc, rfl⟩ := rowForm hro
  have HB5 := Lib.hid (chain HB4.out hb)
  have HZ5 := Lib.hid (HZ4.out.step hb)
  have HRO := Lib.hid hro
  have HRS := Lib.hid hrs
  have z0 := HZ5.out.c0
  have z1 := HZ5.out.c1
  have f0 := HZ5.out.frozen 0
  have f1 := HZ5.out.frozen 1
  have hlt5 := HZ5.out.lt
  clear hb hro hrs
  go_wp2_with fail
  refine bodyPost_ret (v := .tuple #[.agg #[.int .i64 (m : Nat), .slice va (famOf m (rfP z gx)).length vc], .int .i64 0]) (by simp [results, Try.results30, go_sem, z0, z1]) rfl ?_
  rw [HV.out]
  have hs : w.heap.size + 1 < w4.heap.size := by omega
  have hle : w.heap.size ≤ w4.heap.size := by omega
  refine ⟨⟨_, us, rfl, ?_, ?_⟩, ?_⟩
  · exact ownsRow_mono (row_seta (row_seta HRO.out (p := ⟨w.heap.size + 1, 0, none⟩) hs _) (p := ⟨w.heap.size + 1, 1, none⟩) hs _) hle
  · exact ((HRS.out.map fun _ _ k => OwnI.setCell2 k (p := ⟨w.heap.size + 1, 0, none⟩) hs _).map fun _ _ k => OwnI.setCell2 k (p := ⟨w.heap.size + 1, 1, none⟩) hs _).mono hle
  · exact ((HB5.out.setCell (p := ⟨w.heap.size + 1, 0, none⟩) (by show w.heap.size ≤ w.heap.size + 1; omega) _).setCell (p := ⟨w.heap.size + 1, 1, none⟩) (by show w.heap.size ≤ w.heap.size + 1; omega) _)
end Go.Proofs.Ytdfggbojccfblaa
